/- The contract of readValue. -/
import Derived.Test.YtkbnbkhloajmbaaDoorReadNum
import Derived.Test.YtkbnbkhloajmbaaDoorReadText
import Derived.Test.YtkbnbkhloajmbaaDoorKey
namespace Go.Proofs.YtkbnbkhloajmbaaDoor
open Go.RowKit

/-- the value with which bytes begin, and in how many bytes it is written -/
def dec1 : List UInt8 → Option (Vl × Nat)
  | [] => none
  | c :: r =>
    if c = 1 then some (⟨0, 0, ⟨#[]⟩⟩, 1)
    else if c = 2 then (if 8 ≤ r.length then some (⟨1, (numOf (r.take 8) : Int) - 9223372036854775808, ⟨#[]⟩⟩, 9) else none)
    else if c = 3 then (if lets (r.take 41) = (r.take 41).length then none else some (⟨2, 0, strOf (r.take (lets (r.take 41)))⟩, 1 + lets (r.take 41) + 1))
    else none
def decV (l : List UInt8) : Vl × Nat := (dec1 l).getD (⟨0, 0, ⟨#[]⟩⟩, 0)

def tupV (p : Vl × Nat) : Value := .tuple #[.agg #[.int .i64 p.1.k, .int .i64 p.1.n, .string p.1.s], .int .i64 (p.2 : Int)]

theorem extract_list (s : ByteArray) (a b : Nat) : (s.extract a b).data.toList = (s.data.toList.take b).drop a := by
  rw [ByteArray.data_extract, Array.toList_extract, List.extract_eq_drop_take']

theorem bytes_ext {a b : ByteArray} (h : a.data.toList = b.data.toList) : a = b := by
  obtain ⟨x⟩ := a; obtain ⟨y⟩ := b
  simp at h
  rw [h]

theorem size_list (b : ByteArray) : b.size = b.data.toList.length := by simp

theorem within_list (s : ByteArray) : (s.extract 1 (min s.size 42)).data.toList = s.data.toList.tail.take 41 := by
  rw [extract_list]
  have e : s.size = s.data.toList.length := by simp
  rw [e]
  cases s.data.toList with
  | nil => simp
  | cons c r =>
    simp only [List.length_cons, List.tail_cons, List.drop_one]
    rw [show min (r.length + 1) 42 = min r.length 41 + 1 by omega, List.take_succ_cons, List.tail_cons]
    rw [List.take_eq_take_iff]
    omega

theorem textOf_dec (s : ByteArray) (c : UInt8) (r : List UInt8) (h : s.data.toList = c :: r) (hc : c = 3) : textOf (s.extract 1 (min s.size 42)) = tupV (decV s.data.toList) := by
  have hw := within_list s
  have hsz : (s.extract 1 (min s.size 42)).size = (r.take 41).length := by
    rw [size_list, hw, h]
    rfl
  rw [h, List.tail_cons] at hw
  subst hc
  unfold textOf tupV decV dec1
  rw [hw, hsz, h]
  by_cases hz : lets (r.take 41) = (r.take 41).length
  · simp [hz]
  · simp only [if_neg hz]
    have hle := lets_le (r.take 41)
    simp at hle
    have e : (s.extract 1 (min s.size 42)).extract 0 (lets (r.take 41)) = strOf (r.take (lets (r.take 41))) := by
      apply bytes_ext
      rw [extract_list, hw]
      simp [strOf, List.take_take]
      omega
    rw [e]
    simp

theorem readText_dec (s : ByteArray) (w : World) (x : Vl) (m : Nat) (hd : decV s.data.toList = (x, m)) (c : UInt8) (r : List UInt8) (h : s.data.toList = c :: r) (hc : c = 3) (hm : s.size ≤ maxLen) :
    Calls Tryd.prog 24 #[.string s] w fun e w' => e = .returned (.tuple #[.agg #[.int .i64 x.k, .int .i64 x.n, .string x.s], .int .i64 (m : Int)]) ∧ Below w.heap.size w w' := by
  have := readText_any s w (by rw [size_list, h]; simp) hm
  rw [textOf_dec s c r h hc, hd] at this
  exact this

theorem readNumber_dec (s : ByteArray) (w : World) (x : Vl) (m : Nat) (hd : decV s.data.toList = (x, m)) (c : UInt8) (r : List UInt8) (h : s.data.toList = c :: r) (hc : c = 2) (hm : s.size ≤ maxLen) :
    Calls Tryd.prog 23 #[.string s] w fun e w' => e = .returned (.tuple #[.agg #[.int .i64 x.k, .int .i64 x.n, .string x.s], .int .i64 (m : Int)]) ∧ Below w.heap.size w w' := by
  subst hc
  have hsz : s.size = r.length + 1 := by rw [size_list, h]; simp
  by_cases h8 : 8 ≤ r.length
  · have := readNumber_any s w (by omega) hm
    simp only [h, decV, dec1, List.tail_cons, if_pos h8] at this hd
    simp at hd
    obtain ⟨rfl, rfl⟩ := hd
    exact this
  · have := readNumber_short s w (by omega)
    simp only [h, decV, dec1, if_neg h8] at hd
    simp at hd
    obtain ⟨rfl, rfl⟩ := hd
    exact this

theorem byte_is (c : UInt8) (n : Nat) (hn : n < 256) : ((c.toNat : Int) == (n : Int)) = decide (c = UInt8.ofNat n) := by
  rw [Bool.eq_iff_iff]
  simp only [beq_iff_eq, decide_eq_true_eq]
  constructor
  · intro h
    have h' : c.toNat = n := by omega
    rw [← h']; simp
  · intro h
    subst h
    simp; omega

set_option maxRecDepth 100000 in
set_option maxHeartbeats 1000000 in
theorem readValue_any (s : ByteArray) (w : World) (x : Vl) (m : Nat) (hd : decV s.data.toList = (x, m)) (hs : 0 < s.size) (hm : s.size ≤ maxLen) :
    Calls Tryd.prog 17 #[.string s] w fun e w' => e = .returned (.tuple #[.agg #[.int .i64 x.k, .int .i64 x.n, .string x.s], .int .i64 (m : Int)]) ∧ Below w.heap.size w w' := by
  obtain ⟨c, r, h⟩ : ∃ c r, s.data.toList = c :: r := by
    cases e : s.data.toList with
    | nil => rw [size_list, e] at hs; simp at hs
    | cons c r => exact ⟨c, r, rfl⟩
  have h0 : s[0] = c := by
    have : s[0] = s.data.toList[0]'(by rw [← size_list]; exact hs) := by simp; rfl
    rw [this]
    simp only [h]
    rfl
  have b1 : ((s[0].toNat : Int) == 1) = decide (c = 1) := by rw [h0]; exact byte_is c 1 (by omega)
  have b2 : ((s[0].toNat : Int) == 2) = decide (c = 2) := by rw [h0]; exact byte_is c 2 (by omega)
  have b3 : ((s[0].toNat : Int) == 3) = decide (c = 3) := by rw [h0]; exact byte_is c 3 (by omega)
  have hs' : (0 : Int) < (s.size : Int) := by omega
  clear h0
  have HM : Hid _ := hm
  by_cases c1 : c = 1
  · have t1 : ((s[0].toNat : Int) == 1) = true := by rw [b1]; simp [c1]
    simp only [h, decV, dec1, if_pos c1] at hd
    simp at hd
    obtain ⟨rfl, rfl⟩ := hd
    clear b1 b2 b3 h c1 hm
    go_enter Tryd.func17, Tryd.ntmps17
    go_wp2
    exact bodyPost_ret (v := .tuple #[.agg #[.int .i64 0, .int .i64 0, .string ⟨#[]⟩], .int .i64 1]) (by simp [results, Tryd.results17, go_sem]) rfl ⟨rfl, (Below.refl _ _).alloc (Nat.le_refl _) _⟩
  have t1 : ((s[0].toNat : Int) == 1) = false := by rw [b1]; simp [c1]
  by_cases c2 : c = 2
  · have t2 : ((s[0].toNat : Int) == 2) = true := by rw [b2]; simp [c2]
    have HD : Hid _ := hd
    have HE : Hid _ := h
    have HC : Hid _ := c2
    clear b1 b2 b3 h c1 hm hd c2
    go_enter Tryd.func17, Tryd.ntmps17
    go_wp2_with fail
    refine (readNumber_dec s _ x m HD.out c r HE.out HC.out HM.out).mono ?_
    rintro e w1 ⟨rfl, c3⟩
    have q0 := c3.cell (p := ⟨w.heap.size, 0, none⟩) (by simp)
    have q1 := c3.cell (p := ⟨w.heap.size, 1, none⟩) (by simp)
    have q2 := c3.cell (p := ⟨w.heap.size, 2, none⟩) (by simp)
    have f0 := c3.frozen (p := ⟨w.heap.size, 0, none⟩) (by simp)
    have f1 := c3.frozen (p := ⟨w.heap.size, 1, none⟩) (by simp)
    have f2 := c3.frozen (p := ⟨w.heap.size, 2, none⟩) (by simp)
    simp at q0 q1 q2 f0 f1 f2
    have hbw : Below w.heap.size w w1 := ((Below.refl w.heap.size w).alloc (Nat.le_refl _) _).trans (c3.mono (by simp))
    clear c3
    go_wp2
    refine bodyPost_ret (v := .tuple #[.agg #[.int .i64 x.k, .int .i64 x.n, .string x.s], .int .i64 (m : Int)]) ?_ rfl ⟨rfl, ?_⟩
    · simp [results, Tryd.results17, go_sem, q0, q1, q2]
    · exact ((hbw.setCell (Nat.le_refl _) _).setCell (Nat.le_refl _) _).setCell (Nat.le_refl _) _
  have t2 : ((s[0].toNat : Int) == 2) = false := by rw [b2]; simp [c2]
  by_cases c3 : c = 3
  · have t3 : ((s[0].toNat : Int) == 3) = true := by rw [b3]; simp [c3]
    have HD : Hid _ := hd
    have HE : Hid _ := h
    have HC : Hid _ := c3
    clear b1 b2 b3 h c1 hm hd c2 c3
    go_enter Tryd.func17, Tryd.ntmps17
    go_wp2_with fail
    refine (readText_dec s _ x m HD.out c r HE.out HC.out HM.out).mono ?_
    rintro e w1 ⟨rfl, c3⟩
    have q0 := c3.cell (p := ⟨w.heap.size, 0, none⟩) (by simp)
    have q1 := c3.cell (p := ⟨w.heap.size, 1, none⟩) (by simp)
    have q2 := c3.cell (p := ⟨w.heap.size, 2, none⟩) (by simp)
    have f0 := c3.frozen (p := ⟨w.heap.size, 0, none⟩) (by simp)
    have f1 := c3.frozen (p := ⟨w.heap.size, 1, none⟩) (by simp)
    have f2 := c3.frozen (p := ⟨w.heap.size, 2, none⟩) (by simp)
    simp at q0 q1 q2 f0 f1 f2
    have hbw : Below w.heap.size w w1 := ((Below.refl w.heap.size w).alloc (Nat.le_refl _) _).trans (c3.mono (by simp))
    clear c3
    go_wp2
    refine bodyPost_ret (v := .tuple #[.agg #[.int .i64 x.k, .int .i64 x.n, .string x.s], .int .i64 (m : Int)]) ?_ rfl ⟨rfl, ?_⟩
    · simp [results, Tryd.results17, go_sem, q0, q1, q2]
    · exact ((hbw.setCell (Nat.le_refl _) _).setCell (Nat.le_refl _) _).setCell (Nat.le_refl _) _
  · have t3 : ((s[0].toNat : Int) == 3) = false := by rw [b3]; simp [c3]
    simp only [h, decV, dec1, if_neg c1, if_neg c2, if_neg c3] at hd
    simp at hd
    obtain ⟨rfl, rfl⟩ := hd
    clear b1 b2 b3 h c1 hm c2 c3
    go_enter Tryd.func17, Tryd.ntmps17
    go_wp2
    exact bodyPost_ret (v := .tuple #[.agg #[.int .i64 0, .int .i64 0, .string ⟨#[]⟩], .int .i64 0]) (by simp [results, Tryd.results17, go_sem]) rfl ⟨rfl, (Below.refl _ _).alloc (Nat.le_refl _) _⟩
end Go.Proofs.YtkbnbkhloajmbaaDoor
