/- The contract of readPlace. -/
import Derived.Test.YtalfjdpdecngoaaPRead
namespace Go.Proofs.Ytalfjdpdecngoaa
open Go.RowKit

theorem rnF_bound (f : Nat) : ∀ (i acc : Nat) (l : List UInt8), acc < 128 ^ i → (rnF f i acc l).1 < 128 ^ (i + f) ∧ (rnF f i acc l).2 ≤ i + f ∧ (rnF f i acc l).2 ≤ i + l.length := by
  induction f with
  | zero => intro i acc l h; simp [rnF]; exact Nat.lt_of_le_of_lt (Nat.zero_le _) (Nat.pow_pos (by omega))
  | succ f ih =>
    intro i acc l h
    have hp : 0 < 128 ^ (i + (f + 1)) := Nat.pow_pos (by omega)
    cases l with
    | nil => simp [rnF, hp]
    | cons c l =>
      have hc := UInt8.toNat_lt c
      have e : 128 ^ (i + 1) = 128 ^ i * 128 := Nat.pow_succ ..
      have e2 : i + (f + 1) = i + 1 + f := by omega
      unfold rnF
      split
      · rename_i h1
        split
        · simp [hp]
        · refine ⟨?_, by simp only; omega, by simp⟩
          have h3 : 128 ^ (i + 1) ≤ 128 ^ (i + (f + 1)) := Nat.pow_le_pow_right (by omega) (by omega)
          have h2 : c.toNat * 128 ^ i ≤ 127 * 128 ^ i := Nat.mul_le_mul_right _ (by omega)
          simp only
          omega
      · have h2 : c.toNat % 128 * 128 ^ i ≤ 127 * 128 ^ i := Nat.mul_le_mul_right _ (by omega)
        have := ih (i + 1) (acc + c.toNat % 128 * 128 ^ i) l (by omega)
        rw [e2]
        simp only [List.length_cons]
        omega
theorem rnL_bound (l : List UInt8) : (rnL l).1 < 34359738368 ∧ (rnL l).2 ≤ 5 ∧ (rnL l).2 ≤ l.length := by
  have := rnF_bound 5 0 0 l (by omega)
  simp only [rnL]
  omega

/-- a place that is read behind another one, and how many bytes it takes -/
def rpL (l : List UInt8) (p : Pl) : Option (Pl × Nat) :=
  if (rnL l).2 = 0 then none
  else if (rnL l).1 % 2 = 1 then
    (if (rnL (l.drop (rnL l).2)).2 = 0 ∨ (rnL l).1 / 2 = 0 then none
     else if follB p ⟨p.r + ((rnL l).1 / 2 : Nat), ((rnL (l.drop (rnL l).2)).1 : Nat)⟩ then some (⟨p.r + ((rnL l).1 / 2 : Nat), ((rnL (l.drop (rnL l).2)).1 : Nat)⟩, (rnL l).2 + (rnL (l.drop (rnL l).2)).2) else none)
  else if follB p ⟨p.r, p.a + ((rnL l).1 / 2 : Nat)⟩ then some (⟨p.r, p.a + ((rnL l).1 / 2 : Nat)⟩, (rnL l).2) else none

/-- what readPlace answers -/
def rpV : Option (Pl × Nat) → Value
  | none => .tuple #[.agg #[.int .i64 0, .int .i64 0], .int .i64 0]
  | some (q, n) => .tuple #[.agg #[.int .i64 q.r, .int .i64 q.a], .int .i64 n]

theorem readNumber_as (s : ByteArray) (n k : Nat) (h1 : (rnL s.data.toList).1 = n) (h2 : (rnL s.data.toList).2 = k) (w : World) (hs : s.size ≤ 1000000) :
    Calls Try.prog 40 #[.string s] w fun e w' => e = .returned (.tuple #[.int .i64 n, .int .i64 k]) ∧ w' = w := by
  rw [← h1, ← h2]; exact readNumber_any s w hs

theorem ba_drop (s : ByteArray) (k : Nat) : (s.extract k s.size).data.toList = s.data.toList.drop k := by
  rw [ByteArray.data_extract, Array.toList_extract, List.extract_eq_take_drop, List.take_of_length_le]
  rw [List.length_drop]
  have : s.data.toList.length = s.size := by simp
  omega

theorem boxes3 (w : World) (p q : Pl) : VarP (w.heap.size + 1) ⟨0, 0⟩ (((w.alloc (.cells #[.int .i64 p.r, .int .i64 p.a] 25)).alloc (.cells #[.int .i64 0, .int .i64 0] 25)).alloc (.cells #[.int .i64 q.r, .int .i64 q.a] 25)) ∧
    VarP (w.heap.size + 1 + 1) q (((w.alloc (.cells #[.int .i64 p.r, .int .i64 p.a] 25)).alloc (.cells #[.int .i64 0, .int .i64 0] 25)).alloc (.cells #[.int .i64 q.r, .int .i64 q.a] 25)) ∧
    Below w.heap.size w (((w.alloc (.cells #[.int .i64 p.r, .int .i64 p.a] 25)).alloc (.cells #[.int .i64 0, .int .i64 0] 25)).alloc (.cells #[.int .i64 q.r, .int .i64 q.a] 25)) := by
  obtain ⟨w1, h1⟩ : ∃ w1, w.alloc (.cells #[.int .i64 p.r, .int .i64 p.a] 25) = w1 := ⟨_, rfl⟩
  have s1 : w1.heap.size = w.heap.size + 1 := by rw [← h1]; simp
  have b1 : Below w.heap.size w w1 := by rw [← h1]; exact (Below.refl _ _).alloc (Nat.le_refl _) _
  rw [h1]
  obtain ⟨w2, h2⟩ : ∃ w2, w1.alloc (.cells #[.int .i64 0, .int .i64 0] 25) = w2 := ⟨_, rfl⟩
  have s2 : w2.heap.size = w.heap.size + 1 + 1 := by rw [← h2]; simp [s1]
  have v2 : VarP (w.heap.size + 1) ⟨0, 0⟩ w2 := by have := VarP.new w1; rw [s1, h2] at this; exact this
  have b2 : Below w.heap.size w w2 := by rw [← h2]; exact b1.alloc (by omega) _
  rw [h2]
  have b3 : Below w2.heap.size w2 (w2.alloc (.cells #[.int .i64 q.r, .int .i64 q.a] 25)) := (Below.refl _ _).alloc (Nat.le_refl _) _
  have v3 := VarP.box w2 q
  rw [s2] at v3
  exact ⟨v2.below b3, v3, b2.trans (b3.mono b2.size)⟩

set_option maxRecDepth 100000 in
set_option maxHeartbeats 4000000 in
theorem readPlace_any (s : ByteArray) (p : Pl) (hp : Ahead p) (w : World) (hs : s.size ≤ 1000000) :
    Calls Try.prog 35 #[.string s, .agg #[.int .i64 p.r, .int .i64 p.a]] w fun e w' => e = .returned (rpV (rpL s.data.toList p)) ∧ Below w.heap.size w w' := by
  obtain ⟨p1, p2, p3, p4⟩ := hp
  obtain ⟨b1, b2, b3⟩ := rnL_bound s.data.toList
  obtain ⟨n, hn⟩ : ∃ n, (rnL s.data.toList).1 = n := ⟨_, rfl⟩
  obtain ⟨k, hk⟩ : ∃ k, (rnL s.data.toList).2 = k := ⟨_, rfl⟩
  rw [hn] at b1
  rw [hk] at b2 b3
  rw [show s.data.toList.length = s.size by simp] at b3
  have HN : Hid ((rnL s.data.toList).1 = n ∧ (rnL s.data.toList).2 = k) := ⟨hn, hk⟩
  obtain ⟨V, hV⟩ : ∃ V, rpV (rpL s.data.toList p) = V := ⟨_, rfl⟩
  have HV : Hid (rpV (rpL s.data.toList p) = V) := hV
  rw [hV]
  have e2 : ((n / 2 : Nat) : Int) = (n : Int) / 2 := by omega
  simp only [rpL, hn, hk, e2] at hV
  have HU : Hid _ := hV
  clear hV hn hk HV e2
  go_enter Try.func35, Try.ntmps35
  go_wp2_with fail
  refine (readNumber_as s n k HN.out.1 HN.out.2 _ hs).mono ?_
  rintro _ wq ⟨rfl, hwq⟩
  subst hwq
  by_cases hk0 : k = 0
  · subst hk0
    have HR : Hid (V = .tuple #[.agg #[.int .i64 0, .int .i64 0], .int .i64 0]) := by show _ = _; rw [← HU.out]; rfl
    clear HU
    go_wp2
    rw [HR.out]
    exact bodyPost_ret (v := .tuple #[.agg #[.int .i64 0, .int .i64 0], .int .i64 0]) (by simp [results, Try.results35, go_sem]) rfl ⟨rfl, ((Below.refl _ _).alloc (Nat.le_refl _) _).alloc (by simp) _⟩
  · have j0 : ((k : Int) == 0) = false := by simp [hk0]
    by_cases hodd : n % 2 = 1
    · have j1 : ((n : Int) % 2 == 1) = true := by simp; omega
      obtain ⟨c1, c2, c3⟩ := rnL_bound (s.data.toList.drop k)
      obtain ⟨x, hx⟩ : ∃ x, (rnL (s.data.toList.drop k)).1 = x := ⟨_, rfl⟩
      obtain ⟨m, hm⟩ : ∃ m, (rnL (s.data.toList.drop k)).2 = m := ⟨_, rfl⟩
      have HM : Hid ((rnL (s.extract k s.size).data.toList).1 = x ∧ (rnL (s.extract k s.size).data.toList).2 = m) := by rw [ba_drop]; exact ⟨hx, hm⟩
      have HU : Hid _ := HU.out
      simp only [hk0, hodd, hx, hm, if_true, if_false] at HU
      rw [hx] at c1
      rw [hm] at c2 c3
      clear hx hm
      go_wp2_with fail
      refine (readNumber_as (s.extract k s.size) x m HM.out.1 HM.out.2 _ (by simp; omega)).mono ?_
      rintro _ wq ⟨rfl, hwq⟩
      subst hwq
      by_cases hm0 : m = 0
      · have j2 : ((m : Int) == 0) = true := by simp [hm0]
        have HR : Hid (V = .tuple #[.agg #[.int .i64 0, .int .i64 0], .int .i64 0]) := by show _ = _; rw [← HU.out, if_pos (.inl hm0)]; rfl
        clear HU hm0
        go_wp2
        rw [HR.out]
        exact bodyPost_ret (v := .tuple #[.agg #[.int .i64 0, .int .i64 0], .int .i64 0]) (by simp [results, Try.results35, go_sem]) rfl ⟨rfl, (((Below.refl _ _).alloc (Nat.le_refl _) _).alloc (by simp) _).alloc (by simp; omega) _⟩
      · have j2 : ((m : Int) == 0) = false := by simp [hm0]
        by_cases hh : n / 2 = 0
        · have j3 : ((n : Int) / 2 == 0) = true := by simp; omega
          have HR : Hid (V = .tuple #[.agg #[.int .i64 0, .int .i64 0], .int .i64 0]) := by show _ = _; rw [← HU.out, if_pos (.inr hh)]; rfl
          clear HU hh
          go_wp2
          rw [HR.out]
          exact bodyPost_ret (v := .tuple #[.agg #[.int .i64 0, .int .i64 0], .int .i64 0]) (by simp [results, Try.results35, go_sem]) rfl ⟨rfl, (((Below.refl _ _).alloc (Nat.le_refl _) _).alloc (by simp) _).alloc (by simp; omega) _⟩
        · have j3 : ((n : Int) / 2 == 0) = false := by simp; omega
          obtain ⟨bb, hbb⟩ : ∃ bb, follB p ⟨p.r + (n : Int) / 2, (x : Int)⟩ = bb := ⟨_, rfl⟩
          have HU2 : Hid (V = rpV (if bb then some (⟨p.r + (n : Int) / 2, (x : Int)⟩, k + m) else none)) := by
            show _ = _
            rw [← HU.out, if_neg (by omega), hbb]
          clear HU
          go_wp2_with fail
          refine (follows_as p ⟨p.r + (n : Int) / 2, (x : Int)⟩ bb hbb _).mono ?_
          rintro _ w4 ⟨rfl, hb4⟩
          obtain ⟨v1, v2, hbw⟩ := boxes3 w p ⟨p.r + (n : Int) / 2, (x : Int)⟩
          have HV1 : Hid (VarP (w.heap.size + 1) ⟨0, 0⟩ w4) := v1.below hb4
          have HV2 : Hid (VarP (w.heap.size + 1 + 1) ⟨p.r + (n : Int) / 2, (x : Int)⟩ w4) := v2.below hb4
          have HB4 : Hid (Below w.heap.size w w4) := hbw.trans (hb4.mono hbw.size)
          clear v1 v2 hbw hb4
          obtain ⟨y1, y2, y3, y4, y5⟩ := HV1.out
          obtain ⟨y6, y7, _, _, _⟩ := HV2.out
          cases bb
          · go_wp2
            rw [HU2.out]
            obtain ⟨z1, z2, _, _, _⟩ := HV1.out.set ⟨0, 0⟩
            exact bodyPost_ret (v := .tuple #[.agg #[.int .i64 0, .int .i64 0], .int .i64 0]) (by simp [results, Try.results35, go_sem, z1, z2]) rfl ⟨rfl, (HB4.out.setCell (p := ⟨_, 0, none⟩) (by show _ ≤ w.heap.size + 1; omega) _).setCell (p := ⟨_, 1, none⟩) (by show _ ≤ w.heap.size + 1; omega) _⟩
          · go_wp2
            rw [HU2.out]
            obtain ⟨z1, z2, _, _, _⟩ := HV1.out.set ⟨p.r + (n : Int) / 2, (x : Int)⟩
            exact bodyPost_ret (v := .tuple #[.agg #[.int .i64 (⟨p.r + (n : Int) / 2, (x : Int)⟩ : Pl).r, .int .i64 (⟨p.r + (n : Int) / 2, (x : Int)⟩ : Pl).a], .int .i64 ((k : Int) + (m : Int))]) (by simp [results, Try.results35, go_sem, z1, z2]) rfl ⟨by simp [rpV], (HB4.out.setCell (p := ⟨_, 0, none⟩) (by show _ ≤ w.heap.size + 1; omega) _).setCell (p := ⟨_, 1, none⟩) (by show _ ≤ w.heap.size + 1; omega) _⟩
    · have j1 : ((n : Int) % 2 == 1) = false := by simp; omega
      have HU : Hid _ := HU.out
      simp only [hk0, hodd, if_false] at HU
      obtain ⟨bb, hbb⟩ : ∃ bb, follB p ⟨p.r, p.a + (n : Int) / 2⟩ = bb := ⟨_, rfl⟩
      have HU2 : Hid (V = rpV (if bb then some (⟨p.r, p.a + (n : Int) / 2⟩, k) else none)) := by
        show _ = _
        rw [← HU.out, hbb]
      clear HU
      go_wp2_with fail
      refine (follows_as p ⟨p.r, p.a + (n : Int) / 2⟩ bb hbb _).mono ?_
      rintro _ w4 ⟨rfl, hb4⟩
      obtain ⟨v1, v2, hbw⟩ := boxes3 w p ⟨p.r, p.a + (n : Int) / 2⟩
      have HV1 : Hid (VarP (w.heap.size + 1) ⟨0, 0⟩ w4) := v1.below hb4
      have HV2 : Hid (VarP (w.heap.size + 1 + 1) ⟨p.r, p.a + (n : Int) / 2⟩ w4) := v2.below hb4
      have HB4 : Hid (Below w.heap.size w w4) := hbw.trans (hb4.mono hbw.size)
      clear v1 v2 hbw hb4
      obtain ⟨y1, y2, y3, y4, y5⟩ := HV1.out
      obtain ⟨y6, y7, _, _, _⟩ := HV2.out
      cases bb
      · go_wp2
        rw [HU2.out]
        obtain ⟨z1, z2, _, _, _⟩ := HV1.out.set ⟨0, 0⟩
        exact bodyPost_ret (v := .tuple #[.agg #[.int .i64 0, .int .i64 0], .int .i64 0]) (by simp [results, Try.results35, go_sem, z1, z2]) rfl ⟨rfl, (HB4.out.setCell (p := ⟨_, 0, none⟩) (by show _ ≤ w.heap.size + 1; omega) _).setCell (p := ⟨_, 1, none⟩) (by show _ ≤ w.heap.size + 1; omega) _⟩
      · go_wp2
        rw [HU2.out]
        obtain ⟨z1, z2, _, _, _⟩ := HV1.out.set ⟨p.r, p.a + (n : Int) / 2⟩
        exact bodyPost_ret (v := .tuple #[.agg #[.int .i64 (⟨p.r, p.a + (n : Int) / 2⟩ : Pl).r, .int .i64 (⟨p.r, p.a + (n : Int) / 2⟩ : Pl).a], .int .i64 ((k : Int))]) (by simp [results, Try.results35, go_sem, z1, z2]) rfl ⟨by simp [rpV], (HB4.out.setCell (p := ⟨_, 0, none⟩) (by show _ ≤ w.heap.size + 1; omega) _).setCell (p := ⟨_, 1, none⟩) (by show _ ≤ w.heap.size + 1; omega) _⟩
end Go.Proofs.Ytalfjdpdecngoaa
