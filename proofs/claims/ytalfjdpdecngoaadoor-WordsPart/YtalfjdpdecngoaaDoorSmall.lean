/- The contracts of both Smalls. -/
import Derived.Test.YtalfjdpdecngoaaDoorLett
import Derived.Laws.IdiomCopy
import Derived.Laws.IdiomStrings
import Derived.Laws.MakeOwn
namespace Go.Proofs.YtalfjdpdecngoaaDoor
open Go.RowKit

/-- a byte, in small -/
def lown (x : Nat) : Nat := if 65 ≤ x ∧ x ≤ 90 then x + 32 else x
theorem lown_lt (c : UInt8) : lown c.toNat < 256 := by
  have := c.toNat_lt
  unfold lown
  split <;> omega
def low (c : UInt8) : UInt8 := UInt8.ofNat (lown c.toNat)
theorem low_nat (c : UInt8) : (low c).toNat = lown c.toNat := by
  have := lown_lt c
  simp [low]
  omega
/-- a text, in small -/
def smallL (l : List UInt8) : List UInt8 := l.map low
def smallS (s : ByteArray) : ByteArray := ⟨(smallL s.data.toList).toArray⟩

/-- bytes of a text in a new row -/
theorem bytes_of (s : ByteArray) (w : World) : ∃ cap w', (convert 9 51 (.string s)).run Tryd.prog w = .ok (.slice (some ⟨w.heap.size, 0, none⟩) s.size cap) w' ∧ Below w.heap.size w w' ∧ w'.heap.size = w.heap.size + 1 ∧
    (∀ j (hj : j < s.data.toList.length), w'.cell? ⟨w.heap.size, j, none⟩ = some (.int .u8 (s.data.toList[j].toNat : Int))) ∧ (∀ j, j < s.size → w'.frozen? ⟨w.heap.size, j, none⟩ = false) := by
  have h := run_bytes_of_string (P := Tryd.prog) w 9 51 5 s Tryd.underlying9 Tryd.underlying51 Tryd.underlying5
  refine ⟨_, _, h, (Below.refl _ w).drew.alloc (Nat.le_refl _) _, ?_, ?_, ?_⟩
  · simp
  · intro j hj
    have hn : (w.drew.alloc (.cells (bytesRow s (grownCap w s.size 0 5)) 5 ((bytesRow s (grownCap w s.size 0 5)).size, (bytesRow s (grownCap w s.size 0 5)).size + 1))).heap[w.heap.size]? = _ := heap_alloc_new w.drew _
    have hj' : j < s.data.size := by simpa using hj
    simp only [World.cell?, hn]
    have hj2 : j < s.size := hj'
    simp [bytesRow, Array.getElem?_append, hj2]
  · intro j hj
    have hn : (w.drew.alloc (.cells (bytesRow s (grownCap w s.size 0 5)) 5 ((bytesRow s (grownCap w s.size 0 5)).size, (bytesRow s (grownCap w s.size 0 5)).size + 1))).heap[w.heap.size]? = _ := heap_alloc_new w.drew _
    have hj' : j < (bytesRow s (grownCap w s.size 0 5)).size := by
      have e : s.data.size = s.size := rfl
      simp [bytesRow]; omega
    simp only [World.frozen?, hn]
    simp
    omega

/-- bytes in a block: those ahead of k as l has them, the others as m -/
structure Half (B n k : Nat) (l m : Nat → Nat) (w : World) : Prop where
  cell : ∀ j, j < n → w.cell? ⟨B, j, none⟩ = some (.int .u8 ((if j < k then l j else m j : Nat) : Int))
  free : ∀ j, j < n → w.frozen? ⟨B, j, none⟩ = false

theorem Half.set {B n k : Nat} {l m : Nat → Nat} {w : World} (h : Half B n k l m w) (hk : k < n) (x : Int) (hx : x = (l k : Int)) : Half B n (k + 1) l m (w.setCell ⟨B, k, none⟩ (.int .u8 x)) := by
  subst hx
  refine ⟨fun j hj => ?_, fun j hj => by rw [World.frozen?_setCell]; exact h.free j hj⟩
  by_cases e : j = k
  · subst e
    rw [World.cell?_setCell_same _ _ _ (h.cell j hj)]
    simp
  · rw [World.cell?_setCell_other _ _ _ _ (fun q => e (by cases q; rfl)), h.cell j hj]
    have : (j < k + 1) = (j < k) := by simp; omega
    simp only [this]

theorem Half.keep {B n k : Nat} {l m : Nat → Nat} {w : World} (h : Half B n k l m w) (hk : k < n) (hx : l k = m k) : Half B n (k + 1) l m w := by
  refine ⟨fun j hj => ?_, h.free⟩
  rw [h.cell j hj]
  by_cases e : j = k
  · subst e; simp [hx]
  · have : (j < k + 1) = (j < k) := by simp; omega
    simp only [this]

/-- the text of the bytes -/
theorem Half.text {B n : Nat} {l m : Nat → Nat} {w : World} {cap : Nat} (h : Half B n n l m w) (t : List UInt8) (ht : t.length = n) (hl : ∀ j (hj : j < t.length), (t[j]).toNat = l j) :
    (convert 51 9 (.slice (some ⟨B, 0, none⟩) n cap)).run Tryd.prog w = .ok (.string ⟨t.toArray⟩) w := by
  subst ht
  exact run_convert_bytes_back (P := Tryd.prog) w 51 9 5 ⟨B, 0, none⟩ cap t Tryd.underlying51 Tryd.underlying5 Tryd.underlying9 (fun j hj => by
    rw [Addr.add_lit, Nat.zero_add, h.cell j hj, if_pos hj, hl j hj])

def bt (s : ByteArray) (j : Nat) : Nat := if h : j < s.size then s[j].toNat else 0
theorem bt_at (s : ByteArray) (j : Nat) (h : j < s.size) : bt s j = s[j].toNat := by simp [bt, h]
theorem bt_lt (s : ByteArray) (j : Nat) : bt s j < 256 := by
  unfold bt
  split
  · exact UInt8.toNat_lt _
  · omega

theorem small_text (s : ByteArray) (j : Nat) (hj : j < (smallL s.data.toList).length) : ((smallL s.data.toList)[j]).toNat = lown (bt s j) := by
  have hj' : j < s.data.size := by simpa [smallL] using hj
  rw [bt_at s j hj']
  simp [smallL, low_nat]
  rfl
theorem small_len (s : ByteArray) : (smallL s.data.toList).length = s.size := by simp [smallL]
theorem smallS_size (s : ByteArray) : (smallS s).size = s.size := by
  show (smallL s.data.toList).toArray.size = _
  simp [small_len]

set_option maxHeartbeats 1000000 in
theorem small_any (s : ByteArray) (w : World) (hs : s.size ≤ 1000000) :
    Calls Tryd.prog 6 #[.string s] w fun e w' => e = .returned (.string (smallS s)) ∧ Below w.heap.size w w' := by
  obtain ⟨cap, w1, hcv, hb1, hz1, hc1, hf1⟩ := bytes_of s w
  have h0 : Half w.heap.size s.size 0 (fun j => lown (bt s j)) (bt s) w1 := ⟨fun j hj => by rw [hc1 j (by simpa using hj)]; simp [bt_at s j hj]; rfl, hf1⟩
  clear hc1 hf1 hz1
  go_enter Tryd.func6, Tryd.ntmps6
  go_wp2
  go_loopw [10] (fun i wr => ∃ k : Nat, k ≤ s.size ∧ i = .int .i64 k ∧ Hid (Half w.heap.size s.size k (fun j => lown (bt s j)) (bt s) wr ∧ Below w.heap.size w wr)) (fun i _ => s.size - (intOf i).toNat)
  case atStart => exact ⟨0, Nat.zero_le _, rfl, h0, hb1⟩
  case round =>
    clear h0 hb1 hcv
    obtain ⟨k, hk, rfl, hz⟩ := hrel
    by_cases hlt : k < s.size
    · have hc := hz.out.1.cell k hlt
      have hf := hz.out.1.free k hlt
      simp only [Nat.lt_irrefl, if_false] at hc
      have hbt := bt_lt s k
      obtain ⟨x, hx⟩ : ∃ x, bt s k = x := ⟨_, rfl⟩
      rw [hx] at hc hbt
      have HX : Hid (bt s k = x) := hx
      clear hx
      obtain ⟨a1, e1⟩ : ∃ b, decide ((65 : Int) ≤ (x : Int)) = b := ⟨_, rfl⟩
      obtain ⟨a2, e2⟩ : ∃ b, decide ((x : Int) ≤ 90) = b := ⟨_, rfl⟩
      have hi : (k : Int) < (s.size : Int) := by omega
      cases a1
      · go_wp2
        go_roundw
        case rel =>
          refine ⟨k + 1, by omega, by go_num, hz.out.1.keep hlt ?_, hz.out.2⟩
          show lown (bt s k) = _
          simp only [decide_eq_false_iff_not] at e1
          rw [HX.out, lown, if_neg (by omega)]
        case measure => simp [intOf]; omega
      · cases a2
        · go_wp2
          go_roundw
          case rel =>
            refine ⟨k + 1, by omega, by go_num, hz.out.1.keep hlt ?_, hz.out.2⟩
            show lown (bt s k) = _
            simp only [decide_eq_false_iff_not] at e2
            rw [HX.out, lown, if_neg (by omega)]
          case measure => simp [intOf]; omega
        · simp only [decide_eq_true_eq] at e1 e2
          go_wp2
          go_roundw
          case rel =>
            refine ⟨k + 1, by omega, by go_num, hz.out.1.set hlt _ ?_, hz.out.2.setCell (p := ⟨_, k, none⟩) (Nat.le_refl _) _⟩
            show _ = ((lown (bt s k) : Nat) : Int)
            rw [HX.out, lown, if_pos (by omega)]
            omega
          case measure => simp [intOf]; omega
    · obtain rfl : k = s.size := by omega
      have ht := hz.out.1.text (cap := cap) (smallL s.data.toList) (small_len s) (small_text s)
      go_wp2
      go_ret
      exact ⟨rfl, hz.out.2⟩
end Go.Proofs.YtalfjdpdecngoaaDoor
