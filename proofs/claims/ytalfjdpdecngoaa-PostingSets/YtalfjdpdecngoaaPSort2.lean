/- The sort by insertion. -/
import Derived.Test.YtalfjdpdecngoaaPSort1
namespace Go.Proofs.Ytalfjdpdecngoaa
open Go.RowKit

/-- what is known in a round of a function of the sort: its own box lies at B -/
def SE (s : Sl) (B : Nat) (w : World) (d : Array Pl) (wx : World) : Prop :=
  (wx.cell? ⟨B, 0, none⟩ = some (Value.func (.func 38) #[] #[.pointer (some ⟨s.Bs, 0, none⟩)]) ∧ wx.cell? ⟨B, 1, none⟩ = some (Value.func (.func s.sf) #[] s.sb)) ∧ (B < wx.heap.size ∧ B ≠ s.blk) ∧ SS s d wx ∧ w.grownBy wx (some s.blk)
theorem SE.step {s : Sl} {B : Nat} {w : World} {d : Array Pl} {wx wy : World} (h : SE s B w d wx) (hb : Below wx.heap.size wx wy) : SE s B w d wy := by
  obtain ⟨⟨h1, h2⟩, ⟨h3, h4⟩, h5, h6⟩ := h
  have := hb.size
  exact ⟨⟨by rw [hb.cell (p := ⟨B, _, none⟩) h3]; exact h1, by rw [hb.cell (p := ⟨B, _, none⟩) h3]; exact h2⟩, ⟨by omega, h4⟩, h5.below hb, h6.trans (grown_of_belowP hb _)⟩
theorem SE.grown {s : Sl} {B : Nat} {w : World} {d d' : Array Pl} {wx wy : World} (h : SE s B w d wx) (hg : wx.grownBy wy (some s.blk)) (hs : SS s d' wy) : SE s B w d' wy := by
  obtain ⟨⟨h1, h2⟩, ⟨h3, h4⟩, h5, h6⟩ := h
  have := hg.size
  exact ⟨⟨hg.cell h1 (by simpa using h4), hg.cell h2 (by simpa using h4)⟩, ⟨by omega, h4⟩, hs, h6.trans hg⟩
theorem SE.swapped {s : Sl} {B : Nat} {w : World} {d : Array Pl} {wx : World} (h : SE s B w d wx) (i j : Nat) (hi : i < s.n) (hj : j < s.n) : SE s B w (Sort.swp d i j) ((wx.setCells s.blk (s.off + i * 2) (cellsP d[j]!)).setCells s.blk (s.off + j * 2) (cellsP d[i]!)) :=
  h.grown (h.2.2.1.swapped i j hi hj).2 (h.2.2.1.swapped i j hi hj).1
theorem SE.box {s : Sl} {d : Array Pl} {w : World} (h : SS s d w) : SE s w.heap.size w d (w.alloc (.cells #[(Value.func (.func 38) #[] #[.pointer (some ⟨s.Bs, 0, none⟩)]), (Value.func (.func s.sf) #[] s.sb)] 76)) := by
  have hb : Below w.heap.size w (w.alloc (.cells #[(Value.func (.func 38) #[] #[.pointer (some ⟨s.Bs, 0, none⟩)]), (Value.func (.func s.sf) #[] s.sb)] 76)) := (Below.refl _ _).alloc (Nat.le_refl _) _
  refine ⟨⟨by simp, by simp⟩, ⟨by simp, ?_⟩, h.below hb, grown_of_belowP hb _⟩
  have := h.2.2.2.1.2.1
  omega

theorem less_se (s : Sl) (B : Nat) (w : World) (d : Array Pl) (wx : World) (h : SE s B w d wx) (i j : Nat) (hi : i < s.n) (hj : j < s.n) (b : Bool) (hb : ltB d[i]! d[j]! = b) :
    Calls Try.prog 38 #[.int .i64 i, .int .i64 j, .pointer (some ⟨s.Bs, 0, none⟩)] wx fun e w' => e = .returned (.bool b) ∧ SE s B w d w' :=
  (less_ss s d wx h.2.2.1 i j hi hj).mono fun _ _ ⟨he, hb'⟩ => ⟨by rw [he, hb], h.step hb'⟩
theorem swap_se {s : Sl} {B : Nat} {w : World} {d : Array Pl} {wx : World} (h : SE s B w d wx) (i j : Nat) (hi : i < s.n) (hj : j < s.n) :
    ∃ wy, (callFunc s.sf (#[.int .i64 i, .int .i64 j] ++ s.sb)).run Try.prog wx = .ok (.value (.tuple #[])) wy ∧ SE s B w (Sort.swp d i j) wy :=
  ⟨_, h.2.2.1.2.2.2.2 wx d h.2.2.1.1 h.2.2.1.2.1 i j hi hj, h.swapped i j hi hj⟩

set_option maxHeartbeats 2000000 in
set_option maxRecDepth 100000 in
theorem insertion_ss (s : Sl) (d : Array Pl) (w : World) (h : SS s d w) (a b : Nat) (hab : a ≤ b) (hb : b ≤ s.n) :
    Calls Try.prog 59 #[.agg #[(Value.func (.func 38) #[] #[.pointer (some ⟨s.Bs, 0, none⟩)]), (Value.func (.func s.sf) #[] s.sb)], .int .i64 a, .int .i64 b] w fun e w' => e = .returned (.tuple #[]) ∧ SS s (Sort.insertionSort ltB d a b) w' ∧ w.grownBy w' (some s.blk) := by
  have hn := h.2.2.2.1.2.2.2
  have HE : Hid (SE s w.heap.size w d (w.alloc (.cells #[(Value.func (.func 38) #[] #[.pointer (some ⟨s.Bs, 0, none⟩)]), (Value.func (.func s.sf) #[] s.sb)] 76))) := SE.box h
  clear h
  go_enter Try.func59, Try.ntmps59
  go_wp2
  go_loopw [6] (fun vi wr => ∃ (i : Nat) (dk : Array Pl), vi = .int .i64 i ∧ a < i ∧ i ≤ b + 1 ∧ Hid (SE s w.heap.size w dk wr ∧ Sort.insOuter ltB a b i dk = Sort.insertionSort ltB d a b)) (fun vi _ => b + 1 - (intOf vi).toNat)
  case atStart => exact ⟨a + 1, d, by go_num, by omega, by omega, HE.out, rfl⟩
  case round =>
    clear HE
    obtain ⟨i, dk, rfl, hai, hib, hz⟩ := hrel
    by_cases hlt : i < b
    · have i1 : (i : Int) < (b : Int) := by omega
      go_wp2
      go_loopw [7] (fun vj wr2 => ∃ (j : Nat) (dj : Array Pl), vj = .int .i64 j ∧ a ≤ j ∧ j ≤ i ∧ Hid (SE s w.heap.size w dj wr2 ∧ Sort.insInner ltB a j dj = Sort.insInner ltB a i dk)) (fun vj _ => (intOf vj).toNat)
      case atStart => exact ⟨i, dk, rfl, by omega, Nat.le_refl _, hz.out.1, rfl⟩
      case round =>
        obtain ⟨j, dj, rfl, haj, hji, hy⟩ := hrel
        have HZ : Hid (Sort.insOuter ltB a b i dk = Sort.insertionSort ltB d a b) := hz.out.2
        clear hz
        have HO : Hid ((j ≤ a ∨ ltB dj[j]! dj[j - 1]! = false) → Sort.insOuter ltB a b (i + 1) dj = Sort.insertionSort ltB d a b) := fun hs => by
          rw [← HZ.out, insOuter_go _ _ _ _ _ hlt, ← hy.out.2, insInner_stop _ _ _ _ hs]
        obtain ⟨⟨c0, c1⟩, _⟩ := hy.out.1
        by_cases hja : a < j
        · have j1 : (a : Int) < (j : Int) := by omega
          obtain ⟨lb, hlb⟩ : ∃ lb, ltB dj[j]! dj[j - 1]! = lb := ⟨_, rfl⟩
          have hl := less_se s w.heap.size w dj _ hy.out.1 j (j - 1) (by omega) (by omega) lb hlb
          rw [show (((j - 1 : Nat) : Int)) = (j : Int) - 1 by omega] at hl
          cases lb
          · have HO : Hid _ := HO.out (.inr hlb)
            clear hlb hy
            go_wp2_with (go_at_call 38; refine hl.mono ?_; rintro e w1 ⟨rfl, he1⟩; have k1 := he1.1.2)
            go_roundw
            case rel => exact ⟨i + 1, dj, by go_num, by omega, by omega, he1, HO.out⟩
            case measure => simp [intOf]; omega
          · have HI : Hid (Sort.insInner ltB a (j - 1) (Sort.swp dj j (j - 1)) = Sort.insInner ltB a i dk) := by
              show _ = _; rw [← hy.out.2, insInner_go ltB a j dj hja hlb]
            clear hlb hy HO
            go_wp2_with (go_at_call 38; refine hl.mono ?_; rintro e w1 ⟨rfl, he1⟩; have k1 := he1.1.2)
            obtain ⟨w2, hs, he2⟩ := swap_se he1 j (j - 1) (by omega) (by omega)
            rw [show (((j - 1 : Nat) : Int)) = (j : Int) - 1 by omega] at hs
            rw [hs, Oper.upon_value]
            have HE2 : Hid _ := he2
            clear he1 he2 hs
            go_wp2
            go_roundw
            case rel =>
              exact ⟨j - 1, Sort.swp dj j (j - 1), by congr 1; omega, by omega, by omega, HE2.out, HI.out⟩
            case measure => simp [intOf]; omega
        · have j1 : ¬ (a : Int) < (j : Int) := by omega
          have HO : Hid _ := HO.out (.inl (by omega))
          go_wp2
          go_roundw
          case rel => exact ⟨i + 1, dj, by go_num, by omega, by omega, hy.out.1, HO.out⟩
          case measure => simp [intOf]; omega
    · have i1 : ¬ (i : Int) < (b : Int) := by omega
      go_wp2
      go_end0
      refine ⟨rfl, ?_, hz.out.1.2.2.2⟩
      rw [← hz.out.2, insOuter_stop _ _ _ _ _ hlt]
      exact hz.out.1.2.2.1
end Go.Proofs.Ytalfjdpdecngoaa
