/- What the library's contracts say of the two functions that compare nothing; what is kept of the sort. -/
import Derived.Test.YtalfjdpdecngoaaPSort8
import Derived.Test.YtalfjdpdecngoaaPLay
namespace Go.Proofs.Ytalfjdpdecngoaa
open Go.RowKit

theorem break_ss (s : Sl) (d : Array Pl) (w : World) (h : SS s d w) (a b : Nat) (hab : a ≤ b) (hb : b ≤ s.n) :
    Calls Try.prog 61 #[.agg #[(Value.func (.func 38) #[] #[.pointer (some ⟨s.Bs, 0, none⟩)]), (Value.func (.func s.sf) #[] s.sb)], .int .i64 a, .int .i64 b] w fun e w' => e = .returned (.tuple #[]) ∧ SS s (Sort.breakPatterns d a b) w' ∧ w.grownBy w' (some s.blk) := by
  have hn := h.2.2.2.1.2.2.2
  have hs := h.2.1
  have hc := Any.breakPatterns_func_cells_w (P := Try.prog) (ρ := Try.gl6_ren) { Try.gl6 with } cellsP 2 cellsP_len (.func 38) #[] #[.pointer (some ⟨s.Bs, 0, none⟩)] s.sf s.sb s.blk s.off a b d w (by rw [hs]; exact h.2.2.2.2) h.1 h.2.2.2.1.2.1 hab (by omega) (by omega)
  refine Calls.mono hc ?_
  rintro e w' ⟨rfl, n, os, rfl⟩
  have hg := grown_put w s.blk s.off (Sort.breakPatterns d a b) n os
  have hz : (Sort.breakPatterns d a b).size = d.size := (Sort.breakPatterns_holds d a b hab (by omega)).1
  exact ⟨rfl, SS.grown h hg (holdsK_sortWorldK cellsP 2 w s.blk s.off n d _ os h.2.2.2.1.2.1 h.1 hz) hz, hg⟩
theorem reverse_ss (s : Sl) (d : Array Pl) (w : World) (h : SS s d w) (a b : Nat) (hab : a ≤ b) (hb : b ≤ s.n) :
    Calls Try.prog 63 #[.agg #[(Value.func (.func 38) #[] #[.pointer (some ⟨s.Bs, 0, none⟩)]), (Value.func (.func s.sf) #[] s.sb)], .int .i64 a, .int .i64 b] w fun e w' => e = .returned (.tuple #[]) ∧ SS s (Sort.reverseRange d a b) w' ∧ w.grownBy w' (some s.blk) := by
  have hn := h.2.2.2.1.2.2.2
  have hs := h.2.1
  have hc := Any.reverseRange_func_cells_w (P := Try.prog) (ρ := Try.gl6_ren) { Try.gl6 with } cellsP 2 cellsP_len (.func 38) #[] #[.pointer (some ⟨s.Bs, 0, none⟩)] s.sf s.sb s.blk s.off a b d w (by rw [hs]; exact h.2.2.2.2) h.1 h.2.2.2.1.2.1 hab (by omega) (by omega)
  refine Calls.mono hc ?_
  rintro e w' ⟨rfl, n, os, rfl⟩
  have hg := grown_put w s.blk s.off (Sort.reverseRange d a b) n os
  have hz : (Sort.reverseRange d a b).size = d.size := (Sort.reverseRange_holds d a b hab (by omega)).1
  exact ⟨rfl, SS.grown h hg (holdsK_sortWorldK cellsP 2 w s.blk s.off n d _ os h.2.2.2.1.2.1 h.1 hz) hz, hg⟩

theorem ltB_iff {p q : Pl} : ltB p q = true ↔ LtP p q := by rw [ltB, decide_eq_true_eq, cmp_neg]
theorem LtP.total (p q : Pl) : LtP p q ∨ p = q ∨ LtP q p := by
  rcases cmpP_cases p q with ⟨_, l⟩ | ⟨_, l⟩ | ⟨_, l⟩
  · exact .inl l
  · exact .inr (.inl l)
  · exact .inr (.inr l)
theorem swo : Sort.SWO ltB where
  irrefl x := by
    rw [Bool.eq_false_iff]; exact fun h => LtP.irrefl x (ltB_iff.1 h)
  trans x y z h1 h2 := ltB_iff.2 ((ltB_iff.1 h1).trans (ltB_iff.1 h2))
  ntrans x y z h1 h2 := by
    rw [Bool.eq_false_iff]
    intro h
    have l := ltB_iff.1 h
    rcases LtP.total x y with e | e | e
    · rw [ltB_iff.2 e] at h1; cases h1
    · subst e; rw [h] at h2; cases h2
    · rw [ltB_iff.2 (e.trans l)] at h2; cases h2

/-- what a sort of [a, b) of d would make of the whole -/
def Inv (A B : Nat) (d0 : Array Pl) (a b : Nat) (d : Array Pl) : Prop :=
  Sort.Below ltB a b d ∧ ∀ R, Sort.PermIn a b d R → Sort.SortedIn ltB a b R → Sort.PermIn A B d0 R ∧ Sort.SortedIn ltB A B R
theorem Inv.perm {A B : Nat} {d0 : Array Pl} {a b : Nat} {d d1 : Array Pl} (h : Inv A B d0 a b d) (hb : b ≤ d.size) (hp : Sort.PermIn a b d d1) : Inv A B d0 a b d1 :=
  ⟨h.1.perm hb hp, fun R hR hs => h.2 R (Sort.permIn_trans _ _ _ a b hp hR) hs⟩
theorem Inv.start (a b : Nat) (d : Array Pl) (h : Sort.Below ltB a b d) : Inv a b d a b d := ⟨h, fun _ hR hs => ⟨hR, hs⟩⟩
end Go.Proofs.Ytalfjdpdecngoaa
