/- Part 13 of 29. -/
import Derived.Test.YtbdcbaamjkjhaaaGreatDoorK12
import Derived.BigQuiet
namespace Go.Proofs.YtbdcbaamjkjhaaaGreatDoor
open Go.RowKit

/-- an expression in memory -/
def ExAt (w : World) : Option Addr → Ex → Prop
  | p, .nil => p = none
  | p, .node c v nm l r => ∃ B pl pr, p = some ⟨B, 0, none⟩ ∧ B < w.heap.size ∧ (w.cell? ⟨B, 0, none⟩ = some (.int .i64 c) ∧ w.cell? ⟨B, 1, none⟩ = some (.int .i64 v.k) ∧ w.cell? ⟨B, 2, none⟩ = some (.int .i64 v.n) ∧ w.cell? ⟨B, 3, none⟩ = some (.string v.t) ∧ w.cell? ⟨B, 4, none⟩ = some (.string nm) ∧ w.cell? ⟨B, 5, none⟩ = some (.pointer pl) ∧ w.cell? ⟨B, 6, none⟩ = some (.pointer pr)) ∧ ExAt w pl l ∧ ExAt w pr r
theorem ExAt.below {w w' : World} (hb : Below w.heap.size w w') (q : Ex) : ∀ {p : Option Addr}, ExAt w p q → ExAt w' p q := by
  induction q with
  | nil => intro p h; exact h
  | node c v nm a b ha hb' =>
    intro p h
    obtain ⟨B, pa, pb, e, h2, ⟨c0, c1, c2, c3, c4, c5, c6⟩, qa, qb⟩ := h
    have key : ∀ o, w'.cell? ⟨B, o, none⟩ = w.cell? ⟨B, o, none⟩ := fun o => hb.cell (p := ⟨B, o, none⟩) h2
    refine ⟨B, pa, pb, e, Nat.lt_of_lt_of_le h2 hb.size, ?_, ha qa, hb' qb⟩
    simp only [key]
    exact ⟨c0, c1, c2, c3, c4, c5, c6⟩
theorem exAt_of {A : Nat} {w : World} (q : Ex) : ∀ {p : Option Addr}, ExIs A w p q → ExAt w p q := by
  induction q with
  | nil => intro p h; exact h
  | node c v nm a b ha hb =>
    intro p h
    obtain ⟨B, pa, pb, e, _, h1, qa, qb⟩ := h
    have hk : Blk B _ _ w := h1
    refine ⟨B, pa, pb, e, (Array.getElem?_eq_some_iff.1 h1).1, ⟨?_, ?_, ?_, ?_, ?_, ?_, ?_⟩, ha qa, hb qb⟩ <;> (rw [hk.cell]; rfl)
theorem stoodV : Tryz.prog.stoodInHeld 39 = false := by kernel_rfl
theorem guardV : Tryz.prog.eqGuardType Tryz.prog.depth 39 = false := by kernel_rfl
set_option maxRecDepth 100000 in
set_option maxHeartbeats 8000000 in
theorem sameExpr_any (q : Ex) : ∀ (w : World) (p p' : Option Addr), ExAt w p q → ExAt w p' q →
    Calls Tryz.prog 9 #[.pointer p, .pointer p'] w fun e w' => e = .returned (.bool true) ∧ ∃ m, w' = w.drewN m := by
  induction q with
  | nil =>
    intro w p p' h h'
    obtain rfl : p = none := h
    obtain rfl : p' = none := h'
    go_enter Tryz.func9, Tryz.ntmps9
    go_wp2
    go_ret
    exact ⟨rfl, 0, rfl⟩
  | node c v nm a b ha hb =>
    intro w p p' h h'
    obtain ⟨B, pa, pb, rfl, _, ⟨c0, c1, c2, c3, c4, c5, c6⟩, qa, qb⟩ := h
    obtain ⟨B', pa', pb', rfl, _, ⟨e0, e1, e2, e3, e4, e5, e6⟩, qa', qb'⟩ := h'
    have HL : Hid (∀ m, Calls Tryz.prog 9 #[.pointer pa, .pointer pa'] (w.drewN m) fun e w'' => e = .returned (.bool true) ∧ ∃ m', w'' = w.drewN m') := fun m => Calls.quiet_of (ha _ pa pa' (ExAt.below (below_drewN (Below.refl _ _) m) a qa) (ExAt.below (below_drewN (Below.refl _ _) m) a qa'))
    have HRt : Hid (∀ m, Calls Tryz.prog 9 #[.pointer pb, .pointer pb'] (w.drewN m) fun e w'' => e = .returned (.bool true) ∧ ∃ m', w'' = w.drewN m') := fun m => Calls.quiet_of (hb _ pb pb' (ExAt.below (below_drewN (Below.refl _ _) m) b qb) (ExAt.below (below_drewN (Below.refl _ _) m) b qb'))
    obtain ⟨vk, vn, vt⟩ := v
    simp only at c1 c2 c3 e1 e2 e3
    have s1 := stoodV
    have s2 := guardV
    clear ha hb qa qb qa' qb'
    go_enter Tryz.func9, Tryz.ntmps9
    go_wp2
    go_quiet (first | (go_at_call 9; with_reducible exact HL.out _) | (go_at_call 9; with_reducible exact HRt.out _))
    go_wp2
    go_ret
    exact ⟨rfl, _, rfl⟩
end Go.Proofs.YtbdcbaamjkjhaaaGreatDoor
