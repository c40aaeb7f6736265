/- Part 13 of 30. -/
import Derived.Test.YtmabfbffpedfnaaGreatDoorK12
import Derived.BigQuiet
namespace Go.Proofs.YtmabfbffpedfnaaGreatDoor
open Go.RowKit

/-- an expression in memory -/
def ExAt (w : World) : Option Addr → Ex → Prop
  | p, .nil => p = none
  | p, .node c v nm l r => ∃ B pl pr, p = some ⟨B, 0, none⟩ ∧ B < w.heap.size ∧ (w.cell? ⟨B, 0, none⟩ = some (.int .i64 c) ∧ w.cell? ⟨B, 1, none⟩ = some (.int .i64 v.k) ∧ w.cell? ⟨B, 2, none⟩ = some (.int .i64 v.n) ∧ w.cell? ⟨B, 3, none⟩ = some (.string v.t) ∧ w.cell? ⟨B, 4, none⟩ = some (.string nm) ∧ w.cell? ⟨B, 5, none⟩ = some (.pointer pl) ∧ w.cell? ⟨B, 6, none⟩ = some (.pointer pr)) ∧ ExAt w pl l ∧ ExAt w pr r
theorem ExAt.below {w w' : World} (hb : Below w.heap.size w w') (q : Ex) : ∀ {p : Option Addr}, ExAt w p q → ExAt w' p q := by
  induction q with
  | nil => intro p h; exact h
  | node c v nm a b ha hb' =>
    intro p h
    obtain ⟨B, pa, pb, e, h2, ⟨c0, c1, c2, c3, c4, c5, c6⟩, qa, qb⟩ := h
    have key : ∀ o, w'.cell? ⟨B, o, none⟩ = w.cell? ⟨B, o, none⟩ := fun o => hb.cell (p := ⟨B, o, none⟩) h2
    refine ⟨B, pa, pb, e, Nat.lt_of_lt_of_le h2 hb.size, ?_, ha qa, hb' qb⟩
    simp only [key]
    exact ⟨c0, c1, c2, c3, c4, c5, c6⟩
theorem exAt_of {A : Nat} {w : World} (q : Ex) : ∀ {p : Option Addr}, ExIs A w p q → ExAt w p q := by
  induction q with
  | nil => intro p h; exact h
  | node c v nm a b ha hb =>
    intro p h
    obtain ⟨B, pa, pb, e, _, h1, qa, qb⟩ := h
    have hk : Blk B _ _ w := h1
    refine ⟨B, pa, pb, e, (Array.getElem?_eq_some_iff.1 h1).1, ⟨?_, ?_, ?_, ?_, ?_, ?_, ?_⟩, ha qa, hb qb⟩ <;> (rw [hk.cell]; rfl)
end Go.Proofs.YtmabfbffpedfnaaGreatDoor
