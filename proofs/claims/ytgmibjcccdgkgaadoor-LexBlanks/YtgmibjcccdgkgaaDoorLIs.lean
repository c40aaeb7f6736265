/- The contracts of is and bare. -/
import Derived.Test.YtgmibjcccdgkgaaDoorEPlace
namespace Go.Proofs.YtgmibjcccdgkgaaDoor
open Go.RowKit

/-- an error is this one, and there -/
def ErrIs (E : Value) (n j : Int) (w : World) : Prop :=
  (E = .nilIface ∧ n = 0 ∧ j = -1) ∨ (∃ b, E = .iface 59 (.pointer (some ⟨b, 0, none⟩)) ∧ w.cell? ⟨b, 0, none⟩ = some (.int .i64 n) ∧ w.cell? ⟨b, 1, none⟩ = some (.int .i64 j)) ∨ (E = .iface 23 (.int .i64 n) ∧ j = -1)

theorem ErrIs.below {E : Value} {n j : Int} {w w' : World} (h : ErrIs E n j w) (hb : Below w.heap.size w w') : ErrIs E n j w' := by
  rcases h with h | ⟨b, h1, h2, h3⟩ | h
  · exact .inl h
  · have hlt := World.block_lt_of_cell? w _ h2
    exact .inr (.inl ⟨b, h1, (hb.cell (p := ⟨b, 0, none⟩) hlt).trans h2, (hb.cell (p := ⟨b, 1, none⟩) hlt).trans h3⟩)
  · exact .inr (.inr h)

theorem place_any (E : Value) (n j : Int) (w : World) (hg : HG w) (h : ErrIs E n j w) : Calls Tryd.prog 23 #[E] w fun e w' => e = .returned (.tuple #[.int .i64 n, .int .i64 j]) ∧ Below w.heap.size w w' := by
  rcases h with ⟨rfl, rfl, rfl⟩ | ⟨b, rfl, h2, h3⟩ | ⟨rfl, rfl⟩
  · exact place_nil w
  · exact place_at b n j w hg h2 h3
  · exact place_errno n w hg

set_option maxRecDepth 100000 in
set_option maxHeartbeats 1000000 in
theorem is_any (E : Value) (n j : Int) (w : World) (hg : HG w) (h : ErrIs E n j w) : Calls Tryd.prog 7 #[E, .agg #[.int .i64 n, .int .i64 j]] w fun e w' => e = .returned (.bool true) ∧ Below w.heap.size w w' := by
  have hb0 : Below w.heap.size w (w.alloc (.cells #[.int .i64 n, .int .i64 j] 25)) := (Below.refl _ w).alloc (Nat.le_refl _) _
  have hg2 := hg.below hb0 hg.lt
  have h2 := h.below hb0
  have HH : Hid _ := h2
  clear h h2
  go_enter Tryd.func7, Tryd.ntmps7
  go_wp2_with fail
  refine (place_any E n j _ hg2 HH.out).mono ?_
  rintro _ w1 ⟨rfl, hb1⟩
  have q0 := hb1.cell (p := ⟨w.heap.size, 0, none⟩) (by simp)
  have q1 := hb1.cell (p := ⟨w.heap.size, 1, none⟩) (by simp)
  simp at q0 q1
  have hb2 := hb0.trans (hb1.mono (by simp))
  clear hb1 hb0 HH hg2
  go_wp2
  go_ret
  exact ⟨rfl, hb2⟩
end Go.Proofs.YtgmibjcccdgkgaaDoor
