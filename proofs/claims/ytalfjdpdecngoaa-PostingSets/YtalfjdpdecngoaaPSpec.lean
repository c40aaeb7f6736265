/- What the document's sorted and rising do, as they are used. -/
import Derived.Test.YtalfjdpdecngoaaPCross
namespace Go.Proofs.Ytalfjdpdecngoaa
open Go.RowKit

def SortedSpec : Prop := ∀ (B0 : Nat) (v : Value) (xs : List Pl) (w : World), w.ownsRow B0 25 2 v xs.length (plc xs) → B0 ≤ w.heap.size → xs.length ≤ 100000 →
    Calls Try.prog 25 #[v] w fun e w' => ∃ v' T, e = .returned v' ∧ w'.ownsRow B0 25 2 v' T.length (plc T) ∧ (T.Pairwise LtP ∧ (∀ x, x ∈ T ↔ x ∈ xs) ∧ T.length ≤ xs.length) ∧ Below B0 w w'
def RisingSpec : Prop := ∀ (B0 : Nat) (v : Value) (xs : List Int) (w : World), w.ownsRow B0 3 1 v xs.length (icc xs) → B0 ≤ w.heap.size → xs.length ≤ 100000 →
    Calls Try.prog 29 #[v] w fun e w' => ∃ v' T, e = .returned v' ∧ w'.ownsRow B0 3 1 v' T.length (icc T) ∧ (T.Pairwise (· < ·) ∧ (∀ x, x ∈ T ↔ x ∈ xs) ∧ T.length ≤ xs.length) ∧ Below B0 w w'

theorem own_empty (w : World) : (w.alloc (.cells #[] 25)).ownsRow w.heap.size 25 2 (.slice (some ⟨w.heap.size, 0, none⟩) 0 0) 0 [] :=
  ⟨rfl, .inr ⟨w.heap.size, 0, #[], rfl, Nat.le_refl _, heap_alloc_new w _, Nat.le_refl _, Nat.zero_le _, rfl, rfl⟩⟩

set_option maxRecDepth 100000 in
set_option maxHeartbeats 2000000 in
theorem refMerge_any (hS : SortedSpec) (v1 v2 : Value) (xs ys : List Pl) (w : World) (h1 : InP w v1 xs) (h2 : InP w v2 ys) (hl1 : xs.length ≤ 10000) (hl2 : ys.length ≤ 10000) :
    Calls Try.prog 8 #[v1, v2] w fun e w' => ∃ v' T, e = .returned v' ∧ w'.ownsRow w.heap.size 25 2 v' T.length (plc T) ∧ (T.Pairwise LtP ∧ (∀ x, x ∈ T ↔ x ∈ xs ∨ x ∈ ys) ∧ T.length ≤ xs.length + ys.length) ∧ Below w.heap.size w w' := by
  obtain ⟨a1, c1, rfl, _, hr1, hn1⟩ := h1
  obtain ⟨a2, c2, rfl, _, hr2, hn2⟩ := h2
  have HS : Hid SortedSpec := hS
  have HA : Hid (Below w.heap.size w (w.alloc (.cells #[] 25))) := (Below.refl _ _).alloc (Nat.le_refl _) _
  have HO : Hid ((w.alloc (.cells #[] 25)).ownsRow w.heap.size 25 2 (.slice (some ⟨w.heap.size, 0, none⟩) 0 0) ([] : List Pl).length (plc [])) := own_empty w
  have H1 : Hid (RowP w a1 xs.length xs ∧ (a1 = none → c1 = 0)) := ⟨hr1, hn1⟩
  have H2 : Hid (RowP w a2 ys.length ys ∧ (a2 = none → c2 = 0)) := ⟨hr2, hn2⟩
  clear hr1 hn1 hr2 hn2 hS
  go_enter Try.func8, Try.ntmps8
  go_wp2_with (at_builtin; refine wpList_append_rowP rfl _ _ rfl rfl w.heap.size _ [] rfl HO.out HA.out.size a1 c1 xs rfl (RowP.below H1.out.1 HA.out) H1.out.2 (by simp; omega) ?_)
  intro v4 w4 ho4 hb4
  have HB4 : Hid (Below w.heap.size w w4) := HA.out.trans hb4
  have HO4 : Hid (w4.ownsRow w.heap.size 25 2 v4 xs.length (plc xs)) := ho4
  clear ho4 hb4 HO HA
  go_wp2_with (at_builtin; refine wpList_append_rowP rfl _ _ rfl rfl w.heap.size _ xs rfl HO4.out HB4.out.size a2 c2 ys rfl (RowP.below H2.out.1 HB4.out) H2.out.2 (by omega) ?_)
  intro v5 w5 ho5 hb5
  have HB5 : Hid (Below w.heap.size w w5) := HB4.out.trans hb5
  have HO5 : Hid (w5.ownsRow w.heap.size 25 2 v5 (xs ++ ys).length (plc (xs ++ ys))) := own_eqP ho5 (by simp) rfl
  clear ho5 hb5 HO4 HB4
  go_wp2_with fail
  refine (HS.out w.heap.size v5 (xs ++ ys) _ HO5.out HB5.out.size (by simp; omega)).mono ?_
  rintro _ w6 ⟨v6, T, rfl, ho6, ⟨t1, t2, t3⟩, hb6⟩
  have HO6 : Hid (w6.ownsRow w.heap.size 25 2 v6 T.length (plc T) ∧ (T.Pairwise LtP ∧ (∀ x, x ∈ T ↔ x ∈ xs ∨ x ∈ ys) ∧ T.length ≤ xs.length + ys.length)) := ⟨ho6, t1, fun x => by rw [t2]; simp, by simpa using t3⟩
  have HB6 : Hid (Below w.heap.size w w6) := HB5.out.trans hb6
  clear ho6 t1 t2 t3 hb6 HO5 HB5
  go_wp2
  go_ret
  exact ⟨_, T, rfl, HO6.out.1, HO6.out.2, HB6.out⟩
end Go.Proofs.Ytalfjdpdecngoaa
