/- The contracts of the document's own disk. -/
import Derived.Test.YthmladfoaajklaaDoorWrite
import Derived.Maps.StringElems
namespace Go.Proofs.YthmladfoaajklaaDoor
open Go.RowKit Go.Maps

theorem keyed3 : Keyed Tryd.prog 3 := int_keyed Tryd.underlying3

/-- what a map of pages holds -/
structure Holds (pg : Nat → ByteArray) (D : DataW Unit) : Prop where
  isMap : IsMap D
  yes : ∀ k : Nat, k < 4001 → Maps.has D (.int .i64 k) = true → ∀ z, D.atKey (.int .i64 k) z = .lit (.string (pg k).data.toList)
  no : ∀ k : Nat, k < 4001 → Maps.has D (.int .i64 k) = false → pg k = zeros

theorem wf_nat (k : Nat) (hk : k < 4001) : (Lit.int .i64 (k : Int)).wf = true := WalkArith.wf_i64 (by omega)
theorem key_ne {i k : Nat} (h : i ≠ k) : (Lit.int .i64 (i : Int)) ≠ .int .i64 k := fun e => h (by injection e with e1 e2; omega)
theorem isKey (k : Nat) : WideAt.IsKeyLit (Lit.int .i64 (k : Int)) := trivial

theorem Holds.put {pg : Nat → ByteArray} {D : DataW Unit} (h : Holds pg D) (k : Nat) (s : ByteArray) : Holds (upd pg k s) (D.put (.int .i64 k) (.lit (.string s.data.toList))) := by
  refine ⟨h.isMap.put _ _, fun i hi hh z => ?_, fun i hi hh => ?_⟩
  · by_cases e : i = k
    · subst e
      rw [atKey_put_same h.isMap (isKey i)]
      simp [upd]
    · rw [has_put_other (key_ne e)] at hh
      rw [atKey_put_other (key_ne e), h.yes i hi hh z]
      simp [upd, e]
  · by_cases e : i = k
    · subst e
      rw [has_put_same h.isMap (isKey i)] at hh
      cases hh
    · rw [has_put_other (key_ne e)] at hh
      simpa [upd, e] using h.no i hi hh

/-- block b is the document's disk, its pages in the map of block m -/
structure RefIs (b m n : Nat) (pg : Nat → ByteArray) (left torn : Int) (w : World) : Prop where
  map : w.cell? ⟨b, 0, none⟩ = some (.map (some m))
  left : w.cell? ⟨b, 1, none⟩ = some (.int .i64 left)
  torn : w.cell? ⟨b, 2, none⟩ = some (.int .i64 torn)
  free : ∀ k, w.frozen? ⟨b, k, none⟩ = false
  owns : ∃ D : DataW Unit, w.ownsMap Tryd.prog 3 (plainElem Tryd.prog 9) m n D ∧ Holds pg D
  size : ∀ k, k < 4001 → (pg k).size = 1024

section
variable {b m n : Nat} {pg : Nat → ByteArray} {left torn : Int} {w w' : World}

theorem RefIs.lt (h : RefIs b m n pg left torn w) : b < w.heap.size := World.block_lt_of_cell? w _ h.left
theorem RefIs.mlt (h : RefIs b m n pg left torn w) : m < w.heap.size := by obtain ⟨D, hD, _⟩ := h.owns; exact hD.lt
theorem RefIs.ne (h : RefIs b m n pg left torn w) : m ≠ b := by
  obtain ⟨D, ⟨es, clock, hm, _⟩, _⟩ := h.owns
  intro e; subst e
  have := h.left
  simp [World.cell?, hm] at this

theorem RefIs.block (h : RefIs b m n pg left torn w) (hg : ∀ i, i = b ∨ i = m → w'.heap[i]? = w.heap[i]?) : RefIs b m n pg left torn w' := by
  have c : ∀ k, w'.cell? ⟨b, k, none⟩ = w.cell? ⟨b, k, none⟩ := fun k => World.cell?_of_block (hg b (.inl rfl))
  obtain ⟨D, ⟨es, clock, hm, F, hs, hD⟩, hH⟩ := h.owns
  refine ⟨by rw [c]; exact h.map, by rw [c]; exact h.left, by rw [c]; exact h.torn, fun k => (World.frozen?_of_block (a := ⟨b, k, none⟩) (hg b (.inl rfl))).trans (h.free k), ⟨D, ⟨es, clock, (hg m (.inr rfl)).trans hm, F, hs, hD⟩, hH⟩, h.size⟩

theorem RefIs.grown {row : Option Nat} (h : RefIs b m n pg left torn w) (hg : w.grownBy w' row) (h1 : some b ≠ row) (h2 : some m ≠ row) : RefIs b m n pg left torn w' :=
  h.block fun i hi => by
    rcases hi with rfl | rfl
    · exact hg.block _ h.lt h1
    · exact hg.block _ h.mlt h2
theorem RefIs.below (h : RefIs b m n pg left torn w) (hb : Below w.heap.size w w') : RefIs b m n pg left torn w' := h.grown (grown_of_below hb none) (by simp) (by simp)
theorem RefIs.drew (h : RefIs b m n pg left torn w) : RefIs b m n pg left torn w.drew := h.block fun _ _ => rfl

theorem RefIs.setLeft (h : RefIs b m n pg left torn w) (x : Int) : RefIs b m n pg x torn (w.setCell ⟨b, 1, none⟩ (.int .i64 x)) := by
  have o : ∀ i, 1 ≠ i → (w.setCell ⟨b, 1, none⟩ (.int .i64 x)).cell? ⟨b, i, none⟩ = w.cell? ⟨b, i, none⟩ := fun i hi => World.cell?_setCell_other _ _ _ _ (fun e => hi (by cases e; rfl))
  obtain ⟨D, hD, hH⟩ := h.owns
  exact ⟨by rw [o 0 (by omega)]; exact h.map, World.cell?_setCell_same _ _ _ h.left, by rw [o 2 (by omega)]; exact h.torn, fun k => by rw [World.frozen?_setCell]; exact h.free k, ⟨D, hD.setCell h.ne _, hH⟩, h.size⟩

theorem RefIs.setTorn (h : RefIs b m n pg left torn w) (x : Int) : RefIs b m n pg left x (w.setCell ⟨b, 2, none⟩ (.int .i64 x)) := by
  have o : ∀ i, 2 ≠ i → (w.setCell ⟨b, 2, none⟩ (.int .i64 x)).cell? ⟨b, i, none⟩ = w.cell? ⟨b, i, none⟩ := fun i hi => World.cell?_setCell_other _ _ _ _ (fun e => hi (by cases e; rfl))
  obtain ⟨D, hD, hH⟩ := h.owns
  exact ⟨by rw [o 0 (by omega)]; exact h.map, by rw [o 1 (by omega)]; exact h.left, World.cell?_setCell_same _ _ _ h.torn, fun k => by rw [World.frozen?_setCell]; exact h.free k, ⟨D, hD.setCell h.ne _, hH⟩, h.size⟩
end

/-- what has changed: only block b, and block m -/
structure Only2 (b m : Nat) (w w' : World) : Prop where
  os : w'.os = w.os
  tape : w'.tape = w.tape
  output : w'.output = w.output
  size : w.heap.size ≤ w'.heap.size
  block : ∀ k, k < w.heap.size → k ≠ b → k ≠ m → w'.heap[k]? = w.heap[k]?

theorem Only2.of_grown {b m c : Nat} {w w' : World} (h : w.grownBy w' (some c)) (hc : c = b ∨ c = m) : Only2 b m w w' :=
  ⟨h.os, h.tape, h.output, h.size, fun k hk h1 h2 => h.block k hk (fun e => by
    cases e
    rcases hc with rfl | rfl
    · exact h1 rfl
    · exact h2 rfl)⟩
theorem Only2.trans {b m : Nat} {w w' w'' : World} (h : Only2 b m w w') (k : Only2 b m w' w'') : Only2 b m w w'' :=
  ⟨k.os.trans h.os, k.tape.trans h.tape, k.output.trans h.output, Nat.le_trans h.size k.size, fun i hi h1 h2 => (k.block i (Nat.lt_of_lt_of_le hi h.size) h1 h2).trans (h.block i hi h1 h2)⟩
theorem Only2.of_below {b m : Nat} {w w' : World} (h : Below w.heap.size w w') : Only2 b m w w' := ⟨h.os, h.tape, h.output, h.size, fun k hk _ _ => h.block k hk⟩
theorem Only2.drew {b m : Nat} {w w' : World} (h : Only2 b m w w') : Only2 b m w w'.drew := ⟨h.os, h.tape, h.output, h.size, h.block⟩
theorem Only2.refl (b m : Nat) (w : World) : Only2 b m w w := ⟨rfl, rfl, rfl, Nat.le_refl _, fun _ _ _ _ => rfl⟩
end Go.Proofs.YthmladfoaajklaaDoor
