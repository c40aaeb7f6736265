/- A slice of places that came in, opened. -/
import Derived.Test.YtalfjdpdecngoaaPMergeM
import Derived.ProofKit
import Derived.Deep.Slices
import Derived.Deep.Strs
namespace Go.Proofs.Ytalfjdpdecngoaa
open Go.ChangeShapes Go.WideShapes Go.ChangeAt Go.RowKit

theorem pcellsPl : Try.prog.cellsOf 25 = 2 := by kernel_rfl
theorem pcellsInt : Try.prog.cellsOf 3 = 1 := by kernel_rfl

set_option maxRecDepth 100000 in
theorem one_ofP {H : Type} {enc : TypeId × Value → H} {W : World} {spare : Nat → Bool} {held : Bool} {n : Nat} {cs : List Value} {y : DataW H × List MemPlace}
    (hl : cs.length = 2) (h : DataW.trod enc Try.prog W 0 spare held n 25 cs = some y) : ∃ x : Pl, cs = [.int .i64 x.r, .int .i64 x.a] := by
  obtain ⟨y0, y1, m, _, _, t0, t1⟩ := trod_struct2 Try.underlying25 h
  match cs, hl with
  | [c0, c1], _ =>
    simp only [pcellsInt] at t0 t1
    obtain ⟨k, e0, _, _⟩ := DataW.trod_int Try.underlying3 t0
    obtain ⟨i, e1, _, _⟩ := DataW.trod_int Try.underlying3 t1
    simp at e0 e1
    subst e0 e1
    exact ⟨⟨k, i⟩, rfl⟩

theorem in_of {H : Type} {enc : TypeId × Value → H} {W : World} {held : Bool} {a : Option Addr} {len cap : Nat} {d : DataW H} {p : List MemPlace}
    (h : DataW.Trod enc Try.prog W 0 (fun _ => true) held 22 (.slice a len cap) d p) : len ≤ maxLen ∧ (len ≤ 1000000 → ∃ xs : List Pl, xs.length = len ∧ InP W (.slice a len cap) xs) := by
  obtain ⟨fuel, hf⟩ := h
  rcases Deep.open_slice Try.underlying22 hf with ⟨hcs, _⟩ | ⟨ad, l, c, m, n, D, Pls, hcs, _, hl, hm, hmm, _, hx⟩
  · simp [Value.cells] at hcs
    obtain ⟨rfl, rfl, rfl⟩ := hcs
    exact ⟨Nat.zero_le _, fun _ => ⟨[], rfl, InP.nil W⟩⟩
  · simp [Value.cells] at hcs
    obtain ⟨rfl, rfl, rfl⟩ := hcs
    simp at hmm
    subst hmm
    refine ⟨by omega, fun hsmall => ?_⟩
    have each : ∀ i, i < len → ∃ x : Pl, W.cell? (ad.add (i * 2)) = some (.int .i64 x.r) ∧ W.cell? (ad.add (i * 2 + 1)) = some (.int .i64 x.a) := by
      intro i hi
      obtain ⟨cs', h1, h2⟩ := hx i (by omega)
      rw [pcellsPl] at h1
      obtain ⟨_, hlen, hcell⟩ := World.cells?_some h1
      obtain ⟨x, rfl⟩ := one_ofP hlen h2
      have c0 := hcell 0 (by omega)
      have c1 := hcell 1 (by omega)
      rw [Deep.add_add] at c0 c1
      exact ⟨x, by simpa using c0, by simpa using c1⟩
    by_cases h0 : len = 0
    · subst h0
      exact ⟨[], rfl, some ad, _, rfl, by simp, ⟨rfl, by simp, .inl rfl⟩, fun e => by cases e⟩
    obtain ⟨b, off, spot⟩ := ad
    obtain ⟨x0, hx0, _⟩ := each 0 (by omega)
    have hspot : spot = none := by simpa [Addr.add] using World.cell?_spot hx0
    subst hspot
    have hbl : b < W.heap.size := by simpa [add_plain] using World.block_lt_of_cell? W _ hx0
    obtain ⟨X, hX⟩ : ∃ X : Nat → Pl, ∀ i, i < len → W.cell? ((⟨b, off, none⟩ : Addr).add (i * 2)) = some (.int .i64 (X i).r) ∧ W.cell? ((⟨b, off, none⟩ : Addr).add (i * 2 + 1)) = some (.int .i64 (X i).a) := by
      refine ⟨fun i => if hi : i < len then Classical.choose (each i hi) else x0, fun i hi => ?_⟩
      simp only [dif_pos hi]
      exact Classical.choose_spec (each i hi)
    refine ⟨(List.range len).map X, by simp, some ⟨b, off, none⟩, m, by simp, by simpa using hl, ⟨by simp, by simpa using hsmall, .inr ⟨b, off, rfl, hbl, fun i hi => ?_⟩⟩, fun e => by cases e⟩
    have hi' : i < len := by simpa using hi
    obtain ⟨g1, g2⟩ := hX i hi'
    rw [add_plain] at g1 g2
    simp only [List.getElem_map, List.getElem_range]
    exact ⟨g1, by rw [Nat.add_assoc]; exact g2⟩
end Go.Proofs.Ytalfjdpdecngoaa
