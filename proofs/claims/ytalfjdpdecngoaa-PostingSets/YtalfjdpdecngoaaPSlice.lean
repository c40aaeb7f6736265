/- sort.Slice of places. -/
import Derived.Test.YtalfjdpdecngoaaPSort11
import Derived.Shelf.GgSortFunc.Tiny
namespace Go.Proofs.Ytalfjdpdecngoaa
open Go.RowKit Go.Shelf

noncomputable def plsT : TypeInfo := (Try.prog.info? 22).get (by kernel_rfl)
noncomputable def plT : TypeInfo := (Try.prog.info? 25).get (by kernel_rfl)
theorem swapK (n : Nat) (h2 : 2 ≤ n) : Lib.swapperK n plT 25 = 9 := by
  have a : plT.hasPointers = false := by kernel_rfl
  have b : plT.bytes = 16 := by kernel_rfl
  have c : (n == 0) = false := by simp; omega
  have d : (n == 1) = false := by simp; omega
  simp [Lib.swapperK, a, b, c, d]

theorem slice_small (p : Option Addr) (n c Bs : Nat) (h1 : n ≤ 1) (w : World) :
    Calls Try.prog 37 #[.iface 22 (.slice p n c), .func (.func 38) #[] #[.pointer (some ⟨Bs, 0, none⟩)]] w fun e w' => e = .returned (.tuple #[]) ∧ Below w.heap.size w w' := by
  have key : ∀ os, Below w.heap.size w (Sort.grow w os) := fun os => ⟨rfl, rfl, rfl, by simp [Sort.grow], fun k hk => by simp only [Sort.grow]; rw [Array.getElem?_append_left hk]⟩
  by_cases h0 : n = 0
  · subst h0
    exact (Any.sort_Slice_tiny Try.gl6 22 25 plsT plT (by kernel_rfl) (by kernel_rfl) (by kernel_rfl) (by kernel_rfl) 25 (fun _ => by kernel_rfl) p 0 c (by omega) 48 (by kernel_rfl) _ _ _ w).mono fun _ _ ⟨he, os, hw⟩ => ⟨he, by rw [hw]; exact key os⟩
  · have e : n = 1 := by omega
    subst e
    exact (Any.sort_Slice_tiny Try.gl6 22 25 plsT plT (by kernel_rfl) (by kernel_rfl) (by kernel_rfl) (by kernel_rfl) 25 (fun _ => by kernel_rfl) p 1 c (by omega) 49 (by kernel_rfl) _ _ _ w).mono fun _ _ ⟨he, os, hw⟩ => ⟨he, by rw [hw]; exact key os⟩

theorem cellsP_one (x : Pl) : ∀ v ∈ cellsP x, v.oneCell' = true := by intro v hv; simp [cellsP] at hv; rcases hv with rfl | rfl <;> rfl

set_option maxHeartbeats 2000000 in
theorem slice_big (d : Array Pl) (g c Bs : Nat) (w : World) (h2 : 2 ≤ d.size) (hsz : d.size < 1000000) (hH : Sort.HoldsK cellsP 2 w g 0 d) (hg : g < w.heap.size) (hB : w.cell? ⟨Bs, 0, none⟩ = some (.slice (some ⟨g, 0, none⟩) d.size c)) (hBl : Bs < w.heap.size) (hne : Bs ≠ g) :
    Calls Try.prog 37 #[.iface 22 (.slice (some ⟨g, 0, none⟩) d.size c), .func (.func 38) #[] #[.pointer (some ⟨Bs, 0, none⟩)]] w fun e w' => e = .returned (.tuple #[]) ∧ ∃ d', Sort.HoldsK cellsP 2 w' g 0 d' ∧ (Sort.PermIn 0 d.size d d' ∧ Sort.SortedIn ltB 0 d.size d') ∧ w.grownBy w' (some g) := by
  refine Any.sort_Slice_of_pdq Try.gl6 22 25 plsT plT (by kernel_rfl) (by kernel_rfl) (by kernel_rfl) (by kernel_rfl) 25 (fun _ => by kernel_rfl) (some ⟨g, 0, none⟩) d.size c (by omega) 56 (by rw [swapK _ h2]; kernel_rfl) _ _ _ w _ ?_
  have hbd : sliceBound Try.prog 25 plT 25 (some ⟨g, 0, none⟩) d.size c = #[.slice (some ⟨g, 0, none⟩) d.size c, typeHandle Try.prog 25] := by
    unfold sliceBound; rw [swapK _ h2]; rfl
  rw [hbd]
  obtain ⟨w1, hw1⟩ : ∃ w1, w1 = sliceWorld Try.prog Try.gl6_ren 22 (some ⟨g, 0, none⟩) d.size c w := ⟨_, rfl⟩
  have hb1 : Below w.heap.size w w1 := by
    rw [hw1]; unfold sliceWorld
    exact ((Below.refl _ _).alloc (Nat.le_refl _) _).alloc (by simp) _
  rw [← hw1]
  have hlim : Lib.bitLen d.size < 1000000 := Nat.lt_of_le_of_lt (Lib.bitLen_le d.size 62 (by omega) (by omega)) (by omega)
  have hs := hb1.size
  have hSS : SS ⟨g, 0, c, Bs, d.size, 56, #[.slice (some ⟨g, 0, none⟩) d.size c, typeHandle Try.prog 25]⟩ d w1 := by
    refine ⟨holds_block hH (hb1.block _ hg), rfl, by rw [hb1.cell (p := ⟨Bs, _, none⟩) hBl]; exact hB, ⟨hne, by show g < _; omega, by show Bs < _; omega, hsz⟩, ?_⟩
    exact swapSwapsK_of_literal false _ (fun args W => run_callFunc_extern Try.func56 (by kernel_rfl) (by kernel_rfl) (by kernel_rfl) (e := Extern.ReflectliteSwapper.swap false) (by kernel_rfl) args W) 25 plT (by kernel_rfl) cellsP 2 cellsP_len (by kernel_rfl) (fun _ => by kernel_rfl) cellsP_one g 0 d.size c
  refine (pdq_ss (d.size + 1) _ d w1 0 d.size (Lib.bitLen d.size) (by omega) hSS (Nat.zero_le _) (Nat.le_refl _) hlim (Or.inl rfl) _ _ _ rfl rfl rfl).mono ?_
  rintro e w' ⟨rfl, d', h1, h3, h4⟩
  exact ⟨rfl, d', h1.1, h3, (grown_of_belowP hb1 _).trans h4⟩
end Go.Proofs.Ytalfjdpdecngoaa
