/- The document's sorted: the call of the sort. -/
import Derived.Test.YtalfjdpdecngoaaPSorted
namespace Go.Proofs.Ytalfjdpdecngoaa
open Go.RowKit

theorem rowP_of_holds {w : World} {g : Nat} {d : Array Pl} (h : Sort.HoldsK cellsP 2 w g 0 d) (hg : g < w.heap.size) (hl : d.size ≤ 1000000) : RowP w (some ⟨g, 0, none⟩) d.toList.length d.toList := by
  refine ⟨rfl, by simpa using hl, .inr ⟨g, 0, rfl, hg, fun i hi => ?_⟩⟩
  have hi' : i < d.size := by simpa using hi
  have c0 := (h.cell (i := i) (c := 0) hi' (by omega)).1
  have c1 := (h.cell (i := i) (c := 1) hi' (by omega)).1
  rw [getElem!_pos d i hi'] at c0 c1
  exact ⟨by simpa [cellsP] using c0, by simpa [cellsP] using c1⟩

theorem sort_call (B0 : Nat) (p : Option Addr) (c : Nat) (xs : List Pl) (w : World) (hown : w.ownsRow B0 25 2 (.slice p xs.length c) xs.length (plc xs)) (hB : B0 ≤ w.heap.size) (hl : xs.length ≤ 100000) :
    Calls Try.prog 37 #[.iface 22 (.slice p xs.length c), .func (.func 38) #[] #[.pointer (some ⟨w.heap.size, 0, none⟩)]] (w.alloc (.cells #[.slice p xs.length c] 22)) fun e w' =>
      e = .returned (.tuple #[]) ∧ ∃ ys : List Pl, (ys.length = xs.length ∧ ys.Pairwise (fun x y => ¬ LtP y x) ∧ ∀ x, x ∈ ys ↔ x ∈ xs) ∧ RowP w' p ys.length ys ∧ w'.cell? ⟨w.heap.size, 0, none⟩ = some (.slice p xs.length c) ∧ w.heap.size < w'.heap.size ∧ Below B0 w w' := by
  have hb0 : Below w.heap.size w (w.alloc (.cells #[.slice p xs.length c] 22)) := (Below.refl _ _).alloc (Nat.le_refl _) _
  have hsz : (w.alloc (.cells #[.slice p xs.length c] 22)).heap.size = w.heap.size + 1 := by simp
  have hcell : (w.alloc (.cells #[.slice p xs.length c] 22)).cell? ⟨w.heap.size, 0, none⟩ = some (.slice p xs.length c) := by simp
  by_cases h1 : xs.length ≤ 1
  · refine (slice_small p xs.length c w.heap.size h1 _).mono ?_
    rintro e w' ⟨rfl, hb⟩
    have hs := hb.size
    refine ⟨rfl, xs, ⟨rfl, ?_, fun x => Iff.rfl⟩, ?_, by rw [hb.cell (p := ⟨w.heap.size, 0, none⟩) (by simp)]; exact hcell, by omega, (hb0.mono hB).trans (hb.mono (by omega))⟩
    · match xs, h1 with
      | [], _ => exact List.Pairwise.nil
      | [x], _ => simp
    · obtain ⟨a, cp, e, hr, _⟩ := rowP_of_own hown (by omega)
      cases e
      exact RowP.below (RowP.below hr hb0) hb
  · rcases hown.2 with ⟨e, h0⟩ | ⟨g, cap, cur, e, hBg, hg, _⟩
    · omega
    · cases e
      have hgl : g < w.heap.size := (Array.getElem?_eq_some_iff.1 hg).1
      have hH := holds_of_own hown
      have hH1 := holds_block hH (hb0.block _ hgl)
      have hc := slice_big xs.toArray g c w.heap.size (w.alloc (.cells #[.slice (some ⟨g, 0, none⟩) xs.length c] 22)) (by simp; omega) (by simp; omega) hH1 (by omega) (by simp) (by omega) (by omega)
      rw [show xs.toArray.size = xs.length by simp] at hc
      refine hc.mono ?_
      rintro e w' ⟨rfl, d', hd, ⟨hp, hs⟩, hgr⟩
      obtain ⟨s1, s2, s3⟩ := sorted_list (xs := xs) (d' := d') (by simpa using hp) (by simpa using hs)
      have hsz' := hgr.size
      have hd' : d'.size = xs.length := by simpa using s1
      refine ⟨rfl, d'.toList, ⟨s1, s2, s3⟩, rowP_of_holds hd (by omega) (by omega), hgr.cell hcell (by simp; omega), by omega, ?_⟩
      exact (hb0.mono hB).grown hgr (by omega) (fun k hk => by cases hk; exact hBg)
end Go.Proofs.Ytalfjdpdecngoaa
