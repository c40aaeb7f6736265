/- A table is what it was made: for every list of names, every list of numbers and every number the function CatalogHolds of the package concordancekeep returns true, and leaves the lists as they were. No condition. The seat is set up under a lid of 40,000 MB (the word MEM), one law alone (the word GROUP): tuples of the pager with arrays of 2,000 cells want it in the set-up's check of types; no text of the claim itself wants more than 10,240. -/
import Derived.Test.YteijjaddlkedbaaGreatC21
import Derived.Test.YteijjaddlkedbaaGreatRows
import Derived.HandedShaped
import Derived.Shelf.Vars
import Derived.ProofKit
import Derived.SliceStrings
import Derived.ChangeSlices
namespace Go.Proofs.YteijjaddlkedbaaGreat
open Go.ChangeShapes Go.WideShapes Go.ChangeAt Go.RowKit

theorem cells9s : Tryz.prog.cellsOf 9 = 1 := by kernel_rfl
theorem cells3s : Tryz.prog.cellsOf 3 = 1 := by kernel_rfl
/-- a row of cells, as it is handed in -/
theorem view_of {W : World} {a : Addr} {len cap : Nat} {xs : List Value} (hl : len = xs.length) (h1 : len ≤ cap) (h2 : cap ≤ maxLen) (h0 : 0 < len) (hc : ∀ i (hi : i < xs.length), W.cell? (a.add i) = some xs[i]) : View 0 (.slice (some a) len cap) xs W := by
  obtain ⟨b, off, spot⟩ := a
  have hx0 := hc 0 (by omega)
  have hspot : spot = Option.none := by simpa [Addr.add] using World.cell?_spot hx0
  subst hspot
  have hbl : b < W.heap.size := by simpa [add_pl] using World.block_lt_of_cell? W _ hx0
  refine ⟨some ⟨b, off, Option.none⟩, cap, by rw [hl], by omega, h2, fun e => (by cases e), fun ad e => ?_⟩
  cases e
  exact ⟨b, off, rfl, Nat.zero_le _, hbl, fun i hi => by have := hc i hi; rw [add_pl] at this; exact this⟩
theorem weight_mem {H : Type} {P : Program} {t : TypeId} : ∀ {l : List (DataW H)} {d : DataW H}, d ∈ l → ∀ n ∈ d.weights P t, n ∈ DataW.weightsAll P t l
  | x :: l, d, hd, n, hn => by
    simp only [DataW.weightsAll, List.mem_append]
    rcases List.mem_cons.1 hd with rfl | hd
    · exact .inl hn
    · exact .inr (weight_mem hd n hn)
  | [], d, hd, _, _ => by cases hd
set_option maxRecDepth 100000 in
theorem holds_lifted (os : Os) (started : os.Started) (H : Type) (enc : TypeId × Value → H) :
    ReturnsInHanded {} Tryz.checked os 3 .any (Rows.catalogHoldsSpec.pre6 enc Tryz.prog Tryz.f3 Rows.catalogHoldsRow.domain false) (Rows.catalogHoldsSpec.post enc Tryz.prog Tryz.f3 false true false false) := by
  refine returnsInHanded_of_change_shaped (C := Tryz.checked) Tryz.own started (by kernel_rfl) Tryz.func3
    (ChangeSpec.witness6 (enc := enc) (C := Tryz.checked) false ⟨#[], #[.slice Option.none 0 0, .slice Option.none 0 0, .int .i64 0], []⟩ 8 (by kernel_rfl) (by kernel_rfl) (by kernel_rfl) (by kernel_rfl)) ?_
  intro W base args ds gs before hval0 hW hcnd hszs hsh _
  have hval : ∀ (j : Nat) t v, Tryz.f3.params[j]? = some t → args[j]? = some v → Value.okWide Tryz.prog W .any base t v := hval0
  have hsz0 : (DataW.weightsEach Tryz.prog (Tryz.f3.params.toList ++ Rows.catalogHoldsSpec.plain.varTypes Tryz.prog) (ds ++ gs)).all (· ≤ reachBytes) = true := hszs
  have hW' := hW
  obtain ⟨p, q, hA0, hV, rfl, hfz, hnd⟩ := hW
  have hA : DataW.TrodAll enc Tryz.prog W 0 (fun _ => true) true Tryz.f3.params.toList args.toList ds p := hA0
  rw [Tryz.params3] at hA hval hsz0
  obtain ⟨v0, v1, v2, d0, d1, d2, p0, p1, p2, rfl, rfl, rfl, h0, h1, h2⟩ := trodAll_three hA
  obtain ⟨rfl, rfl⟩ := trodVars_none hV
  obtain ⟨a0, len0, cap0, rfl⟩ := okWide_slice Tryz.underlying22 (hval 0 22 v0 rfl rfl)
  obtain ⟨a1, len1, cap1, rfl⟩ := okWide_slice Tryz.underlying23 (hval 1 23 v1 rfl rfl)
  obtain ⟨i2, rfl⟩ := okWide_int Tryz.underlying3 (hval 2 3 v2 rfl rfl)
  have lt0 : ∀ x ∈ p0, x.block < W.heap.size := by obtain ⟨m, hm⟩ := h0; exact DataW.trod_lt m _ _ _ hm
  have lt1 : ∀ x ∈ p1, x.block < W.heap.size := by obtain ⟨m, hm⟩ := h1; exact DataW.trod_lt m _ _ _ hm
  have lt2 : ∀ x ∈ p2, x.block < W.heap.size := by obtain ⟨m, hm⟩ := h2; exact DataW.trod_lt m _ _ _ hm
  have names : ∃ ss : List ByteArray, len0 = ss.length ∧ (0 < len0 → View 0 (.slice a0 len0 cap0) (ss.map Value.string) W) ∧ ∀ s ∈ ss, s.size ≤ 140737488351232 := by
    obtain ⟨fuel, hf⟩ := h0
    rcases open_strings Tryz.underlying22 Tryz.underlying9 cells9s hf with ⟨hcs, _⟩ | ⟨a, len', cap', ss, hcs, _, hl, hm, hz, hx, hcell, _⟩
    · simp [Value.cells] at hcs
      obtain ⟨rfl, rfl, rfl⟩ := hcs
      exact ⟨[], rfl, fun h => absurd h (by omega), fun s hs => by cases hs⟩
    · simp [Value.cells] at hcs
      obtain ⟨rfl, rfl, rfl⟩ := hcs
      simp only [if_true] at hz
      have hlen : (ss.take len0).length = len0 := by rw [List.length_take]; omega
      refine ⟨ss.take len0, hlen.symm, fun h => view_of (by rw [List.length_map, hlen]) hl hm h (fun i hi => ?_), fun s hs => ?_⟩
      · rw [List.length_map, hlen] at hi
        have := hcell i (by omega)
        rw [this]
        simp [List.getD_eq_getElem?_getD, show i < ss.length by omega]
      · have e0 : d0 = .slice (strs (ss.take len0)) (strs (ss.drop len0)) := congrArg Prod.fst hx
        have hmem : s.data.toList.length ∈ DataW.weights Tryz.prog 22 d0 := by
          rw [e0]
          simp only [DataW.weights, Tryz.underlying22, List.mem_cons, List.mem_append]
          refine .inr (.inl (weight_mem (d := .lit (.string s.data.toList)) ?_ _ (by simp [DataW.weights])))
          exact List.mem_map.2 ⟨s, hs, rfl⟩
        have := List.all_eq_true.1 hsz0 _ (DataW.weights_mem_each (j := 0) (t := 22) (d := d0) rfl rfl _ hmem)
        simp only [reachBytes, Array.length_toList] at this
        exact of_decide_eq_true this
  have drops : ∃ zs : List Int, len1 = zs.length ∧ (0 < len1 → View 0 (.slice a1 len1 cap1) (zs.map (Value.int .i64)) W) := by
    obtain ⟨fuel, hf⟩ := h1
    rcases open_ints Tryz.underlying23 Tryz.underlying3 cells3s hf with ⟨hcs, _⟩ | ⟨a, len', cap', zs, hcs, _, hl, hm, hz, hx, hcell, _⟩
    · simp [Value.cells] at hcs
      obtain ⟨rfl, rfl, rfl⟩ := hcs
      exact ⟨[], rfl, fun h => absurd h (by omega)⟩
    · simp [Value.cells] at hcs
      obtain ⟨rfl, rfl, rfl⟩ := hcs
      simp only [if_true] at hz
      have hlen : (zs.take len1).length = len1 := by rw [List.length_take]; omega
      refine ⟨zs.take len1, hlen.symm, fun h => view_of (by rw [List.length_map, hlen]) hl hm h (fun i hi => ?_)⟩
      rw [List.length_map, hlen] at hi
      have := hcell i (by omega)
      rw [this]
      simp [List.getD_eq_getElem?_getD, show i < zs.length by omega]
  obtain ⟨ss, hs0, hs1, hs2⟩ := names
  obtain ⟨zs, hz0, hz1⟩ := drops
  obtain ⟨m, hm⟩ := cell_of_shapedOpen_int (P := Tryz.prog) (g := 0) (t := 3) (zero := #[.int .i64 0]) hsh (of_decide_eq_true (by kernel_rfl)) (by kernel_rfl) rfl (by kernel_rfl) (by kernel_rfl) Tryz.underlying3
  clear hA0 hval0
  refine (holds_walk W hm hs1 hz1 hs0 hz0 hs2).mono fun e W' ⟨he, bel⟩ => ?_
  subst he
  exact ⟨_, rfl, _, _, _, [], _, [], hW', trodAll_mk1 (shut_bool Tryz.underlying4 _), (trodAll_mk3 (Below.trod Tryz.laidOut (by kernel_rfl) (of_decide_eq_true (by kernel_rfl)) h0 bel lt0) (Below.trod Tryz.laidOut (by kernel_rfl) (of_decide_eq_true (by kernel_rfl)) h1 bel lt1) (Below.trod Tryz.laidOut (by kernel_rfl) (of_decide_eq_true (by kernel_rfl)) h2 bel lt2)), rfl, bel.frame _, fun h => by cases h⟩
theorem catalogholds_holds : Rows.CatalogHoldsSaid :=
  OpenClaim.holds_of_wide 3 Tryz.f3 rfl rfl rfl rfl rfl rfl rfl ⟨rfl, rfl, rfl, rfl, rfl⟩ rfl rfl rfl rfl rfl (by kernel_rfl) Tryz.func3 (by kernel_rfl)
    (of_decide_eq_true (by kernel_rfl)) (by unfold Func.isWrapper; first | (rw [if_pos (by decide +kernel)]; kernel_rfl) | (rw [if_neg (by decide +kernel)]; exact ⟨rfl, rfl⟩))
    (fun os started H enc _ => holds_lifted os started H enc)
#print axioms catalogholds_holds
end Go.Proofs.YteijjaddlkedbaaGreat
