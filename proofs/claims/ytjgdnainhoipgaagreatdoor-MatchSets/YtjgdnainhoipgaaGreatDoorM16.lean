/- Texts of the proof of MatchSets: Tcl, Tco, Tcb, Tft. -/
import Derived.Test.YtjgdnainhoipgaaGreatDoorM15
import Derived.Laws.EntriesVeiled
namespace Go.Proofs.YtjgdnainhoipgaaGreatDoor
open Go.RowKit Go.Maps

theorem cell_of_block {wa wb : World} {b : Nat} (h : wb.heap[b]? = wa.heap[b]?) (o : Nat) : wb.cell? ⟨b, o, none⟩ = wa.cell? ⟨b, o, none⟩ := by simp only [World.cell?]; rw [h]
theorem grown_only {wa wb : World} {S : Nat → Prop} {k : Option Nat} (h : wa.grownBy wb k) (hk : ∀ b, k = some b → S b) : Only S wa wb :=
  ⟨h.os, h.tape, h.output, h.size, fun b hb hs => h.block b hb (fun e => hs (hk b e.symm))⟩
set_option maxRecDepth 100000 in
set_option maxHeartbeats 1000000 in
theorem collect_cl {fw Bf Bw Bl C : Nat} {cw : Array Value} {ps : List Pr} {wnt : Nat → ByteArray → Bool} {W : Nat → Prop} {I : Nat → World → Prop} (w : World) (from_ : ByteArray) (x : Pr) (n : Int) (hx : x.Ok) (hfw : Bf < Bw) (hwl : Bw < Bl) (hlc : Bl < C) (hC : C ≤ w.heap.size) (hn : ps.length ≤ 40000)
    (h1 : Own1 Bf (.string from_) w) (h2 : Own1 Bw (.func (.func fw) #[] cw) w) (h3 : Pvar Bl C ps w) (hW : ∀ b, W b → b < Bf) (eg : ∀ args w, (callFunc fw args).run Tryz.prog w = .ok (.enter fw args) w)
    (hI : I ps.length w) (hst : ∀ k wx wy, I k wx → Only (fun b => Bf ≤ b) wx wy → I k wy)
    (hc : ∀ k key wx, k ≤ 40000 → I k wx → Calls Tryz.prog fw (#[.string key] ++ cw) wx fun e w' => e = .returned (.bool (wnt k key)) ∧ I (k + 1) w' ∧ Only W wx w') :
    Calls Tryz.prog 133 #[.agg #[.string x.k, .string x.i], .int .i64 n, .pointer (some ⟨Bf, 0, none⟩), .pointer (some ⟨Bw, 0, none⟩), .pointer (some ⟨Bl, 0, none⟩)] w fun e w' =>
      (bl x.k from_ = true ∧ e = .returned (.bool true) ∧ Below w.heap.size w w') ∨ (bl x.k from_ = false ∧ wnt ps.length x.k = false ∧ e = .returned (.bool false) ∧ Pvar Bl C ps w' ∧ Only (fun b => W b ∨ b = Bl ∨ C ≤ b) w w') ∨
      (bl x.k from_ = false ∧ wnt ps.length x.k = true ∧ e = .returned (.bool true) ∧ Pvar Bl C (ps ++ [x]) w' ∧ I (ps.length + 1) w' ∧ Only (fun b => W b ∨ b = Bl ∨ C ≤ b) w w') := by
  obtain ⟨kx, ix⟩ := x
  obtain ⟨ok1, ok2, ok3⟩ := hx
  simp only at ok1 ok2 ok3 ⊢
  obtain ⟨v, l1, l2⟩ := h3
  have HST : Hid _ := hst
  have HL1 : Hid _ := l1
  have HL2 : Hid _ := l2
  have H1 : Hid _ := h1
  have H2 : Hid _ := h2
  have hB : Below w.heap.size w (w.alloc (.cells #[.string kx, .string ix] 142)) := (Below.refl _ w).alloc (Nat.le_refl _) _
  have HC : Hid (Calls Tryz.prog fw (#[.string kx] ++ cw) (w.alloc (.cells #[.string kx, .string ix] 142)) fun e w' => e = .returned (.bool (wnt ps.length kx)) ∧ I (ps.length + 1) w' ∧ Only W (w.alloc (.cells #[.string kx, .string ix] 142)) w') := hc ps.length kx _ hn (hst _ _ _ hI (below_only hB _))
  have HNV : Hid (v.ownBlock ≠ some w.heap.size) := fun e => absurd ((World.ownsRow.lt l2 _ e).2) (by omega)
  have c1 := (h1.below hB).cell
  have c2 := (h2.below hB).cell
  have HB : Hid _ := hB
  have HWW : Hid _ := hW
  clear hc l1 l2 h1 h2 hB hW hst hI
  cases hb : bl kx from_
  · have hb' : Op.bytesLess kx.toList from_.toList = false := hb
    cases hwt : wnt ps.length kx
    · rw [hwt] at HC
      go_enter Tryz.func133, Tryz.ntmps133
      go_wp2_with fail
      refine (show Calls _ _ _ _ _ from HC.out).mono ?_
      rintro _ w2 ⟨rfl, _, ho⟩
      have hWW := HWW.out
      have hlf := HL1.out.lt
      have HL3 : Hid (Own1 Bl v w2) := (HL1.out.below HB.out).only ho (fun e => by have := hWW _ e; omega)
      have HL4 : Hid (PRow C v ps w2) := row_only (World.ownsRow.alloc HL2.out _) ho (fun b e => by have := hWW _ e; omega)
      have HO2 : Hid (Only (fun b => W b ∨ b = Bl ∨ C ≤ b) w w2) := (below_only HB.out _).trans (ho.mono (fun _ e => .inl e)) (fun _ e => .inl e)
      clear ho hlf hWW
      go_wp2
      go_ret
      first | exact .inr (.inl ⟨trivial, trivial, rfl, ⟨_, HL3.out, HL4.out⟩, HO2.out⟩) | exact ⟨rfl, ⟨_, HL3.out, HL4.out⟩, HO2.out⟩
    · rw [hwt] at HC
      have HWT : Hid (wnt ps.length kx = true) := hwt
      obtain ⟨i0, hi, hz0, hz1, hz2⟩ := info64
      clear hwt
      go_enter Tryz.func133, Tryz.ntmps133
      go_wp2_with fail
      refine (show Calls _ _ _ _ _ from HC.out).mono ?_
      rintro _ w2 ⟨rfl, hi2, ho⟩
      have hlf := HL1.out.lt
      have hWW := HWW.out
      have HI2 : Hid (I (ps.length + 1) w2) := hi2
      have HV2 : Hid (Var2 w.heap.size (.string kx) (.string ix) w2) := (Var2.new w _ _ 142).only ho (fun e => by have := hWW _ e; omega)
      have HL3 : Hid (Own1 Bl v w2) := (HL1.out.below HB.out).only ho (fun e => by have := hWW _ e; omega)
      have HL4 : Hid (PRow C v ps w2) := row_only (World.ownsRow.alloc HL2.out _) ho (fun b e => by have := hWW _ e; omega)
      have HO2 : Hid (Only (fun b => W b ∨ b = Bl ∨ C ≤ b) w w2) := (below_only HB.out _).trans (ho.mono (fun _ e => .inl e)) (fun _ e => .inl e)
      clear ho hlf hWW hi2 c1 c2
      go_wp2_with fail
      refine wp_region_late (S := fun wx => wx.cell? ⟨w.heap.size, 0, none⟩ = some (.string kx) ∧ wx.cell? ⟨w.heap.size, 1, none⟩ = some (.string ix) ∧ wx.cell? ⟨Bl, 0, none⟩ = some v) (js := 10) (by kernel_rfl) (⟨HV2.out.c0, HV2.out.c1, HL3.out.cell⟩) ?_
      intro g0
      refine wpAnyL_take (i := 0) (oi := { dst := some 17, op := Op.load 138 (Operand.tmp 4), type := 138, pos := "tree.go:125", after := #[], guard := none }) (v := v) rfl (by kernel_rfl) (by kernel_rfl) (by kernel_rfl) (fun _ _ _ h => h) (by decide) (by kernel_rfl) (Or.inl ⟨by rfl, fun wx h => by have h8 := h.2.2; go_simp⟩) g0 ?_
      simp only [Act.put, List.setIfInBounds_toArray, List.set_cons_zero, List.set_cons_succ]
      refine wpAnyL_take (i := 1) (oi := { dst := some 18, op := Op.fieldAddr 142 (Operand.tmp 5) 0, type := 0, pos := "tree.go:125", after := #[], guard := none }) (v := .pointer (some ⟨w.heap.size, 0, none⟩)) rfl (by kernel_rfl) (by kernel_rfl) (by kernel_rfl) (fun _ _ _ h => h) (by decide) (by kernel_rfl) (Or.inl ⟨by rfl, fun wx _ => by go_simp⟩) g0 ?_
      simp only [Act.put, List.setIfInBounds_toArray, List.set_cons_zero, List.set_cons_succ]
      refine wpAnyL_take (i := 2) (oi := { dst := some 19, op := Op.load 9 (Operand.tmp 18), type := 9, pos := "tree.go:125", after := #[{ on := 1, ground := Ground.data }], guard := none }) (v := .string kx) rfl (by kernel_rfl) (by kernel_rfl) (by kernel_rfl) (fun _ _ _ h => h) (by decide) (by kernel_rfl) (Or.inl ⟨by rfl, fun wx h => by have h8 := h.1; go_simp⟩) g0 ?_
      simp only [Act.put, List.setIfInBounds_toArray, List.set_cons_zero, List.set_cons_succ]
      refine wpAnyL_take (i := 4) (oi := { dst := some 21, op := Op.fieldAddr 142 (Operand.tmp 5) 1, type := 0, pos := "tree.go:125", after := #[], guard := none }) (v := .pointer (some ⟨w.heap.size, 1, none⟩)) rfl (by kernel_rfl) (by kernel_rfl) (by kernel_rfl) (fun _ _ _ h => h) (by decide) (by kernel_rfl) (Or.inl ⟨by rfl, fun wx _ => by go_simp⟩) g0 ?_
      simp only [Act.put, List.setIfInBounds_toArray, List.set_cons_zero, List.set_cons_succ]
      refine wpAnyL_take (i := 5) (oi := { dst := some 22, op := Op.load 9 (Operand.tmp 21), type := 9, pos := "tree.go:125", after := #[{ on := 4, ground := Ground.data }], guard := none }) (v := .string ix) rfl (by kernel_rfl) (by kernel_rfl) (by kernel_rfl) (fun _ _ _ h => h) (by decide) (by kernel_rfl) (Or.inl ⟨by rfl, fun wx h => by have h8 := h.2.1; go_simp⟩) g0 ?_
      simp only [Act.put, List.setIfInBounds_toArray, List.set_cons_zero, List.set_cons_succ]
      refine wpAnyL_one (i := 3) (o := { dst := some 20, op := Op.call { callee := Callee.value (Operand.func 57), args := #[Operand.tmp 19], argTypes := #[9] }, type := 9, pos := "tree.go:125", after := #[{ on := 2, ground := Ground.data }], guard := none }) (by kernel_rfl) rfl (by decide) (by rfl) (fun K hK => ?_)
      go_simp
      refine (clone_any kx _ (by omega)).mono ?_
      rintro _ w3 ⟨rfl, hb3⟩
      have HB3 : Hid _ := hb3
      clear hb3
      refine hK.out _ _ (⟨keepc HB3.out g0.1, keepc HB3.out g0.2.1, keepc HB3.out g0.2.2⟩) (fun g1 => ?_)
      clear hK K
      try simp only [Act.put, List.setIfInBounds_toArray, List.set_cons_zero, List.set_cons_succ]
      refine wpAnyL_one (i := 6) (o := { dst := some 23, op := Op.call { callee := Callee.value (Operand.func 57), args := #[Operand.tmp 22], argTypes := #[9] }, type := 9, pos := "tree.go:125", after := #[{ on := 5, ground := Ground.data }, { on := 3, ground := Ground.chain }], guard := none }) (by kernel_rfl) rfl (by decide) (by rfl) (fun K hK => ?_)
      go_simp
      refine (clone_any ix _ (by omega)).mono ?_
      rintro _ w4 ⟨rfl, hb4⟩
      have HB4 : Hid _ := hb4
      clear hb4
      refine hK.out _ _ (⟨keepc HB4.out g1.1, keepc HB4.out g1.2.1, keepc HB4.out g1.2.2⟩) (fun g2 => ?_)
      clear hK K
      try simp only [Act.put, List.setIfInBounds_toArray, List.set_cons_zero, List.set_cons_succ]
      refine wpAnyL_take (i := 7) (oi := { dst := some 24, op := Op.build 142 #[(0, Operand.tmp 20), (1, Operand.tmp 23)], type := 142, pos := "tree.go:125", after := #[{ on := 3, ground := Ground.data }, { on := 6, ground := Ground.data }], guard := none }) (v := .agg #[.string kx, .string ix]) rfl (by kernel_rfl) (by kernel_rfl) (by kernel_rfl) (fun _ _ _ h => h) (by decide) (by kernel_rfl) (Or.inl ⟨by rfl, fun wx _ => by go_simp⟩) g2 ?_
      simp only [Act.put, List.setIfInBounds_toArray, List.set_cons_zero, List.set_cons_succ]
      refine wpAnyL_one (i := 8) (o := { dst := some 25, op := Op.buildSlice 138 1 #[(0, Operand.tmp 24)], type := 138, pos := "tree.go:125", after := #[{ on := 7, ground := Ground.data }], guard := none }) (by kernel_rfl) rfl (by decide) (by rfl) (fun K hK => ?_)
      have HB5 : Hid (Below w4.heap.size w4 (w4.alloc (.cells #[.string kx, .string ix] 142))) := (Below.refl _ _).alloc (Nat.le_refl _) _
      go_simp
      try simp only [Act.put, List.setIfInBounds_toArray, List.set_cons_zero, List.set_cons_succ]
      refine hK.out _ _ (⟨keepc HB5.out g2.1, keepc HB5.out g2.2.1, keepc HB5.out g2.2.2⟩) (fun g3 => ?_)
      clear hK K
      try simp only [Act.put, List.setIfInBounds_toArray, List.set_cons_zero, List.set_cons_succ]
      have HRW : Hid (PRow C v ps (w4.alloc (.cells #[.string kx, .string ix] 142))) := row_only (row_only (row_only (row_only HL4.out (below_only (Below.refl _ w2).drew (fun _ => False)) (fun _ e => e.elim)) (below_only HB3.out (fun _ => False)) (fun _ e => e.elim)) (below_only HB4.out (fun _ => False)) (fun _ e => e.elim)) (below_only HB5.out (fun _ => False)) (fun _ e => e.elim)
      have HO5 : Hid (Only (fun b => W b ∨ b = Bl ∨ C ≤ b) w (w4.alloc (.cells #[.string kx, .string ix] 142))) := (((HO2.out.trans (below_only (Below.refl _ w2).drew _) (fun _ e => .inl e)).trans (below_only HB3.out _) (fun _ e => .inl e)).trans (below_only HB4.out _) (fun _ e => .inl e)).trans (below_only HB5.out _) (fun _ e => .inl e)
      have HOW5 : Hid (Own1 Bl v (w4.alloc (.cells #[.string kx, .string ix] 142))) := (((HL3.out.drew).below HB3.out).below HB4.out).below HB5.out
      have HI5 : Hid (I (ps.length + 1) (w4.alloc (.cells #[.string kx, .string ix] 142))) := HST.out _ _ _ HI2.out ((((below_only (Below.refl _ w2).drew _).trans (below_only HB3.out _) (fun _ e => .inl e)).trans (below_only HB4.out _) (fun _ e => .inl e)).trans (below_only HB5.out _) (fun _ e => .inl e))
      have HSZ5 : Hid (C ≤ (w4.alloc (.cells #[.string kx, .string ix] 142)).heap.size) := Nat.le_trans hC HO5.out.size
      refine wpAnyL_one (i := 9) (o := { dst := some 26, op := Op.call { callee := Callee.builtin Builtin.append, args := #[Operand.tmp 17, Operand.tmp 25], argTypes := #[138, 138] }, type := 138, pos := "tree.go:125", after := #[{ on := 0, ground := Ground.data }, { on := 8, ground := Ground.data }, { on := 6, ground := Ground.chain }], guard := none }) (by kernel_rfl) rfl (by decide) (by rfl) (fun K hK => ?_)
      refine wp_append_own _ _ _ 138 rfl C 142 i0 (.agg #[.string ⟨#[]⟩, .string ⟨#[]⟩]) 2 32 Tryz.underlying138 hi hz0 hz1 hz2 rfl (by decide) _ _ _ rfl HRW.out ⟨w4.heap.size, 0, none⟩ 1 1 [.string kx, .string ix] rfl rfl (news_two w4 _ _ 142) (by intro u hu; simp at hu; rcases hu with rfl | rfl <;> rfl) (by simp only [maxLen]; omega) (by omega) (by have := HSZ5.out; omega) ?_
      intro v' w' hO hG hN
      have hne : some Bl ≠ v.ownBlock := fun e => absurd ((World.ownsRow.lt HRW.out Bl e.symm).1) (by omega)
      have hne2 : some w.heap.size ≠ v.ownBlock := fun e => HNV.out e.symm
      obtain ⟨z5, hz5⟩ : ∃ z5, w4.alloc (.cells #[.string kx, .string ix] 142) = z5 := ⟨_, rfl⟩
      rw [hz5] at hG g3 HOW5 HI5 HO5 HRW
      have HOW6 : Hid (Own1 Bl v w') := HOW5.out.block (hG.block Bl HOW5.out.lt hne)
      have hl6 := World.block_lt_of_cell? z5 _ g3.1
      have hOn : Only (fun b => C ≤ b) z5 w' := grown_only hG (fun k e => by have := (World.ownsRow.lt HRW.out k e).1; omega)
      refine hK.out _ _ (⟨(cell_of_block (hG.block _ hl6 hne2) _).trans g3.1, (cell_of_block (hG.block _ hl6 hne2) _).trans g3.2.1, HOW6.out.cell⟩) (fun g4 => ?_)
      clear hK K
      try simp only [Act.put, List.setIfInBounds_toArray, List.set_cons_zero, List.set_cons_succ]
      refine wpAnyL_last (o := { dst := none, op := Op.store 138 (Operand.tmp 4) (Operand.tmp 26), type := 0, pos := "tree.go:125", after := #[{ on := 9, ground := Ground.data }, { on := 9, ground := Ground.chain }, { on := 0, ground := Ground.phase }, { on := 1, ground := Ground.phase }, { on := 2, ground := Ground.phase }, { on := 3, ground := Ground.phase }, { on := 4, ground := Ground.phase }, { on := 5, ground := Ground.phase }, { on := 6, ground := Ground.phase }, { on := 7, ground := Ground.phase }, { on := 8, ground := Ground.phase }, { on := 9, ground := Ground.phase }], guard := none }) (by kernel_rfl) (by kernel_rfl) rfl (by rfl) (fun K hK => ?_)
      obtain ⟨g, cap, hv', hg1, hg2⟩ := World.ownsRow.form hO (by omega)
      subst hv'
      have c1 := HOW6.out.cell
      have c2 := HOW6.out.free
      go_simp
      refine hK.out _ _ ?_
      clear hK K
      try simp only [Act.put, List.setIfInBounds_toArray, List.set_cons_zero, List.set_cons_succ]
      go_wp2
      go_ret
      refine ⟨rfl, ⟨_, HOW6.out.set _, ?_⟩, ?_, ?_⟩
      · show World.ownsRow _ _ _ _ _ _ _
        rw [List.flatMap_append, List.length_append]
        exact row_far hO (by omega)
      · exact HST.out _ _ _ HI5.out ((hOn.mono (fun _ e => by omega)).trans (Only.set Bl 0 _ _) (fun _ e => .inl (by omega)))
      · exact (HO5.out.trans (hOn.mono (fun _ e => .inr (.inr e))) (fun _ e => .inl e)).trans (Only.set Bl 0 _ _) (fun _ e => .inl (.inr (.inl e)))
  · have hb' : Op.bytesLess kx.toList from_.toList = true := hb
    go_enter Tryz.func133, Tryz.ntmps133
    go_wp2
    go_ret
    first | exact .inl ⟨trivial, rfl, HB.out⟩ | exact ⟨rfl, HB.out⟩
end Go.Proofs.YtjgdnainhoipgaaGreatDoor
namespace Go.Proofs.YtjgdnainhoipgaaGreatDoor
open Go.RowKit Go.Maps

def walkL (wnt : Nat → ByteArray → Bool) (from_ : ByteArray) : Nat → List Pr → List Pr
  | _, [] => []
  | k, x :: r => if bl x.k from_ = true then walkL wnt from_ k r else if wnt k x.k = true then x :: walkL wnt from_ (k + 1) r else []
section
variable {wnt : Nat → ByteArray → Bool} {from_ : ByteArray}
theorem walkL_len : ∀ (l : List Pr) (k : Nat), (walkL wnt from_ k l).length ≤ l.length
  | [], _ => Nat.le_refl _
  | x :: r, k => by
    unfold walkL
    split
    · exact Nat.le_trans (walkL_len r k) (by simp)
    · split
      · simp only [List.length_cons]; have := walkL_len r (k + 1); omega
      · simp
theorem walkL_skip : ∀ (l m : List Pr) (k : Nat), (∀ x ∈ l, bl x.k from_ = true) → walkL wnt from_ k (l ++ m) = walkL wnt from_ k m
  | [], _, _, _ => rfl
  | x :: r, m, k, h => by
    rw [List.cons_append, walkL, if_pos (h x (by simp))]
    exact walkL_skip r m k (fun y hy => h y (by simp [hy]))
theorem len_szL : ∀ l : List Pr, l.length ≤ szL l
  | [] => Nat.le_refl _
  | x :: r => by
    have := len_szL r
    rw [szL, List.length_cons]
    unfold Pr.sz
    omega
/-- where collecting stands -/
structure ColE (wnt : Nat → ByteArray → Bool) (from_ : ByteArray) (I : Nat → World → Prop) (W : Nat → Prop) (fw Bf Bw Bl C : Nat) (cw : Array Value) (w0 : World) (ps : List Pr) (wx : World) : Prop where
  o1 : Own1 Bf (.string from_) wx
  o2 : Own1 Bw (.func (.func fw) #[] cw) wx
  pv : Pvar Bl C ps wx
  ii : I ps.length wx
  on : Only (fun b => W b ∨ b = Bl ∨ C ≤ b) w0 wx
  hC : C ≤ wx.heap.size
/-- what is the same for all pairs -/
structure ColC (wnt : Nat → ByteArray → Bool) (I : Nat → World → Prop) (W : Nat → Prop) (fw Bf Bw Bl C : Nat) (cw : Array Value) : Prop where
  fb : Bf < Bw
  wl : Bw < Bl
  lc : Bl < C
  hW : ∀ b, W b → b < Bf
  eg : ∀ args w, (callFunc fw args).run Tryz.prog w = .ok (.enter fw args) w
  hst : ∀ k wx wy, I k wx → Only (fun b => Bf ≤ b) wx wy → I k wy
  hc : ∀ k key wx, k ≤ 40000 → I k wx → Calls Tryz.prog fw (#[.string key] ++ cw) wx fun e w' => e = .returned (.bool (wnt k key)) ∧ I (k + 1) w' ∧ Only W wx w'
variable {I : Nat → World → Prop} {W : Nat → Prop} {fw Bf Bw Bl C : Nat} {cw : Array Value} {w0 wx wy : World} {ps : List Pr}
theorem Pvar.only {S : Nat → Prop} (h : Pvar Bl C ps wx) (ho : Only S wx wy) (h1 : ¬ S Bl) (h2 : ∀ b, S b → b < C) : Pvar Bl C ps wy := by
  obtain ⟨v, k1, k2⟩ := h
  exact ⟨v, k1.only ho h1, row_only k2 ho h2⟩
theorem ColE.below (hc : ColC wnt I W fw Bf Bw Bl C cw) (h : ColE wnt from_ I W fw Bf Bw Bl C cw w0 ps wx) (hb : Below wx.heap.size wx wy) : ColE wnt from_ I W fw Bf Bw Bl C cw w0 ps wy :=
  ⟨h.o1.below hb, h.o2.below hb, h.pv.only (below_only hb (fun _ => False)) (fun e => e) (fun _ e => e.elim), hc.hst _ _ _ h.ii (below_only hb _), h.on.trans (below_only hb _) (fun _ e => .inl e), Nat.le_trans h.hC hb.size⟩
theorem ColE.drew (hc : ColC wnt I W fw Bf Bw Bl C cw) (h : ColE wnt from_ I W fw Bf Bw Bl C cw w0 ps wx) : ColE wnt from_ I W fw Bf Bw Bl C cw w0 ps wx.drew := h.below hc (Below.refl _ wx).drew
/-- what is at the end -/
def ColD (W : Nat → Prop) (Bl C : Nat) (w0 : World) (fin : List Pr) (wx : World) : Prop := Pvar Bl C fin wx ∧ Only (fun b => W b ∨ b = Bl ∨ C ≤ b) w0 wx
theorem ColE.step (hc : ColC wnt I W fw Bf Bw Bl C cw) (h : ColE wnt from_ I W fw Bf Bw Bl C cw w0 ps wx) (x : Pr) (hx : x.Ok) (n : Int) (hn : ps.length ≤ 40000) (rest : List Pr) :
    Calls Tryz.prog 133 #[.agg #[.string x.k, .string x.i], .int .i64 n, .pointer (some ⟨Bf, 0, none⟩), .pointer (some ⟨Bw, 0, none⟩), .pointer (some ⟨Bl, 0, none⟩)] wx fun e w' =>
      ∃ b, e = .returned (.bool b) ∧ (if b then ∃ ps', ColE wnt from_ I W fw Bf Bw Bl C cw w0 ps' w' ∧ ps' ++ walkL wnt from_ ps'.length rest = ps ++ walkL wnt from_ ps.length (x :: rest) else ColD W Bl C w0 (ps ++ walkL wnt from_ ps.length (x :: rest)) w') := by
  refine (collect_cl wx from_ x n hx hc.fb hc.wl hc.lc h.hC hn h.o1 h.o2 h.pv hc.hW hc.eg h.ii hc.hst hc.hc).mono ?_
  have hf : ¬ (W Bf ∨ Bf = Bl ∨ C ≤ Bf) := by
    have := hc.hW Bf; have := hc.fb; have := hc.wl; have := hc.lc
    rintro (e | e | e)
    · have := hc.hW _ e; omega
    · omega
    · omega
  have hw : ¬ (W Bw ∨ Bw = Bl ∨ C ≤ Bw) := by
    have := hc.fb; have := hc.wl; have := hc.lc
    rintro (e | e | e)
    · have := hc.hW _ e; omega
    · omega
    · omega
  rintro e w' (⟨h1, rfl, h2⟩ | ⟨h1, h2, rfl, h3, h4⟩ | ⟨h1, h2, rfl, h3, h4, h5⟩)
  · refine ⟨true, rfl, ps, h.below hc h2, ?_⟩
    rw [walkL, if_pos h1]
  · refine ⟨false, rfl, ?_, h.on.trans h4 (fun _ e => .inl e)⟩
    rw [walkL, if_neg (by rw [h1]; decide), if_neg (by rw [h2]; decide), List.append_nil]
    exact h3
  · refine ⟨true, rfl, ps ++ [x], ⟨h.o1.only h5 hf, h.o2.only h5 hw, h3, ?_, h.on.trans h5 (fun _ e => .inl e), Nat.le_trans h.hC h5.size⟩, ?_⟩
    · rw [List.length_append]; exact h4
    · rw [List.length_append, walkL, if_neg (by rw [h1]; decide), if_pos h2, List.append_assoc]
      rfl
set_option maxRecDepth 100000 in
theorem collect2_any {Bt : Nat} (hc : ColC wnt I W fw Bf Bw Bl C cw) (h : ColE wnt from_ I W fw Bf Bw Bl C cw w0 ps wx) (ht : Own1 Bt (.func (.func 133) #[] #[.pointer (some ⟨Bf, 0, none⟩), .pointer (some ⟨Bw, 0, none⟩), .pointer (some ⟨Bl, 0, none⟩)]) wx) {L rest fin : List Pr} (hok : ∀ x ∈ L, x.Ok) (hs : szL L ≤ 4096)
    (hfin : ps ++ walkL wnt from_ ps.length (L ++ rest) = fin) (hlen : fin.length ≤ 40000) :
    Calls Tryz.prog 134 #[.string (leafB L), .pointer (some ⟨Bt, 0, none⟩)] wx fun e w' => ∃ b, e = .returned (.bool b) ∧ (if b then ∃ ps', ColE wnt from_ I W fw Bf Bw Bl C cw w0 ps' w' ∧ ps' ++ walkL wnt from_ ps'.length rest = fin else ColD W Bl C w0 fin w') := by
  have HE : Hid _ := h
  have HC : Hid _ := hc
  have c0 := ht.cell
  have HF : Hid _ := hfin
  clear h hc ht hfin
  go_enter Tryz.func134, Tryz.ntmps134
  go_wp2_with fail
  refine (each_any (fun j wy => ∃ ps', ColE wnt from_ I W fw Bf Bw Bl C cw w0 ps' wy ∧ ps' ++ walkL wnt from_ ps'.length (L.drop j ++ rest) = fin) (fun wy => ColD W Bl C w0 fin wy) (enters_of Tryz.func133 (by kernel_rfl) rfl) (leafB_leaf hok hs) (fun j wy hh => by
      obtain ⟨ps', k1, k2⟩ := hh
      exact ⟨ps', k1.drew HC.out, k2⟩) (fun j hj wy hh => ?_) _ ⟨ps, HE.out, by rw [List.drop_zero]; exact HF.out⟩).mono ?_
  · obtain ⟨ps', k1, k2⟩ := hh
    rw [List.drop_eq_getElem_cons hj, List.cons_append] at k2
    have hl : ps'.length ≤ 40000 := by
      have := congrArg List.length k2
      rw [List.length_append] at this
      omega
    refine (k1.step HC.out L[j] (hok _ (List.getElem_mem hj)) _ hl (L.drop (j + 1) ++ rest)).mono ?_
    rintro e w' ⟨b, rfl, hb⟩
    refine ⟨b, rfl, ?_⟩
    cases b
    · simp only [Bool.false_eq_true, if_false] at hb ⊢
      rw [k2] at hb
      exact hb
    · simp only [if_true] at hb ⊢
      obtain ⟨p2, e1, e2⟩ := hb
      exact ⟨p2, e1, e2.trans k2⟩
  rintro e w' ⟨b, rfl, hb⟩
  have HB : Hid _ := hb
  clear hb
  go_wp2
  go_ret
  cases b
  · exact ⟨false, rfl, HB.out⟩
  · obtain ⟨ps', k1, k2⟩ := HB.out
    rw [List.drop_length] at k2
    exact ⟨true, rfl, ps', k1, k2⟩
end
end Go.Proofs.YtjgdnainhoipgaaGreatDoor
namespace Go.Proofs.YtjgdnainhoipgaaGreatDoor
open Go.RowKit Go.Maps

theorem row_base {w : World} {base base2 size n : Nat} {e : TypeId} {v : Value} {xs : List Value} (h : w.ownsRow base e size v n xs) (hb : base2 ≤ base) : w.ownsRow base2 e size v n xs := by
  refine ⟨h.1, ?_⟩
  rcases h.2 with h2 | ⟨g, cap, cur, h1, h2, h3, h4⟩
  · exact .inl h2
  · exact .inr ⟨g, cap, cur, h1, Nat.le_trans hb h2, h3, h4⟩
theorem below_only_of {B : Nat} {S : Nat → Prop} {w w' : World} (h : Below B w w') (hS : ∀ b, B ≤ b → S b) : Only S w w' := ⟨h.os, h.tape, h.output, h.size, fun k _ hs => h.block k (Nat.lt_of_not_le (fun e => hs (hS k e)))⟩
/-- what stands in leaves ahead of a spot's stands ahead of its key -/
theorem SpotR.lessAll {T : Tr} {key txt : ByteArray} {l a b : Nat} (h : SpotR T key l txt a b) (ok : LsOk T.Ls) : ∀ x ∈ (T.Ls.take l).flatten, bl x.k key = true := by
  rcases h with ⟨h1, _⟩ | h
  · rw [h1]; simp
  · intro x hx
    obtain ⟨L, hL, hxL⟩ := List.mem_flatten.1 hx
    obtain ⟨i, hi, rfl⟩ := List.getElem_of_mem hL
    rw [List.length_take] at hi
    rw [List.getElem_take] at hxL
    obtain ⟨y, hy, hyk⟩ := ok.first_mem h.lt
    have h1 := ok.apart (i := i) (j := l) (by omega) h.lt hxL hy
    have h2 := h.left l (by omega) (Nat.le_refl _) h.lt
    rw [hyk] at h1
    rcases bl_tri x.k key with e | e | e
    · exact e
    · rw [e] at h1; rw [h1] at h2; cases h2
    · rw [bl_trans e h1] at h2; cases h2
section
variable {bt bp bd bm N r : Nat} {s : St} {up : Nat → Bool} {cm : Int} {V : Pst} {wnt : Nat → ByteArray → Bool} {I : Nat → World → Prop} {W : Nat → Prop} {fw : Nat} {cw : Array Value}
set_option maxRecDepth 100000 in
set_option maxHeartbeats 1000000 in
theorem collect_any (w : World) (hT : Tt bt bp r w) (h : Tw bp bd bm N s up cm V w) {T : Tr} (hA : TrAt V r T) (from_ : ByteArray)
    (hW : ∀ b, W b → b < w.heap.size ∧ b ≠ bt ∧ b ≠ bp ∧ b ≠ bd ∧ b ≠ bm) (eg : ∀ args w, (callFunc fw args).run Tryz.prog w = .ok (.enter fw args) w)
    (hI : I 0 w) (hst : ∀ k wx wy, I k wx → Only (fun b => w.heap.size ≤ b) wx wy → I k wy)
    (hc : ∀ k key wx, k ≤ 40000 → I k wx → Calls Tryz.prog fw (#[.string key] ++ cw) wx fun e w' => e = .returned (.bool (wnt k key)) ∧ I (k + 1) w' ∧ Only W wx w') :
    Calls Tryz.prog 97 #[.pointer (some ⟨bt, 0, none⟩), .string from_, .func (.func fw) #[] cw] w fun e w' => ∃ v, e = .returned (.tuple #[v, .nilIface]) ∧ PRow w.heap.size v (walkL wnt from_ 0 T.all) w' ∧ Only W w w' := by
  have HA : Hid _ := hA
  have HT : Hid _ := hT
  have HW : Hid _ := h
  have hmf : ∀ (fn : Fn) (first cap : Array Value) (w : World), (Instr.makeFunc fn first cap).run Tryz.prog w = .ok (.func fn first cap) w := fun _ _ _ _ => rfl
  have HI : Hid (I 0 w) := hI
  have HST : Hid _ := hst
  have HC : Hid _ := hc
  have HWW : Hid _ := hW
  have HB0 : Hid (Below w.heap.size w ((w.alloc (.cells #[.string from_] 9)).alloc (.cells #[.func (.func fw) #[] cw] 158))) := ((Below.refl _ w).alloc (Nat.le_refl _) _).alloc (by simp) _
  have HT0 : Hid _ := hT.below HB0.out
  have HW0 : Hid _ := h.below HB0.out
  have n1 := Own1.new w (.string from_) 9
  have HO1 : Hid (Own1 w.heap.size (.string from_) ((w.alloc (.cells #[.string from_] 9)).alloc (.cells #[.func (.func fw) #[] cw] 158))) := n1.below ((Below.refl _ _).alloc (Nat.le_refl _) _)
  have HO2 : Hid (Own1 (w.heap.size + 1) (.func (.func fw) #[] cw) ((w.alloc (.cells #[.string from_] 9)).alloc (.cells #[.func (.func fw) #[] cw] 158))) := by
    have := Own1.new (w.alloc (.cells #[.string from_] 9)) (.func (.func fw) #[] cw) 158
    rw [World.size_alloc] at this
    exact this
  have q1 := HO1.out.cell
  clear hA hT h hI hst hc hW n1
  go_enter Tryz.func97, Tryz.ntmps97
  go_wp2_with fail
  refine (seek_any HT0.out HW0.out HA.out from_).mono ?_
  rintro _ w1 ⟨v, l, txt, a, b, rfl, hs, hv1, hb1⟩
  have HS : Hid _ := hs
  obtain ⟨a9, cap9, hv9, _⟩ := hv1.is
  rw [ints_len] at hv9
  obtain ⟨n9, hn9⟩ : ∃ n, T.ks.length = n := ⟨_, rfl⟩
  rw [hn9] at hv9
  subst hv9
  have HV1 : Hid _ := hv1
  have HO11 : Hid _ := HO1.out.below hb1
  have HO21 : Hid _ := HO2.out.below hb1
  have HB1 : Hid (Below w.heap.size w w1) := HB0.out.trans (hb1.mono HB0.out.size)
  have HNN : Hid _ := hn9
  have HSZ : Hid (w.heap.size + 1 + 1 ≤ w1.heap.size) := by have := hb1.size; simp at this; exact this
  have hll : l ≤ n9 := by
    rcases hs with ⟨_, h2, _⟩ | h2
    · omega
    · have := h2.lt; rw [← HA.out.len, hn9] at this; omega
  obtain ⟨v', hv2, hcut⟩ := hv1.cut l n9 hll (by rw [ints_len, hn9]; exact Nat.le_refl _)
  have hsl : ∀ wx, (Instr.slice 68 (.slice a9 n9 cap9) (some (.int .i64 (l : Nat))) none none).run Tryz.prog wx = .ok v' wx := fun wx => ((hcut Tryz.underlying68 elem93 size3 (l : Nat) (n9 : Nat) rfl rfl wx).2.2 (by rw [ints_len, hn9]))
  have hdr : ((ints T.ks).drop l).take (n9 - l) = ints (T.ks.drop l) := by
    rw [List.take_of_length_le (by rw [List.length_drop, ints_len, hn9]; exact Nat.le_refl _)]
    exact (List.map_drop ..).symm
  rw [hdr] at hv2
  have HV2 : Hid (View (w.heap.size + 1 + 1) v' (ints (T.ks.drop l)) w1) := by show View _ _ _ _; simpa using hv2
  have HT1 : Hid (Tt bt bp r w1) := HT.out.below HB1.out
  have HW1 : Hid (Tw bp bd bm N s up cm V w1) := HW.out.below HB1.out
  obtain ⟨a8, cap8, hv8, _⟩ := hv2.is
  generalize (ints (List.drop l T.ks)).length = n8 at hv8
  subst hv8
  clear hs hv1 hb1 hn9 HB0 HT0 HW0 HO1 HO2 q1 hcut hv2 hdr hll HV1
  go_wp2_with fail
  obtain ⟨wB, hwB⟩ : ∃ wB, ((w1.alloc (.cells #[.int .i64 (T.top : Nat), .slice a9 n9 cap9, .int .i64 (l : Nat), .string txt, .int .i64 (a : Nat), .int .i64 (b : Nat)] 132)).alloc (.cells #[.slice none 0 0] 138)).alloc (.cells #[.func (.func 133) #[] #[.pointer (some ⟨w.heap.size, 0, none⟩), .pointer (some ⟨w.heap.size + 1, 0, none⟩), .pointer (some ⟨w1.heap.size + 1, 0, none⟩)]] 202) = wB := ⟨_, rfl⟩
  have hbB : Below w1.heap.size w1 wB := by rw [← hwB]; exact (((Below.refl _ w1).alloc (Nat.le_refl _) _).alloc (by simp) _).alloc (by simp; omega) _
  have hszB : wB.heap.size = w1.heap.size + 1 + 1 + 1 := by rw [← hwB]; simp
  have HPV : Hid (Pvar (w1.heap.size + 1) (w1.heap.size + 1 + 1 + 1) [] wB) := by
    refine ⟨.slice none 0 0, ?_, World.ownsRow_nil _ _ _ _⟩
    rw [← hwB]
    have := Own1.new (w1.alloc (.cells #[.int .i64 (T.top : Nat), .slice a9 n9 cap9, .int .i64 (l : Nat), .string txt, .int .i64 (a : Nat), .int .i64 (b : Nat)] 132)) (.slice none 0 0) 138
    rw [World.size_alloc] at this
    exact this.below ((Below.refl _ _).alloc (Nat.le_refl _) _)
  have HTK : Hid (Own1 (w1.heap.size + 1 + 1) (.func (.func 133) #[] #[.pointer (some ⟨w.heap.size, 0, none⟩), .pointer (some ⟨w.heap.size + 1, 0, none⟩), .pointer (some ⟨w1.heap.size + 1, 0, none⟩)]) wB) := by
    rw [← hwB]
    have := Own1.new ((w1.alloc (.cells #[.int .i64 (T.top : Nat), .slice a9 n9 cap9, .int .i64 (l : Nat), .string txt, .int .i64 (a : Nat), .int .i64 (b : Nat)] 132)).alloc (.cells #[.slice none 0 0] 138)) (.func (.func 133) #[] #[.pointer (some ⟨w.heap.size, 0, none⟩), .pointer (some ⟨w.heap.size + 1, 0, none⟩), .pointer (some ⟨w1.heap.size + 1, 0, none⟩)]) 202
    rw [World.size_alloc, World.size_alloc] at this
    exact this
  rw [hwB]
  clear hwB
  have hsz := HSZ.out
  have hltw := HW.out.lt
  have hltt := HT.out.lt
  have hWW := HWW.out
  have hcc : ColC wnt I W fw w.heap.size (w.heap.size + 1) (w1.heap.size + 1) (w1.heap.size + 1 + 1 + 1) cw := ⟨by omega, by omega, by omega, fun b hb => (hWW b hb).1, eg, HST.out, HC.out⟩
  have HCC : Hid _ := hcc
  have HE0 : Hid (ColE wnt from_ I W fw w.heap.size (w.heap.size + 1) (w1.heap.size + 1) (w1.heap.size + 1 + 1 + 1) cw wB [] wB) := ⟨HO11.out.below hbB, HO21.out.below hbB, HPV.out, HST.out _ _ _ (HST.out _ _ _ HI.out (below_only_of HB1.out (fun b h => h))) (below_only hbB _), Only.refl _ _, by omega⟩
  have hon : ∀ ps wx, ColE wnt from_ I W fw w.heap.size (w.heap.size + 1) (w1.heap.size + 1) (w1.heap.size + 1 + 1 + 1) cw wB ps wx → Only W w1 wx := fun ps wx hE => (below_only hbB W).trans hE.on (fun i hi => by rcases hi with hi | hi | hi; exact .inl hi; exact .inr (by omega); exact .inr (by omega))
  obtain ⟨fin, hfin⟩ : ∃ fin, walkL wnt from_ 0 (T.Ls.drop l).flatten = fin := ⟨_, rfl⟩
  have HFIN : Hid _ := hfin
  have hflen : fin.length ≤ 40000 := by
    have h1 := walkL_len (wnt := wnt) (from_ := from_) (T.Ls.drop l).flatten 0
    have h2 := len_szL (T.Ls.drop l).flatten
    have h3 : szL T.Ls.flatten = szL (T.Ls.take l).flatten + szL (T.Ls.drop l).flatten := by rw [← szL_append, ← List.flatten_append, List.take_append_drop]
    have h4 := HA.out.ok.sum
    rw [hfin] at h1
    omega
  have hkl : (T.ks.drop l).length = (T.Ls.drop l).length := by rw [List.length_drop, List.length_drop, HA.out.len]
  refine (leaves_any (N := N) (s := s) (up := up) (cm := cm) (V := V) (bp := bp) (bd := bd) (bm := bm) (r := r) (B := w.heap.size + 1 + 1) hkl (by have := HA.out.ok.len; have := HA.out.len; rw [List.length_drop]; omega) (fun k hk => (HA.out.low k (List.mem_of_mem_drop hk)).2) (fun i hi hl => ?_)
    (fun i wx => ∃ ps, ColE wnt from_ I W fw w.heap.size (w.heap.size + 1) (w1.heap.size + 1) (w1.heap.size + 1 + 1 + 1) cw wB ps wx ∧ ps ++ walkL wnt from_ ps.length ((T.Ls.drop l).drop i).flatten = fin)
    (fun wx => ColD W (w1.heap.size + 1) (w1.heap.size + 1 + 1 + 1) wB fin wx) (fun i wx hh => ?_) (fun i wx wy hh hb => ?_) (enters_of Tryz.func134 (by kernel_rfl) rfl) (fun i hi wx hh => ?_) _ ⟨[], HE0.out, by rw [List.drop_zero]; exact hfin⟩).mono ?_
  · have := HA.out.leaf (i := l + i) (by rw [List.length_drop] at hl; omega)
    simpa using this
  · obtain ⟨ps, k1, k2⟩ := hh
    have ho := hon ps wx k1
    refine ⟨HT1.out.only ho (fun e => (hWW _ e).2.1 rfl), HW1.out.only ho (fun e => (hWW _ e).2.2.1 rfl) (fun e => (hWW _ e).2.2.2.2 rfl) (fun e => (hWW _ e).2.2.2.1 rfl), HV2.out.only ho (fun b hb => by have := (hWW b hb).1; omega)⟩
  · obtain ⟨ps, k1, k2⟩ := hh
    exact ⟨ps, k1.below HCC.out hb, k2⟩
  · obtain ⟨ps, k1, k2⟩ := hh
    rw [List.drop_eq_getElem_cons hi, List.flatten_cons] at k2
    have hm : (T.Ls.drop l)[i] ∈ T.Ls := List.mem_of_mem_drop (List.getElem_mem hi)
    have hft := HA.out.ok.fit _ hm
    refine (collect2_any HCC.out k1 (HTK.out.only k1.on (fun e => by rcases e with e | e | e; have := (hWW _ e).1; omega; omega; omega)) (HA.out.ok.ok _ hm) (by omega) k2 hflen).mono ?_
    rintro e w' ⟨b, rfl, hb⟩
    refine ⟨b, rfl, ?_⟩
    cases b
    · exact hb
    · exact hb
  rintro _ w2 ⟨rfl, hD⟩
  have hD2 : ColD W (w1.heap.size + 1) (w1.heap.size + 1 + 1 + 1) wB fin w2 := by
    rcases hD with ⟨ps, k1, k2⟩ | hD
    · rw [List.drop_length] at k2
      have e : ps = fin := by rw [← k2]; simp [walkL]
      subst e
      exact ⟨k1.pv, k1.on⟩
    · exact hD
  obtain ⟨⟨vl, p1, p2⟩, p3⟩ := hD2
  have HP2 : Hid (PRow w.heap.size vl fin w2) := row_base p2 (by omega)
  have HO3 : Hid (Only W w w2) := ((below_only HB1.out W).trans (below_only hbB W) (fun i hi => .inl hi)).trans p3 (fun i hi => by rcases hi with hi | hi | hi; exact .inl hi; exact .inr (by omega); exact .inr (by omega))
  have c9 := p1.cell
  clear p1 p2 p3 hD hon hcc hbB hszB
  go_wp2
  go_ret2
  refine ⟨_, rfl, ?_, HO3.out⟩
  have : walkL wnt from_ 0 T.all = fin := by
    rw [← HFIN.out]
    have e0 : T.all = (T.Ls.take l).flatten ++ (T.Ls.drop l).flatten := by rw [← List.flatten_append, List.take_append_drop]; rfl
    rw [e0]
    exact walkL_skip _ _ _ (SpotR.lessAll HS.out HA.out.ok)
  rw [this]
  exact HP2.out
end
end Go.Proofs.YtjgdnainhoipgaaGreatDoor
namespace Go.Proofs.YtjgdnainhoipgaaGreatDoor
open Go.RowKit Go.Maps

def slLen : Value → Nat
  | .slice _ n _ => n
  | _ => 0
/-- pages that are given back so far -/
structure FreeR (V : Pst) (P : List Nat) (V' : Pst) : Prop where
  used : ∀ k, V'.used k = true ↔ V.used k = true ∧ k ∉ P
  tx : V'.tx = V.tx
  rp : V'.rp = V.rp
  rn : V'.rn = V.rn
theorem FreeR.free {V V' : Pst} {P : List Nat} (h : FreeR V P V') (k : Nat) : FreeR V (P ++ [k]) (V'.free k) := by
  refine ⟨fun j => ?_, h.tx, h.rp, h.rn⟩
  show (if j = k then false else V'.used j) = true ↔ _
  by_cases e : j = k
  · subst e; simp
  · rw [if_neg e, h.used j]; simp [e]
/-- what fit tells -/
def FitTo (bp bd bm N : Nat) (s : St) (up : Nat → Bool) (cm : Int) (V : Pst) (w : World) (B : Nat) (P : List Nat) (want : Nat) (e : Ending) (w' : World) : Prop := ∃ v' V' P' N', e = .returned (.tuple #[v', .nilIface]) ∧ View B v' (ints P') w' ∧ P'.length = want ∧ FitR V P V' P' ∧ Tw bp bd bm N' s up cm V' w' ∧ N' ≤ N + want ∧ Only (fun b => b = bp ∨ b = bm ∨ B ≤ b) w w'
section
variable {bt bp bd bm N r : Nat} {s : St} {up : Nat → Bool} {cm : Int} {V : Pst} {w : World}
set_option maxRecDepth 100000 in
set_option maxHeartbeats 1000000 in
theorem fit_any (hT : Tt bt bp r w) (h : Tw bp bd bm N s up cm V w) (hne : bt ≠ bp ∧ bt ≠ bm) {B : Nat} {v : Value} {P : List Nat} (hB : bt < B ∧ bp < B ∧ bm < B ∧ bd < B ∧ B ≤ w.heap.size) (hR : IRow B v P w)
    (hP : ∀ k ∈ P, 0 < k ∧ k < 2000 ∧ V.used k = true) (hnd : P.Nodup) (hPl : P.length ≤ 100) (want : Nat) (hw : want ≤ 100) (hcnt : countU V.used 2000 + want < 1999) (hN : N + want < 1000000) :
    Calls Tryz.prog 143 #[.pointer (some ⟨bt, 0, none⟩), v, .int .i64 (want : Nat)] w fun e w' => FitTo bp bd bm N s up cm V w B P want e w' := by
  have HT : Hid _ := hT
  have HW : Hid _ := h
  have HR : Hid _ := hR
  have HF : Hid (FitR V P V P) := FitR.refl hP hnd
  obtain ⟨hB1, hB2, hB3, hB4, hB5⟩ := hB
  obtain ⟨a0, cap0, hv0, _⟩ := hR.view.is
  rw [ints_len] at hv0
  obtain ⟨n0, hn0⟩ : ∃ n, P.length = n := ⟨_, rfl⟩
  rw [hn0] at hv0
  subst hv0
  have HN0 : Hid (P.length = n0) := hn0
  have hn0b : n0 ≤ 100 := by omega
  have HCN : Hid (countU V.used 2000 + want < 1999) := hcnt
  have HNN : Hid (N + want < 1000000) := hN
  clear hT h hR hP hn0 hcnt hN hPl
  go_enter Tryz.func143, Tryz.ntmps143
  go_wp2_with fail
  go_loopw [1] (fun pg wr => ∃ (P1 : List Nat) (V1 : Pst) (N1 n1 : Nat) (a1 : Option Addr) (cap1 : Nat), pg = .slice a1 n1 cap1 ∧ Hid (P1.length = n1) ∧ n0 ≤ n1 ∧ (n1 ≤ want ∨ n1 = n0) ∧ Hid (IRow B pg P1 wr) ∧ Hid (FitR V P V1 P1) ∧ Hid (Tw bp bd bm N1 s up cm V1 wr) ∧ Hid (Tt bt bp r wr) ∧ N1 + n0 ≤ N + n1 ∧ Hid (Only (fun b => b = bp ∨ b = bm ∨ B ≤ b) w wr) ∧ Hid (countU V1.used 2000 + n0 ≤ countU V.used 2000 + n1)) (fun pg _ => want + 1 - slLen pg)
  case atStart => exact ⟨P, V, N, n0, a0, cap0, rfl, HN0, Nat.le_refl _, .inr rfl, HR, HF, HW, HT, Nat.le_refl _, Only.refl _ _, Nat.le_refl _⟩
  case round =>
    clear HT HW HR HF
    obtain ⟨P1, V1, N1, n1, a1, cap1, rfl, HN1, hn1, hn1b, HR, HF, HW, HT, hNN, HO, HCU⟩ := hrel
    by_cases hlt : n1 < want
    · have h1 : (n1 : Int) < (want : Int) := by omega
      have q0 := HT.out.cp
      obtain ⟨k, k0, k1, k2, k3⟩ := free_page (f := V1.used) 1999 (by have := HCU.out; have := HCN.out; show countU V1.used 2000 < 1999; omega)
      have HF2 : Hid (FitR V P (V1.alloc k) (P1 ++ [k])) := HF.out.alloc (by rw [HN0.out, HN1.out]; exact hn1) k0 k1 k2
      have HK : Hid (V1.used k = false ∧ ∀ j, 0 < j → j < k → V1.used j = true) := ⟨k2, k3⟩
      clear k2 k3
      go_wp2_with fail
      refine (tw_alloc HW.out (by have := HNN.out; omega) k k0 k1 HK.out.1 HK.out.2).mono ?_
      rintro _ w1 ⟨rfl, hW1, ho1⟩
      have HW1 : Hid _ := hW1
      have HT1 : Hid (Tt bt bp r w1) := HT.out.only ho1 (fun e => by rcases e with e | e; exact hne.1 e; exact hne.2 e)
      have HR1 : Hid (IRow B (.slice a1 n1 cap1) P1 w1) := row_only HR.out ho1 (fun b e => by rcases e with e | e <;> omega)
      have HO1 : Hid (Only (fun b => b = bp ∨ b = bm ∨ B ≤ b) w w1) := HO.out.trans ho1 (fun i hi => .inl (by rcases hi with hi | hi; exact .inl hi; exact .inr (.inl hi)))
      have HCU1 : Hid (countU (V1.alloc k).used 2000 + n0 ≤ countU V.used 2000 + (n1 + 1)) := by
        have := countU_put V1.used k 2000
        have h9 := HCU.out
        show countU (fun i => if i = k then true else V1.used i) 2000 + n0 ≤ _
        omega
      have hsz1 : B ≤ w1.heap.size := Nat.le_trans hB5 HO1.out.size
      clear hW1 ho1 q0 HW HT HR HO HCU HF
      have HO2 : Hid _ := World.ownsRow.alloc HR1.out (.cells #[.int .i64 (k : Nat)] 3)
      have hll : P1.length = n1 := HN1.out
      obtain ⟨i0, hi, hz0, hz1, hz2⟩ := info3
      have HLL : Hid (P1.length = n1) := hll
      clear hll
      go_wp2_with (at_builtin; refine wpList_append_own _ rfl _ _ 68 rfl B 3 i0 (.int .i64 0) 1 8 Tryz.underlying68 hi hz0 hz1 hz2 rfl (by decide) _ _ _ rfl HO2.out ⟨w1.heap.size, 0, none⟩ 1 1 [.int .i64 (k : Nat)] rfl rfl (news_oneV w1 _ 3) (by intro u hu; simp at hu; subst hu; rfl) (by rw [HLL.out]; simp only [maxLen]; omega) (by rw [HLL.out]; omega) (by simp; omega) ?_; intro v' w' hO hG hN; have HX : Hid (Only (fun b => B ≤ b) w1 w') := ((below_only ((Below.refl _ w1).alloc (Nat.le_refl _) _) _).trans (grown_only (S := fun b => B ≤ b) hG (fun b e => (World.ownsRow.lt HR1.out b e).1)) (fun i hi => .inl hi)); have HOO : Hid (IRow B v' (P1 ++ [k]) w') := (by unfold IRow; rw [List.length_append, List.map_append]; exact hO); clear hO hG hN; obtain ⟨a2, cap2, hv2, _⟩ := HOO.out.view.is; have hle : (ints (P1 ++ [k])).length = n1 + 1 := (by rw [ints_len, List.length_append, HLL.out]; rfl); rw [hle] at hv2; subst hv2)
      go_roundw
      case rel =>
        refine ⟨P1 ++ [k], V1.alloc k, N1 + 1, n1 + 1, a2, cap2, rfl, ?_, by omega, .inl (by omega), HOO, HF2, ?_, ?_, by omega, ?_, HCU1⟩
        · show _ = _
          rw [List.length_append, HLL.out]; rfl
        · exact HW1.out.only HX.out (by omega) (by omega) (by omega)
        · exact HT1.out.only HX.out (by omega)
        · exact HO1.out.trans HX.out (fun i hi => .inl (.inr (.inr hi)))
      case measure => simp [slLen]; omega
    · have h1 : ¬ (n1 : Int) < (want : Int) := by omega
      obtain ⟨v2, hv2, hc2⟩ := HR.out.view.cut want n1 (by omega) (by rw [ints_len, HN1.out]; exact Nat.le_refl _)
      obtain ⟨v3, hv3, hc3⟩ := HR.out.view.cut 0 want (by omega) (by rw [ints_len, HN1.out]; omega)
      have hs2 : ∀ wx, (Instr.slice 68 (.slice a1 n1 cap1) (some (.int .i64 (want : Nat))) none none).run Tryz.prog wx = .ok v2 wx := fun wx => ((hc2 Tryz.underlying68 elem93 size3 (want : Nat) (n1 : Nat) rfl rfl wx).2.2 (by rw [ints_len, HN1.out]))
      have hs3 : ∀ wx, (Instr.slice 68 (.slice a1 n1 cap1) none (some (.int .i64 (want : Nat))) none).run Tryz.prog wx = .ok v3 wx := fun wx => ((hc3 Tryz.underlying68 elem93 size3 0 (want : Nat) rfl rfl wx).2.1 rfl)
      have e2 : ((ints P1).drop want).take (n1 - want) = ints (P1.drop want) := by
        rw [List.take_of_length_le (by rw [List.length_drop, ints_len, HN1.out]; exact Nat.le_refl _)]
        exact (List.map_drop ..).symm
      have e3 : ((ints P1).drop 0).take (want - 0) = ints (P1.take want) := by
        rw [List.drop_zero, Nat.sub_zero]
        exact (List.map_take ..).symm
      rw [e2] at hv2
      rw [e3] at hv3
      obtain ⟨a2, cap2, hw2, _⟩ := hv2.is
      have hl2 : (ints (P1.drop want)).length = n1 - want := by rw [ints_len, List.length_drop, HN1.out]
      rw [hl2] at hw2
      subst hw2
      obtain ⟨m, hm⟩ : ∃ m, n1 - want = m := ⟨_, rfl⟩
      rw [hm] at hv2 hs2
      have HV2 : Hid (View B (.slice a2 m cap2) (ints (P1.drop want)) _) := hv2
      have HV3 : Hid (View B v3 (ints (P1.take want)) _) := hv3
      have HM : Hid ((P1.drop want).length = m) := by show _ = _; rw [List.length_drop, HN1.out]; exact hm
      have hmb : m ≤ 100 := by omega
      obtain ⟨a3, cap3, hw3, _⟩ := hv3.is
      have hl3 : (ints (P1.take want)).length = want := by rw [ints_len, List.length_take, HN1.out]; omega
      rw [hl3] at hw3
      subst hw3
      have HL3 : Hid ((P1.take want).length = want) := by show _ = _; rw [List.length_take, HN1.out]; omega
      have HNV : Hid (N1 ≤ N + want) := by show N1 ≤ _; omega
      have HR0 : Hid (FreeR V1 ((P1.drop want).take 0) V1) := ⟨fun k => by simp, rfl, rfl, rfl⟩
      clear hc2 hc3 hv2 hv3 e2 e3 hl2 hl3 hm HR HCU hNN
      obtain ⟨wf, hwf⟩ : ∃ wf, wf = wr := ⟨_, rfl⟩
      rw [← hwf] at HW HT HO HV2 HV3
      rw [← hwf]
      clear hwf
      go_wp2_with fail
      go_loopw [43] (fun i wr => ∃ (j : Nat) (V2 : Pst), j ≤ m ∧ i = .int .i64 (j : Nat) ∧ Hid (FreeR V1 ((P1.drop want).take j) V2) ∧ Hid (Tw bp bd bm N1 s up cm V2 wr) ∧ Hid (Tt bt bp r wr) ∧ Hid (Only (fun b => b = bp ∨ b = bm ∨ B ≤ b) w wr) ∧ Hid (View B (.slice a2 m cap2) (ints (P1.drop want)) wr) ∧ Hid (View B (.slice a3 want cap3) (ints (P1.take want)) wr)) (fun i _ => m + 1 - (intOf i).toNat)
      case atStart => exact ⟨0, V1, Nat.zero_le _, rfl, HR0, HW, HT, HO, HV2, HV3⟩
      case round =>
        clear HR0 HW HT HO HV2 HV3
        obtain ⟨j, V2, hj, rfl, HR, HW, HT, HO, HV2, HV3⟩ := hrel
        by_cases hjm : j < m
        · have h2 : (j : Int) < (m : Int) := by omega
          have hjj : j < (P1.drop want).length := by rw [HM.out]; exact hjm
          obtain ⟨b0, o0, k1, k2, k3, k4⟩ := HV2.out.at (i := j) (by rw [ints_len]; exact hjj)
          rw [ints_get hjj] at k3
          have hix : ∀ wx, (Instr.indexAt 68 (.slice a2 m cap2) (.int .i64 (j : Nat))).run Tryz.prog wx = .ok (.pointer (some ⟨b0, o0, none⟩)) wx := k4 Tryz.underlying68 elem93 size3 (j : Nat) rfl
          have q0 := HT.out.cp
          have hmem : (P1.drop want)[j] ∈ P1 := List.mem_of_mem_drop (List.getElem_mem hjj)
          have HLO : Hid _ := HF.out.low _ hmem
          have HUS : Hid (V2.used (P1.drop want)[j] = true) := by
            rw [show Hid (V2.used (P1.drop want)[j] = true) = (V2.used (P1.drop want)[j] = true) from rfl, HR.out.used]
            refine ⟨(HF.out.used _).2 (.inr hmem), fun e => ?_⟩
            have hn : (P1.drop want).Nodup := HF.out.nodup.sublist (List.drop_sublist _ _)
            obtain ⟨i, hi, he⟩ := List.getElem_of_mem e
            rw [List.getElem_take] at he
            rw [List.length_take] at hi
            have := (List.getElem_inj hn).1 he
            omega
          have HR2 : Hid (FreeR V1 ((P1.drop want).take (j + 1)) (V2.free (P1.drop want)[j])) := by
            have := HR.out.free (P1.drop want)[j]
            rw [← List.take_succ_eq_append_getElem hjj] at this
            exact this
          obtain ⟨K, hK⟩ : ∃ K, (P1.drop want)[j] = K := ⟨_, rfl⟩
          rw [hK] at k3 HLO HUS HR2
          clear hK hmem hjj k1 k2 k4
          go_wp2_with fail
          refine (tw_free HW.out K HLO.out.2 HUS.out).mono ?_
          rintro _ w2 ⟨rfl, hW2, ho2⟩
          have HW2 : Hid _ := hW2
          have HT2 : Hid (Tt bt bp r w2) := HT.out.only ho2 (fun e => by rcases e with e | e; exact hne.1 e; exact hne.2 e)
          have HO2 : Hid (Only (fun b => b = bp ∨ b = bm ∨ B ≤ b) w w2) := HO.out.trans ho2 (fun i hi => .inl (by rcases hi with hi | hi; exact .inl hi; exact .inr (.inl hi)))
          have HV22 : Hid (View B (.slice a2 m cap2) (ints (P1.drop want)) w2) := HV2.out.only ho2 (fun b e => by rcases e with e | e <;> omega)
          have HV32 : Hid (View B (.slice a3 want cap3) (ints (P1.take want)) w2) := HV3.out.only ho2 (fun b e => by rcases e with e | e <;> omega)
          clear hW2 ho2 k3 q0 HW HT HO HV2 HV3 HR
          go_wp2_with fail
          go_roundw
          case rel => exact ⟨j + 1, _, by omega, by go_num, HR2, HW2, HT2, HO2, HV22, HV32⟩
          case measure => simp [intOf]; omega
        · have h2 : ¬ (j : Int) < (m : Int) := by omega
          obtain rfl : j = m := by omega
          have hrr := HR.out
          rw [List.take_of_length_le (by rw [HM.out]; exact Nat.le_refl _)] at hrr
          have HFF : Hid (FitR V P V2 (P1.take want)) := HF.out.cut want hrr.used hrr.tx hrr.rp hrr.rn
          clear hrr
          go_wp2
          go_ret2
          exact ⟨_, V2, P1.take want, N1, rfl, HV3.out, HL3.out, HFF.out, HW.out, HNV.out, HO.out⟩
end
end Go.Proofs.YtjgdnainhoipgaaGreatDoor
