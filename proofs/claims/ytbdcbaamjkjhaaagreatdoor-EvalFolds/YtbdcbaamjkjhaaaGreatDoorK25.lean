/- Part 25 of 29. -/
import Derived.Test.YtbdcbaamjkjhaaaGreatDoorK24
import Derived.Deep.RegionLaw
import Derived.Deep.AppendLies
namespace Go.Proofs.YtbdcbaamjkjhaaaGreatDoor
open Go.RowKit

/-- what lies in memory ahead of the law -/
structure LAt (w : World) : Prop where
  b : BAt w
  ask : w.rangeAt 0 0 askCells
  hg : HG w
theorem LAt.below {w w' : World} (h : LAt w) (hb : Below w.heap.size w w') : LAt w' :=
  ⟨h.b.below hb, range_keep h.ask (fun q => World.cell?_of_block (w := w) (a := ⟨0, q, none⟩) (hb.block 0 (by have := h.b.g.lo; omega))), h.hg.below hb (by have := h.b.g.lo; omega)⟩
def knT : ByteArray := ⟨#[97, 32, 62, 32, 49, 32, 111, 114, 32, 98, 32, 105, 115, 32, 110, 117, 108, 108]⟩
def kn0 : Ex := .two 16 (.two 13 (colE ⟨#[97]⟩) (numE 1)) (.two 5 (colE ⟨#[98]⟩) .nil)
theorem kn_cond : condF knT = kn0 := by kernel_rfl
theorem kn_ev : evF (numV 1) .none .none kn0 = .ok (numV 1) := by kernel_rfl
theorem kn_both : bothR 15 .none (numV 0) = .ok (numV 0) := by kernel_rfl
set_option maxRecDepth 100000 in
set_option maxHeartbeats 8000000 in
theorem known_any (w : World) (h : LAt w) : Calls Tryz.prog 10 #[] w fun e w' => e = .returned (.bool true) ∧ Below w.heap.size w w' := by
  have H : Hid (LAt w) := h
  clear h
  go_enter Tryz.func10, Tryz.ntmps10
  go_wp2_with fail
  have h8 := cond_any knT w H.out.b (by decide)
  rw [kn_cond] at h8
  refine h8.mono ?_
  clear h8
  rintro _ w1 ⟨p, rfl, hX, hb⟩
  obtain ⟨B, pl, pr, rfl, hlt, hcs, hl, hr⟩ := hX
  have H1 : Hid (LAt w1 ∧ ExAt w1 (some ⟨B, 0, none⟩) kn0 ∧ Below w.heap.size w w1) := ⟨H.out.below hb, ⟨B, pl, pr, rfl, hlt, hcs, hl, hr⟩, hb⟩
  clear hb hlt hcs hl hr
  go_wp2_with fail
  refine (knumber_any 1 w1).mono ?_
  rintro _ w2 ⟨rfl, hb⟩
  have H2 : Hid (LAt w2 ∧ ExAt w2 (some ⟨B, 0, none⟩) kn0 ∧ Below w.heap.size w w2) := ⟨H1.out.1.below hb, H1.out.2.1.below hb, H1.out.2.2.trans (hb.mono H1.out.2.2.size)⟩
  clear hb
  go_wp2_with fail
  refine (env_any (numV 1) .none .none w2 H2.out.1.ask H2.out.1.b.g.lo).mono ?_
  rintro _ w3 ⟨rfl, hE, hb⟩
  have H3 : Hid (LAt w3 ∧ ExAt w3 (some ⟨B, 0, none⟩) kn0 ∧ Below w.heap.size w w3 ∧ EnvW (w2.heap.size) (w2.heap.size + 1) (w2.heap.size + 1 + 1) (w2.heap.size + 4) (numV 1) .none .none w3) := ⟨H2.out.1.below hb, H2.out.2.1.below hb, H2.out.2.2.trans (hb.mono H2.out.2.2.size), hE⟩
  clear hb hE
  go_wp2_with fail
  have h8 := eval_any (numV 1) .none .none kn0 (fun x hx => by rw [kn_ev] at hx; cases hx; exact (numV_sm 1).big) _ _ _ _ _ w3 H3.out.2.2.2 H3.out.2.1
  obtain ⟨v1, hv1⟩ : ∃ v, numV 1 = v := ⟨_, rfl⟩
  have HV1 : Hid (numV 1 = v1) := hv1
  rw [kn_ev, hv1] at h8
  clear hv1
  refine h8.mono ?_
  clear h8
  rintro _ w4 ⟨rfl, hb⟩
  obtain ⟨V, hV⟩ : ∃ V, w4.alloc (.cells #[.int .i64 v1.k, .int .i64 v1.n, .string v1.t] 39) = V := ⟨_, rfl⟩
  have hbV : Below w4.heap.size w4 V := by rw [← hV]; exact (Below.refl _ _).alloc (Nat.le_refl _) _
  have hkV : Blk w4.heap.size (numV 1).cells 39 V := by rw [← hV, HV1.out]; exact Blk.new _ _ _
  have H4 : Hid (Below w.heap.size w V ∧ Blk w4.heap.size (numV 1).cells 39 V) := ⟨(H3.out.2.2.1.trans (hb.mono H3.out.2.2.1.size)).trans (hbV.mono (Nat.le_trans H3.out.2.2.1.size hb.size)), hkV⟩
  clear hb hbV hkV
  simp only [tupR, vv]
  go_wp2_with fail
  refine (knumber_any 0 V).mono ?_
  rintro _ w5 ⟨rfl, hb⟩
  have H5 : Hid (Below w.heap.size w w5 ∧ Blk w4.heap.size (numV 1).cells 39 w5) := ⟨H4.out.1.trans (hb.mono H4.out.1.size), H4.out.2.below hb⟩
  clear hb
  go_wp2_with fail
  have h8 := both_any 15 .none (numV 0) w5
  obtain ⟨v2, hv2⟩ : ∃ v, numV 0 = v := ⟨_, rfl⟩
  have HV2 : Hid (numV 0 = v2) := hv2
  rw [kn_both] at h8
  have h8 : Calls Tryz.prog 31 #[.int .i64 15, vv .none, vv (numV 0)] w5 fun e w' => e = .returned (tupR (.ok v2)) ∧ Below w5.heap.size w5 w' := by rw [← hv2]; exact h8
  clear hv2
  refine h8.mono ?_
  clear h8
  rintro _ w6 ⟨rfl, hb⟩
  obtain ⟨U, hU⟩ : ∃ V, w6.alloc (.cells #[.int .i64 v2.k, .int .i64 v2.n, .string v2.t] 39) = V := ⟨_, rfl⟩
  have hbU : Below w6.heap.size w6 U := by rw [← hU]; exact (Below.refl _ _).alloc (Nat.le_refl _) _
  have hkU : Blk w6.heap.size (numV 0).cells 39 U := by rw [← hU, HV2.out]; exact Blk.new _ _ _
  have H6 : Hid (Below w.heap.size w U ∧ Blk w4.heap.size (numV 1).cells 39 U ∧ Blk w6.heap.size (numV 0).cells 39 U) := ⟨(H5.out.1.trans (hb.mono H5.out.1.size)).trans (hbU.mono (Nat.le_trans H5.out.1.size hb.size)), (H5.out.2.below hb).below hbU, hkU⟩
  clear hb hbU hkU
  simp only [tupR, vv]
  go_upto_region 4 with fail
  have d : Below U.heap.size U U.drew := (Below.refl _ _).drew
  obtain ⟨a0, a1, a2, af⟩ := (H6.out.2.1.below d).vc
  obtain ⟨b0, b1, b2, bf⟩ := (H6.out.2.2.below d).vc
  have HK : Hid (∀ wx, Below U.drew.heap.size U.drew wx → wx.cell? ⟨w4.heap.size, 0, none⟩ = some (.int .i64 1) ∧ wx.cell? ⟨w4.heap.size, 1, none⟩ = some (.int .i64 1) ∧ wx.cell? ⟨w4.heap.size, 2, none⟩ = some (.string ⟨#[]⟩) ∧ wx.cell? ⟨w6.heap.size, 0, none⟩ = some (.int .i64 1) ∧ wx.cell? ⟨w6.heap.size, 1, none⟩ = some (.int .i64 0) ∧ wx.cell? ⟨w6.heap.size, 2, none⟩ = some (.string ⟨#[]⟩)) := fun wx hb => by
    obtain ⟨x0, x1, x2, _⟩ := ((H6.out.2.1.below d).below hb).vc
    obtain ⟨y0, y1, y2, _⟩ := ((H6.out.2.2.below d).below hb).vc
    exact ⟨x0, x1, x2, y0, y1, y2⟩
  have HBx : Hid (Below U.drew.heap.size U.drew U.drew) := Below.refl _ _
  have HF : Hid (Below w.heap.size w U.drew) := H6.out.1.drew
  clear d
  go_region_held3 (fun wx => wx.cell? ⟨w4.heap.size, 0, none⟩ = some (.int .i64 1) ∧ wx.cell? ⟨w4.heap.size, 1, none⟩ = some (.int .i64 1) ∧ wx.cell? ⟨w4.heap.size, 2, none⟩ = some (.string ⟨#[]⟩) ∧ wx.cell? ⟨w6.heap.size, 0, none⟩ = some (.int .i64 1) ∧ wx.cell? ⟨w6.heap.size, 1, none⟩ = some (.int .i64 0) ∧ wx.cell? ⟨w6.heap.size, 2, none⟩ = some (.string ⟨#[]⟩)) (exact HK.out _ HBx.out) ((go_at_call 24; refine Calls.mono (knumber_any _ _) ?_; rintro _ w7 ⟨rfl, hb⟩; have HBx : Hid (Below U.drew.heap.size U.drew w7) := HBx.out.trans (hb.mono HBx.out.size); clear hb; simp only [vv, numV]))
  go_wp2
  go_ret
  exact ⟨rfl, HF.out.trans (HBx.out.mono HF.out.size)⟩
/-- the law's three values in memory -/
structure T0 (a b c : Vl) (w wx : World) : Prop where
  ka : Blk w.heap.size a.cells 39 wx
  kb : Blk (w.heap.size + 1) b.cells 39 wx
  kc : Blk (w.heap.size + 2) c.cells 39 wx
  l : LAt wx
  be : Below w.heap.size w wx
theorem T0.below {a b c : Vl} {w wx wy : World} (h : T0 a b c w wx) (hb : Below wx.heap.size wx wy) : T0 a b c w wy := ⟨h.ka.below hb, h.kb.below hb, h.kc.below hb, h.l.below hb, h.be.trans (hb.mono h.be.size)⟩
end Go.Proofs.YtbdcbaamjkjhaaaGreatDoor
namespace Go.Proofs.YtbdcbaamjkjhaaaGreatDoor
open Go.RowKit

def FoldSp (e : Ex) : Prop := ∀ (p : Option Addr) (w : World), EnvN w → ExAt w p e → Calls Tryz.prog 21 #[.pointer p] w fun x w' => BuiltTo (foldF e) w x w'
set_option maxRecDepth 100000 in
theorem fold_nil : FoldSp .nil := by
  intro p w hE hX
  obtain rfl : p = none := hX
  clear hE
  go_enter Tryz.func21, Tryz.ntmps21
  go_wp2
  go_ret
  exact ⟨none, rfl, rfl, Below.refl _ _⟩
theorem boxed {w : World} {c : Int} {v : Vl} {nm : ByteArray} {q1 q2 : Option Addr} {x y : Ex} (hx : ExAt w q1 x) (hy : ExAt w q2 y) : ExAt (w.alloc (.cells #[.int .i64 c, .int .i64 v.k, .int .i64 v.n, .string v.t, .string nm, .pointer q1, .pointer q2] 48)) (some ⟨w.heap.size, 0, none⟩) (.node c v nm x y) := by
  have hk : Blk w.heap.size #[.int .i64 c, .int .i64 v.k, .int .i64 v.n, .string v.t, .string nm, .pointer q1, .pointer q2] 48 (w.alloc (.cells #[.int .i64 c, .int .i64 v.k, .int .i64 v.n, .string v.t, .string nm, .pointer q1, .pointer q2] 48)) := Blk.new _ _ _
  have hb : Below w.heap.size w (w.alloc (.cells #[.int .i64 c, .int .i64 v.k, .int .i64 v.n, .string v.t, .string nm, .pointer q1, .pointer q2] 48)) := (Below.refl _ _).alloc (Nat.le_refl _) _
  refine ⟨w.heap.size, q1, q2, rfl, (Array.getElem?_eq_some_iff.1 hk).1, ⟨?_, ?_, ?_, ?_, ?_, ?_, ?_⟩, hx.below hb, hy.below hb⟩
  · rw [hk.cell 0]; rfl
  · rw [hk.cell 1]; rfl
  · rw [hk.cell 2]; rfl
  · rw [hk.cell 3]; rfl
  · rw [hk.cell 4]; rfl
  · rw [hk.cell 5]; rfl
  · rw [hk.cell 6]; rfl
set_option maxRecDepth 100000 in
set_option maxHeartbeats 8000000 in
theorem fold_node (c : Int) (v : Vl) (nm : ByteArray) (l r : Ex) (hI : FoldSp l) (hJ : FoldSp r) (hT : TreeSm (.node c v nm l r)) (hN : TreeNm (.node c v nm l r)) : FoldSp (.node c v nm l r) := by
  intro p w hE hX
  obtain ⟨B, pl, pr, rfl, hlt, ⟨n0, n1, n2, n3, n4, n5, n6⟩, hl, hr⟩ := hX
  have HIl : Hid (FoldSp l) := hI
  have H : Hid (FoldSp l ∧ FoldSp r ∧ TreeSm (.node c v nm l r) ∧ TreeNm (.node c v nm l r)) := ⟨hI, hJ, hT, hN⟩
  have d : Below w.heap.size w w.drew := (Below.refl _ _).drew
  have HW : Hid (EnvN w.drew ∧ ExAt w.drew pl l ∧ ExAt w.drew pr r) := ⟨hE.below d, hl.below d, hr.below d⟩
  have HK : Hid (∀ wx, Below w.drew.heap.size w.drew wx → wx.cell? ⟨B, 0, none⟩ = some (.int .i64 c) ∧ wx.cell? ⟨B, 1, none⟩ = some (.int .i64 v.k) ∧ wx.cell? ⟨B, 2, none⟩ = some (.int .i64 v.n) ∧ wx.cell? ⟨B, 3, none⟩ = some (.string v.t) ∧ wx.cell? ⟨B, 4, none⟩ = some (.string nm) ∧ wx.cell? ⟨B, 5, none⟩ = some (.pointer pl) ∧ wx.cell? ⟨B, 6, none⟩ = some (.pointer pr)) := fun wx hb => ⟨(hb.cell (p := ⟨B, 0, none⟩) hlt).trans n0, (hb.cell (p := ⟨B, 1, none⟩) hlt).trans n1, (hb.cell (p := ⟨B, 2, none⟩) hlt).trans n2, (hb.cell (p := ⟨B, 3, none⟩) hlt).trans n3, (hb.cell (p := ⟨B, 4, none⟩) hlt).trans n4, (hb.cell (p := ⟨B, 5, none⟩) hlt).trans n5, (hb.cell (p := ⟨B, 6, none⟩) hlt).trans n6⟩
  have HBx : Hid (Below w.drew.heap.size w.drew w.drew) := Below.refl _ _
  have HB0 : Hid (Below w.heap.size w w.drew) := d
  clear hE hl hr hI hJ hT hN d hlt
  go_enter Tryz.func21, Tryz.ntmps21
  go_upto_region 3 with fail
  go_region_held3 (fun wx => wx.cell? ⟨B, 0, none⟩ = some (.int .i64 c) ∧ wx.cell? ⟨B, 1, none⟩ = some (.int .i64 v.k) ∧ wx.cell? ⟨B, 2, none⟩ = some (.int .i64 v.n) ∧ wx.cell? ⟨B, 3, none⟩ = some (.string v.t) ∧ wx.cell? ⟨B, 4, none⟩ = some (.string nm) ∧ wx.cell? ⟨B, 5, none⟩ = some (.pointer pl) ∧ wx.cell? ⟨B, 6, none⟩ = some (.pointer pr)) (first | exact HK.out _ HBx.out | exact HK.out _ (HBx.out.alloc HBx.out.size _)) (first
    | (go_at_call 37; refine Calls.mono (own_any v _ (Nat.le_trans H.out.2.2.1.1 (by decide))) ?_; rintro _ w1 ⟨rfl, hb⟩; have HBx : Hid (Below w.drew.heap.size w.drew w1) := HBx.out.trans (hb.mono HBx.out.size); clear hb; simp only [vv])
    | (go_at_call 41; refine Calls.mono (clone_ok nm _ (Nat.le_trans H.out.2.2.2.1 (by decide))) ?_; rintro _ w2 ⟨rfl, hb⟩; have HBx : Hid (Below w.drew.heap.size w.drew w2) := HBx.out.trans (hb.mono HBx.out.size); clear hb)
    | (go_at_call 21; refine Calls.mono (HIl.out pl _ (HW.out.1.below HBx.out) (HW.out.2.1.below HBx.out)) ?_; rintro _ w3 ⟨q1, rfl, hx1, hb⟩; have HL : Hid (ExAt w3 q1 (foldF l)) := hx1; have HBx : Hid (Below w.drew.heap.size w.drew w3) := HBx.out.trans (hb.mono HBx.out.size); clear hb hx1 HIl)
    | (go_at_call 21; refine Calls.mono (H.out.2.1 pr _ (HW.out.1.below HBx.out) (HW.out.2.2.below HBx.out)) ?_; rintro _ w4 ⟨q2, rfl, hx2, hb⟩; have HL : Hid (ExAt w4 q1 (foldF l)) := HL.out.below hb; have HR : Hid (ExAt w4 q2 (foldF r)) := hx2; have HBx : Hid (Below w.drew.heap.size w.drew w4) := HBx.out.trans (hb.mono HBx.out.size); clear hb hx2))
  obtain ⟨V, hV⟩ : ∃ V, w4.alloc (.cells #[.int .i64 c, .int .i64 v.k, .int .i64 v.n, .string v.t, .string nm, .pointer q1, .pointer q2] 48) = V := ⟨_, rfl⟩
  try rw [hV]
  have HP : Hid (ExAt V (some ⟨w4.heap.size, 0, none⟩) (.node c v nm (foldF l) (foldF r)) ∧ EnvN V ∧ Below w.heap.size w V) := by
    have hbV : Below w4.heap.size w4 V := by rw [← hV]; exact (Below.refl _ _).alloc (Nat.le_refl _) _
    refine ⟨by rw [← hV]; exact boxed HL.out HR.out, (HW.out.1.below HBx.out).below hbV, (HB0.out.trans (HBx.out.mono HB0.out.size)).trans (hbV.mono (Nat.le_trans HB0.out.size HBx.out.size))⟩
  have HS : Hid (TreeSm (.node c v nm (foldF l) (foldF r))) := ⟨H.out.2.2.1.1, foldF_sm H.out.2.2.1.2.1, foldF_sm H.out.2.2.1.2.2⟩
  obtain ⟨fb, hfb⟩ : ∃ b, foldsB (.node c v nm (foldF l) (foldF r)) = b := ⟨_, rfl⟩
  have HF : Hid (foldsB (.node c v nm (foldF l) (foldF r)) = fb) := hfb
  clear hfb HL HR HBx HK HW H HB0 n0 n1 n2 n3 n4 n5 n6
  go_wp2_with fail
  have h8 := folds_any c v nm (foldF l) (foldF r) _ V HP.out.1
  rw [HF.out] at h8
  refine h8.mono ?_
  clear h8
  rintro _ _ ⟨rfl, rfl⟩
  cases fb
  · go_wp2
    go_ret
    exact ⟨_, rfl, by rw [foldF, foldP, HF.out]; exact HP.out.1, HP.out.2.2⟩
  obtain ⟨R, hR⟩ : ∃ R, evF .none .none .none (.node c v nm (foldF l) (foldF r)) = R := ⟨_, rfl⟩
  have HR : Hid (evF .none .none .none (.node c v nm (foldF l) (foldF r)) = R) := hR
  clear hR hV
  go_wp2_with fail
  have h8 := eval0_any .none .none .none (.node c v nm (foldF l) (foldF r)) (folds_noC HF.out) (fun x hx => (evF_sm none_Sm none_Sm none_Sm HS.out x hx).big) _ _ HP.out.2.1 HP.out.1
  rw [HR.out, tup_eq] at h8
  refine h8.mono ?_
  clear h8
  rintro _ w5 ⟨rfl, hb⟩
  obtain ⟨x, hx⟩ : ∃ v, valOf R = v := ⟨_, rfl⟩
  obtain ⟨er, her⟩ : ∃ v, errOf R = v := ⟨_, rfl⟩
  have HX : Hid (valOf R = x ∧ errOf R = er) := ⟨hx, her⟩
  rw [hx, her]
  obtain ⟨V2, hV2⟩ : ∃ V, w5.alloc (.cells #[.int .i64 x.k, .int .i64 x.n, .string x.t] 39) = V := ⟨_, rfl⟩
  have hbV : Below w5.heap.size w5 V2 := by rw [← hV2]; exact (Below.refl _ _).alloc (Nat.le_refl _) _
  have hkV : Blk w5.heap.size x.cells 39 V2 := by rw [← hV2]; exact Blk.new _ _ _
  have H6 : Hid (ExAt V2 (some ⟨w4.heap.size, 0, none⟩) (.node c v nm (foldF l) (foldF r)) ∧ Below w.heap.size w V2) := ⟨(HP.out.1.below hb).below hbV, (HP.out.2.2.trans (hb.mono HP.out.2.2.size)).trans (hbV.mono (Nat.le_trans HP.out.2.2.size hb.size))⟩
  obtain ⟨x0, x1, x2, xf⟩ := hkV.vc
  clear hb hbV hkV hx her
  unfold vv
  have HE := err_cases R
  rw [HX.out.2] at HE
  rcases HE with rfl | ⟨n, rfl⟩
  rotate_left
  · go_wp2
    go_ret
    refine ⟨_, rfl, ?_, H6.out.2⟩
    have hn : R = .error n := by
      have := HX.out.2
      cases R with
      | ok y => cases this
      | error m => cases this; rfl
    rw [foldF, foldP, HF.out, if_pos rfl, HR.out, hn]
    exact H6.out.1
  · have hok : R = .ok x := (ok_of HX.out.2).trans (by rw [HX.out.1])
    obtain ⟨V3, hV3⟩ : ∃ V, V2.alloc (.cells #[.int .i64 1, .int .i64 x.k, .int .i64 x.n, .string x.t, .string ⟨#[]⟩, .pointer none, .pointer none] 48) = V := ⟨_, rfl⟩
    have H7 : Hid (ExAt V3 (some ⟨V2.heap.size, 0, none⟩) (foldF (.node c v nm l r)) ∧ Below w.heap.size w V3) := by
      have hbV : Below V2.heap.size V2 V3 := by rw [← hV3]; exact (Below.refl _ _).alloc (Nat.le_refl _) _
      refine ⟨?_, H6.out.2.trans (hbV.mono H6.out.2.size)⟩
      rw [foldF, foldP, HF.out, if_pos rfl, HR.out, hok, ← hV3]
      exact boxed (x := .nil) (y := .nil) rfl rfl
    clear hok
    go_wp2
    go_ret
    exact ⟨_, rfl, H7.out.1, H7.out.2⟩
theorem fold_all : ∀ e : Ex, TreeSm e → TreeNm e → FoldSp e
  | .nil, _, _ => fold_nil
  | .node c v nm l r, h, k => fold_node c v nm l r (fold_all l h.2.1 k.2.1) (fold_all r h.2.2 k.2.2) h k
end Go.Proofs.YtbdcbaamjkjhaaaGreatDoor
namespace Go.Proofs.YtbdcbaamjkjhaaaGreatDoor
open Go.RowKit

theorem ColN.sz {nm : ByteArray} {ts : List KT} (h : ColN nm ts) : nm.size ≤ 1000 := by
  cases h with
  | one h => have := h.size; omega
  | @two a b h k =>
    have h1 := h.size
    have h2 := k.size
    rw [ByteArray.size_append, ByteArray.size_append]
    have : (⟨#[46]⟩ : ByteArray).size = 1 := rfl
    omega
theorem Ft.nm {d : Nat} {n : Int} {e : Ex} {ts : List KT} (h : Ft d n e ts) : TreeNm e := by
  have z : (⟨#[]⟩ : ByteArray).size ≤ 1000 := Nat.zero_le _
  induction h with
  | par _ _ ih => exact ih
  | lit _ b => exact ⟨z, trivial, trivial⟩
  | col _ h => exact ⟨h.sz, trivial, trivial⟩
  | neg _ _ ih => exact ⟨z, ih, trivial⟩
  | not _ _ _ ih => exact ⟨z, ih, trivial⟩
  | nnul _ _ ih => exact ⟨z, ⟨z, ih, trivial⟩, trivial⟩
  | nul _ _ ih => exact ⟨z, ih, trivial⟩
  | mat _ h c => exact ⟨z, ⟨h.sz, trivial, trivial⟩, trivial⟩
  | ask _ _ _ _ i j => exact ⟨z, i, j⟩
  | sum _ _ _ _ i j => exact ⟨z, i, j⟩
  | mul _ _ _ _ i j => exact ⟨z, i, j⟩
  | and _ _ _ _ i j => exact ⟨z, i, j⟩
  | or _ _ _ _ i j => exact ⟨z, i, j⟩
theorem StT.wh {x : Stm} {ts : List KT} (h : StT x ts) : Bare x.wh ∧ TreeNm x.wh := by
  have hb : ∀ {w : List KT} {x : Ex} {us : List KT}, BhT w x us → Bare x ∧ TreeNm x := by
    intro w x us h
    cases h with
    | no => exact ⟨trivial, trivial⟩
    | yes h => exact ⟨h.bare, h.nm⟩
  cases h with
  | delete _ hx => exact hb hx
  | update _ _ hx => exact hb hx
  | select _ _ _ h3 _ _ _ => exact hb h3
  | begin => exact ⟨trivial, trivial⟩
  | commit => exact ⟨trivial, trivial⟩
  | rollback => exact ⟨trivial, trivial⟩
  | index _ _ => exact ⟨trivial, trivial⟩
  | create _ _ => exact ⟨trivial, trivial⟩
  | drop _ => exact ⟨trivial, trivial⟩
  | insert _ _ => exact ⟨trivial, trivial⟩
theorem condF_wh (s : ByteArray) : Bare (condF s) ∧ TreeNm (condF s) := by
  unfold condF
  split
  · exact ⟨trivial, trivial⟩
  · rename_i h
    split
    · rename_i st hs
      obtain ⟨ts, ht, _⟩ := parse_stt (cond_size h) hs
      exact ht.wh
    · exact ⟨trivial, trivial⟩
theorem ColN.pos {nm : ByteArray} {ts : List KT} (h : ColN nm ts) : 1 ≤ ts.length := by
  cases h with
  | one _ => exact Nat.le_refl _
  | two _ _ => exact (by decide : 1 ≤ 3)
theorem colsF_no {c : Int} {v : Vl} {nm : ByteArray} {l r : Ex} (h : c ≠ 2) : colsF (.node c v nm l r) = colsF l ++ colsF r := by rw [colsF, if_neg h]; rfl
theorem Ft.cols {d : Nat} {n : Int} {e : Ex} {ts : List KT} (h : Ft d n e ts) : (colsF e).length ≤ ts.length := by
  have no : ∀ {c : Int} {x y : Ex} {us vs : List KT} {t : KT}, c ≠ 2 → (colsF x).length ≤ us.length → (colsF y).length ≤ vs.length → (colsF (.two c x y)).length ≤ (us ++ (t :: vs)).length := fun hc hx hy => by
    rw [Ex.two, colsF_no hc]; simp only [List.length_append, List.length_cons]; omega
  have one : ∀ {c : Int} {x : Ex} {m : Nat}, c ≠ 2 → (colsF x).length ≤ m → (colsF (.two c x .nil)).length ≤ m := fun hc hx => by
    rw [Ex.two, colsF_no hc]; simp only [List.length_append, colsF, List.length_nil]; omega
  have ne : ∀ {L : List (ByteArray × Int)}, (∀ s ∈ L, s.2 ≠ 2) → ∀ {s : ByteArray × Int}, s ∈ L → s.2 ≠ 2 := fun h s hs => h _ hs
  induction h with
  | par _ _ ih => simp only [List.length_cons, List.length_append]; omega
  | lit _ b => exact Nat.zero_le _
  | col _ h => exact h.pos
  | neg _ _ ih => exact one (by decide) (by simp only [List.length_cons]; omega)
  | not _ _ _ ih => exact one (by decide) (by simp only [List.length_cons]; omega)
  | nnul _ _ ih => exact one (by decide) (one (by decide) (by simp only [List.length_append]; omega))
  | nul _ _ ih => exact one (by decide) (by simp only [List.length_append]; omega)
  | mat _ h c =>
    rw [colsF_no (by decide)]
    have := h.pos
    simp only [List.length_append]
    show 1 + 0 ≤ _
    omega
  | ask _ hs _ _ i j => exact no (ne (by decide) hs) i j
  | sum _ hs _ _ i j => exact no (ne (by decide) hs) i j
  | mul _ hs _ _ i j => exact no (ne (by decide) hs) i j
  | and _ hs _ _ i j => exact no (ne (by decide) hs) i j
  | or _ hs _ _ i j => exact no (ne (by decide) hs) i j
theorem StT.cols {x : Stm} {ts : List KT} (h : StT x ts) : (colsF x.wh).length ≤ ts.length := by
  have hb : ∀ {w : List KT} {x : Ex} {us : List KT}, BhT w x us → (colsF x).length ≤ us.length := by
    intro w x us h
    cases h with
    | no => exact Nat.zero_le _
    | yes h => have := h.cols; rw [List.length_append]; omega
  cases h with
  | delete _ hx => have := hb hx; simp only [List.length_cons]; show (colsF _).length ≤ _; omega
  | update _ _ hx => have := hb hx; simp only [List.length_cons, List.length_append]; show (colsF _).length ≤ _; omega
  | select _ _ _ h3 _ _ _ => have := hb h3; simp only [List.length_cons, List.length_append]; show (colsF _).length ≤ _; omega
  | begin => exact Nat.zero_le _
  | commit => exact Nat.zero_le _
  | rollback => exact Nat.zero_le _
  | index _ _ => exact Nat.zero_le _
  | create _ _ => exact Nat.zero_le _
  | drop _ => exact Nat.zero_le _
  | insert _ _ => exact Nat.zero_le _
theorem condF_cols (s : ByteArray) : (colsF (condF s)).length ≤ 200 := by
  unfold condF
  split
  · exact Nat.zero_le _
  · rename_i h
    split
    · rename_i st hs
      obtain ⟨ts, ht, hl⟩ := parse_stt (cond_size h) hs
      exact Nat.le_trans ht.cols hl
    · exact Nat.zero_le _
end Go.Proofs.YtbdcbaamjkjhaaaGreatDoor
namespace Go.Proofs.YtbdcbaamjkjhaaaGreatDoor
open Go.RowKit

def txc (L : List ByteArray) : List Value := L.map .string
/-- the names so far stand in block S, in a row of their own -/
structure ColW (S : Nat) (w0 : World) (L : List ByteArray) (w : World) : Prop where
  st : ∃ v, Blk S #[v] 61 w ∧ w.ownsRow (S + 1) 9 1 v L.length (txc L)
  be : Below S w0 w
  lt : S < w.heap.size
  lo : w0.heap.size ≤ S
theorem ColW.below {S : Nat} {w0 w w' : World} {L : List ByteArray} (h : ColW S w0 L w) (hb : Below w.heap.size w w') : ColW S w0 L w' := by
  obtain ⟨v, h1, h2⟩ := h.st
  exact ⟨⟨v, h1.below hb, own_below h2 hb⟩, h.be.trans (hb.mono (Nat.le_of_lt h.lt)), Nat.lt_of_lt_of_le h.lt hb.size, h.lo⟩
theorem ColW.snoc {S : Nat} {w0 w w1 w3 : World} {L : List ByteArray} {nm : ByteArray} {a4 : Option Addr} {c4 g3 cap3 : Nat} (h : ColW S w0 L w) (hb : Below w.heap.size w w1) (hk : Blk S #[.slice a4 L.length c4] 61 w) (ho : w.ownsRow (S + 1) 9 1 (.slice a4 L.length c4) L.length (txc L)) {o : Obj} (hg : (w1.alloc o).grownBy w3 (Value.slice a4 L.length c4).ownBlock) (ho3 : w3.ownsRow (S + 1) 9 1 (.slice (some ⟨g3, 0, none⟩) (L.length + 1) cap3) (L.length + 1) (txc L ++ [.string nm])) :
    Blk S #[.slice a4 L.length c4] 61 w3 ∧ ColW S w0 (L ++ [nm]) (w3.setCell ⟨S, 0, none⟩ (.slice (some ⟨g3, 0, none⟩) (L.length + 1) cap3)) := by
  have hbA : Below w1.heap.size w1 (w1.alloc o) := (Below.refl _ _).alloc (Nat.le_refl _) _
  have hA := (h.below hb).below hbA
  have hkA := (hk.below hb).below hbA
  have hoA := own_below (own_below ho hb) hbA
  have hk3 : Blk S #[.slice a4 L.length c4] 61 w3 := by
    show w3.heap[S]? = _
    rw [hg.block S hA.lt (fun e => by have := (hoA.lt S e.symm).1; omega)]
    exact hkA
  have hb3 : Below S w0 w3 := hA.be.grown hg (Nat.le_of_lt hA.lt) (fun g e => by have := (hoA.lt g e).1; omega)
  refine ⟨hk3, ⟨⟨.slice (some ⟨g3, 0, none⟩) (L.length + 1) cap3, ?_, ?_⟩, hb3.setCell (Nat.le_refl _) _, ?_, h.lo⟩⟩
  · have := hk3.set 0 (.slice (some ⟨g3, 0, none⟩) (L.length + 1) cap3)
    simpa using this
  · have e1 : (L ++ [nm]).length = L.length + 1 := by simp
    have e2 : txc (L ++ [nm]) = txc L ++ [.string nm] := by simp [txc]
    rw [e1, e2]
    exact own_fr (X := fun k _ => k = S) ho3 (fun k ob hk hx => by rw [Below.heap_setCell w3 ⟨S, 0, none⟩ _ k (fun e => hx e)]; exact hk) (fun k _ hk _ e => by omega)
  · have := (Array.getElem?_eq_some_iff.1 hk3).1
    simpa [World.setCell] using this
theorem infoStr9 : (Tryz.prog.info? 9).map (fun i => (i.zero, i.size, i.bytes)) = some (some (.string ⟨#[]⟩), 1, 16) := by kernel_rfl
set_option maxRecDepth 100000 in
set_option maxHeartbeats 16000000 in
theorem cols_cl {S : Nat} {w0 : World} {L : List ByteArray} {w : World} (c : Int) (v : Vl) (nm : ByteArray) (l r : Ex) (p : Option Addr) (h : ColW S w0 L w) (hX : ExAt w0 p (.node c v nm l r)) (hL : L.length ≤ 100000) (hn : nm.size ≤ 1000) :
    Calls Tryz.prog 44 #[.pointer p, .pointer (some ⟨S, 0, none⟩)] w fun e w' => e = .returned (.bool true) ∧ ColW S w0 (L ++ (if c = 2 then [nm] else [])) w' := by
  obtain ⟨B, pl, pr, rfl, hlt, ⟨m0, _, _, _, m4, _, _⟩, _, _⟩ := hX
  have hlo := h.lo
  have hltS := h.lt
  have n0 : w.cell? ⟨B, 0, none⟩ = some (.int .i64 c) := (h.be.cell (p := ⟨B, 0, none⟩) (by show B < S; omega)).trans m0
  have n4 : w.cell? ⟨B, 4, none⟩ = some (.string nm) := (h.be.cell (p := ⟨B, 4, none⟩) (by show B < S; omega)).trans m4
  have H : Hid (ColW S w0 L w) := h
  clear m0 m4 hlt
  by_cases hc : c = 2
  · rw [if_pos hc]
    have e2 : (c == 2) = true := by simp [hc]
    obtain ⟨i0, hi, hz0, hz1, hz2⟩ := info_parts infoStr9
    have HI : Hid (Tryz.prog.info? 9 = some i0 ∧ i0.zero = some (.string ⟨#[]⟩) ∧ i0.size = 1 ∧ i0.bytes = 16) := ⟨hi, hz0, hz1, hz2⟩
    clear hi hz0 hz1 hz2
    obtain ⟨sv, hst, hown⟩ := h.st
    obtain ⟨a4, c4, rfl⟩ := own_slice hown
    have d : Below w.heap.size w w.drew := (Below.refl _ _).drew
    have HD : Hid (ColW S w0 L w.drew ∧ Blk S #[.slice a4 L.length c4] 61 w.drew ∧ w.drew.ownsRow (S + 1) 9 1 (.slice a4 L.length c4) L.length (txc L)) := ⟨h.below d, hst.below d, own_below hown d⟩
    have HC : Hid (∀ wx, Below w.drew.heap.size w.drew wx → wx.cell? ⟨S, 0, none⟩ = some (.slice a4 L.length c4) ∧ wx.frozen? ⟨S, 0, none⟩ = false) := fun wx hb => by
      have := HD.out.2.1.below hb
      exact ⟨by rw [this.cell 0]; rfl, this.free 0⟩
    have HO : Hid (w.drew.ownsRow (S + 1) 9 1 (.slice a4 L.length c4) L.length (txc L)) := HD.out.2.2
    have HN : Hid (nm.size ≤ 1000) := hn
    have d0 : w.drew.cell? ⟨B, 0, none⟩ = some (.int .i64 c) := n0
    have d4 : w.drew.cell? ⟨B, 4, none⟩ = some (.string nm) := n4
    obtain ⟨cS, fS⟩ := HC.out _ (Below.refl _ _)
    have hltD : S + 1 ≤ w.drew.heap.size := hltS
    clear h hst hown d hc hn
    go_enter Tryz.func44, Tryz.ntmps44
    go_upto_region 2 with fail
    go_region_law (first
      | (refine step_append_lies _ rfl (.tmp 9) (.tmp 15) 61 rfl (S + 1) 9 i0 (.string ⟨#[]⟩) 1 16 Tryz.underlying61 HI.out.1 HI.out.2.1 HI.out.2.2.1 HI.out.2.2.2 rfl (by decide) (.slice a4 L.length c4) L.length (txc L) (by first | rfl | simp [Act.eval]) (HO1.out.alloc _) ⟨w1.heap.size, 0, none⟩ 1 1 [.string nm] (by first | rfl | simp [Act.eval]) rfl (news_one w1 _ _) (by intro u hu; simp at hu; subst hu; rfl) (by decide) (by have := hL; unfold maxLen; omega) (by have := hL; omega) (by rw [World.size_alloc]; have := hlt1; omega) _ rfl ?_; intro g3 cap3 w3 ho3 hg3 _ _; have HF := ColW.snoc HD.out.1 HB1.out HD.out.2.1 HD.out.2.2 hg3 ho3; have HZ : Hid (ColW S w0 (L ++ [nm]) (w3.setCell ⟨S, 0, none⟩ (.slice (some ⟨g3, 0, none⟩) (L.length + 1) cap3))) := HF.2; have cS3 : w3.cell? ⟨S, 0, none⟩ = some (.slice a4 L.length c4) := (by rw [HF.1.cell 0]; rfl); have fS3 := HF.1.free 0; clear HF ho3 hg3)
      | (go_wp2_with (go_at_call 41; refine Calls.mono (clone_ok nm _ (Nat.le_trans HN.out (by decide))) ?_; rintro _ w1 ⟨rfl, hb⟩; have HB1 : Hid (Below w.drew.heap.size w.drew w1) := hb; have HO1 : Hid (w1.ownsRow (S + 1) 9 1 (.slice a4 L.length c4) L.length (txc L)) := own_below HO.out hb; have hlt1 : S + 1 ≤ w1.heap.size := Nat.le_trans hltD hb.size; obtain ⟨cS1, fS1⟩ := HC.out w1 hb; obtain ⟨cS2, fS2⟩ := HC.out (w1.alloc (.cells #[.string nm] 9)) (hb.alloc hb.size _); clear hb)))
    all_goals
      go_wp2
      go_ret
      exact ⟨rfl, HZ.out⟩
  · rw [if_neg hc, List.append_nil]
    have e2 : (c == 2) = false := by simp [hc]
    clear h hc
    go_enter Tryz.func44, Tryz.ntmps44
    go_wp2
    go_ret
    exact ⟨rfl, H.out⟩
end Go.Proofs.YtbdcbaamjkjhaaaGreatDoor
namespace Go.Proofs.YtbdcbaamjkjhaaaGreatDoor
open Go.RowKit

def WalkSp (e : Ex) : Prop := ∀ (p : Option Addr) (S : Nat) (w0 w : World) (L : List ByteArray), ColW S w0 L w → ExAt w0 p e → L.length + (colsF e).length ≤ 100000 → Calls Tryz.prog 43 #[.pointer p, .func (.func 44) #[] #[.pointer (some ⟨S, 0, none⟩)]] w fun x w' => x = .returned (.tuple #[]) ∧ ColW S w0 (L ++ colsF e) w'
set_option maxRecDepth 100000 in
theorem walk_nil : WalkSp .nil := by
  intro p S w0 w L h hX hL
  obtain rfl : p = none := hX
  have H : Hid (ColW S w0 (L ++ colsF .nil) w) := by show ColW S w0 (L ++ []) w; rw [List.append_nil]; exact h
  clear h hL
  go_enter Tryz.func43, Tryz.ntmps43
  go_wp2
  first | (refine bodyPost_ret (v := .tuple #[]) (results_none Tryz.results43 _ _) rfl ?_) | (refine bodyPost_ret (v := .tuple #[]) (results_none _ _ _ Tryz.results43) rfl ?_) | (refine bodyPost_ret (v := .tuple #[]) (by kernel_rfl) rfl ?_)
  exact ⟨rfl, H.out⟩
set_option maxRecDepth 100000 in
set_option maxHeartbeats 4000000 in
theorem walk_node (c : Int) (v : Vl) (nm : ByteArray) (l r : Ex) (hI : WalkSp l) (hJ : WalkSp r) (hn : nm.size ≤ 1000) : WalkSp (.node c v nm l r) := by
  intro p S w0 w L h hX hL
  have HX : Hid (ExAt w0 p (.node c v nm l r)) := hX
  obtain ⟨B, pl, pr, rfl, hlt, ⟨_, _, _, _, _, m5, m6⟩, hl, hr⟩ := hX
  have HC : Hid (∀ M wx, ColW S w0 M wx → wx.cell? ⟨B, 5, none⟩ = some (.pointer pl) ∧ wx.cell? ⟨B, 6, none⟩ = some (.pointer pr)) := fun M wx hw => by
    have := hw.lo
    exact ⟨(hw.be.cell (p := ⟨B, 5, none⟩) (by show B < S; omega)).trans m5, (hw.be.cell (p := ⟨B, 6, none⟩) (by show B < S; omega)).trans m6⟩
  have H : Hid (ColW S w0 L w ∧ WalkSp l ∧ WalkSp r ∧ nm.size ≤ 1000 ∧ ExAt w0 pl l ∧ ExAt w0 pr r) := ⟨h, hI, hJ, hn, hl, hr⟩
  obtain ⟨L1, hL1⟩ : ∃ L1, L ++ (if c = 2 then [nm] else []) = L1 := ⟨_, rfl⟩
  have HL : Hid (L.length ≤ 100000 ∧ L1.length + (colsF l).length ≤ 100000 ∧ (L1 ++ colsF l).length + (colsF r).length ≤ 100000 ∧ L ++ (if c = 2 then [nm] else []) = L1 ∧ L ++ colsF (.node c v nm l r) = (L1 ++ colsF l) ++ colsF r) := by
    have e : L ++ colsF (.node c v nm l r) = (L1 ++ colsF l) ++ colsF r := by rw [← hL1, colsF]; simp
    have e2 := congrArg List.length e
    simp only [List.length_append] at e2
    refine ⟨by omega, by omega, by simp only [List.length_append]; omega, hL1, e⟩
  rw [HL.out.2.2.2.2]
  clear h hI hJ hn hl hr hL hL1 m5 m6 hlt
  go_enter Tryz.func43, Tryz.ntmps43
  go_wp2_with fail
  have h8 := cols_cl c v nm l r _ H.out.1 HX.out HL.out.1 H.out.2.2.2.1
  rw [HL.out.2.2.2.1] at h8
  refine h8.mono ?_
  clear h8
  rintro _ w1 ⟨rfl, h1⟩
  have H1 : Hid (ColW S w0 L1 w1) := h1
  obtain ⟨n5, n6⟩ := HC.out _ _ h1
  clear h1
  go_wp2_with fail
  refine (H.out.2.1 pl S w0 w1 L1 H1.out H.out.2.2.2.2.1 HL.out.2.1).mono ?_
  rintro _ w2 ⟨rfl, h2⟩
  have H2 : Hid (ColW S w0 (L1 ++ colsF l) w2) := h2
  clear n5 n6
  obtain ⟨n5, n6⟩ := HC.out _ _ h2
  clear h2
  go_wp2_with fail
  refine (H.out.2.2.1 pr S w0 w2 (L1 ++ colsF l) H2.out H.out.2.2.2.2.2 HL.out.2.2.1).mono ?_
  rintro _ w3 ⟨rfl, h3⟩
  have H3 : Hid (ColW S w0 ((L1 ++ colsF l) ++ colsF r) w3) := h3
  clear h3
  go_wp2
  go_end0
  exact ⟨rfl, H3.out⟩
theorem walk_all : ∀ e : Ex, TreeNm e → WalkSp e
  | .nil, _ => walk_nil
  | .node c v nm l r, h => walk_node c v nm l r (walk_all l h.2.1) (walk_all r h.2.2) h.1
/-- what Columns tells -/
def ColsTo (e : Ex) (w : World) (x : Ending) (w' : World) : Prop := ∃ v, x = .returned v ∧ w'.ownsRow (w.heap.size + 1) 9 1 v (colsF e).length (txc (colsF e)) ∧ Below w.heap.size w w'
set_option maxRecDepth 100000 in
theorem columns_any (e : Ex) (p : Option Addr) (w : World) (hX : ExAt w p e) (hN : TreeNm e) (hC : (colsF e).length ≤ 100000) : Calls Tryz.prog 23 #[.pointer p] w fun x w' => ColsTo e w x w' := by
  obtain ⟨W, hW⟩ : ∃ W, w.alloc (.cells #[.slice none 0 0] 61) = W := ⟨_, rfl⟩
  have hk : Blk w.heap.size #[.slice none 0 0] 61 W := by rw [← hW]; exact Blk.new _ _ _
  have H : Hid (ColW w.heap.size w [] W) := by
    refine ⟨⟨_, hk, World.ownsRow_nil _ _ _ _⟩, ?_, (Array.getElem?_eq_some_iff.1 hk).1, Nat.le_refl _⟩
    rw [← hW]
    exact (Below.refl _ _).alloc (Nat.le_refl _) _
  have HE : Hid (ExAt w p e ∧ TreeNm e ∧ (colsF e).length ≤ 100000) := ⟨hX, hN, hC⟩
  have hmf : ∀ (fn : Fn) (first cap : Array Value) (w : World), (Instr.makeFunc fn first cap).run Tryz.prog w = .ok (.func fn first cap) w := fun _ _ _ _ => rfl
  clear hk hX hN hC
  go_enter Tryz.func23, Tryz.ntmps23
  go_wp2_with fail
  refine (walk_all e HE.out.2.1 p w.heap.size w W [] H.out HE.out.1 (by have := HE.out.2.2; simpa using this)).mono ?_
  rintro _ w1 ⟨rfl, h1⟩
  obtain ⟨v, hk1, ho⟩ := h1.st
  have H1 : Hid (w1.ownsRow (w.heap.size + 1) 9 1 v (colsF e).length (txc (colsF e)) ∧ Below w.heap.size w w1) := ⟨ho, h1.be⟩
  have c0 : w1.cell? ⟨w.heap.size, 0, none⟩ = some v := by rw [hk1.cell 0]; rfl
  clear h1 hk1 ho
  go_wp2
  go_ret
  exact ⟨_, rfl, H1.out.1, H1.out.2⟩
end Go.Proofs.YtbdcbaamjkjhaaaGreatDoor
namespace Go.Proofs.YtbdcbaamjkjhaaaGreatDoor
open Go.RowKit

set_option maxHeartbeats 1000000 in
theorem ksame_any (a a' : Option Addr) (len len' cap cap' : Nat) (xs : List ByteArray) (w : World) (hr : RowS w a len xs) (hr' : RowS w a' len' xs) :
    Calls Tryz.prog 22 #[.slice a len cap, .slice a' len' cap'] w fun e w' => e = .returned (.bool true) ∧ ∃ m, w' = w.drewN m := by
  obtain ⟨rfl, hm, hx⟩ := hr
  obtain ⟨rfl, _, hx'⟩ := hr'
  go_enter Tryz.func22, Tryz.ntmps22
  go_wp2
  go_loopw [5] (fun i wr => ∃ k : Nat, k ≤ xs.length ∧ i = .int .i64 k ∧ Hid (∃ m, wr = w.drewN m)) (fun i _ => xs.length - (intOf i).toNat)
  case atStart => exact ⟨0, Nat.zero_le _, rfl, 0, rfl⟩
  case round =>
    obtain ⟨k, hk, rfl, hbl⟩ := hrel
    obtain ⟨m, rfl⟩ := hbl.out
    by_cases hlt : k < xs.length
    · rcases hx with hx | ⟨b, off, rfl, hb, hrow⟩
      · simp [hx] at hlt
      rcases hx' with hx' | ⟨b', off', rfl, hb', hrow'⟩
      · simp [hx'] at hlt
      have g1 := hrow k hlt
      have e1 := hrow' k hlt
      clear hrow hrow' hbl
      have i1 : (k : Int) < (xs.length : Int) := by omega
      generalize xs[k] = x at *
      go_wp2
      go_quiet (fail)
      go_wp2
      go_roundw
      case rel => exact ⟨k + 1, by omega, by go_num, m + nq, rfl⟩
      case measure => simp [intOf]; omega
    · go_wp2
      go_ret
      exact ⟨rfl, m, rfl⟩
/-- a row of names -/
def NmRow (w : World) (v : Value) (L : List ByteArray) : Prop := ∃ a c, v = .slice a L.length c ∧ RowS w a L.length L
theorem ColsTo.row {e : Ex} {w : World} {x : Ending} {w' : World} (h : ColsTo e w x w') (hC : (colsF e).length ≤ 100000) : ∃ v, x = .returned v ∧ NmRow w' v (colsF e) ∧ Below w.heap.size w w' := by
  obtain ⟨v, h1, h2, h3⟩ := h
  obtain ⟨a, c, h4, h5, _⟩ := row_of_own h2 (by omega)
  exact ⟨v, h1, ⟨a, c, h4, h5⟩, h3⟩
theorem NmRow.below {w w' : World} {v : Value} {L : List ByteArray} (h : NmRow w v L) (hb : Below w.heap.size w w') : NmRow w' v L := by
  obtain ⟨a, c, h1, h2⟩ := h
  exact ⟨a, c, h1, h2.below hb⟩
/-- one of the first names is that of the first column -/
def useK (L : List ByteArray) (k : Nat) : Bool := (L.take k).any fun n => n.toList == [97]
theorem useK_succ (L : List ByteArray) (k : Nat) (h : k < L.length) : useK L (k + 1) = (useK L k || (L[k].toList == [97])) := by
  unfold useK
  rw [List.take_succ_eq_append_getElem h, List.any_append]
  simp only [List.any_cons, List.any_nil, Bool.or_false]
theorem useK_all (L : List ByteArray) (h : useK L L.length = false) : ∀ n ∈ L, (n.toList == [97]) = false := by
  unfold useK at h
  rw [List.take_length] at h
  intro n hn
  cases e : n.toList == [97] with
  | false => rfl
  | true => rw [List.any_eq_true.2 ⟨n, hn, e⟩] at h; cases h
/-- what the law of folding has in memory -/
structure FW (a b c : Vl) (p : Option Addr) (X : Ex) (w wx : World) : Prop where
  t : T0 a b c w wx
  hx : ExAt wx p X
theorem FW.below {a b c : Vl} {p : Option Addr} {X : Ex} {w wx wy : World} (h : FW a b c p X w wx) (hb : Below wx.heap.size wx wy) : FW a b c p X w wy := ⟨h.t.below hb, h.hx.below hb⟩
theorem LAt.envN {w : World} (h : LAt w) : EnvN w := ⟨h.ask, h.b.g.lo⟩
/-- what a text asks, and what is known of it -/
structure XK (X : Ex) : Prop where
  sm : TreeSm X
  nm : TreeNm X
  ba : Bare X
  le : (colsF X).length ≤ 100000
theorem XK.of (s : ByteArray) : XK (condF s) := ⟨condF_sm s, (condF_wh s).2, (condF_wh s).1, Nat.le_trans (condF_cols s) (by decide)⟩
theorem XK.fold {X : Ex} (h : XK X) : XK (foldF X) := ⟨foldF_sm h.sm, foldF_nm h.nm, foldF_bare h.ba, by rw [cols_fold h.ba]; exact h.le⟩
theorem evl_at {ba bb bc bf : Nat} {a b c : Vl} {w : World} (h : EnvW ba bb bc bf a b c w) (hs : Sms a b c) {e : Ex} (he : TreeSm e) {p : Option Addr} (hp : ExAt w p e) : Calls Tryz.prog 17 #[.pointer p, .agg #[.func (.func 33) #[] #[.pointer (some ⟨ba, 0, none⟩), .pointer (some ⟨bb, 0, none⟩), .pointer (some ⟨bc, 0, none⟩)], .func (.func 34) #[] #[.pointer (some ⟨bf, 0, none⟩)]]] w fun r w' => r = .returned (tupR (evF a b c e)) ∧ Below w.heap.size w w' :=
  eval_any a b c e (fun x hx => (evF_sm hs.a hs.b hs.c he x hx).big) ba bb bc bf p w h hp
theorem env_some (a b c : Vl) (w : World) (h : LAt w) : Calls Tryz.prog 13 #[vv a, vv b, vv c] w fun r w' => ∃ ba bb bc bf, r = .returned (.agg #[.func (.func 33) #[] #[.pointer (some ⟨ba, 0, none⟩), .pointer (some ⟨bb, 0, none⟩), .pointer (some ⟨bc, 0, none⟩)], .func (.func 34) #[] #[.pointer (some ⟨bf, 0, none⟩)]]) ∧ EnvW ba bb bc bf a b c w' ∧ Below w.heap.size w w' :=
  (env_any a b c w h.ask h.b.g.lo).mono fun _ _ ⟨h1, h2, h3⟩ => ⟨_, _, _, _, h1, h2, h3⟩
end Go.Proofs.YtbdcbaamjkjhaaaGreatDoor
