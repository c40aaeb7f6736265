/- Part 31 of 35. -/
import Derived.Test.YtbdcbaamjkjhaaaGreatDoorH30
namespace Go.Proofs.YtbdcbaamjkjhaaaGreatDoor
open Go.RowKit

/-- a tree that was built -/
def BuiltTo (x : Ex) (w : World) (e : Ending) (w' : World) : Prop := ∃ q, e = .returned (.pointer q) ∧ ExAt w' q x ∧ Below w.heap.size w w'
set_option maxRecDepth 100000 in
set_option maxHeartbeats 2000000 in
theorem bnot_any {p : Option Addr} {x : Ex} (w : World) (hx : ExAt w p x) : Calls Tryz.prog 14 #[.pointer p] w fun e w' => BuiltTo (notE x) w e w' := by
  obtain ⟨W, hW⟩ : ∃ W, w.alloc (.cells #[.int .i64 4, .int .i64 0, .int .i64 0, .string ⟨#[]⟩, .string ⟨#[]⟩, .pointer p, .pointer none] 48) = W := ⟨_, rfl⟩
  have hbW : Below w.heap.size w W := by rw [← hW]; exact (Below.refl _ _).alloc (Nat.le_refl _) _
  have hk : Blk w.heap.size #[.int .i64 4, .int .i64 0, .int .i64 0, .string ⟨#[]⟩, .string ⟨#[]⟩, .pointer p, .pointer none] 48 W := by rw [← hW]; exact Blk.new _ _ _
  have G0 : Hid (ExAt W (some ⟨w.heap.size, 0, none⟩) (notE x) ∧ Below w.heap.size w W) := by
    refine ⟨⟨w.heap.size, p, none, rfl, (Array.getElem?_eq_some_iff.1 hk).1, ⟨?_, ?_, ?_, ?_, ?_, ?_, ?_⟩, ?_, ?_⟩, hbW⟩
    · rw [hk.cell 0]; rfl
    · rw [hk.cell 1]; rfl
    · rw [hk.cell 2]; rfl
    · rw [hk.cell 3]; rfl
    · rw [hk.cell 4]; rfl
    · rw [hk.cell 5]; rfl
    · rw [hk.cell 6]; rfl
    · exact hx.below hbW
    · exact rfl
  clear hbW hk hx
  go_enter Tryz.func14, Tryz.ntmps14
  go_wp2
  go_ret
  exact ⟨_, rfl, G0.out.1, G0.out.2⟩
set_option maxRecDepth 100000 in
set_option maxHeartbeats 2000000 in
theorem btwo_any (c : Int) {p q : Option Addr} {x y : Ex} (w : World) (hx : ExAt w p x) (hy : ExAt w q y) : Calls Tryz.prog 15 #[.int .i64 c, .pointer p, .pointer q] w fun e w' => BuiltTo (.two c x y) w e w' := by
  obtain ⟨W, hW⟩ : ∃ W, w.alloc (.cells #[.int .i64 c, .int .i64 0, .int .i64 0, .string ⟨#[]⟩, .string ⟨#[]⟩, .pointer p, .pointer q] 48) = W := ⟨_, rfl⟩
  have hbW : Below w.heap.size w W := by rw [← hW]; exact (Below.refl _ _).alloc (Nat.le_refl _) _
  have hk : Blk w.heap.size #[.int .i64 c, .int .i64 0, .int .i64 0, .string ⟨#[]⟩, .string ⟨#[]⟩, .pointer p, .pointer q] 48 W := by rw [← hW]; exact Blk.new _ _ _
  have G0 : Hid (ExAt W (some ⟨w.heap.size, 0, none⟩) (.two c x y) ∧ Below w.heap.size w W) := by
    refine ⟨⟨w.heap.size, p, q, rfl, (Array.getElem?_eq_some_iff.1 hk).1, ⟨?_, ?_, ?_, ?_, ?_, ?_, ?_⟩, ?_, ?_⟩, hbW⟩
    · rw [hk.cell 0]; rfl
    · rw [hk.cell 1]; rfl
    · rw [hk.cell 2]; rfl
    · rw [hk.cell 3]; rfl
    · rw [hk.cell 4]; rfl
    · rw [hk.cell 5]; rfl
    · rw [hk.cell 6]; rfl
    · exact hx.below hbW
    · exact hy.below hbW
  clear hbW hk hx hy
  go_enter Tryz.func15, Tryz.ntmps15
  go_wp2
  go_ret
  exact ⟨_, rfl, G0.out.1, G0.out.2⟩
/-- what the law's closures look at -/
structure SW (ba bb bc bf be : Nat) (a b c : Vl) (w : World) : Prop where
  ev : EnvW ba bb bc bf a b c w
  ke : Blk be #[.func (.func 33) #[] #[.pointer (some ⟨ba, 0, none⟩), .pointer (some ⟨bb, 0, none⟩), .pointer (some ⟨bc, 0, none⟩)], .func (.func 34) #[] #[.pointer (some ⟨bf, 0, none⟩)]] 45 w
  hg : HG w
theorem SW.below {ba bb bc bf be : Nat} {a b c : Vl} {w w' : World} (h : SW ba bb bc bf be a b c w) (hb : Below w.heap.size w w') : SW ba bb bc bf be a b c w' :=
  ⟨h.ev.below hb, h.ke.below hb, h.hg.below hb (by have := h.ev.lo; omega)⟩
theorem SW.env {ba bb bc bf be : Nat} {a b c : Vl} {w : World} (h : SW ba bb bc bf be a b c w) : w.cell? ⟨be, 0, none⟩ = some (.func (.func 33) #[] #[.pointer (some ⟨ba, 0, none⟩), .pointer (some ⟨bb, 0, none⟩), .pointer (some ⟨bc, 0, none⟩)]) ∧ w.cell? ⟨be, 1, none⟩ = some (.func (.func 34) #[] #[.pointer (some ⟨bf, 0, none⟩)]) := ⟨by rw [h.ke.cell 0]; rfl, by rw [h.ke.cell 1]; rfl⟩
/-- what columns have is small -/
structure Sms (a b c : Vl) : Prop where
  a : Sm a
  b : Sm b
  c : Sm c
theorem ev_at {ba bb bc bf be : Nat} {a b c : Vl} {w : World} (h : SW ba bb bc bf be a b c w) (hs : Sms a b c) {e : Ex} (he : TreeSm e) {p : Option Addr} (hp : ExAt w p e) : Calls Tryz.prog 17 #[.pointer p, .agg #[.func (.func 33) #[] #[.pointer (some ⟨ba, 0, none⟩), .pointer (some ⟨bb, 0, none⟩), .pointer (some ⟨bc, 0, none⟩)], .func (.func 34) #[] #[.pointer (some ⟨bf, 0, none⟩)]]] w fun r w' => r = .returned (tupR (evF a b c e)) ∧ Below w.heap.size w w' :=
  eval_any a b c e (fun x hx => (evF_sm hs.a hs.b hs.c he x hx).big) ba bb bc bf p w h.ev hp
def numOf : Except Int Vl → Int
  | .ok _ => 0
  | .error n => n
theorem tell_any (r : Except Int Vl) (w : World) (hg : HG w) : Calls Tryz.prog 18 #[errOf r] w fun e w' => e = .returned (.int .i64 (numOf r)) ∧ Below w.heap.size w w' := by
  cases r with
  | ok v => exact (tell_nil w).mono fun e w' ⟨h1, h2⟩ => ⟨h1, by rw [h2]; exact Below.refl _ _⟩
  | error n => exact tell_hit n w hg
set_option maxRecDepth 100000 in
set_option maxHeartbeats 8000000 in
theorem same_any {ba bb bc bf be : Nat} {a b c : Vl} (hs : Sms a b c) {p q : Option Addr} {x y : Ex} (w : World) (hE : SW ba bb bc bf be a b c w) (hX : ExAt w p x) (hY : ExAt w q y) (hx : TreeSm x) (hy : TreeSm y) (hxy : evF a b c x = evF a b c y) : Calls Tryz.prog 16 #[.pointer p, .pointer q, .pointer (some ⟨be, 0, none⟩)] w fun e w' => e = .returned (.bool true) ∧ Below w.heap.size w w' := by
  obtain ⟨e0, e1⟩ := hE.env
  obtain ⟨R, hR⟩ : ∃ R, evF a b c x = R := ⟨_, rfl⟩
  have G0 : Hid (SW ba bb bc bf be a b c w ∧ ExAt w p x ∧ ExAt w q y ∧ Sms a b c ∧ TreeSm x ∧ TreeSm y ∧ evF a b c x = R ∧ evF a b c y = R) := ⟨hE, hX, hY, hs, hx, hy, hR, hxy ▸ hR⟩
  clear hE hX hY hs hx hy hxy hR
  go_enter Tryz.func16, Tryz.ntmps16
  go_wp2_with fail
  have h8 := ev_at G0.out.1 G0.out.2.2.2.1 G0.out.2.2.2.2.1 G0.out.2.1
  rw [G0.out.2.2.2.2.2.2.1, tup_eq] at h8
  refine h8.mono ?_
  clear h8
  rintro _ w1 ⟨rfl, hb⟩
  obtain ⟨v, hv⟩ : ∃ v, valOf R = v := ⟨_, rfl⟩
  obtain ⟨er, her⟩ : ∃ v, errOf R = v := ⟨_, rfl⟩
  rw [hv, her]
  obtain ⟨V, hV⟩ : ∃ V, w1.alloc (.cells #[.int .i64 v.k, .int .i64 v.n, .string v.t] 39) = V := ⟨_, rfl⟩
  have hbV : Below w1.heap.size w1 V := by rw [← hV]; exact (Below.refl _ _).alloc (Nat.le_refl _) _
  have hkV : Blk w1.heap.size v.cells 39 V := by rw [← hV]; exact Blk.new _ _ _
  have H1 : Hid (SW ba bb bc bf be a b c V ∧ ExAt V q y ∧ Blk w1.heap.size v.cells 39 V ∧ Below w.heap.size w V) := ⟨(G0.out.1.below hb).below hbV, (G0.out.2.2.1.below hb).below hbV, hkV, hb.trans (hbV.mono hb.size)⟩
  obtain ⟨f0, f1⟩ := H1.out.1.env
  clear hb hbV hkV e0 e1
  unfold vv
  go_wp2_with fail
  have h8 := ev_at H1.out.1 G0.out.2.2.2.1 G0.out.2.2.2.2.2.1 H1.out.2.1
  rw [G0.out.2.2.2.2.2.2.2, tup_eq, hv, her] at h8
  refine h8.mono ?_
  clear h8
  rintro _ w2 ⟨rfl, hb⟩
  obtain ⟨U, hU⟩ : ∃ V, w2.alloc (.cells #[.int .i64 v.k, .int .i64 v.n, .string v.t] 39) = V := ⟨_, rfl⟩
  have hbU : Below w2.heap.size w2 U := by rw [← hU]; exact (Below.refl _ _).alloc (Nat.le_refl _) _
  have hkU : Blk w2.heap.size v.cells 39 U := by rw [← hU]; exact Blk.new _ _ _
  have H2 : Hid (SW ba bb bc bf be a b c U ∧ Blk w1.heap.size v.cells 39 U ∧ Blk w2.heap.size v.cells 39 U ∧ Below w.heap.size w U) := ⟨(H1.out.1.below hb).below hbU, (H1.out.2.2.1.below hb).below hbU, hkU, (H1.out.2.2.2.trans (hb.mono H1.out.2.2.2.size)).trans (hbU.mono (Nat.le_trans H1.out.2.2.2.size hb.size))⟩
  clear hb hbU hkU f0 f1
  unfold vv
  go_wp2_with fail
  have h8 := tell_any R U H2.out.1.hg
  rw [her] at h8
  obtain ⟨m, hm⟩ : ∃ m : Int, numOf R = m := ⟨_, rfl⟩
  rw [hm] at h8
  refine h8.mono ?_
  clear h8
  rintro _ w3 ⟨rfl, hb⟩
  have H3 : Hid (SW ba bb bc bf be a b c w3 ∧ Blk w1.heap.size v.cells 39 w3 ∧ Blk w2.heap.size v.cells 39 w3 ∧ Below w.heap.size w w3) := ⟨H2.out.1.below hb, H2.out.2.1.below hb, H2.out.2.2.1.below hb, H2.out.2.2.2.trans (hb.mono H2.out.2.2.2.size)⟩
  clear hb
  go_wp2_with fail
  have h8 := tell_any R w3 H3.out.1.hg
  rw [her, hm] at h8
  refine h8.mono ?_
  clear h8
  rintro _ w4 ⟨rfl, hb⟩
  have H4 : Hid (Blk w1.heap.size v.cells 39 w4 ∧ Blk w2.heap.size v.cells 39 w4 ∧ Below w.heap.size w w4) := ⟨H3.out.2.1.below hb, H3.out.2.2.1.below hb, H3.out.2.2.2.trans (hb.mono H3.out.2.2.2.size)⟩
  obtain ⟨a0, a1, a2, af⟩ := H4.out.1.vc
  obtain ⟨b0, b1, b2, bf0⟩ := H4.out.2.1.vc
  have dm : (m == m) = true := by simp
  clear hb hv her hm
  go_wp2
  go_ret
  exact ⟨rfl, H4.out.2.2⟩
end Go.Proofs.YtbdcbaamjkjhaaaGreatDoor
namespace Go.Proofs.YtbdcbaamjkjhaaaGreatDoor
open Go.RowKit

/-- what lies in memory ahead of the law -/
structure LAt (w : World) : Prop where
  b : BAt w
  ask : w.rangeAt 0 0 askCells
  hg : HG w
theorem LAt.below {w w' : World} (h : LAt w) (hb : Below w.heap.size w w') : LAt w' :=
  ⟨h.b.below hb, range_keep h.ask (fun q => World.cell?_of_block (w := w) (a := ⟨0, q, none⟩) (hb.block 0 (by have := h.b.g.lo; omega))), h.hg.below hb (by have := h.b.g.lo; omega)⟩
def knT : ByteArray := ⟨#[97, 32, 62, 32, 49, 32, 111, 114, 32, 98, 32, 105, 115, 32, 110, 117, 108, 108]⟩
def kn0 : Ex := .two 16 (.two 13 (colE ⟨#[97]⟩) (numE 1)) (.two 5 (colE ⟨#[98]⟩) .nil)
theorem kn_cond : condF knT = kn0 := by kernel_rfl
theorem kn_ev : evF (numV 1) .none .none kn0 = .ok (numV 1) := by kernel_rfl
theorem kn_both : bothR 15 .none (numV 0) = .ok (numV 0) := by kernel_rfl
set_option maxRecDepth 100000 in
set_option maxHeartbeats 8000000 in
theorem known_any (w : World) (h : LAt w) : Calls Tryz.prog 10 #[] w fun e w' => e = .returned (.bool true) ∧ Below w.heap.size w w' := by
  have H : Hid (LAt w) := h
  clear h
  go_enter Tryz.func10, Tryz.ntmps10
  go_wp2_with fail
  have h8 := cond_any knT w H.out.b (by decide)
  rw [kn_cond] at h8
  refine h8.mono ?_
  clear h8
  rintro _ w1 ⟨p, rfl, hX, hb⟩
  obtain ⟨B, pl, pr, rfl, hlt, hcs, hl, hr⟩ := hX
  have H1 : Hid (LAt w1 ∧ ExAt w1 (some ⟨B, 0, none⟩) kn0 ∧ Below w.heap.size w w1) := ⟨H.out.below hb, ⟨B, pl, pr, rfl, hlt, hcs, hl, hr⟩, hb⟩
  clear hb hlt hcs hl hr
  go_wp2_with fail
  refine (knumber_any 1 w1).mono ?_
  rintro _ w2 ⟨rfl, hb⟩
  have H2 : Hid (LAt w2 ∧ ExAt w2 (some ⟨B, 0, none⟩) kn0 ∧ Below w.heap.size w w2) := ⟨H1.out.1.below hb, H1.out.2.1.below hb, H1.out.2.2.trans (hb.mono H1.out.2.2.size)⟩
  clear hb
  go_wp2_with fail
  refine (env_any (numV 1) .none .none w2 H2.out.1.ask H2.out.1.b.g.lo).mono ?_
  rintro _ w3 ⟨rfl, hE, hb⟩
  have H3 : Hid (LAt w3 ∧ ExAt w3 (some ⟨B, 0, none⟩) kn0 ∧ Below w.heap.size w w3 ∧ EnvW (w2.heap.size) (w2.heap.size + 1) (w2.heap.size + 1 + 1) (w2.heap.size + 4) (numV 1) .none .none w3) := ⟨H2.out.1.below hb, H2.out.2.1.below hb, H2.out.2.2.trans (hb.mono H2.out.2.2.size), hE⟩
  clear hb hE
  go_wp2_with fail
  have h8 := eval_any (numV 1) .none .none kn0 (fun x hx => by rw [kn_ev] at hx; cases hx; exact (numV_sm 1).big) _ _ _ _ _ w3 H3.out.2.2.2 H3.out.2.1
  obtain ⟨v1, hv1⟩ : ∃ v, numV 1 = v := ⟨_, rfl⟩
  have HV1 : Hid (numV 1 = v1) := hv1
  rw [kn_ev, hv1] at h8
  clear hv1
  refine h8.mono ?_
  clear h8
  rintro _ w4 ⟨rfl, hb⟩
  obtain ⟨V, hV⟩ : ∃ V, w4.alloc (.cells #[.int .i64 v1.k, .int .i64 v1.n, .string v1.t] 39) = V := ⟨_, rfl⟩
  have hbV : Below w4.heap.size w4 V := by rw [← hV]; exact (Below.refl _ _).alloc (Nat.le_refl _) _
  have hkV : Blk w4.heap.size (numV 1).cells 39 V := by rw [← hV, HV1.out]; exact Blk.new _ _ _
  have H4 : Hid (Below w.heap.size w V ∧ Blk w4.heap.size (numV 1).cells 39 V) := ⟨(H3.out.2.2.1.trans (hb.mono H3.out.2.2.1.size)).trans (hbV.mono (Nat.le_trans H3.out.2.2.1.size hb.size)), hkV⟩
  clear hb hbV hkV
  simp only [tupR, vv]
  go_wp2_with fail
  refine (knumber_any 0 V).mono ?_
  rintro _ w5 ⟨rfl, hb⟩
  have H5 : Hid (Below w.heap.size w w5 ∧ Blk w4.heap.size (numV 1).cells 39 w5) := ⟨H4.out.1.trans (hb.mono H4.out.1.size), H4.out.2.below hb⟩
  clear hb
  go_wp2_with fail
  have h8 := both_any 15 .none (numV 0) w5
  obtain ⟨v2, hv2⟩ : ∃ v, numV 0 = v := ⟨_, rfl⟩
  have HV2 : Hid (numV 0 = v2) := hv2
  rw [kn_both] at h8
  have h8 : Calls Tryz.prog 31 #[.int .i64 15, vv .none, vv (numV 0)] w5 fun e w' => e = .returned (tupR (.ok v2)) ∧ Below w5.heap.size w5 w' := by rw [← hv2]; exact h8
  clear hv2
  refine h8.mono ?_
  clear h8
  rintro _ w6 ⟨rfl, hb⟩
  obtain ⟨U, hU⟩ : ∃ V, w6.alloc (.cells #[.int .i64 v2.k, .int .i64 v2.n, .string v2.t] 39) = V := ⟨_, rfl⟩
  have hbU : Below w6.heap.size w6 U := by rw [← hU]; exact (Below.refl _ _).alloc (Nat.le_refl _) _
  have hkU : Blk w6.heap.size (numV 0).cells 39 U := by rw [← hU, HV2.out]; exact Blk.new _ _ _
  have H6 : Hid (Below w.heap.size w U ∧ Blk w4.heap.size (numV 1).cells 39 U ∧ Blk w6.heap.size (numV 0).cells 39 U) := ⟨(H5.out.1.trans (hb.mono H5.out.1.size)).trans (hbU.mono (Nat.le_trans H5.out.1.size hb.size)), (H5.out.2.below hb).below hbU, hkU⟩
  clear hb hbU hkU
  simp only [tupR, vv]
  go_upto_region 4 with fail
  have d : Below U.heap.size U U.drew := (Below.refl _ _).drew
  obtain ⟨a0, a1, a2, af⟩ := (H6.out.2.1.below d).vc
  obtain ⟨b0, b1, b2, bf⟩ := (H6.out.2.2.below d).vc
  have HK : Hid (∀ wx, Below U.drew.heap.size U.drew wx → wx.cell? ⟨w4.heap.size, 0, none⟩ = some (.int .i64 1) ∧ wx.cell? ⟨w4.heap.size, 1, none⟩ = some (.int .i64 1) ∧ wx.cell? ⟨w4.heap.size, 2, none⟩ = some (.string ⟨#[]⟩) ∧ wx.cell? ⟨w6.heap.size, 0, none⟩ = some (.int .i64 1) ∧ wx.cell? ⟨w6.heap.size, 1, none⟩ = some (.int .i64 0) ∧ wx.cell? ⟨w6.heap.size, 2, none⟩ = some (.string ⟨#[]⟩)) := fun wx hb => by
    obtain ⟨x0, x1, x2, _⟩ := ((H6.out.2.1.below d).below hb).vc
    obtain ⟨y0, y1, y2, _⟩ := ((H6.out.2.2.below d).below hb).vc
    exact ⟨x0, x1, x2, y0, y1, y2⟩
  have HBx : Hid (Below U.drew.heap.size U.drew U.drew) := Below.refl _ _
  have HF : Hid (Below w.heap.size w U.drew) := H6.out.1.drew
  clear d
  go_region_held3 (fun wx => wx.cell? ⟨w4.heap.size, 0, none⟩ = some (.int .i64 1) ∧ wx.cell? ⟨w4.heap.size, 1, none⟩ = some (.int .i64 1) ∧ wx.cell? ⟨w4.heap.size, 2, none⟩ = some (.string ⟨#[]⟩) ∧ wx.cell? ⟨w6.heap.size, 0, none⟩ = some (.int .i64 1) ∧ wx.cell? ⟨w6.heap.size, 1, none⟩ = some (.int .i64 0) ∧ wx.cell? ⟨w6.heap.size, 2, none⟩ = some (.string ⟨#[]⟩)) (exact HK.out _ HBx.out) ((go_at_call 24; refine Calls.mono (knumber_any _ _) ?_; rintro _ w7 ⟨rfl, hb⟩; have HBx : Hid (Below U.drew.heap.size U.drew w7) := HBx.out.trans (hb.mono HBx.out.size); clear hb; simp only [vv, numV]))
  go_wp2
  go_ret
  exact ⟨rfl, HF.out.trans (HBx.out.mono HF.out.size)⟩
end Go.Proofs.YtbdcbaamjkjhaaaGreatDoor
