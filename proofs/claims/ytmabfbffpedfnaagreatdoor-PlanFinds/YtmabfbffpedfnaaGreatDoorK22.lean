/- Part 22 of 30. -/
import Derived.Test.YtmabfbffpedfnaaGreatDoorK21
namespace Go.Proofs.YtmabfbffpedfnaaGreatDoor
open Go.RowKit

def nameOf : Ex → ByteArray
  | .nil => ⟨#[]⟩
  | .node _ _ nm _ _ => nm
def matR (r : Except Int Vl) (tx : ByteArray) : Except Int Vl := match r with
  | .ok x => .ok (truthV (x.t.toList == tx.toList))
  | .error n => .error n
def oneR (c : Int) (x : Vl) : Except Int Vl := if c = 3 then countR 7 (numV 0) x else if c = 4 then notR x else .ok (truthV (x.k == 0))
def bindR (r : Except Int Vl) (f : Vl → Except Int Vl) : Except Int Vl := match r with
  | .ok x => f x
  | .error n => .error n
/-- what an expression comes to -/
def evF (a b c : Vl) : Ex → Except Int Vl
  | .nil => .error 3
  | .node cd v nm l r => if formB (.node cd v nm l r) = false then .error 3 else if cd = 1 then .ok v else if cd = 2 then colR a b c nm else if cd = 17 then matR (colR a b c (nameOf l)) v.t else bindR (evF a b c l) fun x => if cd = 3 ∨ cd = 4 ∨ cd = 5 then oneR cd x else bindR (evF a b c r) fun y => twoR cd x y
/-- what come tells -/
def ToldE (r : Except Int Vl) (w : World) (e : Ending) (w' : World) : Prop := (∃ v, e = .returned (.tuple #[vv v, errOf r]) ∧ ∀ x, r = .ok x → v = x) ∧ Below w.heap.size w w'
def ComeSp (a b c : Vl) (e : Ex) : Prop := ∀ (be ba bb bc bf : Nat) (p : Option Addr) (w : World), EnvW be ba bb bc bf a b c w → ExAt w p e → Calls Tryz.prog 29 #[.agg #[.func (.func 8) #[] #[.pointer (some ⟨be, 0, none⟩), .pointer (some ⟨ba, 0, none⟩), .pointer (some ⟨bb, 0, none⟩), .pointer (some ⟨bc, 0, none⟩)], .func (.func 12) #[] #[.pointer (some ⟨bf, 0, none⟩)]], .pointer p] w fun r w' => ToldE (evF a b c e) w r w'
/-- come at work -/
structure CW (be ba bb bc bf : Nat) (a b c : Vl) (p : Option Addr) (e : Ex) (w0 w : World) : Prop where
  kE : Blk w0.heap.size #[.func (.func 8) #[] #[.pointer (some ⟨be, 0, none⟩), .pointer (some ⟨ba, 0, none⟩), .pointer (some ⟨bb, 0, none⟩), .pointer (some ⟨bc, 0, none⟩)], .func (.func 12) #[] #[.pointer (some ⟨bf, 0, none⟩)]] 49 w
  kR : Blk (w0.heap.size + 1) Vl.none.cells 23 w
  env : EnvW be ba bb bc bf a b c w
  ex : ExAt w p e
  be : Below w0.heap.size w0 w
theorem CW.below {be ba bb bc bf : Nat} {a b c : Vl} {p : Option Addr} {e : Ex} {w0 w w' : World} (h : CW be ba bb bc bf a b c p e w0 w) (hb : Below w.heap.size w w') : CW be ba bb bc bf a b c p e w0 w' :=
  ⟨h.kE.below hb, h.kR.below hb, h.env.below hb, h.ex.below hb, h.be.trans (hb.mono h.be.size)⟩
theorem CW.e0 {be ba bb bc bf : Nat} {a b c : Vl} {p : Option Addr} {e : Ex} {w0 w : World} (h : CW be ba bb bc bf a b c p e w0 w) : w.cell? ⟨w0.heap.size, 0, none⟩ = some (.func (.func 8) #[] #[.pointer (some ⟨be, 0, none⟩), .pointer (some ⟨ba, 0, none⟩), .pointer (some ⟨bb, 0, none⟩), .pointer (some ⟨bc, 0, none⟩)]) ∧ w.cell? ⟨w0.heap.size, 1, none⟩ = some (.func (.func 12) #[] #[.pointer (some ⟨bf, 0, none⟩)]) := ⟨by rw [h.kE.cell 0]; rfl, by rw [h.kE.cell 1]; rfl⟩
set_option maxRecDepth 100000 in
set_option maxHeartbeats 4000000 in
theorem come_bad (a b c : Vl) (E : Ex) (hF : formB E = false) : ComeSp a b c E := by
  intro be ba bb bc bf p w hE hX
  obtain ⟨W, hW⟩ : ∃ W, (w.alloc (.cells #[.func (.func 8) #[] #[.pointer (some ⟨be, 0, none⟩), .pointer (some ⟨ba, 0, none⟩), .pointer (some ⟨bb, 0, none⟩), .pointer (some ⟨bc, 0, none⟩)], .func (.func 12) #[] #[.pointer (some ⟨bf, 0, none⟩)]] 49)).alloc (.cells #[.int .i64 0, .int .i64 0, .string ⟨#[]⟩] 23) = W := ⟨_, rfl⟩
  have hbW : Below w.heap.size w W := by rw [← hW]; exact ((Below.refl _ _).alloc (Nat.le_refl _) _).alloc (by simp only [World.size_alloc]; omega) _
  have hkE : Blk w.heap.size #[.func (.func 8) #[] #[.pointer (some ⟨be, 0, none⟩), .pointer (some ⟨ba, 0, none⟩), .pointer (some ⟨bb, 0, none⟩), .pointer (some ⟨bc, 0, none⟩)], .func (.func 12) #[] #[.pointer (some ⟨bf, 0, none⟩)]] 49 W := by rw [← hW]; exact (Blk.new _ _ _).below ((Below.refl _ _).alloc (Nat.le_refl _) _)
  have hkR : Blk (w.heap.size + 1) Vl.none.cells 23 W := by
    have hq := Blk.new (w.alloc (.cells #[.func (.func 8) #[] #[.pointer (some ⟨be, 0, none⟩), .pointer (some ⟨ba, 0, none⟩), .pointer (some ⟨bb, 0, none⟩), .pointer (some ⟨bc, 0, none⟩)], .func (.func 12) #[] #[.pointer (some ⟨bf, 0, none⟩)]] 49)) Vl.none.cells 23
    simp only [World.size_alloc] at hq
    rw [← hW]
    exact hq
  have G0 : Hid (CW be ba bb bc bf a b c p E w W) := ⟨hkE, hkR, hE.below hbW, hX.below hbW, hbW⟩
  clear hbW hkE hkR hE hX
  have he : evF a b c E = .error 3 := by
    cases E with
    | nil => rfl
    | node cd v nm l r => rw [evF, if_pos hF]
  rw [he]
  have HF : Hid (formB E = false) := hF
  clear he hF
  obtain ⟨c0, c1, c2, cf⟩ := G0.out.kR.vc
  go_enter Tryz.func29, Tryz.ntmps29
  go_wp2_with fail
  have h8 := formed_any E p W G0.out.ex
  rw [HF.out] at h8
  refine h8.mono ?_
  clear h8
  rintro _ w1 ⟨rfl, rfl⟩
  go_wp2
  refine bodyPost_ret (v := .tuple #[vv .none, .iface 82 (.int .i64 3)]) (results_ct Tryz.results29 _ _ ⟨w.heap.size + 1, 0, none⟩ rfl (load39 (put39_blk .none G0.out.kR))) rfl ?_
  exact ⟨⟨.none, rfl, fun x hx => by cases hx⟩, put39_below .none G0.out.be (by omega)⟩
set_option maxRecDepth 100000 in
set_option maxHeartbeats 4000000 in
theorem come_lit (a b c : Vl) (v : Vl) (nm : ByteArray) (l r : Ex) : ComeSp a b c (.node 1 v nm l r) := by
  intro be ba bb bc bf p w hE hX
  obtain ⟨W, hW⟩ : ∃ W, (w.alloc (.cells #[.func (.func 8) #[] #[.pointer (some ⟨be, 0, none⟩), .pointer (some ⟨ba, 0, none⟩), .pointer (some ⟨bb, 0, none⟩), .pointer (some ⟨bc, 0, none⟩)], .func (.func 12) #[] #[.pointer (some ⟨bf, 0, none⟩)]] 49)).alloc (.cells #[.int .i64 0, .int .i64 0, .string ⟨#[]⟩] 23) = W := ⟨_, rfl⟩
  have hbW : Below w.heap.size w W := by rw [← hW]; exact ((Below.refl _ _).alloc (Nat.le_refl _) _).alloc (by simp only [World.size_alloc]; omega) _
  have hkE : Blk w.heap.size #[.func (.func 8) #[] #[.pointer (some ⟨be, 0, none⟩), .pointer (some ⟨ba, 0, none⟩), .pointer (some ⟨bb, 0, none⟩), .pointer (some ⟨bc, 0, none⟩)], .func (.func 12) #[] #[.pointer (some ⟨bf, 0, none⟩)]] 49 W := by rw [← hW]; exact (Blk.new _ _ _).below ((Below.refl _ _).alloc (Nat.le_refl _) _)
  have hkR : Blk (w.heap.size + 1) Vl.none.cells 23 W := by
    have hq := Blk.new (w.alloc (.cells #[.func (.func 8) #[] #[.pointer (some ⟨be, 0, none⟩), .pointer (some ⟨ba, 0, none⟩), .pointer (some ⟨bb, 0, none⟩), .pointer (some ⟨bc, 0, none⟩)], .func (.func 12) #[] #[.pointer (some ⟨bf, 0, none⟩)]] 49)) Vl.none.cells 23
    simp only [World.size_alloc] at hq
    rw [← hW]
    exact hq
  have G0 : Hid (CW be ba bb bc bf a b c p (.node 1 v nm l r) w W) := ⟨hkE, hkR, hE.below hbW, hX.below hbW, hbW⟩
  clear hbW hkE hkR hE hX
  have hF : formB (.node 1 v nm l r) = true := rfl
  have he : evF a b c (.node 1 v nm l r) = .ok v := by rw [evF, if_neg (by rw [hF]; decide), if_pos rfl]
  rw [he]
  have HF : Hid (formB (.node 1 v nm l r) = true) := hF
  clear he hF
  obtain ⟨c0, c1, c2, cf⟩ := G0.out.kR.vc
  obtain ⟨B, pl, pr, rfl, hlt, ⟨n0, n1, n2, n3, n4, n5, n6⟩, ql, qr⟩ := G0.out.ex
  go_enter Tryz.func29, Tryz.ntmps29
  go_wp2_with fail
  have h8 := formed_any (.node 1 v nm l r) _ W G0.out.ex
  rw [HF.out] at h8
  refine h8.mono ?_
  clear h8
  rintro _ w1 ⟨rfl, rfl⟩
  go_wp2
  refine bodyPost_ret (v := .tuple #[vv v, .nilIface]) (results_ct Tryz.results29 _ _ ⟨w.heap.size + 1, 0, none⟩ rfl (load39 (put39_blk v G0.out.kR))) rfl ?_
  exact ⟨⟨v, rfl, fun x hx => by cases hx; rfl⟩, put39_below v G0.out.be (by omega)⟩
set_option maxRecDepth 100000 in
set_option maxHeartbeats 4000000 in
theorem come_col (a b c : Vl) (v : Vl) (nm : ByteArray) (l r : Ex) : ComeSp a b c (.node 2 v nm l r) := by
  intro be ba bb bc bf p w hE hX
  obtain ⟨W, hW⟩ : ∃ W, (w.alloc (.cells #[.func (.func 8) #[] #[.pointer (some ⟨be, 0, none⟩), .pointer (some ⟨ba, 0, none⟩), .pointer (some ⟨bb, 0, none⟩), .pointer (some ⟨bc, 0, none⟩)], .func (.func 12) #[] #[.pointer (some ⟨bf, 0, none⟩)]] 49)).alloc (.cells #[.int .i64 0, .int .i64 0, .string ⟨#[]⟩] 23) = W := ⟨_, rfl⟩
  have hbW : Below w.heap.size w W := by rw [← hW]; exact ((Below.refl _ _).alloc (Nat.le_refl _) _).alloc (by simp only [World.size_alloc]; omega) _
  have hkE : Blk w.heap.size #[.func (.func 8) #[] #[.pointer (some ⟨be, 0, none⟩), .pointer (some ⟨ba, 0, none⟩), .pointer (some ⟨bb, 0, none⟩), .pointer (some ⟨bc, 0, none⟩)], .func (.func 12) #[] #[.pointer (some ⟨bf, 0, none⟩)]] 49 W := by rw [← hW]; exact (Blk.new _ _ _).below ((Below.refl _ _).alloc (Nat.le_refl _) _)
  have hkR : Blk (w.heap.size + 1) Vl.none.cells 23 W := by
    have hq := Blk.new (w.alloc (.cells #[.func (.func 8) #[] #[.pointer (some ⟨be, 0, none⟩), .pointer (some ⟨ba, 0, none⟩), .pointer (some ⟨bb, 0, none⟩), .pointer (some ⟨bc, 0, none⟩)], .func (.func 12) #[] #[.pointer (some ⟨bf, 0, none⟩)]] 49)) Vl.none.cells 23
    simp only [World.size_alloc] at hq
    rw [← hW]
    exact hq
  have G0 : Hid (CW be ba bb bc bf a b c p (.node 2 v nm l r) w W) := ⟨hkE, hkR, hE.below hbW, hX.below hbW, hbW⟩
  clear hbW hkE hkR hE hX
  have hF : formB (.node 2 v nm l r) = true := rfl
  have he : evF a b c (.node 2 v nm l r) = colR a b c nm := by rw [evF, if_neg (by rw [hF]; decide), if_neg (by decide), if_pos rfl]
  rw [he]
  have HF : Hid (formB (.node 2 v nm l r) = true) := hF
  clear he hF
  obtain ⟨B, pl, pr, rfl, hlt, ⟨n0, n1, n2, n3, n4, n5, n6⟩, ql, qr⟩ := G0.out.ex
  obtain ⟨R, hR⟩ : ∃ R, colR a b c nm = R := ⟨_, rfl⟩
  have HR : Hid (colR a b c nm = R) := hR
  rw [hR]
  clear hR
  go_enter Tryz.func29, Tryz.ntmps29
  go_wp2_with fail
  have h8 := formed_any (.node 2 v nm l r) _ W G0.out.ex
  rw [HF.out] at h8
  refine h8.mono ?_
  clear h8
  rintro _ w1 ⟨rfl, rfl⟩
  go_upto_region 7 with fail
  have GX : Hid (CW be ba bb bc bf a b c (some ⟨B, 0, none⟩) (.node 2 v nm l r) w w1.drew) := G0.out.below ((Below.refl _ _).drew)
  have d0 := GX.out.e0.1
  have d4 : w1.drew.cell? ⟨B, 4, none⟩ = some (.string nm) := n4
  go_region_law (go_wp2_with (go_at_call 8; have h8 := ecol_any nm _ GX.out.env; rw [HR.out, tup_eq] at h8; refine Calls.mono h8 ?_; clear h8; rintro _ w2 ⟨rfl, hb⟩; have GY : Hid (CW be ba bb bc bf a b c (some ⟨B, 0, none⟩) (.node 2 v nm l r) w w2) := GX.out.below hb; obtain ⟨r0, r1, r2, rf⟩ := GY.out.kR.vc; clear hb; unfold vv))
  all_goals
    go_wp2_with fail
    refine bodyPost_ret (v := .tuple #[vv (valOf R), errOf R]) (results_ct Tryz.results29 _ _ ⟨w.heap.size + 1, 0, none⟩ rfl (load39 (put39_blk (valOf R) GY.out.kR))) rfl ?_
    exact ⟨⟨valOf R, rfl, fun x hx => by rw [hx]; rfl⟩, put39_below (valOf R) GY.out.be (by omega)⟩
set_option maxRecDepth 100000 in
set_option maxHeartbeats 4000000 in
theorem come_mat (a b c : Vl) (v v2 : Vl) (nm nm2 : ByteArray) (l2 r2 r : Ex) : ComeSp a b c (.node 17 v nm (.node 2 v2 nm2 l2 r2) r) := by
  intro be ba bb bc bf p w hE hX
  obtain ⟨W, hW⟩ : ∃ W, (w.alloc (.cells #[.func (.func 8) #[] #[.pointer (some ⟨be, 0, none⟩), .pointer (some ⟨ba, 0, none⟩), .pointer (some ⟨bb, 0, none⟩), .pointer (some ⟨bc, 0, none⟩)], .func (.func 12) #[] #[.pointer (some ⟨bf, 0, none⟩)]] 49)).alloc (.cells #[.int .i64 0, .int .i64 0, .string ⟨#[]⟩] 23) = W := ⟨_, rfl⟩
  have hbW : Below w.heap.size w W := by rw [← hW]; exact ((Below.refl _ _).alloc (Nat.le_refl _) _).alloc (by simp only [World.size_alloc]; omega) _
  have hkE : Blk w.heap.size #[.func (.func 8) #[] #[.pointer (some ⟨be, 0, none⟩), .pointer (some ⟨ba, 0, none⟩), .pointer (some ⟨bb, 0, none⟩), .pointer (some ⟨bc, 0, none⟩)], .func (.func 12) #[] #[.pointer (some ⟨bf, 0, none⟩)]] 49 W := by rw [← hW]; exact (Blk.new _ _ _).below ((Below.refl _ _).alloc (Nat.le_refl _) _)
  have hkR : Blk (w.heap.size + 1) Vl.none.cells 23 W := by
    have hq := Blk.new (w.alloc (.cells #[.func (.func 8) #[] #[.pointer (some ⟨be, 0, none⟩), .pointer (some ⟨ba, 0, none⟩), .pointer (some ⟨bb, 0, none⟩), .pointer (some ⟨bc, 0, none⟩)], .func (.func 12) #[] #[.pointer (some ⟨bf, 0, none⟩)]] 49)) Vl.none.cells 23
    simp only [World.size_alloc] at hq
    rw [← hW]
    exact hq
  have G0 : Hid (CW be ba bb bc bf a b c p (.node 17 v nm (.node 2 v2 nm2 l2 r2) r) w W) := ⟨hkE, hkR, hE.below hbW, hX.below hbW, hbW⟩
  clear hbW hkE hkR hE hX
  have hF : formB (.node 17 v nm (.node 2 v2 nm2 l2 r2) r) = true := rfl
  have he : evF a b c (.node 17 v nm (.node 2 v2 nm2 l2 r2) r) = matR (colR a b c nm2) v.t := by rw [evF, if_neg (by rw [hF]; decide), if_neg (by decide), if_neg (by decide), if_pos rfl]; rfl
  rw [he]
  have HF : Hid (formB (.node 17 v nm (.node 2 v2 nm2 l2 r2) r) = true) := hF
  clear he hF
  obtain ⟨B, pl, pr, rfl, hlt, ⟨n0, n1, n2, n3, n4, n5, n6⟩, ql, qr⟩ := G0.out.ex
  obtain ⟨B2, pl2, pr2, rfl, hlt2, ⟨m0, m1, m2, m3, m4, m5, m6⟩, _, _⟩ := ql
  obtain ⟨R, hR⟩ : ∃ R, colR a b c nm2 = R := ⟨_, rfl⟩
  have HR : Hid (colR a b c nm2 = R) := hR
  rw [hR]
  clear hR
  go_enter Tryz.func29, Tryz.ntmps29
  go_wp2_with fail
  have h8 := formed_any (.node 17 v nm (.node 2 v2 nm2 l2 r2) r) _ W G0.out.ex
  rw [HF.out] at h8
  refine h8.mono ?_
  clear h8
  rintro _ w1 ⟨rfl, rfl⟩
  go_upto_region 9 with fail
  go_cut [6, 7] (fun a6 a7 wx => a6 = .bool ((valOf R).t.toList == v.t.toList) ∧ a7 = errOf R ∧ Hid (CW be ba bb bc bf a b c (some ⟨B, 0, none⟩) (.node 17 v nm (.node 2 v2 nm2 l2 r2) r) w wx))
  case first =>
    have GX : Hid (CW be ba bb bc bf a b c (some ⟨B, 0, none⟩) (.node 17 v nm (.node 2 v2 nm2 l2 r2) r) w w1.drew) := G0.out.below ((Below.refl _ _).drew)
    have d0 := GX.out.e0.2
    have d5 : w1.drew.cell? ⟨B, 5, none⟩ = some (.pointer (some ⟨B2, 0, none⟩)) := n5
    have d3 : w1.drew.cell? ⟨B, 3, none⟩ = some (.string v.t) := n3
    have d4 : w1.drew.cell? ⟨B2, 4, none⟩ = some (.string nm2) := m4
    have HK : Hid (∀ wx, Below w1.drew.heap.size w1.drew wx → wx.cell? ⟨w.heap.size, 1, none⟩ = some (.func (.func 12) #[] #[.pointer (some ⟨bf, 0, none⟩)]) ∧ wx.cell? ⟨B, 5, none⟩ = some (.pointer (some ⟨B2, 0, none⟩)) ∧ wx.cell? ⟨B, 3, none⟩ = some (.string v.t) ∧ wx.cell? ⟨B2, 4, none⟩ = some (.string nm2)) := fun wx hb => ⟨(hb.cell (p := ⟨w.heap.size, 1, none⟩) (by have := (Array.getElem?_eq_some_iff.1 GX.out.kE).1; exact this)).trans d0, (hb.cell (p := ⟨B, 5, none⟩) hlt).trans d5, (hb.cell (p := ⟨B, 3, none⟩) hlt).trans d3, (hb.cell (p := ⟨B2, 4, none⟩) hlt2).trans d4⟩
    have HBx : Hid (Below w1.drew.heap.size w1.drew w1.drew) := Below.refl _ _
    go_region_held3 (fun wx => wx.cell? ⟨w.heap.size, 1, none⟩ = some (.func (.func 12) #[] #[.pointer (some ⟨bf, 0, none⟩)]) ∧ wx.cell? ⟨B, 5, none⟩ = some (.pointer (some ⟨B2, 0, none⟩)) ∧ wx.cell? ⟨B, 3, none⟩ = some (.string v.t) ∧ wx.cell? ⟨B2, 4, none⟩ = some (.string nm2)) (exact HK.out _ HBx.out) ((go_at_call 12; have h8 := emat_any nm2 v.t _ GX.out.env; rw [HR.out] at h8; refine Calls.mono h8 ?_; clear h8; rintro _ w2 ⟨rfl, hb⟩; have HBx : Hid (Below w1.drew.heap.size w1.drew w2) := hb; have GX : Hid (CW be ba bb bc bf a b c (some ⟨B, 0, none⟩) (.node 17 v nm (.node 2 v2 nm2 l2 r2) r) w w2) := GX.out.below hb; clear hb))
    go_wp2_with fail
    go_meet
    case rel => exact ⟨rfl, rfl, GX⟩
  case rest =>
  obtain ⟨rfl, rfl, GY⟩ := hcut
  obtain ⟨w3, hw3⟩ : ∃ u, u = wc := ⟨_, rfl⟩
  subst hw3
  clear n0 n1 n2 n3 n4 n5 n6 m0 m1 m2 m3 m4 m5 m6 hlt hlt2
  obtain ⟨q, hq⟩ : ∃ q, ((valOf R).t.toList == v.t.toList) = q := ⟨_, rfl⟩
  have HQ : Hid (((valOf R).t.toList == v.t.toList) = q) := hq
  rw [hq]
  clear hq
  go_wp2_with fail
  refine (truth_any q w3).mono ?_
  rintro _ w4 ⟨rfl, hb⟩
  have GZ : Hid (CW be ba bb bc bf a b c (some ⟨B, 0, none⟩) (.node 17 v nm (.node 2 v2 nm2 l2 r2) r) w w4) := GY.out.below hb
  obtain ⟨r0, r1, r2, rf⟩ := GZ.out.kR.vc
  clear hb
  unfold vv
  go_wp2
  refine bodyPost_ret (v := .tuple #[vv (truthV q), errOf R]) (results_ct Tryz.results29 _ _ ⟨w.heap.size + 1, 0, none⟩ rfl (load39 (put39_blk (truthV q) GZ.out.kR))) rfl ?_
  refine ⟨⟨truthV q, by cases R <;> rfl, fun x hx => ?_⟩, put39_below (truthV q) GZ.out.be (by omega)⟩
  cases R with
  | ok y => cases hx; rw [← HQ.out]; rfl
  | error n => cases hx
end Go.Proofs.YtmabfbffpedfnaaGreatDoor
namespace Go.Proofs.YtmabfbffpedfnaaGreatDoor
open Go.RowKit

set_option maxRecDepth 100000 in
set_option maxHeartbeats 8000000 in
theorem come_3 (a b c : Vl) (v : Vl) (nm : ByteArray) (l r : Ex) (hI : ComeSp a b c l) : ComeSp a b c (.node 3 v nm l r) := by
  have HI : Hid (ComeSp a b c l) := hI
  clear hI
  intro be ba bb bc bf p w hE hX
  obtain ⟨W, hW⟩ : ∃ W, (w.alloc (.cells #[.func (.func 8) #[] #[.pointer (some ⟨be, 0, none⟩), .pointer (some ⟨ba, 0, none⟩), .pointer (some ⟨bb, 0, none⟩), .pointer (some ⟨bc, 0, none⟩)], .func (.func 12) #[] #[.pointer (some ⟨bf, 0, none⟩)]] 49)).alloc (.cells #[.int .i64 0, .int .i64 0, .string ⟨#[]⟩] 23) = W := ⟨_, rfl⟩
  have hbW : Below w.heap.size w W := by rw [← hW]; exact ((Below.refl _ _).alloc (Nat.le_refl _) _).alloc (by simp only [World.size_alloc]; omega) _
  have hkE : Blk w.heap.size #[.func (.func 8) #[] #[.pointer (some ⟨be, 0, none⟩), .pointer (some ⟨ba, 0, none⟩), .pointer (some ⟨bb, 0, none⟩), .pointer (some ⟨bc, 0, none⟩)], .func (.func 12) #[] #[.pointer (some ⟨bf, 0, none⟩)]] 49 W := by rw [← hW]; exact (Blk.new _ _ _).below ((Below.refl _ _).alloc (Nat.le_refl _) _)
  have hkR : Blk (w.heap.size + 1) Vl.none.cells 23 W := by
    have hq := Blk.new (w.alloc (.cells #[.func (.func 8) #[] #[.pointer (some ⟨be, 0, none⟩), .pointer (some ⟨ba, 0, none⟩), .pointer (some ⟨bb, 0, none⟩), .pointer (some ⟨bc, 0, none⟩)], .func (.func 12) #[] #[.pointer (some ⟨bf, 0, none⟩)]] 49)) Vl.none.cells 23
    simp only [World.size_alloc] at hq
    rw [← hW]
    exact hq
  have G0 : Hid (CW be ba bb bc bf a b c p (.node 3 v nm l r) w W) := ⟨hkE, hkR, hE.below hbW, hX.below hbW, hbW⟩
  clear hbW hkE hkR hE hX
  have hF : formB (.node 3 v nm l r) = true := rfl
  obtain ⟨L, hL⟩ : ∃ L, evF a b c l = L := ⟨_, rfl⟩
  have HL : Hid (evF a b c l = L) := hL
  have he : evF a b c (.node 3 v nm l r) = bindR L fun x => oneR 3 x := by rw [evF, if_neg (by rw [hF]; decide), if_neg (by decide), if_neg (by decide), if_neg (by decide), hL]; rfl
  rw [he]
  have HF : Hid (formB (.node 3 v nm l r) = true) := hF
  clear he hF hL
  obtain ⟨B, pl, pr, rfl, hlt, ⟨n0, n1, n2, n3, n4, n5, n6⟩, ql, qr⟩ := G0.out.ex
  go_enter Tryz.func29, Tryz.ntmps29
  go_wp2_with fail
  have h8 := formed_any (.node 3 v nm l r) _ W G0.out.ex
  rw [HF.out] at h8
  refine h8.mono ?_
  clear h8
  rintro _ w1 ⟨rfl, rfl⟩
  go_upto_region 11 with fail
  go_cut [8, 9] (fun a8 a9 wx => ∃ (v1 : Vl) (bl : Nat), a8 = .pointer (some ⟨bl, 0, none⟩) ∧ a9 = errOf L ∧ Hid (CW be ba bb bc bf a b c (some ⟨B, 0, none⟩) (.node 3 v nm l r) w wx ∧ Blk bl v1.cells 23 wx ∧ (∀ x, L = .ok x → v1 = x) ∧ w.heap.size + 2 ≤ bl))
  case first =>
    have hsz : w.heap.size + 2 ≤ w1.heap.size := (Array.getElem?_eq_some_iff.1 G0.out.kR).1
    have HSZ : Hid (w.heap.size + 2 ≤ w1.heap.size) := hsz
    have HQ : Hid (ExAt w1 pl l) := ql
    have HKE : Hid (∀ wx, Below w1.heap.size w1 wx → Calls Tryz.prog 29 #[.agg #[.func (.func 8) #[] #[.pointer (some ⟨be, 0, none⟩), .pointer (some ⟨ba, 0, none⟩), .pointer (some ⟨bb, 0, none⟩), .pointer (some ⟨bc, 0, none⟩)], .func (.func 12) #[] #[.pointer (some ⟨bf, 0, none⟩)]], .pointer pl] wx fun r w' => ToldE L wx r w') := fun wx hb => by
      have h8 := HI.out be ba bb bc bf pl wx (G0.out.env.below hb) (HQ.out.below hb)
      rw [HL.out] at h8
      exact h8
    have HA : Hid (Below w1.heap.size w1 w1.drew) := (Below.refl _ _).drew
    have HBB : Hid (Below w1.heap.size w1 (w1.alloc (.cells #[.int .i64 0, .int .i64 0, .string ⟨#[]⟩] 23)).drew) := ((Below.refl _ _).alloc (Nat.le_refl _) _).drew
    have HK : Hid (∀ wx, Below w1.heap.size w1 wx → wx.cell? ⟨w.heap.size, 0, none⟩ = some (.func (.func 8) #[] #[.pointer (some ⟨be, 0, none⟩), .pointer (some ⟨ba, 0, none⟩), .pointer (some ⟨bb, 0, none⟩), .pointer (some ⟨bc, 0, none⟩)]) ∧ wx.cell? ⟨w.heap.size, 1, none⟩ = some (.func (.func 12) #[] #[.pointer (some ⟨bf, 0, none⟩)]) ∧ wx.cell? ⟨B, 5, none⟩ = some (.pointer pl)) := fun wx hb => ⟨(G0.out.below hb).e0.1, (G0.out.below hb).e0.2, (hb.cell (p := ⟨B, 5, none⟩) hlt).trans n5⟩
    clear hsz
    go_region_held3 (fun wx => wx.cell? ⟨w.heap.size, 0, none⟩ = some (.func (.func 8) #[] #[.pointer (some ⟨be, 0, none⟩), .pointer (some ⟨ba, 0, none⟩), .pointer (some ⟨bb, 0, none⟩), .pointer (some ⟨bc, 0, none⟩)]) ∧ wx.cell? ⟨w.heap.size, 1, none⟩ = some (.func (.func 12) #[] #[.pointer (some ⟨bf, 0, none⟩)]) ∧ wx.cell? ⟨B, 5, none⟩ = some (.pointer pl)) (first | exact HK.out _ HA.out | exact HK.out _ HBB.out | exact HK.out _ HVb.out | exact HK.out _ (HA.out.alloc HA.out.size _) | exact HK.out _ (put39_below _ HA.out (by first | exact Nat.le_refl _ | exact HA.out.size))) ((go_at_call 29; refine Calls.mono (HKE.out _ (by first | exact HA.out | exact HBB.out)) ?_; rintro _ w2 ⟨⟨v1, rfl, hv1⟩, hb⟩; have HV1 : Hid (∀ x, L = .ok x → v1 = x) := hv1; clear hv1; first
      | (have hkB : Blk w1.heap.size Vl.none.cells 23 w2 := ((Blk.new w1 Vl.none.cells 23).below ((Below.refl _ _).drew)).below hb; obtain ⟨k0, k1, k2, kf⟩ := hkB.vc; have HA : Hid (Below w1.heap.size w1 w2) := HBB.out.trans (hb.mono HBB.out.size); have GY : Hid (CW be ba bb bc bf a b c (some ⟨B, 0, none⟩) (.node 3 v nm l r) w (put39 w2 w1.heap.size v1) ∧ Blk w1.heap.size v1.cells 23 (put39 w2 w1.heap.size v1) ∧ (∀ x, L = .ok x → v1 = x) ∧ w.heap.size + 2 ≤ w1.heap.size) := ⟨G0.out.below (put39_below v1 HA.out (Nat.le_refl _)), put39_blk v1 hkB, HV1.out, HSZ.out⟩; clear hb hkB; unfold vv)
      | (have hbs : w1.heap.size ≤ w2.heap.size := hb.size; have HA : Hid (Below w1.heap.size w1 w2) := HA.out.trans (hb.mono HA.out.size); obtain ⟨V, hV⟩ : ∃ V, w2.alloc (.cells #[.int .i64 v1.k, .int .i64 v1.n, .string v1.t] 23) = V := ⟨_, rfl⟩; have hbV : Below w2.heap.size w2 V := (by rw [← hV]; exact (Below.refl _ _).alloc (Nat.le_refl _) _); have HVb : Hid (Below w1.heap.size w1 V) := HA.out.trans (hbV.mono hbs); have GY : Hid (CW be ba bb bc bf a b c (some ⟨B, 0, none⟩) (.node 3 v nm l r) w V ∧ Blk w2.heap.size v1.cells 23 V ∧ (∀ x, L = .ok x → v1 = x) ∧ w.heap.size + 2 ≤ w2.heap.size) := ⟨(G0.out.below HA.out).below hbV, (by rw [← hV]; exact Blk.new _ _ _), HV1.out, Nat.le_trans HSZ.out hbs⟩; clear hb hbV hbs; unfold vv)))
    all_goals
      go_wp2_with fail
      go_meet
      case rel => exact ⟨v1, _, rfl, rfl, GY⟩
  case rest =>
  obtain ⟨v1, bl, rfl, rfl, GL⟩ := hcut
  obtain ⟨w3, hw3⟩ : ∃ u, u = wc := ⟨_, rfl⟩
  subst hw3
  clear n0 n1 n2 n3 n4 n5 n6 hlt ql qr
  obtain ⟨r0, r1, r2, rf⟩ := GL.out.1.kR.vc
  obtain ⟨B', pl', pr', e, hlt, ⟨n0, n1, n2, n3, n4, n5, n6⟩, ql, qr⟩ := GL.out.1.ex
  cases e
  cases L with
  | error n =>
    have HEv : Hid (bindR (.error n) (fun x => oneR 3 x) = .error n) := rfl
    simp only [errOf]
    go_wp2
    refine bodyPost_ret (v := .tuple #[vv .none, .iface 82 (.int .i64 n)]) (results_ct Tryz.results29 _ _ ⟨w.heap.size + 1, 0, none⟩ rfl (load39 (put39_blk .none GL.out.1.kR))) rfl ?_
    exact ⟨⟨.none, by rw [HEv.out]; rfl, fun x hx => by rw [HEv.out] at hx; cases hx⟩, put39_below .none GL.out.1.be (by omega)⟩
  | ok x1 =>
    obtain rfl : v1 = x1 := GL.out.2.2.1 x1 rfl
    have HEv : Hid (bindR (.ok v1) (fun x => oneR 3 x) = countR 7 (numV 0) v1) := rfl
    obtain ⟨y0, y1, y2, yf⟩ := GL.out.2.1.vc
    simp only [errOf]
    obtain ⟨R, hR⟩ : ∃ R, countR 7 (numV 0) v1 = R := ⟨_, rfl⟩
    have HR : Hid (countR 7 (numV 0) v1 = R) := hR
    clear hR
    go_upto_region 16 with fail
    have HB0 : Hid (Blk bl v1.cells 23 w3 ∧ bl < w3.heap.size ∧ w.heap.size + 2 ≤ bl) := ⟨GL.out.2.1, (Array.getElem?_eq_some_iff.1 GL.out.2.1).1, GL.out.2.2.2⟩
    have HK : Hid (∀ wx, Blk bl v1.cells 23 wx → wx.cell? ⟨bl, 0, none⟩ = some (.int .i64 v1.k) ∧ wx.cell? ⟨bl, 1, none⟩ = some (.int .i64 v1.n) ∧ wx.cell? ⟨bl, 2, none⟩ = some (.string v1.t)) := fun wx h => ⟨h.vc.1, h.vc.2.1, h.vc.2.2.1⟩
    have GX : Hid (CW be ba bb bc bf a b c (some ⟨B, 0, none⟩) (.node 3 v nm l r) w w3.drew ∧ Blk bl v1.cells 23 w3.drew) := ⟨GL.out.1.below ((Below.refl _ _).drew), GL.out.2.1⟩
    go_region_held3 (fun wx => wx.cell? ⟨bl, 0, none⟩ = some (.int .i64 v1.k) ∧ wx.cell? ⟨bl, 1, none⟩ = some (.int .i64 v1.n) ∧ wx.cell? ⟨bl, 2, none⟩ = some (.string v1.t)) (first | exact HK.out _ GX.out.2 | exact HK.out _ HP5.out) (first
      | (go_at_call 56; refine Calls.mono (enumber_any 0 _) ?_; rintro _ w4 ⟨rfl, hb⟩; have GX : Hid (CW be ba bb bc bf a b c (some ⟨B, 0, none⟩) (.node 3 v nm l r) w w4 ∧ Blk bl v1.cells 23 w4) := ⟨GX.out.1.below hb, GX.out.2.below hb⟩; clear hb; unfold vv numV)
      | (go_at_call 55; have h8 := count_any 7 (numV 0) v1 w4; rw [HR.out, tup_eq] at h8; refine Calls.mono h8 ?_; clear h8; rintro _ w5 ⟨rfl, hb⟩; have GX : Hid (CW be ba bb bc bf a b c (some ⟨B, 0, none⟩) (.node 3 v nm l r) w w5 ∧ Blk bl v1.cells 23 w5) := ⟨GX.out.1.below hb, GX.out.2.below hb⟩; have HP5 : Hid (Blk bl v1.cells 23 (put39 w5 (w.heap.size + 1) (valOf R))) := ((GX.out.2.other (by have := HB0.out.2.2; omega) 0 _).other (by have := HB0.out.2.2; omega) 1 _).other (by have := HB0.out.2.2; omega) 2 _; obtain ⟨t0, t1, t2, tf⟩ := GX.out.1.kR.vc; clear hb; unfold vv))
    all_goals
      go_wp2_with fail
      refine bodyPost_ret (v := .tuple #[vv (valOf R), errOf R]) (results_ct Tryz.results29 _ _ ⟨w.heap.size + 1, 0, none⟩ rfl (load39 (put39_blk (valOf R) GX.out.1.kR))) rfl ?_
      exact ⟨⟨valOf R, by rw [HEv.out, HR.out], fun x hx => by rw [HEv.out, HR.out] at hx; rw [hx]; rfl⟩, put39_below (valOf R) GX.out.1.be (by omega)⟩
set_option maxRecDepth 100000 in
set_option maxHeartbeats 8000000 in
theorem come_4 (a b c : Vl) (v : Vl) (nm : ByteArray) (l r : Ex) (hI : ComeSp a b c l) : ComeSp a b c (.node 4 v nm l r) := by
  have HI : Hid (ComeSp a b c l) := hI
  clear hI
  intro be ba bb bc bf p w hE hX
  obtain ⟨W, hW⟩ : ∃ W, (w.alloc (.cells #[.func (.func 8) #[] #[.pointer (some ⟨be, 0, none⟩), .pointer (some ⟨ba, 0, none⟩), .pointer (some ⟨bb, 0, none⟩), .pointer (some ⟨bc, 0, none⟩)], .func (.func 12) #[] #[.pointer (some ⟨bf, 0, none⟩)]] 49)).alloc (.cells #[.int .i64 0, .int .i64 0, .string ⟨#[]⟩] 23) = W := ⟨_, rfl⟩
  have hbW : Below w.heap.size w W := by rw [← hW]; exact ((Below.refl _ _).alloc (Nat.le_refl _) _).alloc (by simp only [World.size_alloc]; omega) _
  have hkE : Blk w.heap.size #[.func (.func 8) #[] #[.pointer (some ⟨be, 0, none⟩), .pointer (some ⟨ba, 0, none⟩), .pointer (some ⟨bb, 0, none⟩), .pointer (some ⟨bc, 0, none⟩)], .func (.func 12) #[] #[.pointer (some ⟨bf, 0, none⟩)]] 49 W := by rw [← hW]; exact (Blk.new _ _ _).below ((Below.refl _ _).alloc (Nat.le_refl _) _)
  have hkR : Blk (w.heap.size + 1) Vl.none.cells 23 W := by
    have hq := Blk.new (w.alloc (.cells #[.func (.func 8) #[] #[.pointer (some ⟨be, 0, none⟩), .pointer (some ⟨ba, 0, none⟩), .pointer (some ⟨bb, 0, none⟩), .pointer (some ⟨bc, 0, none⟩)], .func (.func 12) #[] #[.pointer (some ⟨bf, 0, none⟩)]] 49)) Vl.none.cells 23
    simp only [World.size_alloc] at hq
    rw [← hW]
    exact hq
  have G0 : Hid (CW be ba bb bc bf a b c p (.node 4 v nm l r) w W) := ⟨hkE, hkR, hE.below hbW, hX.below hbW, hbW⟩
  clear hbW hkE hkR hE hX
  have hF : formB (.node 4 v nm l r) = true := rfl
  obtain ⟨L, hL⟩ : ∃ L, evF a b c l = L := ⟨_, rfl⟩
  have HL : Hid (evF a b c l = L) := hL
  have he : evF a b c (.node 4 v nm l r) = bindR L fun x => oneR 4 x := by rw [evF, if_neg (by rw [hF]; decide), if_neg (by decide), if_neg (by decide), if_neg (by decide), hL]; rfl
  rw [he]
  have HF : Hid (formB (.node 4 v nm l r) = true) := hF
  clear he hF hL
  obtain ⟨B, pl, pr, rfl, hlt, ⟨n0, n1, n2, n3, n4, n5, n6⟩, ql, qr⟩ := G0.out.ex
  go_enter Tryz.func29, Tryz.ntmps29
  go_wp2_with fail
  have h8 := formed_any (.node 4 v nm l r) _ W G0.out.ex
  rw [HF.out] at h8
  refine h8.mono ?_
  clear h8
  rintro _ w1 ⟨rfl, rfl⟩
  go_upto_region 11 with fail
  go_cut [8, 9] (fun a8 a9 wx => ∃ (v1 : Vl) (bl : Nat), a8 = .pointer (some ⟨bl, 0, none⟩) ∧ a9 = errOf L ∧ Hid (CW be ba bb bc bf a b c (some ⟨B, 0, none⟩) (.node 4 v nm l r) w wx ∧ Blk bl v1.cells 23 wx ∧ (∀ x, L = .ok x → v1 = x) ∧ w.heap.size + 2 ≤ bl))
  case first =>
    have hsz : w.heap.size + 2 ≤ w1.heap.size := (Array.getElem?_eq_some_iff.1 G0.out.kR).1
    have HSZ : Hid (w.heap.size + 2 ≤ w1.heap.size) := hsz
    have HQ : Hid (ExAt w1 pl l) := ql
    have HKE : Hid (∀ wx, Below w1.heap.size w1 wx → Calls Tryz.prog 29 #[.agg #[.func (.func 8) #[] #[.pointer (some ⟨be, 0, none⟩), .pointer (some ⟨ba, 0, none⟩), .pointer (some ⟨bb, 0, none⟩), .pointer (some ⟨bc, 0, none⟩)], .func (.func 12) #[] #[.pointer (some ⟨bf, 0, none⟩)]], .pointer pl] wx fun r w' => ToldE L wx r w') := fun wx hb => by
      have h8 := HI.out be ba bb bc bf pl wx (G0.out.env.below hb) (HQ.out.below hb)
      rw [HL.out] at h8
      exact h8
    have HA : Hid (Below w1.heap.size w1 w1.drew) := (Below.refl _ _).drew
    have HBB : Hid (Below w1.heap.size w1 (w1.alloc (.cells #[.int .i64 0, .int .i64 0, .string ⟨#[]⟩] 23)).drew) := ((Below.refl _ _).alloc (Nat.le_refl _) _).drew
    have HK : Hid (∀ wx, Below w1.heap.size w1 wx → wx.cell? ⟨w.heap.size, 0, none⟩ = some (.func (.func 8) #[] #[.pointer (some ⟨be, 0, none⟩), .pointer (some ⟨ba, 0, none⟩), .pointer (some ⟨bb, 0, none⟩), .pointer (some ⟨bc, 0, none⟩)]) ∧ wx.cell? ⟨w.heap.size, 1, none⟩ = some (.func (.func 12) #[] #[.pointer (some ⟨bf, 0, none⟩)]) ∧ wx.cell? ⟨B, 5, none⟩ = some (.pointer pl)) := fun wx hb => ⟨(G0.out.below hb).e0.1, (G0.out.below hb).e0.2, (hb.cell (p := ⟨B, 5, none⟩) hlt).trans n5⟩
    clear hsz
    go_region_held3 (fun wx => wx.cell? ⟨w.heap.size, 0, none⟩ = some (.func (.func 8) #[] #[.pointer (some ⟨be, 0, none⟩), .pointer (some ⟨ba, 0, none⟩), .pointer (some ⟨bb, 0, none⟩), .pointer (some ⟨bc, 0, none⟩)]) ∧ wx.cell? ⟨w.heap.size, 1, none⟩ = some (.func (.func 12) #[] #[.pointer (some ⟨bf, 0, none⟩)]) ∧ wx.cell? ⟨B, 5, none⟩ = some (.pointer pl)) (first | exact HK.out _ HA.out | exact HK.out _ HBB.out | exact HK.out _ HVb.out | exact HK.out _ (HA.out.alloc HA.out.size _) | exact HK.out _ (put39_below _ HA.out (by first | exact Nat.le_refl _ | exact HA.out.size))) ((go_at_call 29; refine Calls.mono (HKE.out _ (by first | exact HA.out | exact HBB.out)) ?_; rintro _ w2 ⟨⟨v1, rfl, hv1⟩, hb⟩; have HV1 : Hid (∀ x, L = .ok x → v1 = x) := hv1; clear hv1; first
      | (have hkB : Blk w1.heap.size Vl.none.cells 23 w2 := ((Blk.new w1 Vl.none.cells 23).below ((Below.refl _ _).drew)).below hb; obtain ⟨k0, k1, k2, kf⟩ := hkB.vc; have HA : Hid (Below w1.heap.size w1 w2) := HBB.out.trans (hb.mono HBB.out.size); have GY : Hid (CW be ba bb bc bf a b c (some ⟨B, 0, none⟩) (.node 4 v nm l r) w (put39 w2 w1.heap.size v1) ∧ Blk w1.heap.size v1.cells 23 (put39 w2 w1.heap.size v1) ∧ (∀ x, L = .ok x → v1 = x) ∧ w.heap.size + 2 ≤ w1.heap.size) := ⟨G0.out.below (put39_below v1 HA.out (Nat.le_refl _)), put39_blk v1 hkB, HV1.out, HSZ.out⟩; clear hb hkB; unfold vv)
      | (have hbs : w1.heap.size ≤ w2.heap.size := hb.size; have HA : Hid (Below w1.heap.size w1 w2) := HA.out.trans (hb.mono HA.out.size); obtain ⟨V, hV⟩ : ∃ V, w2.alloc (.cells #[.int .i64 v1.k, .int .i64 v1.n, .string v1.t] 23) = V := ⟨_, rfl⟩; have hbV : Below w2.heap.size w2 V := (by rw [← hV]; exact (Below.refl _ _).alloc (Nat.le_refl _) _); have HVb : Hid (Below w1.heap.size w1 V) := HA.out.trans (hbV.mono hbs); have GY : Hid (CW be ba bb bc bf a b c (some ⟨B, 0, none⟩) (.node 4 v nm l r) w V ∧ Blk w2.heap.size v1.cells 23 V ∧ (∀ x, L = .ok x → v1 = x) ∧ w.heap.size + 2 ≤ w2.heap.size) := ⟨(G0.out.below HA.out).below hbV, (by rw [← hV]; exact Blk.new _ _ _), HV1.out, Nat.le_trans HSZ.out hbs⟩; clear hb hbV hbs; unfold vv)))
    all_goals
      go_wp2_with fail
      go_meet
      case rel => exact ⟨v1, _, rfl, rfl, GY⟩
  case rest =>
  obtain ⟨v1, bl, rfl, rfl, GL⟩ := hcut
  obtain ⟨w3, hw3⟩ : ∃ u, u = wc := ⟨_, rfl⟩
  subst hw3
  clear n0 n1 n2 n3 n4 n5 n6 hlt ql qr
  obtain ⟨r0, r1, r2, rf⟩ := GL.out.1.kR.vc
  obtain ⟨B', pl', pr', e, hlt, ⟨n0, n1, n2, n3, n4, n5, n6⟩, ql, qr⟩ := GL.out.1.ex
  cases e
  cases L with
  | error n =>
    have HEv : Hid (bindR (.error n) (fun x => oneR 4 x) = .error n) := rfl
    simp only [errOf]
    go_wp2
    refine bodyPost_ret (v := .tuple #[vv .none, .iface 82 (.int .i64 n)]) (results_ct Tryz.results29 _ _ ⟨w.heap.size + 1, 0, none⟩ rfl (load39 (put39_blk .none GL.out.1.kR))) rfl ?_
    exact ⟨⟨.none, by rw [HEv.out]; rfl, fun x hx => by rw [HEv.out] at hx; cases hx⟩, put39_below .none GL.out.1.be (by omega)⟩
  | ok x1 =>
    obtain rfl : v1 = x1 := GL.out.2.2.1 x1 rfl
    have HEv : Hid (bindR (.ok v1) (fun x => oneR 4 x) = notR v1) := rfl
    obtain ⟨y0, y1, y2, yf⟩ := GL.out.2.1.vc
    simp only [errOf]
    obtain ⟨R, hR⟩ : ∃ R, notR v1 = R := ⟨_, rfl⟩
    have HR : Hid (notR v1 = R) := hR
    clear hR
    go_wp2_with fail
    have h8 := enot_any v1 w3
    rw [HR.out, tup_eq] at h8
    refine h8.mono ?_
    clear h8
    rintro _ w4 ⟨rfl, hb⟩
    have GZ : Hid (CW be ba bb bc bf a b c (some ⟨B, 0, none⟩) (.node 4 v nm l r) w w4) := GL.out.1.below hb
    obtain ⟨t0, t1, t2, tf⟩ := GZ.out.kR.vc
    clear hb
    unfold vv
    go_wp2
    refine bodyPost_ret (v := .tuple #[vv (valOf R), errOf R]) (results_ct Tryz.results29 _ _ ⟨w.heap.size + 1, 0, none⟩ rfl (load39 (put39_blk (valOf R) GZ.out.kR))) rfl ?_
    exact ⟨⟨valOf R, by rw [HEv.out, HR.out], fun x hx => by rw [HEv.out, HR.out] at hx; rw [hx]; rfl⟩, put39_below (valOf R) GZ.out.be (by omega)⟩
set_option maxRecDepth 100000 in
set_option maxHeartbeats 8000000 in
theorem come_5 (a b c : Vl) (v : Vl) (nm : ByteArray) (l r : Ex) (hI : ComeSp a b c l) : ComeSp a b c (.node 5 v nm l r) := by
  have HI : Hid (ComeSp a b c l) := hI
  clear hI
  intro be ba bb bc bf p w hE hX
  obtain ⟨W, hW⟩ : ∃ W, (w.alloc (.cells #[.func (.func 8) #[] #[.pointer (some ⟨be, 0, none⟩), .pointer (some ⟨ba, 0, none⟩), .pointer (some ⟨bb, 0, none⟩), .pointer (some ⟨bc, 0, none⟩)], .func (.func 12) #[] #[.pointer (some ⟨bf, 0, none⟩)]] 49)).alloc (.cells #[.int .i64 0, .int .i64 0, .string ⟨#[]⟩] 23) = W := ⟨_, rfl⟩
  have hbW : Below w.heap.size w W := by rw [← hW]; exact ((Below.refl _ _).alloc (Nat.le_refl _) _).alloc (by simp only [World.size_alloc]; omega) _
  have hkE : Blk w.heap.size #[.func (.func 8) #[] #[.pointer (some ⟨be, 0, none⟩), .pointer (some ⟨ba, 0, none⟩), .pointer (some ⟨bb, 0, none⟩), .pointer (some ⟨bc, 0, none⟩)], .func (.func 12) #[] #[.pointer (some ⟨bf, 0, none⟩)]] 49 W := by rw [← hW]; exact (Blk.new _ _ _).below ((Below.refl _ _).alloc (Nat.le_refl _) _)
  have hkR : Blk (w.heap.size + 1) Vl.none.cells 23 W := by
    have hq := Blk.new (w.alloc (.cells #[.func (.func 8) #[] #[.pointer (some ⟨be, 0, none⟩), .pointer (some ⟨ba, 0, none⟩), .pointer (some ⟨bb, 0, none⟩), .pointer (some ⟨bc, 0, none⟩)], .func (.func 12) #[] #[.pointer (some ⟨bf, 0, none⟩)]] 49)) Vl.none.cells 23
    simp only [World.size_alloc] at hq
    rw [← hW]
    exact hq
  have G0 : Hid (CW be ba bb bc bf a b c p (.node 5 v nm l r) w W) := ⟨hkE, hkR, hE.below hbW, hX.below hbW, hbW⟩
  clear hbW hkE hkR hE hX
  have hF : formB (.node 5 v nm l r) = true := rfl
  obtain ⟨L, hL⟩ : ∃ L, evF a b c l = L := ⟨_, rfl⟩
  have HL : Hid (evF a b c l = L) := hL
  have he : evF a b c (.node 5 v nm l r) = bindR L fun x => oneR 5 x := by rw [evF, if_neg (by rw [hF]; decide), if_neg (by decide), if_neg (by decide), if_neg (by decide), hL]; rfl
  rw [he]
  have HF : Hid (formB (.node 5 v nm l r) = true) := hF
  clear he hF hL
  obtain ⟨B, pl, pr, rfl, hlt, ⟨n0, n1, n2, n3, n4, n5, n6⟩, ql, qr⟩ := G0.out.ex
  go_enter Tryz.func29, Tryz.ntmps29
  go_wp2_with fail
  have h8 := formed_any (.node 5 v nm l r) _ W G0.out.ex
  rw [HF.out] at h8
  refine h8.mono ?_
  clear h8
  rintro _ w1 ⟨rfl, rfl⟩
  go_upto_region 11 with fail
  go_cut [8, 9] (fun a8 a9 wx => ∃ (v1 : Vl) (bl : Nat), a8 = .pointer (some ⟨bl, 0, none⟩) ∧ a9 = errOf L ∧ Hid (CW be ba bb bc bf a b c (some ⟨B, 0, none⟩) (.node 5 v nm l r) w wx ∧ Blk bl v1.cells 23 wx ∧ (∀ x, L = .ok x → v1 = x) ∧ w.heap.size + 2 ≤ bl))
  case first =>
    have hsz : w.heap.size + 2 ≤ w1.heap.size := (Array.getElem?_eq_some_iff.1 G0.out.kR).1
    have HSZ : Hid (w.heap.size + 2 ≤ w1.heap.size) := hsz
    have HQ : Hid (ExAt w1 pl l) := ql
    have HKE : Hid (∀ wx, Below w1.heap.size w1 wx → Calls Tryz.prog 29 #[.agg #[.func (.func 8) #[] #[.pointer (some ⟨be, 0, none⟩), .pointer (some ⟨ba, 0, none⟩), .pointer (some ⟨bb, 0, none⟩), .pointer (some ⟨bc, 0, none⟩)], .func (.func 12) #[] #[.pointer (some ⟨bf, 0, none⟩)]], .pointer pl] wx fun r w' => ToldE L wx r w') := fun wx hb => by
      have h8 := HI.out be ba bb bc bf pl wx (G0.out.env.below hb) (HQ.out.below hb)
      rw [HL.out] at h8
      exact h8
    have HA : Hid (Below w1.heap.size w1 w1.drew) := (Below.refl _ _).drew
    have HBB : Hid (Below w1.heap.size w1 (w1.alloc (.cells #[.int .i64 0, .int .i64 0, .string ⟨#[]⟩] 23)).drew) := ((Below.refl _ _).alloc (Nat.le_refl _) _).drew
    have HK : Hid (∀ wx, Below w1.heap.size w1 wx → wx.cell? ⟨w.heap.size, 0, none⟩ = some (.func (.func 8) #[] #[.pointer (some ⟨be, 0, none⟩), .pointer (some ⟨ba, 0, none⟩), .pointer (some ⟨bb, 0, none⟩), .pointer (some ⟨bc, 0, none⟩)]) ∧ wx.cell? ⟨w.heap.size, 1, none⟩ = some (.func (.func 12) #[] #[.pointer (some ⟨bf, 0, none⟩)]) ∧ wx.cell? ⟨B, 5, none⟩ = some (.pointer pl)) := fun wx hb => ⟨(G0.out.below hb).e0.1, (G0.out.below hb).e0.2, (hb.cell (p := ⟨B, 5, none⟩) hlt).trans n5⟩
    clear hsz
    go_region_held3 (fun wx => wx.cell? ⟨w.heap.size, 0, none⟩ = some (.func (.func 8) #[] #[.pointer (some ⟨be, 0, none⟩), .pointer (some ⟨ba, 0, none⟩), .pointer (some ⟨bb, 0, none⟩), .pointer (some ⟨bc, 0, none⟩)]) ∧ wx.cell? ⟨w.heap.size, 1, none⟩ = some (.func (.func 12) #[] #[.pointer (some ⟨bf, 0, none⟩)]) ∧ wx.cell? ⟨B, 5, none⟩ = some (.pointer pl)) (first | exact HK.out _ HA.out | exact HK.out _ HBB.out | exact HK.out _ HVb.out | exact HK.out _ (HA.out.alloc HA.out.size _) | exact HK.out _ (put39_below _ HA.out (by first | exact Nat.le_refl _ | exact HA.out.size))) ((go_at_call 29; refine Calls.mono (HKE.out _ (by first | exact HA.out | exact HBB.out)) ?_; rintro _ w2 ⟨⟨v1, rfl, hv1⟩, hb⟩; have HV1 : Hid (∀ x, L = .ok x → v1 = x) := hv1; clear hv1; first
      | (have hkB : Blk w1.heap.size Vl.none.cells 23 w2 := ((Blk.new w1 Vl.none.cells 23).below ((Below.refl _ _).drew)).below hb; obtain ⟨k0, k1, k2, kf⟩ := hkB.vc; have HA : Hid (Below w1.heap.size w1 w2) := HBB.out.trans (hb.mono HBB.out.size); have GY : Hid (CW be ba bb bc bf a b c (some ⟨B, 0, none⟩) (.node 5 v nm l r) w (put39 w2 w1.heap.size v1) ∧ Blk w1.heap.size v1.cells 23 (put39 w2 w1.heap.size v1) ∧ (∀ x, L = .ok x → v1 = x) ∧ w.heap.size + 2 ≤ w1.heap.size) := ⟨G0.out.below (put39_below v1 HA.out (Nat.le_refl _)), put39_blk v1 hkB, HV1.out, HSZ.out⟩; clear hb hkB; unfold vv)
      | (have hbs : w1.heap.size ≤ w2.heap.size := hb.size; have HA : Hid (Below w1.heap.size w1 w2) := HA.out.trans (hb.mono HA.out.size); obtain ⟨V, hV⟩ : ∃ V, w2.alloc (.cells #[.int .i64 v1.k, .int .i64 v1.n, .string v1.t] 23) = V := ⟨_, rfl⟩; have hbV : Below w2.heap.size w2 V := (by rw [← hV]; exact (Below.refl _ _).alloc (Nat.le_refl _) _); have HVb : Hid (Below w1.heap.size w1 V) := HA.out.trans (hbV.mono hbs); have GY : Hid (CW be ba bb bc bf a b c (some ⟨B, 0, none⟩) (.node 5 v nm l r) w V ∧ Blk w2.heap.size v1.cells 23 V ∧ (∀ x, L = .ok x → v1 = x) ∧ w.heap.size + 2 ≤ w2.heap.size) := ⟨(G0.out.below HA.out).below hbV, (by rw [← hV]; exact Blk.new _ _ _), HV1.out, Nat.le_trans HSZ.out hbs⟩; clear hb hbV hbs; unfold vv)))
    all_goals
      go_wp2_with fail
      go_meet
      case rel => exact ⟨v1, _, rfl, rfl, GY⟩
  case rest =>
  obtain ⟨v1, bl, rfl, rfl, GL⟩ := hcut
  obtain ⟨w3, hw3⟩ : ∃ u, u = wc := ⟨_, rfl⟩
  subst hw3
  clear n0 n1 n2 n3 n4 n5 n6 hlt ql qr
  obtain ⟨r0, r1, r2, rf⟩ := GL.out.1.kR.vc
  obtain ⟨B', pl', pr', e, hlt, ⟨n0, n1, n2, n3, n4, n5, n6⟩, ql, qr⟩ := GL.out.1.ex
  cases e
  cases L with
  | error n =>
    have HEv : Hid (bindR (.error n) (fun x => oneR 5 x) = .error n) := rfl
    simp only [errOf]
    go_wp2
    refine bodyPost_ret (v := .tuple #[vv .none, .iface 82 (.int .i64 n)]) (results_ct Tryz.results29 _ _ ⟨w.heap.size + 1, 0, none⟩ rfl (load39 (put39_blk .none GL.out.1.kR))) rfl ?_
    exact ⟨⟨.none, by rw [HEv.out]; rfl, fun x hx => by rw [HEv.out] at hx; cases hx⟩, put39_below .none GL.out.1.be (by omega)⟩
  | ok x1 =>
    obtain rfl : v1 = x1 := GL.out.2.2.1 x1 rfl
    have HEv : Hid (bindR (.ok v1) (fun x => oneR 5 x) = .ok (truthV (v1.k == 0))) := rfl
    obtain ⟨y0, y1, y2, yf⟩ := GL.out.2.1.vc
    simp only [errOf]
    obtain ⟨q, hq⟩ : ∃ q, (v1.k == 0) = q := ⟨_, rfl⟩
    have HQ : Hid ((v1.k == 0) = q) := hq
    go_wp2_with fail
    refine (truth_any q w3).mono ?_
    rintro _ w4 ⟨rfl, hb⟩
    have GZ : Hid (CW be ba bb bc bf a b c (some ⟨B, 0, none⟩) (.node 5 v nm l r) w w4) := GL.out.1.below hb
    obtain ⟨t0, t1, t2, tf⟩ := GZ.out.kR.vc
    clear hb
    unfold vv
    go_wp2
    refine bodyPost_ret (v := .tuple #[vv (truthV q), .nilIface]) (results_ct Tryz.results29 _ _ ⟨w.heap.size + 1, 0, none⟩ rfl (load39 (put39_blk (truthV q) GZ.out.kR))) rfl ?_
    exact ⟨⟨truthV q, by rw [HEv.out]; rfl, fun x hx => by rw [HEv.out, HQ.out] at hx; cases hx; rfl⟩, put39_below (truthV q) GZ.out.be (by omega)⟩
end Go.Proofs.YtmabfbffpedfnaaGreatDoor
