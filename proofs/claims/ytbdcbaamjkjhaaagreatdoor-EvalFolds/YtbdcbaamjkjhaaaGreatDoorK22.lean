/- Part 22 of 29. -/
import Derived.Test.YtbdcbaamjkjhaaaGreatDoorK21
namespace Go.Proofs.YtbdcbaamjkjhaaaGreatDoor
open Go.RowKit

set_option maxRecDepth 100000 in
set_option maxHeartbeats 8000000 in
theorem come_3 (a b c : Vl) (v : Vl) (nm : ByteArray) (l r : Ex) (hI : ComeSp a b c l) : ComeSp a b c (.node 3 v nm l r) := by
  have HI : Hid (ComeSp a b c l) := hI
  clear hI
  intro ba bb bc bf p w hE hX
  obtain ⟨W, hW⟩ : ∃ W, (w.alloc (.cells #[.func (.func 33) #[] #[.pointer (some ⟨ba, 0, none⟩), .pointer (some ⟨bb, 0, none⟩), .pointer (some ⟨bc, 0, none⟩)], .func (.func 34) #[] #[.pointer (some ⟨bf, 0, none⟩)]] 45)).alloc (.cells #[.int .i64 0, .int .i64 0, .string ⟨#[]⟩] 39) = W := ⟨_, rfl⟩
  have hbW : Below w.heap.size w W := by rw [← hW]; exact ((Below.refl _ _).alloc (Nat.le_refl _) _).alloc (by simp only [World.size_alloc]; omega) _
  have hkE : Blk w.heap.size #[.func (.func 33) #[] #[.pointer (some ⟨ba, 0, none⟩), .pointer (some ⟨bb, 0, none⟩), .pointer (some ⟨bc, 0, none⟩)], .func (.func 34) #[] #[.pointer (some ⟨bf, 0, none⟩)]] 45 W := by rw [← hW]; exact (Blk.new _ _ _).below ((Below.refl _ _).alloc (Nat.le_refl _) _)
  have hkR : Blk (w.heap.size + 1) Vl.none.cells 39 W := by
    have hq := Blk.new (w.alloc (.cells #[.func (.func 33) #[] #[.pointer (some ⟨ba, 0, none⟩), .pointer (some ⟨bb, 0, none⟩), .pointer (some ⟨bc, 0, none⟩)], .func (.func 34) #[] #[.pointer (some ⟨bf, 0, none⟩)]] 45)) Vl.none.cells 39
    simp only [World.size_alloc] at hq
    rw [← hW]
    exact hq
  have G0 : Hid (CW ba bb bc bf a b c p (.node 3 v nm l r) w W) := ⟨hkE, hkR, hE.below hbW, hX.below hbW, hbW⟩
  clear hbW hkE hkR hE hX
  have hF : formB (.node 3 v nm l r) = true := rfl
  obtain ⟨L, hL⟩ : ∃ L, evF a b c l = L := ⟨_, rfl⟩
  have HL : Hid (evF a b c l = L) := hL
  have he : evF a b c (.node 3 v nm l r) = bindR L fun x => oneR 3 x := by rw [evF, if_neg (by rw [hF]; decide), if_neg (by decide), if_neg (by decide), if_neg (by decide), hL]; rfl
  rw [he]
  have HF : Hid (formB (.node 3 v nm l r) = true) := hF
  clear he hF hL
  obtain ⟨B, pl, pr, rfl, hlt, ⟨n0, n1, n2, n3, n4, n5, n6⟩, ql, qr⟩ := G0.out.ex
  go_enter Tryz.func36, Tryz.ntmps36
  go_wp2_with fail
  have h8 := formed_any (.node 3 v nm l r) _ W G0.out.ex
  rw [HF.out] at h8
  refine h8.mono ?_
  clear h8
  rintro _ w1 ⟨rfl, rfl⟩
  go_upto_region 11 with fail
  go_cut [8, 9] (fun a8 a9 wx => ∃ (v1 : Vl) (bl : Nat), a8 = .pointer (some ⟨bl, 0, none⟩) ∧ a9 = errOf L ∧ Hid (CW ba bb bc bf a b c (some ⟨B, 0, none⟩) (.node 3 v nm l r) w wx ∧ Blk bl v1.cells 39 wx ∧ (∀ x, L = .ok x → v1 = x) ∧ w.heap.size + 2 ≤ bl))
  case first =>
    have hsz : w.heap.size + 2 ≤ w1.heap.size := (Array.getElem?_eq_some_iff.1 G0.out.kR).1
    have HSZ : Hid (w.heap.size + 2 ≤ w1.heap.size) := hsz
    have HQ : Hid (ExAt w1 pl l) := ql
    have HKE : Hid (∀ wx, Below w1.heap.size w1 wx → Calls Tryz.prog 36 #[.agg #[.func (.func 33) #[] #[.pointer (some ⟨ba, 0, none⟩), .pointer (some ⟨bb, 0, none⟩), .pointer (some ⟨bc, 0, none⟩)], .func (.func 34) #[] #[.pointer (some ⟨bf, 0, none⟩)]], .pointer pl] wx fun r w' => ToldE L wx r w') := fun wx hb => by
      have h8 := HI.out ba bb bc bf pl wx (G0.out.env.below hb) (HQ.out.below hb)
      rw [HL.out] at h8
      exact h8
    have HA : Hid (Below w1.heap.size w1 w1.drew) := (Below.refl _ _).drew
    have HBB : Hid (Below w1.heap.size w1 (w1.alloc (.cells #[.int .i64 0, .int .i64 0, .string ⟨#[]⟩] 39)).drew) := ((Below.refl _ _).alloc (Nat.le_refl _) _).drew
    have HK : Hid (∀ wx, Below w1.heap.size w1 wx → wx.cell? ⟨w.heap.size, 0, none⟩ = some (.func (.func 33) #[] #[.pointer (some ⟨ba, 0, none⟩), .pointer (some ⟨bb, 0, none⟩), .pointer (some ⟨bc, 0, none⟩)]) ∧ wx.cell? ⟨w.heap.size, 1, none⟩ = some (.func (.func 34) #[] #[.pointer (some ⟨bf, 0, none⟩)]) ∧ wx.cell? ⟨B, 5, none⟩ = some (.pointer pl)) := fun wx hb => ⟨(G0.out.below hb).e0.1, (G0.out.below hb).e0.2, (hb.cell (p := ⟨B, 5, none⟩) hlt).trans n5⟩
    clear hsz
    go_region_held3 (fun wx => wx.cell? ⟨w.heap.size, 0, none⟩ = some (.func (.func 33) #[] #[.pointer (some ⟨ba, 0, none⟩), .pointer (some ⟨bb, 0, none⟩), .pointer (some ⟨bc, 0, none⟩)]) ∧ wx.cell? ⟨w.heap.size, 1, none⟩ = some (.func (.func 34) #[] #[.pointer (some ⟨bf, 0, none⟩)]) ∧ wx.cell? ⟨B, 5, none⟩ = some (.pointer pl)) (first | exact HK.out _ HA.out | exact HK.out _ HBB.out | exact HK.out _ HVb.out | exact HK.out _ (HA.out.alloc HA.out.size _) | exact HK.out _ (put39_below _ HA.out (by first | exact Nat.le_refl _ | exact HA.out.size))) ((go_at_call 36; refine Calls.mono (HKE.out _ (by first | exact HA.out | exact HBB.out)) ?_; rintro _ w2 ⟨⟨v1, rfl, hv1⟩, hb⟩; have HV1 : Hid (∀ x, L = .ok x → v1 = x) := hv1; clear hv1; first
      | (have hkB : Blk w1.heap.size Vl.none.cells 39 w2 := ((Blk.new w1 Vl.none.cells 39).below ((Below.refl _ _).drew)).below hb; obtain ⟨k0, k1, k2, kf⟩ := hkB.vc; have HA : Hid (Below w1.heap.size w1 w2) := HBB.out.trans (hb.mono HBB.out.size); have GY : Hid (CW ba bb bc bf a b c (some ⟨B, 0, none⟩) (.node 3 v nm l r) w (put39 w2 w1.heap.size v1) ∧ Blk w1.heap.size v1.cells 39 (put39 w2 w1.heap.size v1) ∧ (∀ x, L = .ok x → v1 = x) ∧ w.heap.size + 2 ≤ w1.heap.size) := ⟨G0.out.below (put39_below v1 HA.out (Nat.le_refl _)), put39_blk v1 hkB, HV1.out, HSZ.out⟩; clear hb hkB; unfold vv)
      | (have hbs : w1.heap.size ≤ w2.heap.size := hb.size; have HA : Hid (Below w1.heap.size w1 w2) := HA.out.trans (hb.mono HA.out.size); obtain ⟨V, hV⟩ : ∃ V, w2.alloc (.cells #[.int .i64 v1.k, .int .i64 v1.n, .string v1.t] 39) = V := ⟨_, rfl⟩; have hbV : Below w2.heap.size w2 V := (by rw [← hV]; exact (Below.refl _ _).alloc (Nat.le_refl _) _); have HVb : Hid (Below w1.heap.size w1 V) := HA.out.trans (hbV.mono hbs); have GY : Hid (CW ba bb bc bf a b c (some ⟨B, 0, none⟩) (.node 3 v nm l r) w V ∧ Blk w2.heap.size v1.cells 39 V ∧ (∀ x, L = .ok x → v1 = x) ∧ w.heap.size + 2 ≤ w2.heap.size) := ⟨(G0.out.below HA.out).below hbV, (by rw [← hV]; exact Blk.new _ _ _), HV1.out, Nat.le_trans HSZ.out hbs⟩; clear hb hbV hbs; unfold vv)))
    all_goals
      go_wp2_with fail
      go_meet
      case rel => exact ⟨v1, _, rfl, rfl, GY⟩
  case rest =>
  obtain ⟨v1, bl, rfl, rfl, GL⟩ := hcut
  obtain ⟨w3, hw3⟩ : ∃ u, u = wc := ⟨_, rfl⟩
  subst hw3
  clear n0 n1 n2 n3 n4 n5 n6 hlt ql qr
  obtain ⟨r0, r1, r2, rf⟩ := GL.out.1.kR.vc
  obtain ⟨B', pl', pr', e, hlt, ⟨n0, n1, n2, n3, n4, n5, n6⟩, ql, qr⟩ := GL.out.1.ex
  cases e
  cases L with
  | error n =>
    have HEv : Hid (bindR (.error n) (fun x => oneR 3 x) = .error n) := rfl
    simp only [errOf]
    go_wp2
    refine bodyPost_ret (v := .tuple #[vv .none, .iface 53 (.int .i64 n)]) (results_ct Tryz.results36 _ _ ⟨w.heap.size + 1, 0, none⟩ rfl (load39 (put39_blk .none GL.out.1.kR))) rfl ?_
    exact ⟨⟨.none, by rw [HEv.out]; rfl, fun x hx => by rw [HEv.out] at hx; cases hx⟩, put39_below .none GL.out.1.be (by omega)⟩
  | ok x1 =>
    obtain rfl : v1 = x1 := GL.out.2.2.1 x1 rfl
    have HEv : Hid (bindR (.ok v1) (fun x => oneR 3 x) = countR 7 (numV 0) v1) := rfl
    obtain ⟨y0, y1, y2, yf⟩ := GL.out.2.1.vc
    simp only [errOf]
    obtain ⟨R, hR⟩ : ∃ R, countR 7 (numV 0) v1 = R := ⟨_, rfl⟩
    have HR : Hid (countR 7 (numV 0) v1 = R) := hR
    clear hR
    go_upto_region 16 with fail
    have HB0 : Hid (Blk bl v1.cells 39 w3 ∧ bl < w3.heap.size ∧ w.heap.size + 2 ≤ bl) := ⟨GL.out.2.1, (Array.getElem?_eq_some_iff.1 GL.out.2.1).1, GL.out.2.2.2⟩
    have HK : Hid (∀ wx, Blk bl v1.cells 39 wx → wx.cell? ⟨bl, 0, none⟩ = some (.int .i64 v1.k) ∧ wx.cell? ⟨bl, 1, none⟩ = some (.int .i64 v1.n) ∧ wx.cell? ⟨bl, 2, none⟩ = some (.string v1.t)) := fun wx h => ⟨h.vc.1, h.vc.2.1, h.vc.2.2.1⟩
    have GX : Hid (CW ba bb bc bf a b c (some ⟨B, 0, none⟩) (.node 3 v nm l r) w w3.drew ∧ Blk bl v1.cells 39 w3.drew) := ⟨GL.out.1.below ((Below.refl _ _).drew), GL.out.2.1⟩
    go_region_held3 (fun wx => wx.cell? ⟨bl, 0, none⟩ = some (.int .i64 v1.k) ∧ wx.cell? ⟨bl, 1, none⟩ = some (.int .i64 v1.n) ∧ wx.cell? ⟨bl, 2, none⟩ = some (.string v1.t)) (first | exact HK.out _ GX.out.2 | exact HK.out _ HP5.out) (first
      | (go_at_call 68; refine Calls.mono (enumber_any 0 _) ?_; rintro _ w4 ⟨rfl, hb⟩; have GX : Hid (CW ba bb bc bf a b c (some ⟨B, 0, none⟩) (.node 3 v nm l r) w w4 ∧ Blk bl v1.cells 39 w4) := ⟨GX.out.1.below hb, GX.out.2.below hb⟩; clear hb; unfold vv numV)
      | (go_at_call 67; have h8 := count_any 7 (numV 0) v1 w4; rw [HR.out, tup_eq] at h8; refine Calls.mono h8 ?_; clear h8; rintro _ w5 ⟨rfl, hb⟩; have GX : Hid (CW ba bb bc bf a b c (some ⟨B, 0, none⟩) (.node 3 v nm l r) w w5 ∧ Blk bl v1.cells 39 w5) := ⟨GX.out.1.below hb, GX.out.2.below hb⟩; have HP5 : Hid (Blk bl v1.cells 39 (put39 w5 (w.heap.size + 1) (valOf R))) := ((GX.out.2.other (by have := HB0.out.2.2; omega) 0 _).other (by have := HB0.out.2.2; omega) 1 _).other (by have := HB0.out.2.2; omega) 2 _; obtain ⟨t0, t1, t2, tf⟩ := GX.out.1.kR.vc; clear hb; unfold vv))
    all_goals
      go_wp2_with fail
      refine bodyPost_ret (v := .tuple #[vv (valOf R), errOf R]) (results_ct Tryz.results36 _ _ ⟨w.heap.size + 1, 0, none⟩ rfl (load39 (put39_blk (valOf R) GX.out.1.kR))) rfl ?_
      exact ⟨⟨valOf R, by rw [HEv.out, HR.out], fun x hx => by rw [HEv.out, HR.out] at hx; rw [hx]; rfl⟩, put39_below (valOf R) GX.out.1.be (by omega)⟩
set_option maxRecDepth 100000 in
set_option maxHeartbeats 8000000 in
theorem come_4 (a b c : Vl) (v : Vl) (nm : ByteArray) (l r : Ex) (hI : ComeSp a b c l) : ComeSp a b c (.node 4 v nm l r) := by
  have HI : Hid (ComeSp a b c l) := hI
  clear hI
  intro ba bb bc bf p w hE hX
  obtain ⟨W, hW⟩ : ∃ W, (w.alloc (.cells #[.func (.func 33) #[] #[.pointer (some ⟨ba, 0, none⟩), .pointer (some ⟨bb, 0, none⟩), .pointer (some ⟨bc, 0, none⟩)], .func (.func 34) #[] #[.pointer (some ⟨bf, 0, none⟩)]] 45)).alloc (.cells #[.int .i64 0, .int .i64 0, .string ⟨#[]⟩] 39) = W := ⟨_, rfl⟩
  have hbW : Below w.heap.size w W := by rw [← hW]; exact ((Below.refl _ _).alloc (Nat.le_refl _) _).alloc (by simp only [World.size_alloc]; omega) _
  have hkE : Blk w.heap.size #[.func (.func 33) #[] #[.pointer (some ⟨ba, 0, none⟩), .pointer (some ⟨bb, 0, none⟩), .pointer (some ⟨bc, 0, none⟩)], .func (.func 34) #[] #[.pointer (some ⟨bf, 0, none⟩)]] 45 W := by rw [← hW]; exact (Blk.new _ _ _).below ((Below.refl _ _).alloc (Nat.le_refl _) _)
  have hkR : Blk (w.heap.size + 1) Vl.none.cells 39 W := by
    have hq := Blk.new (w.alloc (.cells #[.func (.func 33) #[] #[.pointer (some ⟨ba, 0, none⟩), .pointer (some ⟨bb, 0, none⟩), .pointer (some ⟨bc, 0, none⟩)], .func (.func 34) #[] #[.pointer (some ⟨bf, 0, none⟩)]] 45)) Vl.none.cells 39
    simp only [World.size_alloc] at hq
    rw [← hW]
    exact hq
  have G0 : Hid (CW ba bb bc bf a b c p (.node 4 v nm l r) w W) := ⟨hkE, hkR, hE.below hbW, hX.below hbW, hbW⟩
  clear hbW hkE hkR hE hX
  have hF : formB (.node 4 v nm l r) = true := rfl
  obtain ⟨L, hL⟩ : ∃ L, evF a b c l = L := ⟨_, rfl⟩
  have HL : Hid (evF a b c l = L) := hL
  have he : evF a b c (.node 4 v nm l r) = bindR L fun x => oneR 4 x := by rw [evF, if_neg (by rw [hF]; decide), if_neg (by decide), if_neg (by decide), if_neg (by decide), hL]; rfl
  rw [he]
  have HF : Hid (formB (.node 4 v nm l r) = true) := hF
  clear he hF hL
  obtain ⟨B, pl, pr, rfl, hlt, ⟨n0, n1, n2, n3, n4, n5, n6⟩, ql, qr⟩ := G0.out.ex
  go_enter Tryz.func36, Tryz.ntmps36
  go_wp2_with fail
  have h8 := formed_any (.node 4 v nm l r) _ W G0.out.ex
  rw [HF.out] at h8
  refine h8.mono ?_
  clear h8
  rintro _ w1 ⟨rfl, rfl⟩
  go_upto_region 11 with fail
  go_cut [8, 9] (fun a8 a9 wx => ∃ (v1 : Vl) (bl : Nat), a8 = .pointer (some ⟨bl, 0, none⟩) ∧ a9 = errOf L ∧ Hid (CW ba bb bc bf a b c (some ⟨B, 0, none⟩) (.node 4 v nm l r) w wx ∧ Blk bl v1.cells 39 wx ∧ (∀ x, L = .ok x → v1 = x) ∧ w.heap.size + 2 ≤ bl))
  case first =>
    have hsz : w.heap.size + 2 ≤ w1.heap.size := (Array.getElem?_eq_some_iff.1 G0.out.kR).1
    have HSZ : Hid (w.heap.size + 2 ≤ w1.heap.size) := hsz
    have HQ : Hid (ExAt w1 pl l) := ql
    have HKE : Hid (∀ wx, Below w1.heap.size w1 wx → Calls Tryz.prog 36 #[.agg #[.func (.func 33) #[] #[.pointer (some ⟨ba, 0, none⟩), .pointer (some ⟨bb, 0, none⟩), .pointer (some ⟨bc, 0, none⟩)], .func (.func 34) #[] #[.pointer (some ⟨bf, 0, none⟩)]], .pointer pl] wx fun r w' => ToldE L wx r w') := fun wx hb => by
      have h8 := HI.out ba bb bc bf pl wx (G0.out.env.below hb) (HQ.out.below hb)
      rw [HL.out] at h8
      exact h8
    have HA : Hid (Below w1.heap.size w1 w1.drew) := (Below.refl _ _).drew
    have HBB : Hid (Below w1.heap.size w1 (w1.alloc (.cells #[.int .i64 0, .int .i64 0, .string ⟨#[]⟩] 39)).drew) := ((Below.refl _ _).alloc (Nat.le_refl _) _).drew
    have HK : Hid (∀ wx, Below w1.heap.size w1 wx → wx.cell? ⟨w.heap.size, 0, none⟩ = some (.func (.func 33) #[] #[.pointer (some ⟨ba, 0, none⟩), .pointer (some ⟨bb, 0, none⟩), .pointer (some ⟨bc, 0, none⟩)]) ∧ wx.cell? ⟨w.heap.size, 1, none⟩ = some (.func (.func 34) #[] #[.pointer (some ⟨bf, 0, none⟩)]) ∧ wx.cell? ⟨B, 5, none⟩ = some (.pointer pl)) := fun wx hb => ⟨(G0.out.below hb).e0.1, (G0.out.below hb).e0.2, (hb.cell (p := ⟨B, 5, none⟩) hlt).trans n5⟩
    clear hsz
    go_region_held3 (fun wx => wx.cell? ⟨w.heap.size, 0, none⟩ = some (.func (.func 33) #[] #[.pointer (some ⟨ba, 0, none⟩), .pointer (some ⟨bb, 0, none⟩), .pointer (some ⟨bc, 0, none⟩)]) ∧ wx.cell? ⟨w.heap.size, 1, none⟩ = some (.func (.func 34) #[] #[.pointer (some ⟨bf, 0, none⟩)]) ∧ wx.cell? ⟨B, 5, none⟩ = some (.pointer pl)) (first | exact HK.out _ HA.out | exact HK.out _ HBB.out | exact HK.out _ HVb.out | exact HK.out _ (HA.out.alloc HA.out.size _) | exact HK.out _ (put39_below _ HA.out (by first | exact Nat.le_refl _ | exact HA.out.size))) ((go_at_call 36; refine Calls.mono (HKE.out _ (by first | exact HA.out | exact HBB.out)) ?_; rintro _ w2 ⟨⟨v1, rfl, hv1⟩, hb⟩; have HV1 : Hid (∀ x, L = .ok x → v1 = x) := hv1; clear hv1; first
      | (have hkB : Blk w1.heap.size Vl.none.cells 39 w2 := ((Blk.new w1 Vl.none.cells 39).below ((Below.refl _ _).drew)).below hb; obtain ⟨k0, k1, k2, kf⟩ := hkB.vc; have HA : Hid (Below w1.heap.size w1 w2) := HBB.out.trans (hb.mono HBB.out.size); have GY : Hid (CW ba bb bc bf a b c (some ⟨B, 0, none⟩) (.node 4 v nm l r) w (put39 w2 w1.heap.size v1) ∧ Blk w1.heap.size v1.cells 39 (put39 w2 w1.heap.size v1) ∧ (∀ x, L = .ok x → v1 = x) ∧ w.heap.size + 2 ≤ w1.heap.size) := ⟨G0.out.below (put39_below v1 HA.out (Nat.le_refl _)), put39_blk v1 hkB, HV1.out, HSZ.out⟩; clear hb hkB; unfold vv)
      | (have hbs : w1.heap.size ≤ w2.heap.size := hb.size; have HA : Hid (Below w1.heap.size w1 w2) := HA.out.trans (hb.mono HA.out.size); obtain ⟨V, hV⟩ : ∃ V, w2.alloc (.cells #[.int .i64 v1.k, .int .i64 v1.n, .string v1.t] 39) = V := ⟨_, rfl⟩; have hbV : Below w2.heap.size w2 V := (by rw [← hV]; exact (Below.refl _ _).alloc (Nat.le_refl _) _); have HVb : Hid (Below w1.heap.size w1 V) := HA.out.trans (hbV.mono hbs); have GY : Hid (CW ba bb bc bf a b c (some ⟨B, 0, none⟩) (.node 4 v nm l r) w V ∧ Blk w2.heap.size v1.cells 39 V ∧ (∀ x, L = .ok x → v1 = x) ∧ w.heap.size + 2 ≤ w2.heap.size) := ⟨(G0.out.below HA.out).below hbV, (by rw [← hV]; exact Blk.new _ _ _), HV1.out, Nat.le_trans HSZ.out hbs⟩; clear hb hbV hbs; unfold vv)))
    all_goals
      go_wp2_with fail
      go_meet
      case rel => exact ⟨v1, _, rfl, rfl, GY⟩
  case rest =>
  obtain ⟨v1, bl, rfl, rfl, GL⟩ := hcut
  obtain ⟨w3, hw3⟩ : ∃ u, u = wc := ⟨_, rfl⟩
  subst hw3
  clear n0 n1 n2 n3 n4 n5 n6 hlt ql qr
  obtain ⟨r0, r1, r2, rf⟩ := GL.out.1.kR.vc
  obtain ⟨B', pl', pr', e, hlt, ⟨n0, n1, n2, n3, n4, n5, n6⟩, ql, qr⟩ := GL.out.1.ex
  cases e
  cases L with
  | error n =>
    have HEv : Hid (bindR (.error n) (fun x => oneR 4 x) = .error n) := rfl
    simp only [errOf]
    go_wp2
    refine bodyPost_ret (v := .tuple #[vv .none, .iface 53 (.int .i64 n)]) (results_ct Tryz.results36 _ _ ⟨w.heap.size + 1, 0, none⟩ rfl (load39 (put39_blk .none GL.out.1.kR))) rfl ?_
    exact ⟨⟨.none, by rw [HEv.out]; rfl, fun x hx => by rw [HEv.out] at hx; cases hx⟩, put39_below .none GL.out.1.be (by omega)⟩
  | ok x1 =>
    obtain rfl : v1 = x1 := GL.out.2.2.1 x1 rfl
    have HEv : Hid (bindR (.ok v1) (fun x => oneR 4 x) = notR v1) := rfl
    obtain ⟨y0, y1, y2, yf⟩ := GL.out.2.1.vc
    simp only [errOf]
    obtain ⟨R, hR⟩ : ∃ R, notR v1 = R := ⟨_, rfl⟩
    have HR : Hid (notR v1 = R) := hR
    clear hR
    go_wp2_with fail
    have h8 := enot_any v1 w3
    rw [HR.out, tup_eq] at h8
    refine h8.mono ?_
    clear h8
    rintro _ w4 ⟨rfl, hb⟩
    have GZ : Hid (CW ba bb bc bf a b c (some ⟨B, 0, none⟩) (.node 4 v nm l r) w w4) := GL.out.1.below hb
    obtain ⟨t0, t1, t2, tf⟩ := GZ.out.kR.vc
    clear hb
    unfold vv
    go_wp2
    refine bodyPost_ret (v := .tuple #[vv (valOf R), errOf R]) (results_ct Tryz.results36 _ _ ⟨w.heap.size + 1, 0, none⟩ rfl (load39 (put39_blk (valOf R) GZ.out.kR))) rfl ?_
    exact ⟨⟨valOf R, by rw [HEv.out, HR.out], fun x hx => by rw [HEv.out, HR.out] at hx; rw [hx]; rfl⟩, put39_below (valOf R) GZ.out.be (by omega)⟩
set_option maxRecDepth 100000 in
set_option maxHeartbeats 8000000 in
theorem come_5 (a b c : Vl) (v : Vl) (nm : ByteArray) (l r : Ex) (hI : ComeSp a b c l) : ComeSp a b c (.node 5 v nm l r) := by
  have HI : Hid (ComeSp a b c l) := hI
  clear hI
  intro ba bb bc bf p w hE hX
  obtain ⟨W, hW⟩ : ∃ W, (w.alloc (.cells #[.func (.func 33) #[] #[.pointer (some ⟨ba, 0, none⟩), .pointer (some ⟨bb, 0, none⟩), .pointer (some ⟨bc, 0, none⟩)], .func (.func 34) #[] #[.pointer (some ⟨bf, 0, none⟩)]] 45)).alloc (.cells #[.int .i64 0, .int .i64 0, .string ⟨#[]⟩] 39) = W := ⟨_, rfl⟩
  have hbW : Below w.heap.size w W := by rw [← hW]; exact ((Below.refl _ _).alloc (Nat.le_refl _) _).alloc (by simp only [World.size_alloc]; omega) _
  have hkE : Blk w.heap.size #[.func (.func 33) #[] #[.pointer (some ⟨ba, 0, none⟩), .pointer (some ⟨bb, 0, none⟩), .pointer (some ⟨bc, 0, none⟩)], .func (.func 34) #[] #[.pointer (some ⟨bf, 0, none⟩)]] 45 W := by rw [← hW]; exact (Blk.new _ _ _).below ((Below.refl _ _).alloc (Nat.le_refl _) _)
  have hkR : Blk (w.heap.size + 1) Vl.none.cells 39 W := by
    have hq := Blk.new (w.alloc (.cells #[.func (.func 33) #[] #[.pointer (some ⟨ba, 0, none⟩), .pointer (some ⟨bb, 0, none⟩), .pointer (some ⟨bc, 0, none⟩)], .func (.func 34) #[] #[.pointer (some ⟨bf, 0, none⟩)]] 45)) Vl.none.cells 39
    simp only [World.size_alloc] at hq
    rw [← hW]
    exact hq
  have G0 : Hid (CW ba bb bc bf a b c p (.node 5 v nm l r) w W) := ⟨hkE, hkR, hE.below hbW, hX.below hbW, hbW⟩
  clear hbW hkE hkR hE hX
  have hF : formB (.node 5 v nm l r) = true := rfl
  obtain ⟨L, hL⟩ : ∃ L, evF a b c l = L := ⟨_, rfl⟩
  have HL : Hid (evF a b c l = L) := hL
  have he : evF a b c (.node 5 v nm l r) = bindR L fun x => oneR 5 x := by rw [evF, if_neg (by rw [hF]; decide), if_neg (by decide), if_neg (by decide), if_neg (by decide), hL]; rfl
  rw [he]
  have HF : Hid (formB (.node 5 v nm l r) = true) := hF
  clear he hF hL
  obtain ⟨B, pl, pr, rfl, hlt, ⟨n0, n1, n2, n3, n4, n5, n6⟩, ql, qr⟩ := G0.out.ex
  go_enter Tryz.func36, Tryz.ntmps36
  go_wp2_with fail
  have h8 := formed_any (.node 5 v nm l r) _ W G0.out.ex
  rw [HF.out] at h8
  refine h8.mono ?_
  clear h8
  rintro _ w1 ⟨rfl, rfl⟩
  go_upto_region 11 with fail
  go_cut [8, 9] (fun a8 a9 wx => ∃ (v1 : Vl) (bl : Nat), a8 = .pointer (some ⟨bl, 0, none⟩) ∧ a9 = errOf L ∧ Hid (CW ba bb bc bf a b c (some ⟨B, 0, none⟩) (.node 5 v nm l r) w wx ∧ Blk bl v1.cells 39 wx ∧ (∀ x, L = .ok x → v1 = x) ∧ w.heap.size + 2 ≤ bl))
  case first =>
    have hsz : w.heap.size + 2 ≤ w1.heap.size := (Array.getElem?_eq_some_iff.1 G0.out.kR).1
    have HSZ : Hid (w.heap.size + 2 ≤ w1.heap.size) := hsz
    have HQ : Hid (ExAt w1 pl l) := ql
    have HKE : Hid (∀ wx, Below w1.heap.size w1 wx → Calls Tryz.prog 36 #[.agg #[.func (.func 33) #[] #[.pointer (some ⟨ba, 0, none⟩), .pointer (some ⟨bb, 0, none⟩), .pointer (some ⟨bc, 0, none⟩)], .func (.func 34) #[] #[.pointer (some ⟨bf, 0, none⟩)]], .pointer pl] wx fun r w' => ToldE L wx r w') := fun wx hb => by
      have h8 := HI.out ba bb bc bf pl wx (G0.out.env.below hb) (HQ.out.below hb)
      rw [HL.out] at h8
      exact h8
    have HA : Hid (Below w1.heap.size w1 w1.drew) := (Below.refl _ _).drew
    have HBB : Hid (Below w1.heap.size w1 (w1.alloc (.cells #[.int .i64 0, .int .i64 0, .string ⟨#[]⟩] 39)).drew) := ((Below.refl _ _).alloc (Nat.le_refl _) _).drew
    have HK : Hid (∀ wx, Below w1.heap.size w1 wx → wx.cell? ⟨w.heap.size, 0, none⟩ = some (.func (.func 33) #[] #[.pointer (some ⟨ba, 0, none⟩), .pointer (some ⟨bb, 0, none⟩), .pointer (some ⟨bc, 0, none⟩)]) ∧ wx.cell? ⟨w.heap.size, 1, none⟩ = some (.func (.func 34) #[] #[.pointer (some ⟨bf, 0, none⟩)]) ∧ wx.cell? ⟨B, 5, none⟩ = some (.pointer pl)) := fun wx hb => ⟨(G0.out.below hb).e0.1, (G0.out.below hb).e0.2, (hb.cell (p := ⟨B, 5, none⟩) hlt).trans n5⟩
    clear hsz
    go_region_held3 (fun wx => wx.cell? ⟨w.heap.size, 0, none⟩ = some (.func (.func 33) #[] #[.pointer (some ⟨ba, 0, none⟩), .pointer (some ⟨bb, 0, none⟩), .pointer (some ⟨bc, 0, none⟩)]) ∧ wx.cell? ⟨w.heap.size, 1, none⟩ = some (.func (.func 34) #[] #[.pointer (some ⟨bf, 0, none⟩)]) ∧ wx.cell? ⟨B, 5, none⟩ = some (.pointer pl)) (first | exact HK.out _ HA.out | exact HK.out _ HBB.out | exact HK.out _ HVb.out | exact HK.out _ (HA.out.alloc HA.out.size _) | exact HK.out _ (put39_below _ HA.out (by first | exact Nat.le_refl _ | exact HA.out.size))) ((go_at_call 36; refine Calls.mono (HKE.out _ (by first | exact HA.out | exact HBB.out)) ?_; rintro _ w2 ⟨⟨v1, rfl, hv1⟩, hb⟩; have HV1 : Hid (∀ x, L = .ok x → v1 = x) := hv1; clear hv1; first
      | (have hkB : Blk w1.heap.size Vl.none.cells 39 w2 := ((Blk.new w1 Vl.none.cells 39).below ((Below.refl _ _).drew)).below hb; obtain ⟨k0, k1, k2, kf⟩ := hkB.vc; have HA : Hid (Below w1.heap.size w1 w2) := HBB.out.trans (hb.mono HBB.out.size); have GY : Hid (CW ba bb bc bf a b c (some ⟨B, 0, none⟩) (.node 5 v nm l r) w (put39 w2 w1.heap.size v1) ∧ Blk w1.heap.size v1.cells 39 (put39 w2 w1.heap.size v1) ∧ (∀ x, L = .ok x → v1 = x) ∧ w.heap.size + 2 ≤ w1.heap.size) := ⟨G0.out.below (put39_below v1 HA.out (Nat.le_refl _)), put39_blk v1 hkB, HV1.out, HSZ.out⟩; clear hb hkB; unfold vv)
      | (have hbs : w1.heap.size ≤ w2.heap.size := hb.size; have HA : Hid (Below w1.heap.size w1 w2) := HA.out.trans (hb.mono HA.out.size); obtain ⟨V, hV⟩ : ∃ V, w2.alloc (.cells #[.int .i64 v1.k, .int .i64 v1.n, .string v1.t] 39) = V := ⟨_, rfl⟩; have hbV : Below w2.heap.size w2 V := (by rw [← hV]; exact (Below.refl _ _).alloc (Nat.le_refl _) _); have HVb : Hid (Below w1.heap.size w1 V) := HA.out.trans (hbV.mono hbs); have GY : Hid (CW ba bb bc bf a b c (some ⟨B, 0, none⟩) (.node 5 v nm l r) w V ∧ Blk w2.heap.size v1.cells 39 V ∧ (∀ x, L = .ok x → v1 = x) ∧ w.heap.size + 2 ≤ w2.heap.size) := ⟨(G0.out.below HA.out).below hbV, (by rw [← hV]; exact Blk.new _ _ _), HV1.out, Nat.le_trans HSZ.out hbs⟩; clear hb hbV hbs; unfold vv)))
    all_goals
      go_wp2_with fail
      go_meet
      case rel => exact ⟨v1, _, rfl, rfl, GY⟩
  case rest =>
  obtain ⟨v1, bl, rfl, rfl, GL⟩ := hcut
  obtain ⟨w3, hw3⟩ : ∃ u, u = wc := ⟨_, rfl⟩
  subst hw3
  clear n0 n1 n2 n3 n4 n5 n6 hlt ql qr
  obtain ⟨r0, r1, r2, rf⟩ := GL.out.1.kR.vc
  obtain ⟨B', pl', pr', e, hlt, ⟨n0, n1, n2, n3, n4, n5, n6⟩, ql, qr⟩ := GL.out.1.ex
  cases e
  cases L with
  | error n =>
    have HEv : Hid (bindR (.error n) (fun x => oneR 5 x) = .error n) := rfl
    simp only [errOf]
    go_wp2
    refine bodyPost_ret (v := .tuple #[vv .none, .iface 53 (.int .i64 n)]) (results_ct Tryz.results36 _ _ ⟨w.heap.size + 1, 0, none⟩ rfl (load39 (put39_blk .none GL.out.1.kR))) rfl ?_
    exact ⟨⟨.none, by rw [HEv.out]; rfl, fun x hx => by rw [HEv.out] at hx; cases hx⟩, put39_below .none GL.out.1.be (by omega)⟩
  | ok x1 =>
    obtain rfl : v1 = x1 := GL.out.2.2.1 x1 rfl
    have HEv : Hid (bindR (.ok v1) (fun x => oneR 5 x) = .ok (truthV (v1.k == 0))) := rfl
    obtain ⟨y0, y1, y2, yf⟩ := GL.out.2.1.vc
    simp only [errOf]
    obtain ⟨q, hq⟩ : ∃ q, (v1.k == 0) = q := ⟨_, rfl⟩
    have HQ : Hid ((v1.k == 0) = q) := hq
    go_wp2_with fail
    refine (truth_any q w3).mono ?_
    rintro _ w4 ⟨rfl, hb⟩
    have GZ : Hid (CW ba bb bc bf a b c (some ⟨B, 0, none⟩) (.node 5 v nm l r) w w4) := GL.out.1.below hb
    obtain ⟨t0, t1, t2, tf⟩ := GZ.out.kR.vc
    clear hb
    unfold vv
    go_wp2
    refine bodyPost_ret (v := .tuple #[vv (truthV q), .nilIface]) (results_ct Tryz.results36 _ _ ⟨w.heap.size + 1, 0, none⟩ rfl (load39 (put39_blk (truthV q) GZ.out.kR))) rfl ?_
    exact ⟨⟨truthV q, by rw [HEv.out]; rfl, fun x hx => by rw [HEv.out, HQ.out] at hx; cases hx; rfl⟩, put39_below (truthV q) GZ.out.be (by omega)⟩
end Go.Proofs.YtbdcbaamjkjhaaaGreatDoor
namespace Go.Proofs.YtbdcbaamjkjhaaaGreatDoor
open Go.RowKit

theorem put39_cell {b c : Nat} (h : c ≠ b) (w : World) (v : Vl) (i : Nat) : (put39 w b v).cell? ⟨c, i, none⟩ = w.cell? ⟨c, i, none⟩ := by
  unfold put39
  rw [World.cell?_setCell_other _ _ _ _ (fun q => h (by cases q; rfl)), World.cell?_setCell_other _ _ _ _ (fun q => h (by cases q; rfl)), World.cell?_setCell_other _ _ _ _ (fun q => h (by cases q; rfl))]
set_option maxRecDepth 100000 in
set_option maxHeartbeats 16000000 in
theorem come_two (a b c : Vl) (cd : Int) (v : Vl) (nm : ByteArray) (l r : Ex) (hI : ComeSp a b c l) (hJ : ComeSp a b c r) (hF : formB (.node cd v nm l r) = true) (hc : cd ≠ 1 ∧ cd ≠ 2 ∧ cd ≠ 17 ∧ cd ≠ 3 ∧ cd ≠ 4 ∧ cd ≠ 5) : ComeSp a b c (.node cd v nm l r) := by
  have HI : Hid (ComeSp a b c l) := hI
  have HJ : Hid (ComeSp a b c r) := hJ
  obtain ⟨h1, h2, h17, h3, h4, h5⟩ := hc
  clear hI hJ
  intro ba bb bc bf p w hE hX
  obtain ⟨W, hW⟩ : ∃ W, (w.alloc (.cells #[.func (.func 33) #[] #[.pointer (some ⟨ba, 0, none⟩), .pointer (some ⟨bb, 0, none⟩), .pointer (some ⟨bc, 0, none⟩)], .func (.func 34) #[] #[.pointer (some ⟨bf, 0, none⟩)]] 45)).alloc (.cells #[.int .i64 0, .int .i64 0, .string ⟨#[]⟩] 39) = W := ⟨_, rfl⟩
  have hbW : Below w.heap.size w W := by rw [← hW]; exact ((Below.refl _ _).alloc (Nat.le_refl _) _).alloc (by simp only [World.size_alloc]; omega) _
  have hkE : Blk w.heap.size #[.func (.func 33) #[] #[.pointer (some ⟨ba, 0, none⟩), .pointer (some ⟨bb, 0, none⟩), .pointer (some ⟨bc, 0, none⟩)], .func (.func 34) #[] #[.pointer (some ⟨bf, 0, none⟩)]] 45 W := by rw [← hW]; exact (Blk.new _ _ _).below ((Below.refl _ _).alloc (Nat.le_refl _) _)
  have hkR : Blk (w.heap.size + 1) Vl.none.cells 39 W := by
    have hq := Blk.new (w.alloc (.cells #[.func (.func 33) #[] #[.pointer (some ⟨ba, 0, none⟩), .pointer (some ⟨bb, 0, none⟩), .pointer (some ⟨bc, 0, none⟩)], .func (.func 34) #[] #[.pointer (some ⟨bf, 0, none⟩)]] 45)) Vl.none.cells 39
    simp only [World.size_alloc] at hq
    rw [← hW]
    exact hq
  have HXB : Hid (∀ B, p = some ⟨B, 0, none⟩ → B < w.heap.size) := by
    obtain ⟨B0, _, _, e0, hB0, _⟩ := hX
    intro B hB
    rw [e0] at hB
    cases hB
    exact hB0
  have G0 : Hid (CW ba bb bc bf a b c p (.node cd v nm l r) w W) := ⟨hkE, hkR, hE.below hbW, hX.below hbW, hbW⟩
  clear hbW hkE hkR hE hX
  obtain ⟨L, hL⟩ : ∃ L, evF a b c l = L := ⟨_, rfl⟩
  have HL : Hid (evF a b c l = L) := hL
  obtain ⟨M, hM⟩ : ∃ L, evF a b c r = L := ⟨_, rfl⟩
  have HM : Hid (evF a b c r = M) := hM
  have he : evF a b c (.node cd v nm l r) = bindR L fun x => bindR M fun y => twoR cd x y := by
    rw [evF, if_neg (by rw [hF]; decide), if_neg h1, if_neg h2, if_neg h17, hL, hM]
    have hne : ¬ (cd = 3 ∨ cd = 4 ∨ cd = 5) := by omega
    simp only [if_neg hne]
  rw [he]
  have HF : Hid (formB (.node cd v nm l r) = true) := hF
  have b1 : (cd == 1) = false := beq_f h1
  have b2 : (cd == 2) = false := beq_f h2
  have b17 : (cd == 17) = false := beq_f h17
  have b3 : (cd == 3) = false := beq_f h3
  have b4 : (cd == 4) = false := beq_f h4
  have b5 : (cd == 5) = false := beq_f h5
  clear he hF hL hM h1 h2 h17 h3 h4 h5
  obtain ⟨B, pl, pr, rfl, hlt, ⟨n0, n1, n2, n3, n4, n5, n6⟩, ql, qr⟩ := G0.out.ex
  go_enter Tryz.func36, Tryz.ntmps36
  go_wp2_with fail
  have h8 := formed_any (.node cd v nm l r) _ W G0.out.ex
  rw [HF.out] at h8
  refine h8.mono ?_
  clear h8
  rintro _ w1 ⟨rfl, rfl⟩
  go_upto_region 11 with fail
  go_cut [8, 9] (fun a8 a9 wx => ∃ (v1 : Vl) (bl : Nat), a8 = .pointer (some ⟨bl, 0, none⟩) ∧ a9 = errOf L ∧ Hid (CW ba bb bc bf a b c (some ⟨B, 0, none⟩) (.node cd v nm l r) w wx ∧ Blk bl v1.cells 39 wx ∧ (∀ x, L = .ok x → v1 = x) ∧ w.heap.size + 2 ≤ bl))
  case first =>
    have hsz : w.heap.size + 2 ≤ w1.heap.size := (Array.getElem?_eq_some_iff.1 G0.out.kR).1
    have HSZ : Hid (w.heap.size + 2 ≤ w1.heap.size) := hsz
    have HQ : Hid (ExAt w1 pl l) := ql
    have HKE : Hid (∀ wx, Below w1.heap.size w1 wx → Calls Tryz.prog 36 #[.agg #[.func (.func 33) #[] #[.pointer (some ⟨ba, 0, none⟩), .pointer (some ⟨bb, 0, none⟩), .pointer (some ⟨bc, 0, none⟩)], .func (.func 34) #[] #[.pointer (some ⟨bf, 0, none⟩)]], .pointer pl] wx fun r w' => ToldE L wx r w') := fun wx hb => by
      have h8 := HI.out ba bb bc bf pl wx (G0.out.env.below hb) (HQ.out.below hb)
      rw [HL.out] at h8
      exact h8
    have HA : Hid (Below w1.heap.size w1 w1.drew) := (Below.refl _ _).drew
    have HBB : Hid (Below w1.heap.size w1 (w1.alloc (.cells #[.int .i64 0, .int .i64 0, .string ⟨#[]⟩] 39)).drew) := ((Below.refl _ _).alloc (Nat.le_refl _) _).drew
    have HK : Hid (∀ wx, Below w1.heap.size w1 wx → wx.cell? ⟨w.heap.size, 0, none⟩ = some (.func (.func 33) #[] #[.pointer (some ⟨ba, 0, none⟩), .pointer (some ⟨bb, 0, none⟩), .pointer (some ⟨bc, 0, none⟩)]) ∧ wx.cell? ⟨w.heap.size, 1, none⟩ = some (.func (.func 34) #[] #[.pointer (some ⟨bf, 0, none⟩)]) ∧ wx.cell? ⟨B, 5, none⟩ = some (.pointer pl)) := fun wx hb => ⟨(G0.out.below hb).e0.1, (G0.out.below hb).e0.2, (hb.cell (p := ⟨B, 5, none⟩) hlt).trans n5⟩
    clear hsz
    go_region_held3 (fun wx => wx.cell? ⟨w.heap.size, 0, none⟩ = some (.func (.func 33) #[] #[.pointer (some ⟨ba, 0, none⟩), .pointer (some ⟨bb, 0, none⟩), .pointer (some ⟨bc, 0, none⟩)]) ∧ wx.cell? ⟨w.heap.size, 1, none⟩ = some (.func (.func 34) #[] #[.pointer (some ⟨bf, 0, none⟩)]) ∧ wx.cell? ⟨B, 5, none⟩ = some (.pointer pl)) (first | exact HK.out _ HA.out | exact HK.out _ HBB.out | exact HK.out _ HVb.out | exact HK.out _ (HA.out.alloc HA.out.size _) | exact HK.out _ (put39_below _ HA.out (by first | exact Nat.le_refl _ | exact HA.out.size))) ((go_at_call 36; refine Calls.mono (HKE.out _ (by first | exact HA.out | exact HBB.out)) ?_; rintro _ w2 ⟨⟨v1, rfl, hv1⟩, hb⟩; have HV1 : Hid (∀ x, L = .ok x → v1 = x) := hv1; clear hv1; first
      | (have hkB : Blk w1.heap.size Vl.none.cells 39 w2 := ((Blk.new w1 Vl.none.cells 39).below ((Below.refl _ _).drew)).below hb; obtain ⟨k0, k1, k2, kf⟩ := hkB.vc; have HA : Hid (Below w1.heap.size w1 w2) := HBB.out.trans (hb.mono HBB.out.size); have GY : Hid (CW ba bb bc bf a b c (some ⟨B, 0, none⟩) (.node cd v nm l r) w (put39 w2 w1.heap.size v1) ∧ Blk w1.heap.size v1.cells 39 (put39 w2 w1.heap.size v1) ∧ (∀ x, L = .ok x → v1 = x) ∧ w.heap.size + 2 ≤ w1.heap.size) := ⟨G0.out.below (put39_below v1 HA.out (Nat.le_refl _)), put39_blk v1 hkB, HV1.out, HSZ.out⟩; clear hb hkB; unfold vv)
      | (have hbs : w1.heap.size ≤ w2.heap.size := hb.size; have HA : Hid (Below w1.heap.size w1 w2) := HA.out.trans (hb.mono HA.out.size); obtain ⟨V, hV⟩ : ∃ V, w2.alloc (.cells #[.int .i64 v1.k, .int .i64 v1.n, .string v1.t] 39) = V := ⟨_, rfl⟩; have hbV : Below w2.heap.size w2 V := (by rw [← hV]; exact (Below.refl _ _).alloc (Nat.le_refl _) _); have HVb : Hid (Below w1.heap.size w1 V) := HA.out.trans (hbV.mono hbs); have GY : Hid (CW ba bb bc bf a b c (some ⟨B, 0, none⟩) (.node cd v nm l r) w V ∧ Blk w2.heap.size v1.cells 39 V ∧ (∀ x, L = .ok x → v1 = x) ∧ w.heap.size + 2 ≤ w2.heap.size) := ⟨(G0.out.below HA.out).below hbV, (by rw [← hV]; exact Blk.new _ _ _), HV1.out, Nat.le_trans HSZ.out hbs⟩; clear hb hbV hbs; unfold vv)))
    all_goals
      go_wp2_with fail
      go_meet
      case rel => exact ⟨v1, _, rfl, rfl, GY⟩
  case rest =>
  obtain ⟨v1, bl, rfl, rfl, GL⟩ := hcut
  obtain ⟨w3, hw3⟩ : ∃ u, u = wc := ⟨_, rfl⟩
  subst hw3
  clear n0 n1 n2 n3 n4 n5 n6 hlt ql qr
  obtain ⟨r0, r1, r2, rf⟩ := GL.out.1.kR.vc
  obtain ⟨B', pl', pr', e, hlt, ⟨n0, n1, n2, n3, n4, n5, n6⟩, ql, qr⟩ := GL.out.1.ex
  cases e
  cases L with
  | error n =>
    have HEv : Hid (bindR (.error n) (fun x => bindR M fun y => twoR cd x y) = .error n) := rfl
    simp only [errOf]
    go_wp2
    refine bodyPost_ret (v := .tuple #[vv .none, .iface 53 (.int .i64 n)]) (results_ct Tryz.results36 _ _ ⟨w.heap.size + 1, 0, none⟩ rfl (load39 (put39_blk .none GL.out.1.kR))) rfl ?_
    exact ⟨⟨.none, by rw [HEv.out]; rfl, fun x hx => by rw [HEv.out] at hx; cases hx⟩, put39_below .none GL.out.1.be (by omega)⟩
  | ok x1 =>
    obtain rfl : v1 = x1 := GL.out.2.2.1 x1 rfl
    have HEv0 : Hid (bindR (.ok v1) (fun x => bindR M fun y => twoR cd x y) = bindR M fun y => twoR cd v1 y) := rfl
    simp only [errOf]
    go_upto_region 21 with fail
    go_cut [10, 9] (fun a10 a9 wx => ∃ (v2 : Vl) (br : Nat), a10 = .pointer (some ⟨br, 0, none⟩) ∧ a9 = errOf M ∧ Hid (CW ba bb bc bf a b c (some ⟨B, 0, none⟩) (.node cd v nm l r) w wx ∧ Blk br v2.cells 39 wx ∧ (∀ x, M = .ok x → v2 = x) ∧ w.heap.size + 2 ≤ br ∧ Blk bl v1.cells 39 wx))
    case first =>
      have hsz : w.heap.size + 2 ≤ w3.heap.size := (Array.getElem?_eq_some_iff.1 GL.out.1.kR).1
      have HSZ : Hid (w.heap.size + 2 ≤ w3.heap.size) := hsz
      have HQ : Hid (ExAt w3 pr' r) := qr
      have HKE : Hid (∀ wx, Below w3.heap.size w3 wx → Calls Tryz.prog 36 #[.agg #[.func (.func 33) #[] #[.pointer (some ⟨ba, 0, none⟩), .pointer (some ⟨bb, 0, none⟩), .pointer (some ⟨bc, 0, none⟩)], .func (.func 34) #[] #[.pointer (some ⟨bf, 0, none⟩)]], .pointer pr'] wx fun r w' => ToldE M wx r w') := fun wx hb => by
        have h8 := HJ.out ba bb bc bf pr' wx (GL.out.1.env.below hb) (HQ.out.below hb)
        rw [HM.out] at h8
        exact h8
      have HA : Hid (Below w3.heap.size w3 w3.drew) := (Below.refl _ _).drew
      have HBB : Hid (Below w3.heap.size w3 (w3.alloc (.cells #[.int .i64 0, .int .i64 0, .string ⟨#[]⟩] 39)).drew) := ((Below.refl _ _).alloc (Nat.le_refl _) _).drew
      have HK : Hid (∀ wx, Below w3.heap.size w3 wx → wx.cell? ⟨w.heap.size, 0, none⟩ = some (.func (.func 33) #[] #[.pointer (some ⟨ba, 0, none⟩), .pointer (some ⟨bb, 0, none⟩), .pointer (some ⟨bc, 0, none⟩)]) ∧ wx.cell? ⟨w.heap.size, 1, none⟩ = some (.func (.func 34) #[] #[.pointer (some ⟨bf, 0, none⟩)]) ∧ wx.cell? ⟨B, 6, none⟩ = some (.pointer pr')) := fun wx hb => ⟨(GL.out.1.below hb).e0.1, (GL.out.1.below hb).e0.2, (hb.cell (p := ⟨B, 6, none⟩) hlt).trans n6⟩
      clear hsz
      go_region_held3 (fun wx => wx.cell? ⟨w.heap.size, 0, none⟩ = some (.func (.func 33) #[] #[.pointer (some ⟨ba, 0, none⟩), .pointer (some ⟨bb, 0, none⟩), .pointer (some ⟨bc, 0, none⟩)]) ∧ wx.cell? ⟨w.heap.size, 1, none⟩ = some (.func (.func 34) #[] #[.pointer (some ⟨bf, 0, none⟩)]) ∧ wx.cell? ⟨B, 6, none⟩ = some (.pointer pr')) (first | exact HK.out _ HA.out | exact HK.out _ HBB.out | exact HK.out _ HUb.out | exact HK.out _ (HA.out.alloc HA.out.size _) | exact HK.out _ (put39_below _ HA.out (by first | exact Nat.le_refl _ | exact HA.out.size))) ((go_at_call 36; refine Calls.mono (HKE.out _ (by first | exact HA.out | exact HBB.out)) ?_; rintro _ w6 ⟨⟨v2, rfl, hv2⟩, hb⟩; have HV2 : Hid (∀ x, M = .ok x → v2 = x) := hv2; clear hv2; first
        | (have hkB : Blk w3.heap.size Vl.none.cells 39 w6 := ((Blk.new w3 Vl.none.cells 39).below ((Below.refl _ _).drew)).below hb; obtain ⟨k0, k1, k2, kf⟩ := hkB.vc; have HA : Hid (Below w3.heap.size w3 w6) := HBB.out.trans (hb.mono HBB.out.size); have GY : Hid (CW ba bb bc bf a b c (some ⟨B, 0, none⟩) (.node cd v nm l r) w (put39 w6 w3.heap.size v2) ∧ Blk w3.heap.size v2.cells 39 (put39 w6 w3.heap.size v2) ∧ (∀ x, M = .ok x → v2 = x) ∧ w.heap.size + 2 ≤ w3.heap.size ∧ Blk bl v1.cells 39 (put39 w6 w3.heap.size v2)) := ⟨GL.out.1.below (put39_below v2 HA.out (Nat.le_refl _)), put39_blk v2 hkB, HV2.out, HSZ.out, GL.out.2.1.below (put39_below v2 HA.out (Nat.le_refl _))⟩; clear hb hkB; unfold vv)
        | (have hbs : w3.heap.size ≤ w6.heap.size := hb.size; have HA : Hid (Below w3.heap.size w3 w6) := HA.out.trans (hb.mono HA.out.size); obtain ⟨U, hU⟩ : ∃ U, w6.alloc (.cells #[.int .i64 v2.k, .int .i64 v2.n, .string v2.t] 39) = U := ⟨_, rfl⟩; have hbU : Below w6.heap.size w6 U := (by rw [← hU]; exact (Below.refl _ _).alloc (Nat.le_refl _) _); have HUb : Hid (Below w3.heap.size w3 U) := HA.out.trans (hbU.mono hbs); have GY : Hid (CW ba bb bc bf a b c (some ⟨B, 0, none⟩) (.node cd v nm l r) w U ∧ Blk w6.heap.size v2.cells 39 U ∧ (∀ x, M = .ok x → v2 = x) ∧ w.heap.size + 2 ≤ w6.heap.size ∧ Blk bl v1.cells 39 U) := ⟨(GL.out.1.below HA.out).below hbU, (by rw [← hU]; exact Blk.new _ _ _), HV2.out, Nat.le_trans HSZ.out hbs, GL.out.2.1.below HUb.out⟩; clear hb hbU hbs; unfold vv)))
      all_goals
        go_wp2_with fail
        go_meet
        case rel => exact ⟨v2, _, rfl, rfl, GY⟩
    case rest =>
    obtain ⟨v2, br, rfl, rfl, GR⟩ := hcut
    obtain ⟨w7, hw7⟩ : ∃ u, u = wc := ⟨_, rfl⟩
    subst hw7
    clear n0 n1 n2 n3 n4 n5 n6 hlt ql qr r0 r1 r2 rf
    obtain ⟨r0, r1, r2, rf⟩ := GR.out.1.kR.vc
    cases M with
    | error n =>
      have HEv : Hid (bindR (.ok v1) (fun x => bindR (.error n) fun y => twoR cd x y) = .error n) := rfl
      simp only [errOf]
      go_wp2
      refine bodyPost_ret (v := .tuple #[vv .none, .iface 53 (.int .i64 n)]) (results_ct Tryz.results36 _ _ ⟨w.heap.size + 1, 0, none⟩ rfl (load39 (put39_blk .none GR.out.1.kR))) rfl ?_
      exact ⟨⟨.none, by rw [HEv.out]; rfl, fun x hx => by rw [HEv.out] at hx; cases hx⟩, put39_below .none GR.out.1.be (by omega)⟩
    | ok x2 =>
      obtain rfl : v2 = x2 := GR.out.2.2.1 x2 rfl
      have HEv : Hid (bindR (.ok v1) (fun x => bindR (.ok v2) fun y => twoR cd x y) = twoR cd v1 v2) := rfl
      obtain ⟨R, hR⟩ : ∃ R, twoR cd v1 v2 = R := ⟨_, rfl⟩
      have HR : Hid (twoR cd v1 v2 = R) := hR
      simp only [errOf]
      clear hR
      go_upto_region 24 with fail
      have HB0 : Hid (w.heap.size + 2 ≤ bl ∧ w.heap.size + 2 ≤ br) := ⟨GL.out.2.2.2, GR.out.2.2.2.1⟩
      have HK : Hid (∀ wx, CW ba bb bc bf a b c (some ⟨B, 0, none⟩) (.node cd v nm l r) w wx → Blk bl v1.cells 39 wx → Blk br v2.cells 39 wx → wx.cell? ⟨B, 0, none⟩ = some (.int .i64 cd) ∧ wx.cell? ⟨bl, 0, none⟩ = some (.int .i64 v1.k) ∧ wx.cell? ⟨bl, 1, none⟩ = some (.int .i64 v1.n) ∧ wx.cell? ⟨bl, 2, none⟩ = some (.string v1.t) ∧ wx.cell? ⟨br, 0, none⟩ = some (.int .i64 v2.k) ∧ wx.cell? ⟨br, 1, none⟩ = some (.int .i64 v2.n) ∧ wx.cell? ⟨br, 2, none⟩ = some (.string v2.t)) := fun wx hx h h' => by
        obtain ⟨B', _, _, e, _, ⟨k0, _⟩, _⟩ := hx.ex
        cases e
        exact ⟨k0, h.vc.1, h.vc.2.1, h.vc.2.2.1, h'.vc.1, h'.vc.2.1, h'.vc.2.2.1⟩
      have GX : Hid (CW ba bb bc bf a b c (some ⟨B, 0, none⟩) (.node cd v nm l r) w w7.drew ∧ Blk bl v1.cells 39 w7.drew ∧ Blk br v2.cells 39 w7.drew) := ⟨GR.out.1.below ((Below.refl _ _).drew), GR.out.2.2.2.2, GR.out.2.1⟩
      have HNB : Hid (B ≠ w.heap.size + 1) := by have := HXB.out B rfl; show B ≠ _; omega
      go_region_held3 (fun wx => wx.cell? ⟨B, 0, none⟩ = some (.int .i64 cd) ∧ wx.cell? ⟨bl, 0, none⟩ = some (.int .i64 v1.k) ∧ wx.cell? ⟨bl, 1, none⟩ = some (.int .i64 v1.n) ∧ wx.cell? ⟨bl, 2, none⟩ = some (.string v1.t) ∧ wx.cell? ⟨br, 0, none⟩ = some (.int .i64 v2.k) ∧ wx.cell? ⟨br, 1, none⟩ = some (.int .i64 v2.n) ∧ wx.cell? ⟨br, 2, none⟩ = some (.string v2.t)) (first | exact HK.out _ GX.out.1 GX.out.2.1 GX.out.2.2 | exact HP5.out) ((go_at_call 70; have h8 := two_any cd v1 v2 _ GX.out.1.env.ask GX.out.1.env.lo; rw [HR.out, tup_eq] at h8; refine Calls.mono h8 ?_; clear h8; rintro _ w8 ⟨rfl, hb⟩; have GX : Hid (CW ba bb bc bf a b c (some ⟨B, 0, none⟩) (.node cd v nm l r) w w8 ∧ Blk bl v1.cells 39 w8 ∧ Blk br v2.cells 39 w8) := ⟨GX.out.1.below hb, GX.out.2.1.below hb, GX.out.2.2.below hb⟩; have HP5 : Hid ((put39 w8 (w.heap.size + 1) (valOf R)).cell? ⟨B, 0, none⟩ = some (.int .i64 cd) ∧ (put39 w8 (w.heap.size + 1) (valOf R)).cell? ⟨bl, 0, none⟩ = some (.int .i64 v1.k) ∧ (put39 w8 (w.heap.size + 1) (valOf R)).cell? ⟨bl, 1, none⟩ = some (.int .i64 v1.n) ∧ (put39 w8 (w.heap.size + 1) (valOf R)).cell? ⟨bl, 2, none⟩ = some (.string v1.t) ∧ (put39 w8 (w.heap.size + 1) (valOf R)).cell? ⟨br, 0, none⟩ = some (.int .i64 v2.k) ∧ (put39 w8 (w.heap.size + 1) (valOf R)).cell? ⟨br, 1, none⟩ = some (.int .i64 v2.n) ∧ (put39 w8 (w.heap.size + 1) (valOf R)).cell? ⟨br, 2, none⟩ = some (.string v2.t)) := (by have hz := HK.out _ GX.out.1 GX.out.2.1 GX.out.2.2; have q1 := HB0.out.1; have q2 := HB0.out.2; exact ⟨(put39_cell HNB.out _ _ _).trans hz.1, (put39_cell (by omega) _ _ _).trans hz.2.1, (put39_cell (by omega) _ _ _).trans hz.2.2.1, (put39_cell (by omega) _ _ _).trans hz.2.2.2.1, (put39_cell (by omega) _ _ _).trans hz.2.2.2.2.1, (put39_cell (by omega) _ _ _).trans hz.2.2.2.2.2.1, (put39_cell (by omega) _ _ _).trans hz.2.2.2.2.2.2⟩); obtain ⟨t0, t1, t2, tf⟩ := GX.out.1.kR.vc; clear hb; unfold vv))
      all_goals
        go_wp2_with fail
        refine bodyPost_ret (v := .tuple #[vv (valOf R), errOf R]) (results_ct Tryz.results36 _ _ ⟨w.heap.size + 1, 0, none⟩ rfl (load39 (put39_blk (valOf R) GX.out.1.kR))) rfl ?_
        exact ⟨⟨valOf R, by rw [HEv.out, HR.out], fun x hx => by rw [HEv.out, HR.out] at hx; rw [hx]; rfl⟩, put39_below (valOf R) GX.out.1.be (by omega)⟩
/-- every expression comes to what evF says -/
theorem come_all (a b c : Vl) : ∀ e : Ex, ComeSp a b c e
  | .nil => come_bad a b c .nil rfl
  | .node cd v nm l r => by
    cases hF : formB (.node cd v nm l r) with
    | false => exact come_bad a b c _ hF
    | true =>
      by_cases h1 : cd = 1
      · subst h1; exact come_lit a b c v nm l r
      by_cases h2 : cd = 2
      · subst h2; exact come_col a b c v nm l r
      by_cases h17 : cd = 17
      · subst h17
        cases l with
        | nil => cases hF
        | node d v2 nm2 l2 r2 =>
          have hd : d = 2 := by
            have h8 : (decide (1 ≤ (17 : Int)) && decide ((17 : Int) ≤ 17) && (decide ((17 : Int) ≠ 17) || decide (d = 2))) = true := hF
            simpa using h8
          subst hd
          exact come_mat a b c v v2 nm nm2 l2 r2 r
      have hl := come_all a b c l
      by_cases h3 : cd = 3
      · subst h3; exact come_3 a b c v nm l r hl
      by_cases h4 : cd = 4
      · subst h4; exact come_4 a b c v nm l r hl
      by_cases h5 : cd = 5
      · subst h5; exact come_5 a b c v nm l r hl
      exact come_two a b c cd v nm l r hl (come_all a b c r) hF ⟨h1, h2, h17, h3, h4, h5⟩
end Go.Proofs.YtbdcbaamjkjhaaaGreatDoor
