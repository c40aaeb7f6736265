/- Part 23 of 30. -/
import Derived.Test.YtmabfbffpedfnaaGreatDoorK22
import Derived.Laws.EntriesVeiled
namespace Go.Proofs.YtmabfbffpedfnaaGreatDoor
open Go.RowKit

theorem put39_cell {b c : Nat} (h : c ≠ b) (w : World) (v : Vl) (i : Nat) : (put39 w b v).cell? ⟨c, i, none⟩ = w.cell? ⟨c, i, none⟩ := by
  unfold put39
  rw [World.cell?_setCell_other _ _ _ _ (fun q => h (by cases q; rfl)), World.cell?_setCell_other _ _ _ _ (fun q => h (by cases q; rfl)), World.cell?_setCell_other _ _ _ _ (fun q => h (by cases q; rfl))]
set_option maxRecDepth 100000 in
set_option maxHeartbeats 16000000 in
theorem come_two (a b c : Vl) (cd : Int) (v : Vl) (nm : ByteArray) (l r : Ex) (hI : ComeSp a b c l) (hJ : ComeSp a b c r) (hF : formB (.node cd v nm l r) = true) (hc : cd ≠ 1 ∧ cd ≠ 2 ∧ cd ≠ 17 ∧ cd ≠ 3 ∧ cd ≠ 4 ∧ cd ≠ 5) : ComeSp a b c (.node cd v nm l r) := by
  have HI : Hid (ComeSp a b c l) := hI
  have HJ : Hid (ComeSp a b c r) := hJ
  obtain ⟨h1, h2, h17, h3, h4, h5⟩ := hc
  clear hI hJ
  intro be ba bb bc bf p w hE hX
  obtain ⟨W, hW⟩ : ∃ W, (w.alloc (.cells #[.func (.func 8) #[] #[.pointer (some ⟨be, 0, none⟩), .pointer (some ⟨ba, 0, none⟩), .pointer (some ⟨bb, 0, none⟩), .pointer (some ⟨bc, 0, none⟩)], .func (.func 12) #[] #[.pointer (some ⟨bf, 0, none⟩)]] 49)).alloc (.cells #[.int .i64 0, .int .i64 0, .string ⟨#[]⟩] 23) = W := ⟨_, rfl⟩
  have hbW : Below w.heap.size w W := by rw [← hW]; exact ((Below.refl _ _).alloc (Nat.le_refl _) _).alloc (by simp only [World.size_alloc]; omega) _
  have hkE : Blk w.heap.size #[.func (.func 8) #[] #[.pointer (some ⟨be, 0, none⟩), .pointer (some ⟨ba, 0, none⟩), .pointer (some ⟨bb, 0, none⟩), .pointer (some ⟨bc, 0, none⟩)], .func (.func 12) #[] #[.pointer (some ⟨bf, 0, none⟩)]] 49 W := by rw [← hW]; exact (Blk.new _ _ _).below ((Below.refl _ _).alloc (Nat.le_refl _) _)
  have hkR : Blk (w.heap.size + 1) Vl.none.cells 23 W := by
    have hq := Blk.new (w.alloc (.cells #[.func (.func 8) #[] #[.pointer (some ⟨be, 0, none⟩), .pointer (some ⟨ba, 0, none⟩), .pointer (some ⟨bb, 0, none⟩), .pointer (some ⟨bc, 0, none⟩)], .func (.func 12) #[] #[.pointer (some ⟨bf, 0, none⟩)]] 49)) Vl.none.cells 23
    simp only [World.size_alloc] at hq
    rw [← hW]
    exact hq
  have HXB : Hid (∀ B, p = some ⟨B, 0, none⟩ → B < w.heap.size) := by
    obtain ⟨B0, _, _, e0, hB0, _⟩ := hX
    intro B hB
    rw [e0] at hB
    cases hB
    exact hB0
  have G0 : Hid (CW be ba bb bc bf a b c p (.node cd v nm l r) w W) := ⟨hkE, hkR, hE.below hbW, hX.below hbW, hbW⟩
  clear hbW hkE hkR hE hX
  obtain ⟨L, hL⟩ : ∃ L, evF a b c l = L := ⟨_, rfl⟩
  have HL : Hid (evF a b c l = L) := hL
  obtain ⟨M, hM⟩ : ∃ L, evF a b c r = L := ⟨_, rfl⟩
  have HM : Hid (evF a b c r = M) := hM
  have he : evF a b c (.node cd v nm l r) = bindR L fun x => bindR M fun y => twoR cd x y := by
    rw [evF, if_neg (by rw [hF]; decide), if_neg h1, if_neg h2, if_neg h17, hL, hM]
    have hne : ¬ (cd = 3 ∨ cd = 4 ∨ cd = 5) := by omega
    simp only [if_neg hne]
  rw [he]
  have HF : Hid (formB (.node cd v nm l r) = true) := hF
  have b1 : (cd == 1) = false := beq_f h1
  have b2 : (cd == 2) = false := beq_f h2
  have b17 : (cd == 17) = false := beq_f h17
  have b3 : (cd == 3) = false := beq_f h3
  have b4 : (cd == 4) = false := beq_f h4
  have b5 : (cd == 5) = false := beq_f h5
  clear he hF hL hM h1 h2 h17 h3 h4 h5
  obtain ⟨B, pl, pr, rfl, hlt, ⟨n0, n1, n2, n3, n4, n5, n6⟩, ql, qr⟩ := G0.out.ex
  go_enter Tryz.func29, Tryz.ntmps29
  go_wp2_with fail
  have h8 := formed_any (.node cd v nm l r) _ W G0.out.ex
  rw [HF.out] at h8
  refine h8.mono ?_
  clear h8
  rintro _ w1 ⟨rfl, rfl⟩
  go_upto_region 11 with fail
  go_cut [8, 9] (fun a8 a9 wx => ∃ (v1 : Vl) (bl : Nat), a8 = .pointer (some ⟨bl, 0, none⟩) ∧ a9 = errOf L ∧ Hid (CW be ba bb bc bf a b c (some ⟨B, 0, none⟩) (.node cd v nm l r) w wx ∧ Blk bl v1.cells 23 wx ∧ (∀ x, L = .ok x → v1 = x) ∧ w.heap.size + 2 ≤ bl))
  case first =>
    have hsz : w.heap.size + 2 ≤ w1.heap.size := (Array.getElem?_eq_some_iff.1 G0.out.kR).1
    have HSZ : Hid (w.heap.size + 2 ≤ w1.heap.size) := hsz
    have HQ : Hid (ExAt w1 pl l) := ql
    have HKE : Hid (∀ wx, Below w1.heap.size w1 wx → Calls Tryz.prog 29 #[.agg #[.func (.func 8) #[] #[.pointer (some ⟨be, 0, none⟩), .pointer (some ⟨ba, 0, none⟩), .pointer (some ⟨bb, 0, none⟩), .pointer (some ⟨bc, 0, none⟩)], .func (.func 12) #[] #[.pointer (some ⟨bf, 0, none⟩)]], .pointer pl] wx fun r w' => ToldE L wx r w') := fun wx hb => by
      have h8 := HI.out be ba bb bc bf pl wx (G0.out.env.below hb) (HQ.out.below hb)
      rw [HL.out] at h8
      exact h8
    have HA : Hid (Below w1.heap.size w1 w1.drew) := (Below.refl _ _).drew
    have HBB : Hid (Below w1.heap.size w1 (w1.alloc (.cells #[.int .i64 0, .int .i64 0, .string ⟨#[]⟩] 23)).drew) := ((Below.refl _ _).alloc (Nat.le_refl _) _).drew
    have HK : Hid (∀ wx, Below w1.heap.size w1 wx → wx.cell? ⟨w.heap.size, 0, none⟩ = some (.func (.func 8) #[] #[.pointer (some ⟨be, 0, none⟩), .pointer (some ⟨ba, 0, none⟩), .pointer (some ⟨bb, 0, none⟩), .pointer (some ⟨bc, 0, none⟩)]) ∧ wx.cell? ⟨w.heap.size, 1, none⟩ = some (.func (.func 12) #[] #[.pointer (some ⟨bf, 0, none⟩)]) ∧ wx.cell? ⟨B, 5, none⟩ = some (.pointer pl)) := fun wx hb => ⟨(G0.out.below hb).e0.1, (G0.out.below hb).e0.2, (hb.cell (p := ⟨B, 5, none⟩) hlt).trans n5⟩
    clear hsz
    go_region_held3 (fun wx => wx.cell? ⟨w.heap.size, 0, none⟩ = some (.func (.func 8) #[] #[.pointer (some ⟨be, 0, none⟩), .pointer (some ⟨ba, 0, none⟩), .pointer (some ⟨bb, 0, none⟩), .pointer (some ⟨bc, 0, none⟩)]) ∧ wx.cell? ⟨w.heap.size, 1, none⟩ = some (.func (.func 12) #[] #[.pointer (some ⟨bf, 0, none⟩)]) ∧ wx.cell? ⟨B, 5, none⟩ = some (.pointer pl)) (first | exact HK.out _ HA.out | exact HK.out _ HBB.out | exact HK.out _ HVb.out | exact HK.out _ (HA.out.alloc HA.out.size _) | exact HK.out _ (put39_below _ HA.out (by first | exact Nat.le_refl _ | exact HA.out.size))) ((go_at_call 29; refine Calls.mono (HKE.out _ (by first | exact HA.out | exact HBB.out)) ?_; rintro _ w2 ⟨⟨v1, rfl, hv1⟩, hb⟩; have HV1 : Hid (∀ x, L = .ok x → v1 = x) := hv1; clear hv1; first
      | (have hkB : Blk w1.heap.size Vl.none.cells 23 w2 := ((Blk.new w1 Vl.none.cells 23).below ((Below.refl _ _).drew)).below hb; obtain ⟨k0, k1, k2, kf⟩ := hkB.vc; have HA : Hid (Below w1.heap.size w1 w2) := HBB.out.trans (hb.mono HBB.out.size); have GY : Hid (CW be ba bb bc bf a b c (some ⟨B, 0, none⟩) (.node cd v nm l r) w (put39 w2 w1.heap.size v1) ∧ Blk w1.heap.size v1.cells 23 (put39 w2 w1.heap.size v1) ∧ (∀ x, L = .ok x → v1 = x) ∧ w.heap.size + 2 ≤ w1.heap.size) := ⟨G0.out.below (put39_below v1 HA.out (Nat.le_refl _)), put39_blk v1 hkB, HV1.out, HSZ.out⟩; clear hb hkB; unfold vv)
      | (have hbs : w1.heap.size ≤ w2.heap.size := hb.size; have HA : Hid (Below w1.heap.size w1 w2) := HA.out.trans (hb.mono HA.out.size); obtain ⟨V, hV⟩ : ∃ V, w2.alloc (.cells #[.int .i64 v1.k, .int .i64 v1.n, .string v1.t] 23) = V := ⟨_, rfl⟩; have hbV : Below w2.heap.size w2 V := (by rw [← hV]; exact (Below.refl _ _).alloc (Nat.le_refl _) _); have HVb : Hid (Below w1.heap.size w1 V) := HA.out.trans (hbV.mono hbs); have GY : Hid (CW be ba bb bc bf a b c (some ⟨B, 0, none⟩) (.node cd v nm l r) w V ∧ Blk w2.heap.size v1.cells 23 V ∧ (∀ x, L = .ok x → v1 = x) ∧ w.heap.size + 2 ≤ w2.heap.size) := ⟨(G0.out.below HA.out).below hbV, (by rw [← hV]; exact Blk.new _ _ _), HV1.out, Nat.le_trans HSZ.out hbs⟩; clear hb hbV hbs; unfold vv)))
    all_goals
      go_wp2_with fail
      go_meet
      case rel => exact ⟨v1, _, rfl, rfl, GY⟩
  case rest =>
  obtain ⟨v1, bl, rfl, rfl, GL⟩ := hcut
  obtain ⟨w3, hw3⟩ : ∃ u, u = wc := ⟨_, rfl⟩
  subst hw3
  clear n0 n1 n2 n3 n4 n5 n6 hlt ql qr
  obtain ⟨r0, r1, r2, rf⟩ := GL.out.1.kR.vc
  obtain ⟨B', pl', pr', e, hlt, ⟨n0, n1, n2, n3, n4, n5, n6⟩, ql, qr⟩ := GL.out.1.ex
  cases e
  cases L with
  | error n =>
    have HEv : Hid (bindR (.error n) (fun x => bindR M fun y => twoR cd x y) = .error n) := rfl
    simp only [errOf]
    go_wp2
    refine bodyPost_ret (v := .tuple #[vv .none, .iface 82 (.int .i64 n)]) (results_ct Tryz.results29 _ _ ⟨w.heap.size + 1, 0, none⟩ rfl (load39 (put39_blk .none GL.out.1.kR))) rfl ?_
    exact ⟨⟨.none, by rw [HEv.out]; rfl, fun x hx => by rw [HEv.out] at hx; cases hx⟩, put39_below .none GL.out.1.be (by omega)⟩
  | ok x1 =>
    obtain rfl : v1 = x1 := GL.out.2.2.1 x1 rfl
    have HEv0 : Hid (bindR (.ok v1) (fun x => bindR M fun y => twoR cd x y) = bindR M fun y => twoR cd v1 y) := rfl
    simp only [errOf]
    go_upto_region 21 with fail
    go_cut [10, 9] (fun a10 a9 wx => ∃ (v2 : Vl) (br : Nat), a10 = .pointer (some ⟨br, 0, none⟩) ∧ a9 = errOf M ∧ Hid (CW be ba bb bc bf a b c (some ⟨B, 0, none⟩) (.node cd v nm l r) w wx ∧ Blk br v2.cells 23 wx ∧ (∀ x, M = .ok x → v2 = x) ∧ w.heap.size + 2 ≤ br ∧ Blk bl v1.cells 23 wx))
    case first =>
      have hsz : w.heap.size + 2 ≤ w3.heap.size := (Array.getElem?_eq_some_iff.1 GL.out.1.kR).1
      have HSZ : Hid (w.heap.size + 2 ≤ w3.heap.size) := hsz
      have HQ : Hid (ExAt w3 pr' r) := qr
      have HKE : Hid (∀ wx, Below w3.heap.size w3 wx → Calls Tryz.prog 29 #[.agg #[.func (.func 8) #[] #[.pointer (some ⟨be, 0, none⟩), .pointer (some ⟨ba, 0, none⟩), .pointer (some ⟨bb, 0, none⟩), .pointer (some ⟨bc, 0, none⟩)], .func (.func 12) #[] #[.pointer (some ⟨bf, 0, none⟩)]], .pointer pr'] wx fun r w' => ToldE M wx r w') := fun wx hb => by
        have h8 := HJ.out be ba bb bc bf pr' wx (GL.out.1.env.below hb) (HQ.out.below hb)
        rw [HM.out] at h8
        exact h8
      have HA : Hid (Below w3.heap.size w3 w3.drew) := (Below.refl _ _).drew
      have HBB : Hid (Below w3.heap.size w3 (w3.alloc (.cells #[.int .i64 0, .int .i64 0, .string ⟨#[]⟩] 23)).drew) := ((Below.refl _ _).alloc (Nat.le_refl _) _).drew
      have HK : Hid (∀ wx, Below w3.heap.size w3 wx → wx.cell? ⟨w.heap.size, 0, none⟩ = some (.func (.func 8) #[] #[.pointer (some ⟨be, 0, none⟩), .pointer (some ⟨ba, 0, none⟩), .pointer (some ⟨bb, 0, none⟩), .pointer (some ⟨bc, 0, none⟩)]) ∧ wx.cell? ⟨w.heap.size, 1, none⟩ = some (.func (.func 12) #[] #[.pointer (some ⟨bf, 0, none⟩)]) ∧ wx.cell? ⟨B, 6, none⟩ = some (.pointer pr')) := fun wx hb => ⟨(GL.out.1.below hb).e0.1, (GL.out.1.below hb).e0.2, (hb.cell (p := ⟨B, 6, none⟩) hlt).trans n6⟩
      clear hsz
      go_region_held3 (fun wx => wx.cell? ⟨w.heap.size, 0, none⟩ = some (.func (.func 8) #[] #[.pointer (some ⟨be, 0, none⟩), .pointer (some ⟨ba, 0, none⟩), .pointer (some ⟨bb, 0, none⟩), .pointer (some ⟨bc, 0, none⟩)]) ∧ wx.cell? ⟨w.heap.size, 1, none⟩ = some (.func (.func 12) #[] #[.pointer (some ⟨bf, 0, none⟩)]) ∧ wx.cell? ⟨B, 6, none⟩ = some (.pointer pr')) (first | exact HK.out _ HA.out | exact HK.out _ HBB.out | exact HK.out _ HUb.out | exact HK.out _ (HA.out.alloc HA.out.size _) | exact HK.out _ (put39_below _ HA.out (by first | exact Nat.le_refl _ | exact HA.out.size))) ((go_at_call 29; refine Calls.mono (HKE.out _ (by first | exact HA.out | exact HBB.out)) ?_; rintro _ w6 ⟨⟨v2, rfl, hv2⟩, hb⟩; have HV2 : Hid (∀ x, M = .ok x → v2 = x) := hv2; clear hv2; first
        | (have hkB : Blk w3.heap.size Vl.none.cells 23 w6 := ((Blk.new w3 Vl.none.cells 23).below ((Below.refl _ _).drew)).below hb; obtain ⟨k0, k1, k2, kf⟩ := hkB.vc; have HA : Hid (Below w3.heap.size w3 w6) := HBB.out.trans (hb.mono HBB.out.size); have GY : Hid (CW be ba bb bc bf a b c (some ⟨B, 0, none⟩) (.node cd v nm l r) w (put39 w6 w3.heap.size v2) ∧ Blk w3.heap.size v2.cells 23 (put39 w6 w3.heap.size v2) ∧ (∀ x, M = .ok x → v2 = x) ∧ w.heap.size + 2 ≤ w3.heap.size ∧ Blk bl v1.cells 23 (put39 w6 w3.heap.size v2)) := ⟨GL.out.1.below (put39_below v2 HA.out (Nat.le_refl _)), put39_blk v2 hkB, HV2.out, HSZ.out, GL.out.2.1.below (put39_below v2 HA.out (Nat.le_refl _))⟩; clear hb hkB; unfold vv)
        | (have hbs : w3.heap.size ≤ w6.heap.size := hb.size; have HA : Hid (Below w3.heap.size w3 w6) := HA.out.trans (hb.mono HA.out.size); obtain ⟨U, hU⟩ : ∃ U, w6.alloc (.cells #[.int .i64 v2.k, .int .i64 v2.n, .string v2.t] 23) = U := ⟨_, rfl⟩; have hbU : Below w6.heap.size w6 U := (by rw [← hU]; exact (Below.refl _ _).alloc (Nat.le_refl _) _); have HUb : Hid (Below w3.heap.size w3 U) := HA.out.trans (hbU.mono hbs); have GY : Hid (CW be ba bb bc bf a b c (some ⟨B, 0, none⟩) (.node cd v nm l r) w U ∧ Blk w6.heap.size v2.cells 23 U ∧ (∀ x, M = .ok x → v2 = x) ∧ w.heap.size + 2 ≤ w6.heap.size ∧ Blk bl v1.cells 23 U) := ⟨(GL.out.1.below HA.out).below hbU, (by rw [← hU]; exact Blk.new _ _ _), HV2.out, Nat.le_trans HSZ.out hbs, GL.out.2.1.below HUb.out⟩; clear hb hbU hbs; unfold vv)))
      all_goals
        go_wp2_with fail
        go_meet
        case rel => exact ⟨v2, _, rfl, rfl, GY⟩
    case rest =>
    obtain ⟨v2, br, rfl, rfl, GR⟩ := hcut
    obtain ⟨w7, hw7⟩ : ∃ u, u = wc := ⟨_, rfl⟩
    subst hw7
    clear n0 n1 n2 n3 n4 n5 n6 hlt ql qr r0 r1 r2 rf
    obtain ⟨r0, r1, r2, rf⟩ := GR.out.1.kR.vc
    cases M with
    | error n =>
      have HEv : Hid (bindR (.ok v1) (fun x => bindR (.error n) fun y => twoR cd x y) = .error n) := rfl
      simp only [errOf]
      go_wp2
      refine bodyPost_ret (v := .tuple #[vv .none, .iface 82 (.int .i64 n)]) (results_ct Tryz.results29 _ _ ⟨w.heap.size + 1, 0, none⟩ rfl (load39 (put39_blk .none GR.out.1.kR))) rfl ?_
      exact ⟨⟨.none, by rw [HEv.out]; rfl, fun x hx => by rw [HEv.out] at hx; cases hx⟩, put39_below .none GR.out.1.be (by omega)⟩
    | ok x2 =>
      obtain rfl : v2 = x2 := GR.out.2.2.1 x2 rfl
      have HEv : Hid (bindR (.ok v1) (fun x => bindR (.ok v2) fun y => twoR cd x y) = twoR cd v1 v2) := rfl
      obtain ⟨R, hR⟩ : ∃ R, twoR cd v1 v2 = R := ⟨_, rfl⟩
      have HR : Hid (twoR cd v1 v2 = R) := hR
      simp only [errOf]
      clear hR
      go_upto_region 24 with fail
      have HB0 : Hid (w.heap.size + 2 ≤ bl ∧ w.heap.size + 2 ≤ br) := ⟨GL.out.2.2.2, GR.out.2.2.2.1⟩
      have HK : Hid (∀ wx, CW be ba bb bc bf a b c (some ⟨B, 0, none⟩) (.node cd v nm l r) w wx → Blk bl v1.cells 23 wx → Blk br v2.cells 23 wx → wx.cell? ⟨B, 0, none⟩ = some (.int .i64 cd) ∧ wx.cell? ⟨bl, 0, none⟩ = some (.int .i64 v1.k) ∧ wx.cell? ⟨bl, 1, none⟩ = some (.int .i64 v1.n) ∧ wx.cell? ⟨bl, 2, none⟩ = some (.string v1.t) ∧ wx.cell? ⟨br, 0, none⟩ = some (.int .i64 v2.k) ∧ wx.cell? ⟨br, 1, none⟩ = some (.int .i64 v2.n) ∧ wx.cell? ⟨br, 2, none⟩ = some (.string v2.t)) := fun wx hx h h' => by
        obtain ⟨B', _, _, e, _, ⟨k0, _⟩, _⟩ := hx.ex
        cases e
        exact ⟨k0, h.vc.1, h.vc.2.1, h.vc.2.2.1, h'.vc.1, h'.vc.2.1, h'.vc.2.2.1⟩
      have GX : Hid (CW be ba bb bc bf a b c (some ⟨B, 0, none⟩) (.node cd v nm l r) w w7.drew ∧ Blk bl v1.cells 23 w7.drew ∧ Blk br v2.cells 23 w7.drew) := ⟨GR.out.1.below ((Below.refl _ _).drew), GR.out.2.2.2.2, GR.out.2.1⟩
      have HNB : Hid (B ≠ w.heap.size + 1) := by have := HXB.out B rfl; show B ≠ _; omega
      go_region_held3 (fun wx => wx.cell? ⟨B, 0, none⟩ = some (.int .i64 cd) ∧ wx.cell? ⟨bl, 0, none⟩ = some (.int .i64 v1.k) ∧ wx.cell? ⟨bl, 1, none⟩ = some (.int .i64 v1.n) ∧ wx.cell? ⟨bl, 2, none⟩ = some (.string v1.t) ∧ wx.cell? ⟨br, 0, none⟩ = some (.int .i64 v2.k) ∧ wx.cell? ⟨br, 1, none⟩ = some (.int .i64 v2.n) ∧ wx.cell? ⟨br, 2, none⟩ = some (.string v2.t)) (first | exact HK.out _ GX.out.1 GX.out.2.1 GX.out.2.2 | exact HP5.out) ((go_at_call 58; have h8 := two_any cd v1 v2 _ GX.out.1.env.ask GX.out.1.env.lo; rw [HR.out, tup_eq] at h8; refine Calls.mono h8 ?_; clear h8; rintro _ w8 ⟨rfl, hb⟩; have GX : Hid (CW be ba bb bc bf a b c (some ⟨B, 0, none⟩) (.node cd v nm l r) w w8 ∧ Blk bl v1.cells 23 w8 ∧ Blk br v2.cells 23 w8) := ⟨GX.out.1.below hb, GX.out.2.1.below hb, GX.out.2.2.below hb⟩; have HP5 : Hid ((put39 w8 (w.heap.size + 1) (valOf R)).cell? ⟨B, 0, none⟩ = some (.int .i64 cd) ∧ (put39 w8 (w.heap.size + 1) (valOf R)).cell? ⟨bl, 0, none⟩ = some (.int .i64 v1.k) ∧ (put39 w8 (w.heap.size + 1) (valOf R)).cell? ⟨bl, 1, none⟩ = some (.int .i64 v1.n) ∧ (put39 w8 (w.heap.size + 1) (valOf R)).cell? ⟨bl, 2, none⟩ = some (.string v1.t) ∧ (put39 w8 (w.heap.size + 1) (valOf R)).cell? ⟨br, 0, none⟩ = some (.int .i64 v2.k) ∧ (put39 w8 (w.heap.size + 1) (valOf R)).cell? ⟨br, 1, none⟩ = some (.int .i64 v2.n) ∧ (put39 w8 (w.heap.size + 1) (valOf R)).cell? ⟨br, 2, none⟩ = some (.string v2.t)) := (by have hz := HK.out _ GX.out.1 GX.out.2.1 GX.out.2.2; have q1 := HB0.out.1; have q2 := HB0.out.2; exact ⟨(put39_cell HNB.out _ _ _).trans hz.1, (put39_cell (by omega) _ _ _).trans hz.2.1, (put39_cell (by omega) _ _ _).trans hz.2.2.1, (put39_cell (by omega) _ _ _).trans hz.2.2.2.1, (put39_cell (by omega) _ _ _).trans hz.2.2.2.2.1, (put39_cell (by omega) _ _ _).trans hz.2.2.2.2.2.1, (put39_cell (by omega) _ _ _).trans hz.2.2.2.2.2.2⟩); obtain ⟨t0, t1, t2, tf⟩ := GX.out.1.kR.vc; clear hb; unfold vv))
      all_goals
        go_wp2_with fail
        refine bodyPost_ret (v := .tuple #[vv (valOf R), errOf R]) (results_ct Tryz.results29 _ _ ⟨w.heap.size + 1, 0, none⟩ rfl (load39 (put39_blk (valOf R) GX.out.1.kR))) rfl ?_
        exact ⟨⟨valOf R, by rw [HEv.out, HR.out], fun x hx => by rw [HEv.out, HR.out] at hx; rw [hx]; rfl⟩, put39_below (valOf R) GX.out.1.be (by omega)⟩
/-- every expression comes to what evF says -/
theorem come_all (a b c : Vl) : ∀ e : Ex, ComeSp a b c e
  | .nil => come_bad a b c .nil rfl
  | .node cd v nm l r => by
    cases hF : formB (.node cd v nm l r) with
    | false => exact come_bad a b c _ hF
    | true =>
      by_cases h1 : cd = 1
      · subst h1; exact come_lit a b c v nm l r
      by_cases h2 : cd = 2
      · subst h2; exact come_col a b c v nm l r
      by_cases h17 : cd = 17
      · subst h17
        cases l with
        | nil => cases hF
        | node d v2 nm2 l2 r2 =>
          have hd : d = 2 := by
            have h8 : (decide (1 ≤ (17 : Int)) && decide ((17 : Int) ≤ 17) && (decide ((17 : Int) ≠ 17) || decide (d = 2))) = true := hF
            simpa using h8
          subst hd
          exact come_mat a b c v v2 nm nm2 l2 r2 r
      have hl := come_all a b c l
      by_cases h3 : cd = 3
      · subst h3; exact come_3 a b c v nm l r hl
      by_cases h4 : cd = 4
      · subst h4; exact come_4 a b c v nm l r hl
      by_cases h5 : cd = 5
      · subst h5; exact come_5 a b c v nm l r hl
      exact come_two a b c cd v nm l r hl (come_all a b c r) hF ⟨h1, h2, h17, h3, h4, h5⟩
end Go.Proofs.YtmabfbffpedfnaaGreatDoor
namespace Go.Proofs.YtmabfbffpedfnaaGreatDoor
open Go.RowKit

theorem s45 : (Tryz.prog.info? 49).map (·.size) = some 2 := by kernel_rfl
theorem load45 {b : Nat} {x y : Value} {w : World} (h : Blk b #[x, y] 49 w) : (loadVar 49 ⟨b, 0, none⟩).run Tryz.prog w = .ok (.agg #[x, y]) w := by
  have := run_loadVar_mid (P := Tryz.prog) w b 0 49 [x, y] _ h.range Tryz.underlying49 rfl s45
  simpa using this
def put45 (w : World) (b : Nat) (x y : Value) : World := (w.setCell ⟨b, 0, none⟩ x).setCell ⟨b, 1, none⟩ y
theorem put45_blk {w : World} {b : Nat} {x0 y0 : Value} (x y : Value) (h : Blk b #[x0, y0] 49 w) : Blk b #[x, y] 49 (put45 w b x y) := by
  have := (h.set 0 x).set 1 y
  unfold put45
  simpa using this
set_option maxRecDepth 100000 in
set_option maxHeartbeats 2000000 in
theorem whole_any (be ba bb bc bf : Nat) (w : World) : Calls Tryz.prog 28 #[.agg #[.func (.func 8) #[] #[.pointer (some ⟨be, 0, none⟩), .pointer (some ⟨ba, 0, none⟩), .pointer (some ⟨bb, 0, none⟩), .pointer (some ⟨bc, 0, none⟩)], .func (.func 12) #[] #[.pointer (some ⟨bf, 0, none⟩)]]] w fun e w' => e = .returned (.agg #[.func (.func 8) #[] #[.pointer (some ⟨be, 0, none⟩), .pointer (some ⟨ba, 0, none⟩), .pointer (some ⟨bb, 0, none⟩), .pointer (some ⟨bc, 0, none⟩)], .func (.func 12) #[] #[.pointer (some ⟨bf, 0, none⟩)]]) ∧ Below w.heap.size w w' := by
  obtain ⟨W, hW⟩ : ∃ W, (w.alloc (.cells #[.func (.func 8) #[] #[.pointer (some ⟨be, 0, none⟩), .pointer (some ⟨ba, 0, none⟩), .pointer (some ⟨bb, 0, none⟩), .pointer (some ⟨bc, 0, none⟩)], .func (.func 12) #[] #[.pointer (some ⟨bf, 0, none⟩)]] 49)).alloc (.cells #[.nilFunc, .nilFunc] 49) = W := ⟨_, rfl⟩
  have hbW : Below w.heap.size w W := by rw [← hW]; exact ((Below.refl _ _).alloc (Nat.le_refl _) _).alloc (by simp only [World.size_alloc]; omega) _
  have hkE : Blk w.heap.size #[.func (.func 8) #[] #[.pointer (some ⟨be, 0, none⟩), .pointer (some ⟨ba, 0, none⟩), .pointer (some ⟨bb, 0, none⟩), .pointer (some ⟨bc, 0, none⟩)], .func (.func 12) #[] #[.pointer (some ⟨bf, 0, none⟩)]] 49 W := by rw [← hW]; exact (Blk.new _ _ _).below ((Below.refl _ _).alloc (Nat.le_refl _) _)
  have hkR : Blk (w.heap.size + 1) #[.nilFunc, .nilFunc] 49 W := by
    have hq := Blk.new (w.alloc (.cells #[.func (.func 8) #[] #[.pointer (some ⟨be, 0, none⟩), .pointer (some ⟨ba, 0, none⟩), .pointer (some ⟨bb, 0, none⟩), .pointer (some ⟨bc, 0, none⟩)], .func (.func 12) #[] #[.pointer (some ⟨bf, 0, none⟩)]] 49)) #[.nilFunc, .nilFunc] 49
    simp only [World.size_alloc] at hq
    rw [← hW]
    exact hq
  have G0 : Hid (Blk (w.heap.size + 1) #[.nilFunc, .nilFunc] 49 W ∧ Below w.heap.size w W) := ⟨hkR, hbW⟩
  have e0 : W.cell? ⟨w.heap.size, 0, none⟩ = some (.func (.func 8) #[] #[.pointer (some ⟨be, 0, none⟩), .pointer (some ⟨ba, 0, none⟩), .pointer (some ⟨bb, 0, none⟩), .pointer (some ⟨bc, 0, none⟩)]) := by rw [hkE.cell 0]; rfl
  have e1 : W.cell? ⟨w.heap.size, 1, none⟩ = some (.func (.func 12) #[] #[.pointer (some ⟨bf, 0, none⟩)]) := by rw [hkE.cell 1]; rfl
  have r0 : W.cell? ⟨w.heap.size + 1, 0, none⟩ = some .nilFunc := by rw [hkR.cell 0]; rfl
  have r1 : W.cell? ⟨w.heap.size + 1, 1, none⟩ = some .nilFunc := by rw [hkR.cell 1]; rfl
  have rf : ∀ i, W.frozen? ⟨w.heap.size + 1, i, none⟩ = false := fun i => hkR.free i
  have q1 : ∀ u, Sem.run Tryz.prog (binOp BinOp.eql 44 (.func (.func 8) #[] #[.pointer (some ⟨be, 0, none⟩), .pointer (some ⟨ba, 0, none⟩), .pointer (some ⟨bb, 0, none⟩), .pointer (some ⟨bc, 0, none⟩)]) Value.nilFunc) u = .ok (.bool false) u := fun u => by kernel_rfl
  have q2 : ∀ u, Sem.run Tryz.prog (binOp BinOp.eql 47 (.func (.func 12) #[] #[.pointer (some ⟨bf, 0, none⟩)]) Value.nilFunc) u = .ok (.bool false) u := fun u => by kernel_rfl
  clear hkE hkR hbW
  go_enter Tryz.func28, Tryz.ntmps28
  go_wp2
  refine bodyPost_ret (v := .agg #[.func (.func 8) #[] #[.pointer (some ⟨be, 0, none⟩), .pointer (some ⟨ba, 0, none⟩), .pointer (some ⟨bb, 0, none⟩), .pointer (some ⟨bc, 0, none⟩)], .func (.func 12) #[] #[.pointer (some ⟨bf, 0, none⟩)]]) (results_c Tryz.results28 _ _ ⟨w.heap.size + 1, 0, none⟩ rfl (load45 (put45_blk (.func (.func 8) #[] #[.pointer (some ⟨be, 0, none⟩), .pointer (some ⟨ba, 0, none⟩), .pointer (some ⟨bb, 0, none⟩), .pointer (some ⟨bc, 0, none⟩)]) (.func (.func 12) #[] #[.pointer (some ⟨bf, 0, none⟩)]) G0.out.1))) rfl ?_
  exact ⟨rfl, (G0.out.2.setCell (show w.heap.size ≤ w.heap.size + 1 by omega) _).setCell (show w.heap.size ≤ w.heap.size + 1 by omega) _⟩
def SmV (v : Vl) : Prop := v.t.size ≤ 100000
set_option maxRecDepth 100000 in
set_option maxHeartbeats 4000000 in
theorem eval_any (a b c : Vl) (e : Ex) (hsm : ∀ x, evF a b c e = .ok x → SmV x) (be ba bb bc bf : Nat) (p : Option Addr) (w : World) (hE : EnvW be ba bb bc bf a b c w) (hX : ExAt w p e) : Calls Tryz.prog 11 #[.pointer p, .agg #[.func (.func 8) #[] #[.pointer (some ⟨be, 0, none⟩), .pointer (some ⟨ba, 0, none⟩), .pointer (some ⟨bb, 0, none⟩), .pointer (some ⟨bc, 0, none⟩)], .func (.func 12) #[] #[.pointer (some ⟨bf, 0, none⟩)]]] w fun r w' => r = .returned (tupR (evF a b c e)) ∧ Below w.heap.size w w' := by
  obtain ⟨W, hW⟩ : ∃ W, (w.alloc (.cells #[.func (.func 8) #[] #[.pointer (some ⟨be, 0, none⟩), .pointer (some ⟨ba, 0, none⟩), .pointer (some ⟨bb, 0, none⟩), .pointer (some ⟨bc, 0, none⟩)], .func (.func 12) #[] #[.pointer (some ⟨bf, 0, none⟩)]] 49)).alloc (.cells #[.int .i64 0, .int .i64 0, .string ⟨#[]⟩] 23) = W := ⟨_, rfl⟩
  have hbW : Below w.heap.size w W := by rw [← hW]; exact ((Below.refl _ _).alloc (Nat.le_refl _) _).alloc (by simp only [World.size_alloc]; omega) _
  have hkE : Blk w.heap.size #[.func (.func 8) #[] #[.pointer (some ⟨be, 0, none⟩), .pointer (some ⟨ba, 0, none⟩), .pointer (some ⟨bb, 0, none⟩), .pointer (some ⟨bc, 0, none⟩)], .func (.func 12) #[] #[.pointer (some ⟨bf, 0, none⟩)]] 49 W := by rw [← hW]; exact (Blk.new _ _ _).below ((Below.refl _ _).alloc (Nat.le_refl _) _)
  have hkR : Blk (w.heap.size + 1) Vl.none.cells 23 W := by
    have hq := Blk.new (w.alloc (.cells #[.func (.func 8) #[] #[.pointer (some ⟨be, 0, none⟩), .pointer (some ⟨ba, 0, none⟩), .pointer (some ⟨bb, 0, none⟩), .pointer (some ⟨bc, 0, none⟩)], .func (.func 12) #[] #[.pointer (some ⟨bf, 0, none⟩)]] 49)) Vl.none.cells 23
    simp only [World.size_alloc] at hq
    rw [← hW]
    exact hq
  have G0 : Hid (Blk (w.heap.size + 1) Vl.none.cells 23 W ∧ Below w.heap.size w W ∧ EnvW be ba bb bc bf a b c W ∧ ExAt W p e) := ⟨hkR, hbW, hE.below hbW, hX.below hbW⟩
  have e0 : W.cell? ⟨w.heap.size, 0, none⟩ = some (.func (.func 8) #[] #[.pointer (some ⟨be, 0, none⟩), .pointer (some ⟨ba, 0, none⟩), .pointer (some ⟨bb, 0, none⟩), .pointer (some ⟨bc, 0, none⟩)]) := by rw [hkE.cell 0]; rfl
  have e1 : W.cell? ⟨w.heap.size, 1, none⟩ = some (.func (.func 12) #[] #[.pointer (some ⟨bf, 0, none⟩)]) := by rw [hkE.cell 1]; rfl
  obtain ⟨R, hR⟩ : ∃ R, evF a b c e = R := ⟨_, rfl⟩
  have HR : Hid (evF a b c e = R ∧ ∀ x, R = .ok x → SmV x) := ⟨hR, fun x hx => hsm x (hR.trans hx)⟩
  rw [hR]
  clear hkE hkR hbW hE hX hR hsm
  go_enter Tryz.func11, Tryz.ntmps11
  go_wp2_with fail
  refine (whole_any be ba bb bc bf W).mono ?_
  rintro _ w1 ⟨rfl, hb⟩
  have H1 : Hid (Blk (w.heap.size + 1) Vl.none.cells 23 w1 ∧ Below w.heap.size w w1 ∧ EnvW be ba bb bc bf a b c w1 ∧ ExAt w1 p e) := ⟨G0.out.1.below hb, G0.out.2.1.trans (hb.mono G0.out.2.1.size), G0.out.2.2.1.below hb, G0.out.2.2.2.below hb⟩
  clear hb
  go_wp2_with fail
  have h8 := come_all a b c e be ba bb bc bf p w1 H1.out.2.2.1 H1.out.2.2.2
  rw [HR.out.1] at h8
  refine h8.mono ?_
  clear h8
  rintro _ w2 ⟨⟨v, rfl, hv⟩, hb⟩
  obtain ⟨V, hV⟩ : ∃ V, w2.alloc (.cells #[.int .i64 v.k, .int .i64 v.n, .string v.t] 23) = V := ⟨_, rfl⟩
  have hbV : Below w2.heap.size w2 V := by rw [← hV]; exact (Below.refl _ _).alloc (Nat.le_refl _) _
  have hkV : Blk w2.heap.size v.cells 23 V := by rw [← hV]; exact Blk.new _ _ _
  have H2 : Hid (Blk (w.heap.size + 1) Vl.none.cells 23 V ∧ Below w.heap.size w V ∧ ∀ x, R = .ok x → v = x) := ⟨(H1.out.1.below hb).below hbV, (H1.out.2.1.trans (hb.mono H1.out.2.1.size)).trans (hbV.mono (Nat.le_trans H1.out.2.1.size hb.size)), hv⟩
  obtain ⟨u0, u1, u2, uf⟩ := hkV.vc
  obtain ⟨r0, r1, r2, rf⟩ := H2.out.1.vc
  clear hb hbV hkV hv
  unfold vv
  cases R with
  | error n =>
    simp only [errOf]
    go_wp2
    refine bodyPost_ret (v := .tuple #[vv .none, .iface 82 (.int .i64 n)]) (results_ct Tryz.results11 _ _ ⟨w.heap.size + 1, 0, none⟩ rfl (load39 (put39_blk .none H2.out.1))) rfl ?_
    exact ⟨rfl, put39_below .none H2.out.2.1 (by omega)⟩
  | ok x =>
    obtain rfl : v = x := H2.out.2.2 x rfl
    simp only [errOf]
    go_wp2_with fail
    refine (own_any v V (HR.out.2 v rfl)).mono ?_
    rintro _ w3 ⟨rfl, hb⟩
    have H3 : Hid (Blk (w.heap.size + 1) Vl.none.cells 23 w3 ∧ Below w.heap.size w w3) := ⟨H2.out.1.below hb, H2.out.2.1.trans (hb.mono H2.out.2.1.size)⟩
    obtain ⟨t0, t1, t2, tf⟩ := H3.out.1.vc
    clear hb
    unfold vv
    go_wp2
    refine bodyPost_ret (v := .tuple #[vv v, .nilIface]) (results_ct Tryz.results11 _ _ ⟨w.heap.size + 1, 0, none⟩ rfl (load39 (put39_blk v H3.out.1))) rfl ?_
    exact ⟨rfl, put39_below v H3.out.2 (by omega)⟩
end Go.Proofs.YtmabfbffpedfnaaGreatDoor
namespace Go.Proofs.YtmabfbffpedfnaaGreatDoor
open Go.RowKit

def TreeSm : Ex → Prop
  | .nil => True
  | .node _ v _ l r => v.t.size ≤ 40 ∧ TreeSm l ∧ TreeSm r
theorem LitV.sm {v : Vl} {t : KT} (h : LitV v t) : v.t.size ≤ 40 := by
  cases h with
  | null => exact Nat.zero_le _
  | num h0 h1 => exact Nat.zero_le _
  | txt h =>
    simp only [rightT, Bool.and_eq_true, decide_eq_true_eq] at h
    exact h.1
theorem none_sm : Vl.none.t.size ≤ 40 := Nat.zero_le _
theorem Ft.sm {d : Nat} {n : Int} {e : Ex} {ts : List KT} (h : Ft d n e ts) : TreeSm e := by
  induction h with
  | par _ _ ih => exact ih
  | lit _ b => exact ⟨b.sm, trivial, trivial⟩
  | col _ _ => exact ⟨none_sm, trivial, trivial⟩
  | neg _ _ ih => exact ⟨none_sm, ih, trivial⟩
  | not _ _ _ ih => exact ⟨none_sm, ih, trivial⟩
  | nnul _ _ ih => exact ⟨none_sm, ⟨none_sm, ih, trivial⟩, trivial⟩
  | nul _ _ ih => exact ⟨none_sm, ih, trivial⟩
  | mat _ _ c => exact ⟨LitV.sm (.txt c), ⟨none_sm, trivial, trivial⟩, trivial⟩
  | ask _ _ _ _ i j => exact ⟨none_sm, i, j⟩
  | sum _ _ _ _ i j => exact ⟨none_sm, i, j⟩
  | mul _ _ _ _ i j => exact ⟨none_sm, i, j⟩
  | and _ _ _ _ i j => exact ⟨none_sm, i, j⟩
  | or _ _ _ _ i j => exact ⟨none_sm, i, j⟩
theorem StT.sm {x : Stm} {ts : List KT} (h : StT x ts) : TreeSm x.wh := by
  have hb : ∀ {w : List KT} {x : Ex} {us : List KT}, BhT w x us → TreeSm x := by
    intro w x us h
    cases h with
    | no => exact trivial
    | yes h => exact h.sm
  cases h with
  | delete _ hx => exact hb hx
  | update _ _ hx => exact hb hx
  | select _ _ _ h3 _ _ _ => exact hb h3
  | begin => exact trivial
  | commit => exact trivial
  | rollback => exact trivial
  | index _ _ => exact trivial
  | create _ _ => exact trivial
  | drop _ => exact trivial
  | insert _ _ => exact trivial
def Sm (v : Vl) : Prop := v.t.size ≤ 40
theorem truthV_sm (b : Bool) : Sm (truthV b) := by cases b <;> exact Nat.zero_le _
theorem numV_sm (n : Int) : Sm (numV n) := Nat.zero_le _
theorem countR_sm {c : Int} {a b x : Vl} (h : countR c a b = .ok x) : Sm x := by
  unfold countR at h
  split at h
  · cases h
  · split at h
    · cases h; exact Nat.zero_le _
    · split at h
      · cases h; exact numV_sm _
      · cases h
theorem bothR_sm {c : Int} {a b x : Vl} (h : bothR c a b = .ok x) : Sm x := by
  unfold bothR at h
  generalize holdsR a = p at h
  generalize holdsR b = q at h
  obtain ⟨p1, p2, p3⟩ := p
  obtain ⟨q1, q2, q3⟩ := q
  cases p3 with
  | some n => cases h
  | none =>
    cases q3 with
    | some n => cases h
    | none =>
      simp only [bothB] at h
      split at h
      · cases h; exact truthV_sm _
      · split at h
        · cases h; exact Nat.zero_le _
        · cases h; exact truthV_sm _
theorem notR_sm {a x : Vl} (h : notR a = .ok x) : Sm x := by
  unfold notR at h
  split at h
  · cases h; exact truthV_sm _
  · split at h
    · cases h
    · cases h; exact Nat.zero_le _
theorem cmpR_sm (c : Int) (a b : Vl) : Sm (cmpR c a b) := by
  unfold cmpR
  split
  · exact Nat.zero_le _
  · unfold askR2
    split
    · exact truthV_sm _
    · exact Nat.zero_le _
theorem oneR_sm {c : Int} {a x : Vl} (h : oneR c a = .ok x) : Sm x := by
  unfold oneR at h
  split at h
  · exact countR_sm h
  · split at h
    · exact notR_sm h
    · cases h; exact truthV_sm _
theorem twoR_sm {c : Int} {a b x : Vl} (h : twoR c a b = .ok x) : Sm x := by
  unfold twoR at h
  split at h
  · exact countR_sm h
  · split at h
    · exact bothR_sm h
    · cases h; exact cmpR_sm _ _ _
theorem colR_sm {a b c x : Vl} {nm : ByteArray} (ha : Sm a) (hb : Sm b) (hc : Sm c) (h : colR a b c nm = .ok x) : Sm x := by
  have e : x = colV a b c nm := by unfold colR at h; injection h with h; exact h.symm
  subst e
  unfold colV pickV
  split
  · exact ha
  split
  · exact hb
  split
  · exact hc
  · exact Nat.zero_le _
theorem evF_sm {a b c : Vl} (ha : Sm a) (hb : Sm b) (hc : Sm c) : ∀ {e : Ex}, TreeSm e → ∀ x, evF a b c e = .ok x → Sm x
  | .nil, _, x, h => by cases h
  | .node cd v nm l r, hT, x, h => by
    unfold evF at h
    split at h
    · cases h
    split at h
    · cases h; exact hT.1
    split at h
    · exact colR_sm ha hb hc h
    split at h
    · unfold matR at h
      split at h
      · cases h; exact truthV_sm _
      · cases h
    unfold bindR at h
    split at h
    · split at h
      · exact oneR_sm h
      · split at h
        · exact twoR_sm h
        · cases h
    · cases h
/-- not, and, or: what the built ones come to -/
def notE (x : Ex) : Ex := .two 4 x .nil
theorem TreeSm.two {c : Int} {x y : Ex} (hx : TreeSm x) (hy : TreeSm y) : TreeSm (.two c x y) := ⟨none_sm, hx, hy⟩
theorem TreeSm.not {x : Ex} (hx : TreeSm x) : TreeSm (notE x) := ⟨none_sm, hx, trivial⟩
end Go.Proofs.YtmabfbffpedfnaaGreatDoor
namespace Go.Proofs.YtmabfbffpedfnaaGreatDoor
open Go.RowKit

def condP : ByteArray := ⟨#[100, 101, 108, 101, 116, 101, 32, 102, 114, 111, 109, 32, 116, 32, 119, 104, 101, 114, 101, 32]⟩
/-- what a text asks behind where -/
def condF (s : ByteArray) : Ex := if 200 < s.size then .nil else match parseS (condP ++ s) with
  | some st => st.wh
  | none => .nil
theorem cond_size {s : ByteArray} (h : ¬ 200 < s.size) : (condP ++ s).size ≤ 1000 := by
  rw [ByteArray.size_append]
  have : condP.size = 20 := rfl
  omega
set_option maxRecDepth 100000 in
set_option maxHeartbeats 4000000 in
theorem cond_any (s : ByteArray) (w : World) (h : BAt w) (hs : s.size ≤ maxLen) : Calls Tryz.prog 6 #[.string s] w fun e w' => ∃ p, e = .returned (.pointer p) ∧ ExAt w' p (condF s) ∧ Below w.heap.size w w' := by
  unfold maxLen at hs
  by_cases hl : 200 < s.size
  · have d1 : decide ((200 : Int) < (s.size : Int)) = true := decide_eq_true (by omega)
    have HC : Hid (condF s = .nil) := by show _ = _; unfold condF; rw [if_pos hl]
    clear hl
    go_enter Tryz.func6, Tryz.ntmps6
    go_wp2
    go_ret
    exact ⟨none, rfl, by rw [HC.out]; rfl, Below.refl _ _⟩
  have d1 : decide ((200 : Int) < (s.size : Int)) = false := decide_eq_false (by omega)
  obtain ⟨t, ht⟩ : ∃ t, condP ++ s = t := ⟨_, rfl⟩
  have HC : Hid (t.size ≤ 1000 ∧ condF s = match parseS t with | some st => st.wh | none => .nil) := by
    refine ⟨by rw [← ht]; exact cond_size hl, ?_⟩
    unfold condF; rw [if_neg hl, ht]
  have e2 := str_add (⟨#[100, 101, 108, 101, 116, 101, 32, 102, 114, 111, 109, 32, 116, 32, 119, 104, 101, 114, 101, 32]⟩) s (by have : (⟨#[100, 101, 108, 101, 116, 101, 32, 102, 114, 111, 109, 32, 116, 32, 119, 104, 101, 114, 101, 32]⟩ : ByteArray).size = 20 := rfl; omega)
  rw [show ⟨#[100, 101, 108, 101, 116, 101, 32, 102, 114, 111, 109, 32, 116, 32, 119, 104, 101, 114, 101, 32]⟩ ++ s = t from ht] at e2
  have H : Hid (BAt w) := h
  clear hl hs h ht
  go_enter Tryz.func6, Tryz.ntmps6
  go_wp2_with fail
  refine (parse_any t w (by have := HC.out.1; omega) H.out.pa).mono ?_
  rintro _ w2 ⟨hb, sv, E, rfl, ⟨st, hp, rfl, hv⟩ | ⟨hn, rfl, t9, v9, rfl⟩⟩
  rotate_left
  · have HN : Hid (condF s = .nil) := by show _ = _; rw [HC.out.2, hn]
    obtain ⟨V, hV⟩ : ∃ V, (w2.alloc (.cells #[.int .i64 0, .string ⟨#[]⟩, .string ⟨#[]⟩, .slice none 0 0, .string ⟨#[]⟩, .slice none 0 0, .slice none 0 0, .pointer none, .pointer none, .slice none 0 0, .pointer none, .slice none 0 0, .int .i64 0] 62)).setCells w2.heap.size 0 svZ.cells.toList = V := ⟨_, rfl⟩
    have HKA : Hid (Blk w2.heap.size svZ.cells 62 (w2.alloc (.cells #[.int .i64 0, .string ⟨#[]⟩, .string ⟨#[]⟩, .slice none 0 0, .string ⟨#[]⟩, .slice none 0 0, .slice none 0 0, .pointer none, .pointer none, .slice none 0 0, .pointer none, .slice none 0 0, .int .i64 0] 62))) := Blk.new _ _ _
    have HVb : Hid (Below w.heap.size w V) := hb.trans (by rw [← hV]; exact (stored_below w2 svZ).mono hb.size)
    clear hb hn HC
    go_wp2_with (refine wpList_store_mid rfl 62 _ _ rfl _ 0 svZ.cells rfl rfl (HKA.out.there rfl) (s30 _) svZ_rows.one ?_; rw [hV])
    go_ret
    exact ⟨none, rfl, by rw [HN.out]; rfl, HVb.out⟩
  · have HN : Hid (condF s = st.wh) := by show _ = _; rw [HC.out.2, hp]
    obtain ⟨V, hV⟩ : ∃ V, (w2.alloc (.cells #[.int .i64 0, .string ⟨#[]⟩, .string ⟨#[]⟩, .slice none 0 0, .string ⟨#[]⟩, .slice none 0 0, .slice none 0 0, .pointer none, .pointer none, .slice none 0 0, .pointer none, .slice none 0 0, .int .i64 0] 62)).setCells w2.heap.size 0 sv.cells.toList = V := ⟨_, rfl⟩
    have hkA : Blk w2.heap.size svZ.cells 62 (w2.alloc (.cells #[.int .i64 0, .string ⟨#[]⟩, .string ⟨#[]⟩, .slice none 0 0, .string ⟨#[]⟩, .slice none 0 0, .slice none 0 0, .pointer none, .pointer none, .slice none 0 0, .pointer none, .slice none 0 0, .int .i64 0] 62)) := Blk.new _ _ _
    have hbV : Below w2.heap.size w2 V := by rw [← hV]; exact stored_below w2 sv
    have HKA : Hid (Blk w2.heap.size svZ.cells 62 (w2.alloc (.cells #[.int .i64 0, .string ⟨#[]⟩, .string ⟨#[]⟩, .slice none 0 0, .string ⟨#[]⟩, .slice none 0 0, .slice none 0 0, .pointer none, .pointer none, .slice none 0 0, .pointer none, .slice none 0 0, .int .i64 0] 62)) ∧ sv.Rows) := ⟨hkA, hv.rowsOk⟩
    have hk : Blk w2.heap.size sv.cells 62 V := by rw [← hV]; exact hkA.stored
    have HV : Hid (ExAt V sv.wh (condF s) ∧ Below w.heap.size w V) := ⟨by rw [HN.out]; exact ((PS.of hv).below hbV).wh, hb.trans (hbV.mono hb.size)⟩
    have z8 : V.cell? ⟨w2.heap.size, 8, none⟩ = some (.pointer sv.wh) := by rw [hk.cell 8]; rfl
    clear hb hp hv hkA hbV hk HC HN
    go_wp2_with (refine wpList_store_mid rfl 62 _ _ rfl _ 0 sv.cells rfl rfl (HKA.out.1.there rfl) (s30 _) HKA.out.2.one ?_; rw [hV])
    go_ret
    exact ⟨_, rfl, HV.out.1, HV.out.2⟩
end Go.Proofs.YtmabfbffpedfnaaGreatDoor
namespace Go.Proofs.YtmabfbffpedfnaaGreatDoor
open Go.RowKit

def plainC : Ex → Bool
  | .nil => false
  | .node c _ _ _ _ => c == 1 || c == 2
/-- can it not be an error, whatever columns have -/
def safeB : Ex → Bool
  | .nil => true
  | .node c v _ l r => if c = 1 then v.k != 2 else if c = 17 then true else if c = 5 then safeB l || plainC l else if c = 4 then safeB l else if c = 15 ∨ c = 16 then safeB l && safeB r else if c = 9 ∨ c = 10 ∨ c = 11 ∨ c = 12 ∨ c = 13 ∨ c = 14 then (safeB l || plainC l) && (safeB r || plainC r) else false
def SafeSp (e : Ex) : Prop := ∀ (p : Option Addr) (w : World), ExAt w p e → Calls Tryz.prog 13 #[.pointer p] w fun x w' => x = .returned (.bool (safeB e)) ∧ w' = w
set_option maxHeartbeats 2000000 in
theorem plain_any (e : Ex) (hI : SafeSp e) (p : Option Addr) (w : World) (h : ExAt w p e) : Calls Tryz.prog 31 #[.pointer p] w fun x w' => x = .returned (.bool (safeB e || plainC e)) ∧ w' = w := by
  have H : Hid (SafeSp e ∧ ExAt w p e) := ⟨hI, h⟩
  obtain ⟨s, hs⟩ : ∃ s, safeB e = s := ⟨_, rfl⟩
  have HS : Hid (safeB e = s) := hs
  rw [hs]
  clear hI
  cases s
  · cases e with
    | nil => cases hs
    | node c v nm l r =>
      obtain ⟨B, pl, pr, rfl, _, ⟨c0, _, _, _, _, _, _⟩, _, _⟩ := h
      obtain ⟨q1, h1⟩ : ∃ q, (c == 1) = q := ⟨_, rfl⟩
      obtain ⟨q2, h2⟩ : ∃ q, (c == 2) = q := ⟨_, rfl⟩
      have HQ : Hid (plainC (.node c v nm l r) = (q1 || q2)) := by show (c == 1 || c == 2) = _; rw [h1, h2]
      rw [HQ.out]
      clear hs
      cases q1 <;> cases q2
      all_goals
        go_enter Tryz.func31, Tryz.ntmps31
        go_wp2_with fail
        have h8 := H.out.1 _ w H.out.2
        rw [HS.out] at h8
        refine h8.mono ?_
        clear h8
        rintro _ _ ⟨rfl, rfl⟩
        go_wp2
        go_ret
        exact ⟨rfl, rfl⟩
  · clear hs h
    go_enter Tryz.func31, Tryz.ntmps31
    go_wp2_with fail
    have h8 := H.out.1 _ w H.out.2
    rw [HS.out] at h8
    refine h8.mono ?_
    clear h8
    rintro _ _ ⟨rfl, rfl⟩
    go_wp2
    go_ret
    exact ⟨rfl, rfl⟩
theorem safe_nil : SafeSp .nil := by
  intro p w h
  obtain rfl : p = none := h
  go_enter Tryz.func13, Tryz.ntmps13
  go_wp2
  go_ret
  exact ⟨rfl, rfl⟩
set_option maxHeartbeats 2000000 in
theorem safe_1 (v : Vl) (nm : ByteArray) (l r : Ex) (hI : SafeSp l) (hJ : SafeSp r) : SafeSp (.node 1 v nm l r) := by
  intro p w h
  obtain ⟨B, pl, pr, rfl, _, ⟨c0, c1, _, _, _, c5, c6⟩, hl, hr⟩ := h
  have HE : Hid (safeB (.node 1 v nm l r) = (v.k != 2)) := rfl
  rw [HE.out]
  have H : Hid (SafeSp l ∧ SafeSp r ∧ ExAt w pl l ∧ ExAt w pr r) := ⟨hI, hJ, hl, hr⟩
  clear hI hJ hl hr
  obtain ⟨q, hq⟩ : ∃ q, (v.k != 2) = q := ⟨_, rfl⟩
  rw [hq]
  go_enter Tryz.func13, Tryz.ntmps13
  go_wp2
  go_ret
  exact ⟨rfl, rfl⟩
set_option maxHeartbeats 2000000 in
theorem safe_17 (v : Vl) (nm : ByteArray) (l r : Ex) (hI : SafeSp l) (hJ : SafeSp r) : SafeSp (.node 17 v nm l r) := by
  intro p w h
  obtain ⟨B, pl, pr, rfl, _, ⟨c0, c1, _, _, _, c5, c6⟩, hl, hr⟩ := h
  have HE : Hid (safeB (.node 17 v nm l r) = (true)) := rfl
  rw [HE.out]
  have H : Hid (SafeSp l ∧ SafeSp r ∧ ExAt w pl l ∧ ExAt w pr r) := ⟨hI, hJ, hl, hr⟩
  clear hI hJ hl hr
  go_enter Tryz.func13, Tryz.ntmps13
  go_wp2
  go_ret
  exact ⟨rfl, rfl⟩
set_option maxHeartbeats 2000000 in
theorem safe_5 (v : Vl) (nm : ByteArray) (l r : Ex) (hI : SafeSp l) (hJ : SafeSp r) : SafeSp (.node 5 v nm l r) := by
  intro p w h
  obtain ⟨B, pl, pr, rfl, _, ⟨c0, c1, _, _, _, c5, c6⟩, hl, hr⟩ := h
  have HE : Hid (safeB (.node 5 v nm l r) = (safeB l || plainC l)) := rfl
  rw [HE.out]
  have H : Hid (SafeSp l ∧ SafeSp r ∧ ExAt w pl l ∧ ExAt w pr r) := ⟨hI, hJ, hl, hr⟩
  clear hI hJ hl hr
  obtain ⟨q, hq⟩ : ∃ q, (safeB l || plainC l) = q := ⟨_, rfl⟩
  have HQ : Hid ((safeB l || plainC l) = q) := hq
  rw [hq]
  clear hq
  go_enter Tryz.func13, Tryz.ntmps13
  go_wp2_with fail
  have h8 := plain_any l H.out.1 pl w H.out.2.2.1
  rw [HQ.out] at h8
  refine h8.mono ?_
  clear h8
  rintro _ _ ⟨rfl, rfl⟩
  go_wp2
  go_ret
  exact ⟨rfl, rfl⟩
set_option maxHeartbeats 2000000 in
theorem safe_4 (v : Vl) (nm : ByteArray) (l r : Ex) (hI : SafeSp l) (hJ : SafeSp r) : SafeSp (.node 4 v nm l r) := by
  intro p w h
  obtain ⟨B, pl, pr, rfl, _, ⟨c0, c1, _, _, _, c5, c6⟩, hl, hr⟩ := h
  have HE : Hid (safeB (.node 4 v nm l r) = (safeB l)) := rfl
  rw [HE.out]
  have H : Hid (SafeSp l ∧ SafeSp r ∧ ExAt w pl l ∧ ExAt w pr r) := ⟨hI, hJ, hl, hr⟩
  clear hI hJ hl hr
  obtain ⟨q, hq⟩ : ∃ q, (safeB l) = q := ⟨_, rfl⟩
  have HQ : Hid ((safeB l) = q) := hq
  rw [hq]
  clear hq
  go_enter Tryz.func13, Tryz.ntmps13
  go_wp2_with fail
  have h8 := H.out.1 pl w H.out.2.2.1
  rw [HQ.out] at h8
  refine h8.mono ?_
  clear h8
  rintro _ _ ⟨rfl, rfl⟩
  go_wp2
  go_ret
  exact ⟨rfl, rfl⟩
set_option maxHeartbeats 2000000 in
theorem safe_15 (v : Vl) (nm : ByteArray) (l r : Ex) (hI : SafeSp l) (hJ : SafeSp r) : SafeSp (.node 15 v nm l r) := by
  intro p w h
  obtain ⟨B, pl, pr, rfl, _, ⟨c0, c1, _, _, _, c5, c6⟩, hl, hr⟩ := h
  have HE : Hid (safeB (.node 15 v nm l r) = (safeB l && safeB r)) := rfl
  rw [HE.out]
  have H : Hid (SafeSp l ∧ SafeSp r ∧ ExAt w pl l ∧ ExAt w pr r) := ⟨hI, hJ, hl, hr⟩
  clear hI hJ hl hr
  obtain ⟨q, hq⟩ : ∃ q, safeB l = q := ⟨_, rfl⟩
  obtain ⟨q2, hq2⟩ : ∃ q, safeB r = q := ⟨_, rfl⟩
  have HQ : Hid (safeB l = q ∧ safeB r = q2) := ⟨hq, hq2⟩
  rw [hq, hq2]
  clear hq hq2
  cases q
  · go_enter Tryz.func13, Tryz.ntmps13
    go_wp2_with fail
    have h8 := H.out.1 pl w H.out.2.2.1
    rw [HQ.out.1] at h8
    refine h8.mono ?_
    clear h8
    rintro _ _ ⟨rfl, rfl⟩
    go_wp2
    go_ret
    exact ⟨rfl, rfl⟩
  · go_enter Tryz.func13, Tryz.ntmps13
    go_wp2_with fail
    have h8 := H.out.1 pl w H.out.2.2.1
    rw [HQ.out.1] at h8
    refine h8.mono ?_
    clear h8
    rintro _ w1 ⟨rfl, rfl⟩
    go_wp2_with fail
    have h8 := H.out.2.1 pr w1 H.out.2.2.2
    rw [HQ.out.2] at h8
    refine h8.mono ?_
    clear h8
    rintro _ _ ⟨rfl, rfl⟩
    go_wp2
    go_ret
    exact ⟨rfl, rfl⟩
set_option maxHeartbeats 2000000 in
theorem safe_16 (v : Vl) (nm : ByteArray) (l r : Ex) (hI : SafeSp l) (hJ : SafeSp r) : SafeSp (.node 16 v nm l r) := by
  intro p w h
  obtain ⟨B, pl, pr, rfl, _, ⟨c0, c1, _, _, _, c5, c6⟩, hl, hr⟩ := h
  have HE : Hid (safeB (.node 16 v nm l r) = (safeB l && safeB r)) := rfl
  rw [HE.out]
  have H : Hid (SafeSp l ∧ SafeSp r ∧ ExAt w pl l ∧ ExAt w pr r) := ⟨hI, hJ, hl, hr⟩
  clear hI hJ hl hr
  obtain ⟨q, hq⟩ : ∃ q, safeB l = q := ⟨_, rfl⟩
  obtain ⟨q2, hq2⟩ : ∃ q, safeB r = q := ⟨_, rfl⟩
  have HQ : Hid (safeB l = q ∧ safeB r = q2) := ⟨hq, hq2⟩
  rw [hq, hq2]
  clear hq hq2
  cases q
  · go_enter Tryz.func13, Tryz.ntmps13
    go_wp2_with fail
    have h8 := H.out.1 pl w H.out.2.2.1
    rw [HQ.out.1] at h8
    refine h8.mono ?_
    clear h8
    rintro _ _ ⟨rfl, rfl⟩
    go_wp2
    go_ret
    exact ⟨rfl, rfl⟩
  · go_enter Tryz.func13, Tryz.ntmps13
    go_wp2_with fail
    have h8 := H.out.1 pl w H.out.2.2.1
    rw [HQ.out.1] at h8
    refine h8.mono ?_
    clear h8
    rintro _ w1 ⟨rfl, rfl⟩
    go_wp2_with fail
    have h8 := H.out.2.1 pr w1 H.out.2.2.2
    rw [HQ.out.2] at h8
    refine h8.mono ?_
    clear h8
    rintro _ _ ⟨rfl, rfl⟩
    go_wp2
    go_ret
    exact ⟨rfl, rfl⟩
set_option maxHeartbeats 2000000 in
theorem safe_9 (v : Vl) (nm : ByteArray) (l r : Ex) (hI : SafeSp l) (hJ : SafeSp r) : SafeSp (.node 9 v nm l r) := by
  intro p w h
  obtain ⟨B, pl, pr, rfl, _, ⟨c0, c1, _, _, _, c5, c6⟩, hl, hr⟩ := h
  have HE : Hid (safeB (.node 9 v nm l r) = ((safeB l || plainC l) && (safeB r || plainC r))) := rfl
  rw [HE.out]
  have H : Hid (SafeSp l ∧ SafeSp r ∧ ExAt w pl l ∧ ExAt w pr r) := ⟨hI, hJ, hl, hr⟩
  clear hI hJ hl hr
  obtain ⟨q, hq⟩ : ∃ q, (safeB l || plainC l) = q := ⟨_, rfl⟩
  obtain ⟨q2, hq2⟩ : ∃ q, (safeB r || plainC r) = q := ⟨_, rfl⟩
  have HQ : Hid ((safeB l || plainC l) = q ∧ (safeB r || plainC r) = q2) := ⟨hq, hq2⟩
  rw [hq, hq2]
  clear hq hq2
  cases q
  · go_enter Tryz.func13, Tryz.ntmps13
    go_wp2_with fail
    have h8 := plain_any l H.out.1 pl w H.out.2.2.1
    rw [HQ.out.1] at h8
    refine h8.mono ?_
    clear h8
    rintro _ _ ⟨rfl, rfl⟩
    go_wp2
    go_ret
    exact ⟨rfl, rfl⟩
  · go_enter Tryz.func13, Tryz.ntmps13
    go_wp2_with fail
    have h8 := plain_any l H.out.1 pl w H.out.2.2.1
    rw [HQ.out.1] at h8
    refine h8.mono ?_
    clear h8
    rintro _ w1 ⟨rfl, rfl⟩
    go_wp2_with fail
    have h8 := plain_any r H.out.2.1 pr w1 H.out.2.2.2
    rw [HQ.out.2] at h8
    refine h8.mono ?_
    clear h8
    rintro _ _ ⟨rfl, rfl⟩
    go_wp2
    go_ret
    exact ⟨rfl, rfl⟩
set_option maxHeartbeats 2000000 in
theorem safe_10 (v : Vl) (nm : ByteArray) (l r : Ex) (hI : SafeSp l) (hJ : SafeSp r) : SafeSp (.node 10 v nm l r) := by
  intro p w h
  obtain ⟨B, pl, pr, rfl, _, ⟨c0, c1, _, _, _, c5, c6⟩, hl, hr⟩ := h
  have HE : Hid (safeB (.node 10 v nm l r) = ((safeB l || plainC l) && (safeB r || plainC r))) := rfl
  rw [HE.out]
  have H : Hid (SafeSp l ∧ SafeSp r ∧ ExAt w pl l ∧ ExAt w pr r) := ⟨hI, hJ, hl, hr⟩
  clear hI hJ hl hr
  obtain ⟨q, hq⟩ : ∃ q, (safeB l || plainC l) = q := ⟨_, rfl⟩
  obtain ⟨q2, hq2⟩ : ∃ q, (safeB r || plainC r) = q := ⟨_, rfl⟩
  have HQ : Hid ((safeB l || plainC l) = q ∧ (safeB r || plainC r) = q2) := ⟨hq, hq2⟩
  rw [hq, hq2]
  clear hq hq2
  cases q
  · go_enter Tryz.func13, Tryz.ntmps13
    go_wp2_with fail
    have h8 := plain_any l H.out.1 pl w H.out.2.2.1
    rw [HQ.out.1] at h8
    refine h8.mono ?_
    clear h8
    rintro _ _ ⟨rfl, rfl⟩
    go_wp2
    go_ret
    exact ⟨rfl, rfl⟩
  · go_enter Tryz.func13, Tryz.ntmps13
    go_wp2_with fail
    have h8 := plain_any l H.out.1 pl w H.out.2.2.1
    rw [HQ.out.1] at h8
    refine h8.mono ?_
    clear h8
    rintro _ w1 ⟨rfl, rfl⟩
    go_wp2_with fail
    have h8 := plain_any r H.out.2.1 pr w1 H.out.2.2.2
    rw [HQ.out.2] at h8
    refine h8.mono ?_
    clear h8
    rintro _ _ ⟨rfl, rfl⟩
    go_wp2
    go_ret
    exact ⟨rfl, rfl⟩
set_option maxHeartbeats 2000000 in
theorem safe_11 (v : Vl) (nm : ByteArray) (l r : Ex) (hI : SafeSp l) (hJ : SafeSp r) : SafeSp (.node 11 v nm l r) := by
  intro p w h
  obtain ⟨B, pl, pr, rfl, _, ⟨c0, c1, _, _, _, c5, c6⟩, hl, hr⟩ := h
  have HE : Hid (safeB (.node 11 v nm l r) = ((safeB l || plainC l) && (safeB r || plainC r))) := rfl
  rw [HE.out]
  have H : Hid (SafeSp l ∧ SafeSp r ∧ ExAt w pl l ∧ ExAt w pr r) := ⟨hI, hJ, hl, hr⟩
  clear hI hJ hl hr
  obtain ⟨q, hq⟩ : ∃ q, (safeB l || plainC l) = q := ⟨_, rfl⟩
  obtain ⟨q2, hq2⟩ : ∃ q, (safeB r || plainC r) = q := ⟨_, rfl⟩
  have HQ : Hid ((safeB l || plainC l) = q ∧ (safeB r || plainC r) = q2) := ⟨hq, hq2⟩
  rw [hq, hq2]
  clear hq hq2
  cases q
  · go_enter Tryz.func13, Tryz.ntmps13
    go_wp2_with fail
    have h8 := plain_any l H.out.1 pl w H.out.2.2.1
    rw [HQ.out.1] at h8
    refine h8.mono ?_
    clear h8
    rintro _ _ ⟨rfl, rfl⟩
    go_wp2
    go_ret
    exact ⟨rfl, rfl⟩
  · go_enter Tryz.func13, Tryz.ntmps13
    go_wp2_with fail
    have h8 := plain_any l H.out.1 pl w H.out.2.2.1
    rw [HQ.out.1] at h8
    refine h8.mono ?_
    clear h8
    rintro _ w1 ⟨rfl, rfl⟩
    go_wp2_with fail
    have h8 := plain_any r H.out.2.1 pr w1 H.out.2.2.2
    rw [HQ.out.2] at h8
    refine h8.mono ?_
    clear h8
    rintro _ _ ⟨rfl, rfl⟩
    go_wp2
    go_ret
    exact ⟨rfl, rfl⟩
set_option maxHeartbeats 2000000 in
theorem safe_12 (v : Vl) (nm : ByteArray) (l r : Ex) (hI : SafeSp l) (hJ : SafeSp r) : SafeSp (.node 12 v nm l r) := by
  intro p w h
  obtain ⟨B, pl, pr, rfl, _, ⟨c0, c1, _, _, _, c5, c6⟩, hl, hr⟩ := h
  have HE : Hid (safeB (.node 12 v nm l r) = ((safeB l || plainC l) && (safeB r || plainC r))) := rfl
  rw [HE.out]
  have H : Hid (SafeSp l ∧ SafeSp r ∧ ExAt w pl l ∧ ExAt w pr r) := ⟨hI, hJ, hl, hr⟩
  clear hI hJ hl hr
  obtain ⟨q, hq⟩ : ∃ q, (safeB l || plainC l) = q := ⟨_, rfl⟩
  obtain ⟨q2, hq2⟩ : ∃ q, (safeB r || plainC r) = q := ⟨_, rfl⟩
  have HQ : Hid ((safeB l || plainC l) = q ∧ (safeB r || plainC r) = q2) := ⟨hq, hq2⟩
  rw [hq, hq2]
  clear hq hq2
  cases q
  · go_enter Tryz.func13, Tryz.ntmps13
    go_wp2_with fail
    have h8 := plain_any l H.out.1 pl w H.out.2.2.1
    rw [HQ.out.1] at h8
    refine h8.mono ?_
    clear h8
    rintro _ _ ⟨rfl, rfl⟩
    go_wp2
    go_ret
    exact ⟨rfl, rfl⟩
  · go_enter Tryz.func13, Tryz.ntmps13
    go_wp2_with fail
    have h8 := plain_any l H.out.1 pl w H.out.2.2.1
    rw [HQ.out.1] at h8
    refine h8.mono ?_
    clear h8
    rintro _ w1 ⟨rfl, rfl⟩
    go_wp2_with fail
    have h8 := plain_any r H.out.2.1 pr w1 H.out.2.2.2
    rw [HQ.out.2] at h8
    refine h8.mono ?_
    clear h8
    rintro _ _ ⟨rfl, rfl⟩
    go_wp2
    go_ret
    exact ⟨rfl, rfl⟩
set_option maxHeartbeats 2000000 in
theorem safe_13 (v : Vl) (nm : ByteArray) (l r : Ex) (hI : SafeSp l) (hJ : SafeSp r) : SafeSp (.node 13 v nm l r) := by
  intro p w h
  obtain ⟨B, pl, pr, rfl, _, ⟨c0, c1, _, _, _, c5, c6⟩, hl, hr⟩ := h
  have HE : Hid (safeB (.node 13 v nm l r) = ((safeB l || plainC l) && (safeB r || plainC r))) := rfl
  rw [HE.out]
  have H : Hid (SafeSp l ∧ SafeSp r ∧ ExAt w pl l ∧ ExAt w pr r) := ⟨hI, hJ, hl, hr⟩
  clear hI hJ hl hr
  obtain ⟨q, hq⟩ : ∃ q, (safeB l || plainC l) = q := ⟨_, rfl⟩
  obtain ⟨q2, hq2⟩ : ∃ q, (safeB r || plainC r) = q := ⟨_, rfl⟩
  have HQ : Hid ((safeB l || plainC l) = q ∧ (safeB r || plainC r) = q2) := ⟨hq, hq2⟩
  rw [hq, hq2]
  clear hq hq2
  cases q
  · go_enter Tryz.func13, Tryz.ntmps13
    go_wp2_with fail
    have h8 := plain_any l H.out.1 pl w H.out.2.2.1
    rw [HQ.out.1] at h8
    refine h8.mono ?_
    clear h8
    rintro _ _ ⟨rfl, rfl⟩
    go_wp2
    go_ret
    exact ⟨rfl, rfl⟩
  · go_enter Tryz.func13, Tryz.ntmps13
    go_wp2_with fail
    have h8 := plain_any l H.out.1 pl w H.out.2.2.1
    rw [HQ.out.1] at h8
    refine h8.mono ?_
    clear h8
    rintro _ w1 ⟨rfl, rfl⟩
    go_wp2_with fail
    have h8 := plain_any r H.out.2.1 pr w1 H.out.2.2.2
    rw [HQ.out.2] at h8
    refine h8.mono ?_
    clear h8
    rintro _ _ ⟨rfl, rfl⟩
    go_wp2
    go_ret
    exact ⟨rfl, rfl⟩
set_option maxHeartbeats 2000000 in
theorem safe_14 (v : Vl) (nm : ByteArray) (l r : Ex) (hI : SafeSp l) (hJ : SafeSp r) : SafeSp (.node 14 v nm l r) := by
  intro p w h
  obtain ⟨B, pl, pr, rfl, _, ⟨c0, c1, _, _, _, c5, c6⟩, hl, hr⟩ := h
  have HE : Hid (safeB (.node 14 v nm l r) = ((safeB l || plainC l) && (safeB r || plainC r))) := rfl
  rw [HE.out]
  have H : Hid (SafeSp l ∧ SafeSp r ∧ ExAt w pl l ∧ ExAt w pr r) := ⟨hI, hJ, hl, hr⟩
  clear hI hJ hl hr
  obtain ⟨q, hq⟩ : ∃ q, (safeB l || plainC l) = q := ⟨_, rfl⟩
  obtain ⟨q2, hq2⟩ : ∃ q, (safeB r || plainC r) = q := ⟨_, rfl⟩
  have HQ : Hid ((safeB l || plainC l) = q ∧ (safeB r || plainC r) = q2) := ⟨hq, hq2⟩
  rw [hq, hq2]
  clear hq hq2
  cases q
  · go_enter Tryz.func13, Tryz.ntmps13
    go_wp2_with fail
    have h8 := plain_any l H.out.1 pl w H.out.2.2.1
    rw [HQ.out.1] at h8
    refine h8.mono ?_
    clear h8
    rintro _ _ ⟨rfl, rfl⟩
    go_wp2
    go_ret
    exact ⟨rfl, rfl⟩
  · go_enter Tryz.func13, Tryz.ntmps13
    go_wp2_with fail
    have h8 := plain_any l H.out.1 pl w H.out.2.2.1
    rw [HQ.out.1] at h8
    refine h8.mono ?_
    clear h8
    rintro _ w1 ⟨rfl, rfl⟩
    go_wp2_with fail
    have h8 := plain_any r H.out.2.1 pr w1 H.out.2.2.2
    rw [HQ.out.2] at h8
    refine h8.mono ?_
    clear h8
    rintro _ _ ⟨rfl, rfl⟩
    go_wp2
    go_ret
    exact ⟨rfl, rfl⟩
set_option maxHeartbeats 2000000 in
theorem safe_no (c : Int) (v : Vl) (nm : ByteArray) (l r : Ex) (h1 : c ≠ 1) (h17 : c ≠ 17) (h5 : c ≠ 5) (h4 : c ≠ 4) (h15 : c ≠ 15) (h16 : c ≠ 16) (h9 : c ≠ 9) (h10 : c ≠ 10) (h11 : c ≠ 11) (h12 : c ≠ 12) (h13 : c ≠ 13) (h14 : c ≠ 14) : SafeSp (.node c v nm l r) := by
  intro p w h
  obtain ⟨B, pl, pr, rfl, _, ⟨c0, _, _, _, _, _, _⟩, _, _⟩ := h
  have HE : Hid (safeB (.node c v nm l r) = false) := by
    show _ = _
    rw [safeB, if_neg h1, if_neg h17, if_neg h5, if_neg h4, if_neg (by omega), if_neg (by omega)]
  rw [HE.out]
  have e1 : (c == 1) = false := by simp [h1]
  have e17 : (c == 17) = false := by simp [h17]
  have e5 : (c == 5) = false := by simp [h5]
  have e4 : (c == 4) = false := by simp [h4]
  have e15 : (c == 15) = false := by simp [h15]
  have e16 : (c == 16) = false := by simp [h16]
  have e9 : (c == 9) = false := by simp [h9]
  have e10 : (c == 10) = false := by simp [h10]
  have e11 : (c == 11) = false := by simp [h11]
  have e12 : (c == 12) = false := by simp [h12]
  have e13 : (c == 13) = false := by simp [h13]
  have e14 : (c == 14) = false := by simp [h14]
  clear h1 h17 h5 h4 h15 h16 h9 h10 h11 h12 h13 h14
  go_enter Tryz.func13, Tryz.ntmps13
  go_wp2
  go_ret
  exact ⟨rfl, rfl⟩
theorem safe_all : ∀ e : Ex, SafeSp e
  | .nil => safe_nil
  | .node c v nm l r => by
    have hl := safe_all l
    have hr := safe_all r
    by_cases h1 : c = 1
    · subst h1; exact safe_1 v nm l r hl hr
    by_cases h17 : c = 17
    · subst h17; exact safe_17 v nm l r hl hr
    by_cases h5 : c = 5
    · subst h5; exact safe_5 v nm l r hl hr
    by_cases h4 : c = 4
    · subst h4; exact safe_4 v nm l r hl hr
    by_cases h15 : c = 15
    · subst h15; exact safe_15 v nm l r hl hr
    by_cases h16 : c = 16
    · subst h16; exact safe_16 v nm l r hl hr
    by_cases h9 : c = 9
    · subst h9; exact safe_9 v nm l r hl hr
    by_cases h10 : c = 10
    · subst h10; exact safe_10 v nm l r hl hr
    by_cases h11 : c = 11
    · subst h11; exact safe_11 v nm l r hl hr
    by_cases h12 : c = 12
    · subst h12; exact safe_12 v nm l r hl hr
    by_cases h13 : c = 13
    · subst h13; exact safe_13 v nm l r hl hr
    by_cases h14 : c = 14
    · subst h14; exact safe_14 v nm l r hl hr
    exact safe_no c v nm l r h1 h17 h5 h4 h15 h16 h9 h10 h11 h12 h13 h14
theorem safe_any (e : Ex) (p : Option Addr) (w : World) (h : ExAt w p e) : Calls Tryz.prog 13 #[.pointer p] w fun x w' => x = .returned (.bool (safeB e)) ∧ w' = w := safe_all e p w h
end Go.Proofs.YtmabfbffpedfnaaGreatDoor
