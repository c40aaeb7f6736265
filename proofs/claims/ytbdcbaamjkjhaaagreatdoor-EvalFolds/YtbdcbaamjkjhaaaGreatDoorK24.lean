/- Part 24 of 29. -/
import Derived.Test.YtbdcbaamjkjhaaaGreatDoorK23
import Derived.Deep.RegionHeld3
import Derived.LaidEql
import Derived.Stop.Asserts
import Derived.RowKitTokens
namespace Go.Proofs.YtbdcbaamjkjhaaaGreatDoor
open Go.RowKit

set_option maxRecDepth 100000 in
set_option maxHeartbeats 16000000 in
theorem nome_two (a b c : Vl) (cd : Int) (v : Vl) (nm : ByteArray) (l r : Ex) (hI : ComeN a b c l) (hJ : ComeN a b c r) (hF : formB (.node cd v nm l r) = true) (hc : cd ≠ 1 ∧ cd ≠ 2 ∧ cd ≠ 17 ∧ cd ≠ 3 ∧ cd ≠ 4 ∧ cd ≠ 5) : ComeN a b c (.node cd v nm l r) := by
  have HI : Hid (ComeN a b c l) := hI
  have HJ : Hid (ComeN a b c r) := hJ
  obtain ⟨h1, h2, h17, h3, h4, h5⟩ := hc
  clear hI hJ
  intro p w hE hX
  obtain ⟨W, hW⟩ : ∃ W, (w.alloc (.cells #[.func (.func 64) #[] #[], .func (.func 65) #[] #[]] 45)).alloc (.cells #[.int .i64 0, .int .i64 0, .string ⟨#[]⟩] 39) = W := ⟨_, rfl⟩
  have hbW : Below w.heap.size w W := by rw [← hW]; exact ((Below.refl _ _).alloc (Nat.le_refl _) _).alloc (by simp only [World.size_alloc]; omega) _
  have hkE : Blk w.heap.size #[.func (.func 64) #[] #[], .func (.func 65) #[] #[]] 45 W := by rw [← hW]; exact (Blk.new _ _ _).below ((Below.refl _ _).alloc (Nat.le_refl _) _)
  have hkR : Blk (w.heap.size + 1) Vl.none.cells 39 W := by
    have hq := Blk.new (w.alloc (.cells #[.func (.func 64) #[] #[], .func (.func 65) #[] #[]] 45)) Vl.none.cells 39
    simp only [World.size_alloc] at hq
    rw [← hW]
    exact hq
  have HXB : Hid (∀ B, p = some ⟨B, 0, none⟩ → B < w.heap.size) := by
    obtain ⟨B0, _, _, e0, hB0, _⟩ := hX
    intro B hB
    rw [e0] at hB
    cases hB
    exact hB0
  have G0 : Hid (CN p (.node cd v nm l r) w W) := ⟨hkE, hkR, hE.below hbW, hX.below hbW, hbW⟩
  clear hbW hkE hkR hE hX
  obtain ⟨L, hL⟩ : ∃ L, evF a b c l = L := ⟨_, rfl⟩
  have HL : Hid (evF a b c l = L) := hL
  obtain ⟨M, hM⟩ : ∃ L, evF a b c r = L := ⟨_, rfl⟩
  have HM : Hid (evF a b c r = M) := hM
  have he : evF a b c (.node cd v nm l r) = bindR L fun x => bindR M fun y => twoR cd x y := by
    rw [evF, if_neg (by rw [hF]; decide), if_neg h1, if_neg h2, if_neg h17, hL, hM]
    have hne : ¬ (cd = 3 ∨ cd = 4 ∨ cd = 5) := by omega
    simp only [if_neg hne]
  rw [he]
  have HF : Hid (formB (.node cd v nm l r) = true) := hF
  have b1 : (cd == 1) = false := beq_f h1
  have b2 : (cd == 2) = false := beq_f h2
  have b17 : (cd == 17) = false := beq_f h17
  have b3 : (cd == 3) = false := beq_f h3
  have b4 : (cd == 4) = false := beq_f h4
  have b5 : (cd == 5) = false := beq_f h5
  clear he hF hL hM h1 h2 h17 h3 h4 h5
  obtain ⟨B, pl, pr, rfl, hlt, ⟨n0, n1, n2, n3, n4, n5, n6⟩, ql, qr⟩ := G0.out.ex
  go_enter Tryz.func36, Tryz.ntmps36
  go_wp2_with fail
  have h8 := formed_any (.node cd v nm l r) _ W G0.out.ex
  rw [HF.out] at h8
  refine h8.mono ?_
  clear h8
  rintro _ w1 ⟨rfl, rfl⟩
  go_upto_region 11 with fail
  go_cut [8, 9] (fun a8 a9 wx => ∃ (v1 : Vl) (bl : Nat), a8 = .pointer (some ⟨bl, 0, none⟩) ∧ a9 = errOf L ∧ Hid (CN (some ⟨B, 0, none⟩) (.node cd v nm l r) w wx ∧ Blk bl v1.cells 39 wx ∧ (∀ x, L = .ok x → v1 = x) ∧ w.heap.size + 2 ≤ bl))
  case first =>
    have hsz : w.heap.size + 2 ≤ w1.heap.size := (Array.getElem?_eq_some_iff.1 G0.out.kR).1
    have HSZ : Hid (w.heap.size + 2 ≤ w1.heap.size) := hsz
    have HQ : Hid (ExAt w1 pl l) := ql
    have HKE : Hid (∀ wx, Below w1.heap.size w1 wx → Calls Tryz.prog 36 #[.agg #[.func (.func 64) #[] #[], .func (.func 65) #[] #[]], .pointer pl] wx fun r w' => ToldE L wx r w') := fun wx hb => by
      have h8 := HI.out pl wx (G0.out.env.below hb) (HQ.out.below hb)
      rw [HL.out] at h8
      exact h8
    have HA : Hid (Below w1.heap.size w1 w1.drew) := (Below.refl _ _).drew
    have HBB : Hid (Below w1.heap.size w1 (w1.alloc (.cells #[.int .i64 0, .int .i64 0, .string ⟨#[]⟩] 39)).drew) := ((Below.refl _ _).alloc (Nat.le_refl _) _).drew
    have HK : Hid (∀ wx, Below w1.heap.size w1 wx → wx.cell? ⟨w.heap.size, 0, none⟩ = some (.func (.func 64) #[] #[]) ∧ wx.cell? ⟨w.heap.size, 1, none⟩ = some (.func (.func 65) #[] #[]) ∧ wx.cell? ⟨B, 5, none⟩ = some (.pointer pl)) := fun wx hb => ⟨(G0.out.below hb).e0.1, (G0.out.below hb).e0.2, (hb.cell (p := ⟨B, 5, none⟩) hlt).trans n5⟩
    clear hsz
    go_region_held3 (fun wx => wx.cell? ⟨w.heap.size, 0, none⟩ = some (.func (.func 64) #[] #[]) ∧ wx.cell? ⟨w.heap.size, 1, none⟩ = some (.func (.func 65) #[] #[]) ∧ wx.cell? ⟨B, 5, none⟩ = some (.pointer pl)) (first | exact HK.out _ HA.out | exact HK.out _ HBB.out | exact HK.out _ HVb.out | exact HK.out _ (HA.out.alloc HA.out.size _) | exact HK.out _ (put39_below _ HA.out (by first | exact Nat.le_refl _ | exact HA.out.size))) ((go_at_call 36; refine Calls.mono (HKE.out _ (by first | exact HA.out | exact HBB.out)) ?_; rintro _ w2 ⟨⟨v1, rfl, hv1⟩, hb⟩; have HV1 : Hid (∀ x, L = .ok x → v1 = x) := hv1; clear hv1; first
      | (have hkB : Blk w1.heap.size Vl.none.cells 39 w2 := ((Blk.new w1 Vl.none.cells 39).below ((Below.refl _ _).drew)).below hb; obtain ⟨k0, k1, k2, kf⟩ := hkB.vc; have HA : Hid (Below w1.heap.size w1 w2) := HBB.out.trans (hb.mono HBB.out.size); have GY : Hid (CN (some ⟨B, 0, none⟩) (.node cd v nm l r) w (put39 w2 w1.heap.size v1) ∧ Blk w1.heap.size v1.cells 39 (put39 w2 w1.heap.size v1) ∧ (∀ x, L = .ok x → v1 = x) ∧ w.heap.size + 2 ≤ w1.heap.size) := ⟨G0.out.below (put39_below v1 HA.out (Nat.le_refl _)), put39_blk v1 hkB, HV1.out, HSZ.out⟩; clear hb hkB; unfold vv)
      | (have hbs : w1.heap.size ≤ w2.heap.size := hb.size; have HA : Hid (Below w1.heap.size w1 w2) := HA.out.trans (hb.mono HA.out.size); obtain ⟨V, hV⟩ : ∃ V, w2.alloc (.cells #[.int .i64 v1.k, .int .i64 v1.n, .string v1.t] 39) = V := ⟨_, rfl⟩; have hbV : Below w2.heap.size w2 V := (by rw [← hV]; exact (Below.refl _ _).alloc (Nat.le_refl _) _); have HVb : Hid (Below w1.heap.size w1 V) := HA.out.trans (hbV.mono hbs); have GY : Hid (CN (some ⟨B, 0, none⟩) (.node cd v nm l r) w V ∧ Blk w2.heap.size v1.cells 39 V ∧ (∀ x, L = .ok x → v1 = x) ∧ w.heap.size + 2 ≤ w2.heap.size) := ⟨(G0.out.below HA.out).below hbV, (by rw [← hV]; exact Blk.new _ _ _), HV1.out, Nat.le_trans HSZ.out hbs⟩; clear hb hbV hbs; unfold vv)))
    all_goals
      go_wp2_with fail
      go_meet
      case rel => exact ⟨v1, _, rfl, rfl, GY⟩
  case rest =>
  obtain ⟨v1, bl, rfl, rfl, GL⟩ := hcut
  obtain ⟨w3, hw3⟩ : ∃ u, u = wc := ⟨_, rfl⟩
  subst hw3
  clear n0 n1 n2 n3 n4 n5 n6 hlt ql qr
  obtain ⟨r0, r1, r2, rf⟩ := GL.out.1.kR.vc
  obtain ⟨B', pl', pr', e, hlt, ⟨n0, n1, n2, n3, n4, n5, n6⟩, ql, qr⟩ := GL.out.1.ex
  cases e
  cases L with
  | error n =>
    have HEv : Hid (bindR (.error n) (fun x => bindR M fun y => twoR cd x y) = .error n) := rfl
    simp only [errOf]
    go_wp2
    refine bodyPost_ret (v := .tuple #[vv .none, .iface 53 (.int .i64 n)]) (results_ct Tryz.results36 _ _ ⟨w.heap.size + 1, 0, none⟩ rfl (load39 (put39_blk .none GL.out.1.kR))) rfl ?_
    exact ⟨⟨.none, by rw [HEv.out]; rfl, fun x hx => by rw [HEv.out] at hx; cases hx⟩, put39_below .none GL.out.1.be (by omega)⟩
  | ok x1 =>
    obtain rfl : v1 = x1 := GL.out.2.2.1 x1 rfl
    have HEv0 : Hid (bindR (.ok v1) (fun x => bindR M fun y => twoR cd x y) = bindR M fun y => twoR cd v1 y) := rfl
    simp only [errOf]
    go_upto_region 21 with fail
    go_cut [10, 9] (fun a10 a9 wx => ∃ (v2 : Vl) (br : Nat), a10 = .pointer (some ⟨br, 0, none⟩) ∧ a9 = errOf M ∧ Hid (CN (some ⟨B, 0, none⟩) (.node cd v nm l r) w wx ∧ Blk br v2.cells 39 wx ∧ (∀ x, M = .ok x → v2 = x) ∧ w.heap.size + 2 ≤ br ∧ Blk bl v1.cells 39 wx))
    case first =>
      have hsz : w.heap.size + 2 ≤ w3.heap.size := (Array.getElem?_eq_some_iff.1 GL.out.1.kR).1
      have HSZ : Hid (w.heap.size + 2 ≤ w3.heap.size) := hsz
      have HQ : Hid (ExAt w3 pr' r) := qr
      have HKE : Hid (∀ wx, Below w3.heap.size w3 wx → Calls Tryz.prog 36 #[.agg #[.func (.func 64) #[] #[], .func (.func 65) #[] #[]], .pointer pr'] wx fun r w' => ToldE M wx r w') := fun wx hb => by
        have h8 := HJ.out pr' wx (GL.out.1.env.below hb) (HQ.out.below hb)
        rw [HM.out] at h8
        exact h8
      have HA : Hid (Below w3.heap.size w3 w3.drew) := (Below.refl _ _).drew
      have HBB : Hid (Below w3.heap.size w3 (w3.alloc (.cells #[.int .i64 0, .int .i64 0, .string ⟨#[]⟩] 39)).drew) := ((Below.refl _ _).alloc (Nat.le_refl _) _).drew
      have HK : Hid (∀ wx, Below w3.heap.size w3 wx → wx.cell? ⟨w.heap.size, 0, none⟩ = some (.func (.func 64) #[] #[]) ∧ wx.cell? ⟨w.heap.size, 1, none⟩ = some (.func (.func 65) #[] #[]) ∧ wx.cell? ⟨B, 6, none⟩ = some (.pointer pr')) := fun wx hb => ⟨(GL.out.1.below hb).e0.1, (GL.out.1.below hb).e0.2, (hb.cell (p := ⟨B, 6, none⟩) hlt).trans n6⟩
      clear hsz
      go_region_held3 (fun wx => wx.cell? ⟨w.heap.size, 0, none⟩ = some (.func (.func 64) #[] #[]) ∧ wx.cell? ⟨w.heap.size, 1, none⟩ = some (.func (.func 65) #[] #[]) ∧ wx.cell? ⟨B, 6, none⟩ = some (.pointer pr')) (first | exact HK.out _ HA.out | exact HK.out _ HBB.out | exact HK.out _ HUb.out | exact HK.out _ (HA.out.alloc HA.out.size _) | exact HK.out _ (put39_below _ HA.out (by first | exact Nat.le_refl _ | exact HA.out.size))) ((go_at_call 36; refine Calls.mono (HKE.out _ (by first | exact HA.out | exact HBB.out)) ?_; rintro _ w6 ⟨⟨v2, rfl, hv2⟩, hb⟩; have HV2 : Hid (∀ x, M = .ok x → v2 = x) := hv2; clear hv2; first
        | (have hkB : Blk w3.heap.size Vl.none.cells 39 w6 := ((Blk.new w3 Vl.none.cells 39).below ((Below.refl _ _).drew)).below hb; obtain ⟨k0, k1, k2, kf⟩ := hkB.vc; have HA : Hid (Below w3.heap.size w3 w6) := HBB.out.trans (hb.mono HBB.out.size); have GY : Hid (CN (some ⟨B, 0, none⟩) (.node cd v nm l r) w (put39 w6 w3.heap.size v2) ∧ Blk w3.heap.size v2.cells 39 (put39 w6 w3.heap.size v2) ∧ (∀ x, M = .ok x → v2 = x) ∧ w.heap.size + 2 ≤ w3.heap.size ∧ Blk bl v1.cells 39 (put39 w6 w3.heap.size v2)) := ⟨GL.out.1.below (put39_below v2 HA.out (Nat.le_refl _)), put39_blk v2 hkB, HV2.out, HSZ.out, GL.out.2.1.below (put39_below v2 HA.out (Nat.le_refl _))⟩; clear hb hkB; unfold vv)
        | (have hbs : w3.heap.size ≤ w6.heap.size := hb.size; have HA : Hid (Below w3.heap.size w3 w6) := HA.out.trans (hb.mono HA.out.size); obtain ⟨U, hU⟩ : ∃ U, w6.alloc (.cells #[.int .i64 v2.k, .int .i64 v2.n, .string v2.t] 39) = U := ⟨_, rfl⟩; have hbU : Below w6.heap.size w6 U := (by rw [← hU]; exact (Below.refl _ _).alloc (Nat.le_refl _) _); have HUb : Hid (Below w3.heap.size w3 U) := HA.out.trans (hbU.mono hbs); have GY : Hid (CN (some ⟨B, 0, none⟩) (.node cd v nm l r) w U ∧ Blk w6.heap.size v2.cells 39 U ∧ (∀ x, M = .ok x → v2 = x) ∧ w.heap.size + 2 ≤ w6.heap.size ∧ Blk bl v1.cells 39 U) := ⟨(GL.out.1.below HA.out).below hbU, (by rw [← hU]; exact Blk.new _ _ _), HV2.out, Nat.le_trans HSZ.out hbs, GL.out.2.1.below HUb.out⟩; clear hb hbU hbs; unfold vv)))
      all_goals
        go_wp2_with fail
        go_meet
        case rel => exact ⟨v2, _, rfl, rfl, GY⟩
    case rest =>
    obtain ⟨v2, br, rfl, rfl, GR⟩ := hcut
    obtain ⟨w7, hw7⟩ : ∃ u, u = wc := ⟨_, rfl⟩
    subst hw7
    clear n0 n1 n2 n3 n4 n5 n6 hlt ql qr r0 r1 r2 rf
    obtain ⟨r0, r1, r2, rf⟩ := GR.out.1.kR.vc
    cases M with
    | error n =>
      have HEv : Hid (bindR (.ok v1) (fun x => bindR (.error n) fun y => twoR cd x y) = .error n) := rfl
      simp only [errOf]
      go_wp2
      refine bodyPost_ret (v := .tuple #[vv .none, .iface 53 (.int .i64 n)]) (results_ct Tryz.results36 _ _ ⟨w.heap.size + 1, 0, none⟩ rfl (load39 (put39_blk .none GR.out.1.kR))) rfl ?_
      exact ⟨⟨.none, by rw [HEv.out]; rfl, fun x hx => by rw [HEv.out] at hx; cases hx⟩, put39_below .none GR.out.1.be (by omega)⟩
    | ok x2 =>
      obtain rfl : v2 = x2 := GR.out.2.2.1 x2 rfl
      have HEv : Hid (bindR (.ok v1) (fun x => bindR (.ok v2) fun y => twoR cd x y) = twoR cd v1 v2) := rfl
      obtain ⟨R, hR⟩ : ∃ R, twoR cd v1 v2 = R := ⟨_, rfl⟩
      have HR : Hid (twoR cd v1 v2 = R) := hR
      simp only [errOf]
      clear hR
      go_upto_region 24 with fail
      have HB0 : Hid (w.heap.size + 2 ≤ bl ∧ w.heap.size + 2 ≤ br) := ⟨GL.out.2.2.2, GR.out.2.2.2.1⟩
      have HK : Hid (∀ wx, CN (some ⟨B, 0, none⟩) (.node cd v nm l r) w wx → Blk bl v1.cells 39 wx → Blk br v2.cells 39 wx → wx.cell? ⟨B, 0, none⟩ = some (.int .i64 cd) ∧ wx.cell? ⟨bl, 0, none⟩ = some (.int .i64 v1.k) ∧ wx.cell? ⟨bl, 1, none⟩ = some (.int .i64 v1.n) ∧ wx.cell? ⟨bl, 2, none⟩ = some (.string v1.t) ∧ wx.cell? ⟨br, 0, none⟩ = some (.int .i64 v2.k) ∧ wx.cell? ⟨br, 1, none⟩ = some (.int .i64 v2.n) ∧ wx.cell? ⟨br, 2, none⟩ = some (.string v2.t)) := fun wx hx h h' => by
        obtain ⟨B', _, _, e, _, ⟨k0, _⟩, _⟩ := hx.ex
        cases e
        exact ⟨k0, h.vc.1, h.vc.2.1, h.vc.2.2.1, h'.vc.1, h'.vc.2.1, h'.vc.2.2.1⟩
      have GX : Hid (CN (some ⟨B, 0, none⟩) (.node cd v nm l r) w w7.drew ∧ Blk bl v1.cells 39 w7.drew ∧ Blk br v2.cells 39 w7.drew) := ⟨GR.out.1.below ((Below.refl _ _).drew), GR.out.2.2.2.2, GR.out.2.1⟩
      have HNB : Hid (B ≠ w.heap.size + 1) := by have := HXB.out B rfl; show B ≠ _; omega
      go_region_held3 (fun wx => wx.cell? ⟨B, 0, none⟩ = some (.int .i64 cd) ∧ wx.cell? ⟨bl, 0, none⟩ = some (.int .i64 v1.k) ∧ wx.cell? ⟨bl, 1, none⟩ = some (.int .i64 v1.n) ∧ wx.cell? ⟨bl, 2, none⟩ = some (.string v1.t) ∧ wx.cell? ⟨br, 0, none⟩ = some (.int .i64 v2.k) ∧ wx.cell? ⟨br, 1, none⟩ = some (.int .i64 v2.n) ∧ wx.cell? ⟨br, 2, none⟩ = some (.string v2.t)) (first | exact HK.out _ GX.out.1 GX.out.2.1 GX.out.2.2 | exact HP5.out) ((go_at_call 70; have h8 := two_any cd v1 v2 _ GX.out.1.env.ask GX.out.1.env.lo; rw [HR.out, tup_eq] at h8; refine Calls.mono h8 ?_; clear h8; rintro _ w8 ⟨rfl, hb⟩; have GX : Hid (CN (some ⟨B, 0, none⟩) (.node cd v nm l r) w w8 ∧ Blk bl v1.cells 39 w8 ∧ Blk br v2.cells 39 w8) := ⟨GX.out.1.below hb, GX.out.2.1.below hb, GX.out.2.2.below hb⟩; have HP5 : Hid ((put39 w8 (w.heap.size + 1) (valOf R)).cell? ⟨B, 0, none⟩ = some (.int .i64 cd) ∧ (put39 w8 (w.heap.size + 1) (valOf R)).cell? ⟨bl, 0, none⟩ = some (.int .i64 v1.k) ∧ (put39 w8 (w.heap.size + 1) (valOf R)).cell? ⟨bl, 1, none⟩ = some (.int .i64 v1.n) ∧ (put39 w8 (w.heap.size + 1) (valOf R)).cell? ⟨bl, 2, none⟩ = some (.string v1.t) ∧ (put39 w8 (w.heap.size + 1) (valOf R)).cell? ⟨br, 0, none⟩ = some (.int .i64 v2.k) ∧ (put39 w8 (w.heap.size + 1) (valOf R)).cell? ⟨br, 1, none⟩ = some (.int .i64 v2.n) ∧ (put39 w8 (w.heap.size + 1) (valOf R)).cell? ⟨br, 2, none⟩ = some (.string v2.t)) := (by have hz := HK.out _ GX.out.1 GX.out.2.1 GX.out.2.2; have q1 := HB0.out.1; have q2 := HB0.out.2; exact ⟨(put39_cell HNB.out _ _ _).trans hz.1, (put39_cell (by omega) _ _ _).trans hz.2.1, (put39_cell (by omega) _ _ _).trans hz.2.2.1, (put39_cell (by omega) _ _ _).trans hz.2.2.2.1, (put39_cell (by omega) _ _ _).trans hz.2.2.2.2.1, (put39_cell (by omega) _ _ _).trans hz.2.2.2.2.2.1, (put39_cell (by omega) _ _ _).trans hz.2.2.2.2.2.2⟩); obtain ⟨t0, t1, t2, tf⟩ := GX.out.1.kR.vc; clear hb; unfold vv))
      all_goals
        go_wp2_with fail
        refine bodyPost_ret (v := .tuple #[vv (valOf R), errOf R]) (results_ct Tryz.results36 _ _ ⟨w.heap.size + 1, 0, none⟩ rfl (load39 (put39_blk (valOf R) GX.out.1.kR))) rfl ?_
        exact ⟨⟨valOf R, by rw [HEv.out, HR.out], fun x hx => by rw [HEv.out, HR.out] at hx; rw [hx]; rfl⟩, put39_below (valOf R) GX.out.1.be (by omega)⟩
/-- nothing is asked of columns -/
def NoC : Ex → Prop
  | .nil => True
  | .node c _ _ l r => c = 1 ∨ (c ≠ 2 ∧ c ≠ 17 ∧ NoC l ∧ NoC r)
theorem nome_all (a b c : Vl) : ∀ e : Ex, NoC e → ComeN a b c e
  | .nil, _ => nome_bad a b c .nil rfl
  | .node cd v nm l r, h => by
    cases hF : formB (.node cd v nm l r) with
    | false => exact nome_bad a b c _ hF
    | true =>
      by_cases h1 : cd = 1
      · subst h1; exact nome_lit a b c v nm l r
      have h' := h.resolve_left h1
      have hl := nome_all a b c l h'.2.2.1
      have hr := nome_all a b c r h'.2.2.2
      by_cases h3 : cd = 3
      · subst h3; exact nome_3 a b c v nm l r hl
      by_cases h4 : cd = 4
      · subst h4; exact nome_4 a b c v nm l r hl
      by_cases h5 : cd = 5
      · subst h5; exact nome_5 a b c v nm l r hl
      exact nome_two a b c cd v nm l r hl hr hF ⟨h1, h'.1, h'.2.1, h3, h4, h5⟩
end Go.Proofs.YtbdcbaamjkjhaaaGreatDoor
namespace Go.Proofs.YtbdcbaamjkjhaaaGreatDoor
open Go.RowKit

set_option maxRecDepth 100000 in
set_option maxHeartbeats 2000000 in
theorem whole0_any (w : World) : Calls Tryz.prog 35 #[.agg #[.nilFunc, .nilFunc]] w fun e w' => e = .returned (.agg #[.func (.func 64) #[] #[], .func (.func 65) #[] #[]]) ∧ Below w.heap.size w w' := by
  obtain ⟨W, hW⟩ : ∃ W, (w.alloc (.cells #[.nilFunc, .nilFunc] 45)).alloc (.cells #[.nilFunc, .nilFunc] 45) = W := ⟨_, rfl⟩
  have hbW : Below w.heap.size w W := by rw [← hW]; exact ((Below.refl _ _).alloc (Nat.le_refl _) _).alloc (by simp only [World.size_alloc]; omega) _
  have hkE : Blk w.heap.size #[.nilFunc, .nilFunc] 45 W := by rw [← hW]; exact (Blk.new _ _ _).below ((Below.refl _ _).alloc (Nat.le_refl _) _)
  have hkR : Blk (w.heap.size + 1) #[.nilFunc, .nilFunc] 45 W := by
    have hq := Blk.new (w.alloc (.cells #[.nilFunc, .nilFunc] 45)) #[.nilFunc, .nilFunc] 45
    simp only [World.size_alloc] at hq
    rw [← hW]
    exact hq
  obtain ⟨U, hU⟩ : ∃ U, W.setCell ⟨w.heap.size, 0, none⟩ (.func (.func 64) #[] #[]) = U := ⟨_, rfl⟩
  obtain ⟨V, hV⟩ : ∃ U', U.setCell ⟨w.heap.size, 1, none⟩ (.func (.func 65) #[] #[]) = U' := ⟨_, rfl⟩
  have hkU : Blk w.heap.size #[.func (.func 64) #[] #[], .nilFunc] 45 U := by
    have := hkE.set 0 (.func (.func 64) #[] #[])
    rw [hU] at this
    simpa using this
  have hkV : Blk w.heap.size #[.func (.func 64) #[] #[], .func (.func 65) #[] #[]] 45 V := by
    have := hkU.set 1 (.func (.func 65) #[] #[])
    rw [hV] at this
    simpa using this
  have hkRV : Blk (w.heap.size + 1) #[.nilFunc, .nilFunc] 45 V := by
    rw [← hV, ← hU]
    exact (hkR.other (by omega) 0 _).other (by omega) 1 _
  have hbV : Below w.heap.size w V := by
    rw [← hV, ← hU]
    exact (hbW.setCell (Nat.le_refl _) _).setCell (Nat.le_refl _) _
  have G0 : Hid (Blk (w.heap.size + 1) #[.nilFunc, .nilFunc] 45 V ∧ Below w.heap.size w V) := ⟨hkRV, hbV⟩
  have e0 : W.cell? ⟨w.heap.size, 0, none⟩ = some .nilFunc := by rw [hkE.cell 0]; rfl
  have ef : ∀ i, W.frozen? ⟨w.heap.size, i, none⟩ = false := fun i => hkE.free i
  have u1 : U.cell? ⟨w.heap.size, 1, none⟩ = some .nilFunc := by rw [hkU.cell 1]; rfl
  have uf : ∀ i, U.frozen? ⟨w.heap.size, i, none⟩ = false := fun i => hkU.free i
  have v0 : V.cell? ⟨w.heap.size, 0, none⟩ = some (.func (.func 64) #[] #[]) := by rw [hkV.cell 0]; rfl
  have v1 : V.cell? ⟨w.heap.size, 1, none⟩ = some (.func (.func 65) #[] #[]) := by rw [hkV.cell 1]; rfl
  have r0 : V.cell? ⟨w.heap.size + 1, 0, none⟩ = some .nilFunc := by rw [hkRV.cell 0]; rfl
  have r1 : V.cell? ⟨w.heap.size + 1, 1, none⟩ = some .nilFunc := by rw [hkRV.cell 1]; rfl
  have rf : ∀ i, V.frozen? ⟨w.heap.size + 1, i, none⟩ = false := fun i => hkRV.free i
  have q1 : ∀ u, Sem.run Tryz.prog (binOp BinOp.eql 42 Value.nilFunc Value.nilFunc) u = .ok (.bool true) u := fun u => by kernel_rfl
  have q2 : ∀ u, Sem.run Tryz.prog (binOp BinOp.eql 43 Value.nilFunc Value.nilFunc) u = .ok (.bool true) u := fun u => by kernel_rfl
  have hmf : ∀ (fn : Fn) (first cap : Array Value) (w : World), (Instr.makeFunc fn first cap).run Tryz.prog w = .ok (.func fn first cap) w := fun _ _ _ _ => rfl
  clear hkE hkR hbW hkU hkV hkRV hbV
  go_enter Tryz.func35, Tryz.ntmps35
  go_wp2
  refine bodyPost_ret (v := .agg #[.func (.func 64) #[] #[], .func (.func 65) #[] #[]]) (results_c Tryz.results35 _ _ ⟨w.heap.size + 1, 0, none⟩ rfl (load45 (put45_blk (.func (.func 64) #[] #[]) (.func (.func 65) #[] #[]) G0.out.1))) rfl ?_
  exact ⟨rfl, (G0.out.2.setCell (show w.heap.size ≤ w.heap.size + 1 by omega) _).setCell (show w.heap.size ≤ w.heap.size + 1 by omega) _⟩
set_option maxRecDepth 100000 in
set_option maxHeartbeats 4000000 in
theorem eval0_any (a b c : Vl) (e : Ex) (hN : NoC e) (hsm : ∀ x, evF a b c e = .ok x → SmV x) (p : Option Addr) (w : World) (hE : EnvN w) (hX : ExAt w p e) : Calls Tryz.prog 17 #[.pointer p, .agg #[.nilFunc, .nilFunc]] w fun r w' => r = .returned (tupR (evF a b c e)) ∧ Below w.heap.size w w' := by
  obtain ⟨W, hW⟩ : ∃ W, (w.alloc (.cells #[.nilFunc, .nilFunc] 45)).alloc (.cells #[.int .i64 0, .int .i64 0, .string ⟨#[]⟩] 39) = W := ⟨_, rfl⟩
  have hbW : Below w.heap.size w W := by rw [← hW]; exact ((Below.refl _ _).alloc (Nat.le_refl _) _).alloc (by simp only [World.size_alloc]; omega) _
  have hkE : Blk w.heap.size #[.nilFunc, .nilFunc] 45 W := by rw [← hW]; exact (Blk.new _ _ _).below ((Below.refl _ _).alloc (Nat.le_refl _) _)
  have hkR : Blk (w.heap.size + 1) Vl.none.cells 39 W := by
    have hq := Blk.new (w.alloc (.cells #[.nilFunc, .nilFunc] 45)) Vl.none.cells 39
    simp only [World.size_alloc] at hq
    rw [← hW]
    exact hq
  have G0 : Hid (Blk (w.heap.size + 1) Vl.none.cells 39 W ∧ Below w.heap.size w W ∧ EnvN W ∧ ExAt W p e) := ⟨hkR, hbW, hE.below hbW, hX.below hbW⟩
  have e0 : W.cell? ⟨w.heap.size, 0, none⟩ = some .nilFunc := by rw [hkE.cell 0]; rfl
  have e1 : W.cell? ⟨w.heap.size, 1, none⟩ = some .nilFunc := by rw [hkE.cell 1]; rfl
  obtain ⟨R, hR⟩ : ∃ R, evF a b c e = R := ⟨_, rfl⟩
  have HNo : Hid (NoC e) := hN
  have HR : Hid (evF a b c e = R ∧ ∀ x, R = .ok x → SmV x) := ⟨hR, fun x hx => hsm x (hR.trans hx)⟩
  rw [hR]
  clear hkE hkR hbW hE hX hR hsm hN
  go_enter Tryz.func17, Tryz.ntmps17
  go_wp2_with fail
  refine (whole0_any W).mono ?_
  rintro _ w1 ⟨rfl, hb⟩
  have H1 : Hid (Blk (w.heap.size + 1) Vl.none.cells 39 w1 ∧ Below w.heap.size w w1 ∧ EnvN w1 ∧ ExAt w1 p e) := ⟨G0.out.1.below hb, G0.out.2.1.trans (hb.mono G0.out.2.1.size), G0.out.2.2.1.below hb, G0.out.2.2.2.below hb⟩
  clear hb
  go_wp2_with fail
  have h8 := nome_all a b c e HNo.out p w1 H1.out.2.2.1 H1.out.2.2.2
  rw [HR.out.1] at h8
  refine h8.mono ?_
  clear h8
  rintro _ w2 ⟨⟨v, rfl, hv⟩, hb⟩
  obtain ⟨V, hV⟩ : ∃ V, w2.alloc (.cells #[.int .i64 v.k, .int .i64 v.n, .string v.t] 39) = V := ⟨_, rfl⟩
  have hbV : Below w2.heap.size w2 V := by rw [← hV]; exact (Below.refl _ _).alloc (Nat.le_refl _) _
  have hkV : Blk w2.heap.size v.cells 39 V := by rw [← hV]; exact Blk.new _ _ _
  have H2 : Hid (Blk (w.heap.size + 1) Vl.none.cells 39 V ∧ Below w.heap.size w V ∧ ∀ x, R = .ok x → v = x) := ⟨(H1.out.1.below hb).below hbV, (H1.out.2.1.trans (hb.mono H1.out.2.1.size)).trans (hbV.mono (Nat.le_trans H1.out.2.1.size hb.size)), hv⟩
  obtain ⟨u0, u1, u2, uf⟩ := hkV.vc
  obtain ⟨r0, r1, r2, rf⟩ := H2.out.1.vc
  clear hb hbV hkV hv
  unfold vv
  cases R with
  | error n =>
    simp only [errOf]
    go_wp2
    refine bodyPost_ret (v := .tuple #[vv .none, .iface 53 (.int .i64 n)]) (results_ct Tryz.results17 _ _ ⟨w.heap.size + 1, 0, none⟩ rfl (load39 (put39_blk .none H2.out.1))) rfl ?_
    exact ⟨rfl, put39_below .none H2.out.2.1 (by omega)⟩
  | ok x =>
    obtain rfl : v = x := H2.out.2.2 x rfl
    simp only [errOf]
    go_wp2_with fail
    refine (own_any v V (HR.out.2 v rfl)).mono ?_
    rintro _ w3 ⟨rfl, hb⟩
    have H3 : Hid (Blk (w.heap.size + 1) Vl.none.cells 39 w3 ∧ Below w.heap.size w w3) := ⟨H2.out.1.below hb, H2.out.2.1.trans (hb.mono H2.out.2.1.size)⟩
    obtain ⟨t0, t1, t2, tf⟩ := H3.out.1.vc
    clear hb
    unfold vv
    go_wp2
    refine bodyPost_ret (v := .tuple #[vv v, .nilIface]) (results_ct Tryz.results17 _ _ ⟨w.heap.size + 1, 0, none⟩ rfl (load39 (put39_blk v H3.out.1))) rfl ?_
    exact ⟨rfl, put39_below v H3.out.2 (by omega)⟩
end Go.Proofs.YtbdcbaamjkjhaaaGreatDoor
namespace Go.Proofs.YtbdcbaamjkjhaaaGreatDoor
open Go.RowKit

set_option maxRecDepth 100000 in
theorem literal1_any (e : Ex) (p : Option Addr) (w : World) (h : ExAt w p e) : Calls Tryz.prog 79 #[.pointer p] w fun r w' => r = .returned (.bool (litB e)) ∧ w' = w := by
  cases e with
  | nil =>
    obtain rfl : p = none := h
    go_enter Tryz.func79, Tryz.ntmps79
    go_wp2
    go_ret
    exact ⟨rfl, rfl⟩
  | node c v nm l r =>
    obtain ⟨B, pl, pr, rfl, hlt, ⟨n0, _⟩, _, _⟩ := h
    obtain ⟨q, hq⟩ : ∃ q, (c == 1) = q := ⟨_, rfl⟩
    have HQ : Hid (litB (.node c v nm l r) = q) := hq
    rw [HQ.out]
    go_enter Tryz.func79, Tryz.ntmps79
    go_wp2
    go_ret
    exact ⟨rfl, rfl⟩
set_option maxRecDepth 100000 in
set_option maxHeartbeats 2000000 in
theorem folds_any (c : Int) (v : Vl) (nm : ByteArray) (l r : Ex) (p : Option Addr) (w : World) (h : ExAt w p (.node c v nm l r)) : Calls Tryz.prog 42 #[.pointer p] w fun x w' => x = .returned (.bool (foldsB (.node c v nm l r))) ∧ w' = w := by
  obtain ⟨B, pl, pr, rfl, hlt, ⟨n0, n1, n2, n3, n4, n5, n6⟩, hl, hr⟩ := h
  have HL : Hid (ExAt w pl l ∧ ExAt w pr r) := ⟨hl, hr⟩
  clear hl hr
  by_cases h1 : c = 1
  · rw [show foldsB (.node c v nm l r) = false by simp [foldsB, h1]]
    have e1 : (c == 1) = true := by simp [h1]
    clear h1
    go_enter Tryz.func42, Tryz.ntmps42
    go_wp2
    go_ret
    exact ⟨rfl, rfl⟩
  by_cases h2 : c = 2
  · rw [show foldsB (.node c v nm l r) = false by simp [foldsB, h2]]
    have e1 : (c == 1) = false := by simp [h1]
    have e2 : (c == 2) = true := by simp [h2]
    clear h1 h2
    go_enter Tryz.func42, Tryz.ntmps42
    go_wp2
    go_ret
    exact ⟨rfl, rfl⟩
  by_cases h3 : c = 17
  · rw [show foldsB (.node c v nm l r) = false by simp [foldsB, h3]]
    have e1 : (c == 1) = false := by simp [h1]
    have e2 : (c == 2) = false := by simp [h2]
    have e3 : (c == 17) = true := by simp [h3]
    clear h1 h2 h3
    go_enter Tryz.func42, Tryz.ntmps42
    go_wp2
    go_ret
    exact ⟨rfl, rfl⟩
  rw [show foldsB (.node c v nm l r) = (litB l && litB r) by simp [foldsB, h1, h2, h3]]
  have e1 : (c == 1) = false := by simp [h1]
  have e2 : (c == 2) = false := by simp [h2]
  have e3 : (c == 17) = false := by simp [h3]
  obtain ⟨q, hq⟩ : ∃ q, litB l = q := ⟨_, rfl⟩
  obtain ⟨s, hs⟩ : ∃ q, litB r = q := ⟨_, rfl⟩
  have HQ : Hid (litB l = q ∧ litB r = s) := ⟨hq, hs⟩
  rw [hq, hs]
  clear h1 h2 h3 hq hs
  go_enter Tryz.func42, Tryz.ntmps42
  go_wp2_with fail
  have h8 := literal1_any l pl w HL.out.1
  rw [HQ.out.1] at h8
  refine h8.mono ?_
  clear h8
  rintro _ _ ⟨rfl, rfl⟩
  cases q
  · go_wp2
    go_ret
    exact ⟨rfl, rfl⟩
  · go_wp2_with fail
    have h8 := literal1_any r pr _ HL.out.2
    rw [HQ.out.2] at h8
    refine h8.mono ?_
    clear h8
    rintro _ _ ⟨rfl, rfl⟩
    go_wp2
    go_ret
    exact ⟨rfl, rfl⟩
theorem folds_noC {p : Ex} (h : foldsB p = true) : NoC p := by
  have lit : ∀ {e : Ex}, litB e = true → NoC e := by
    intro e he
    cases e with
    | nil => exact trivial
    | node c v nm l r => exact Or.inl (by simpa [litB] using he)
  cases p with
  | nil => exact trivial
  | node c v nm l r =>
    simp only [foldsB, Bool.and_eq_true, decide_eq_true_eq] at h
    exact Or.inr ⟨h.1.2.1, h.1.2.2, lit h.2.1, lit h.2.2⟩
theorem none_Sm : Sm .none := Nat.zero_le _
theorem foldP_sm {p : Ex} (h : TreeSm p) : TreeSm (foldP p) := by
  rcases foldP_cases p with q | ⟨_, x, e, q⟩
  · rw [q]; exact h
  · rw [q]; exact ⟨evF_sm none_Sm none_Sm none_Sm h x e, trivial, trivial⟩
theorem foldF_sm : ∀ {e : Ex}, TreeSm e → TreeSm (foldF e)
  | .nil, _ => trivial
  | .node c v nm l r, h => by
    rw [foldF]
    exact foldP_sm ⟨h.1, foldF_sm h.2.1, foldF_sm h.2.2⟩
/-- names are short -/
def TreeNm : Ex → Prop
  | .nil => True
  | .node _ _ nm l r => nm.size ≤ 1000 ∧ TreeNm l ∧ TreeNm r
theorem foldF_nm : ∀ {e : Ex}, TreeNm e → TreeNm (foldF e)
  | .nil, _ => trivial
  | .node c v nm l r, h => by
    rw [foldF]
    rcases foldP_cases (.node c v nm (foldF l) (foldF r)) with q | ⟨_, x, _, q⟩
    · rw [q]; exact ⟨h.1, foldF_nm h.2.1, foldF_nm h.2.2⟩
    · rw [q]; exact ⟨Nat.zero_le _, trivial, trivial⟩
end Go.Proofs.YtbdcbaamjkjhaaaGreatDoor
namespace Go.Proofs.YtbdcbaamjkjhaaaGreatDoor
open Go.RowKit

def condP : ByteArray := ⟨#[100, 101, 108, 101, 116, 101, 32, 102, 114, 111, 109, 32, 116, 32, 119, 104, 101, 114, 101, 32]⟩
/-- what a text asks behind where -/
def condF (s : ByteArray) : Ex := if 200 < s.size then .nil else match parseS (condP ++ s) with
  | some st => st.wh
  | none => .nil
theorem cond_size {s : ByteArray} (h : ¬ 200 < s.size) : (condP ++ s).size ≤ 1000 := by
  rw [ByteArray.size_append]
  have : condP.size = 20 := rfl
  omega
theorem condF_sm (s : ByteArray) : TreeSm (condF s) := by
  unfold condF
  split
  · exact trivial
  · rename_i h
    split
    · rename_i st hs
      obtain ⟨ts, ht, _⟩ := parse_stt (cond_size h) hs
      exact ht.sm
    · exact trivial
set_option maxRecDepth 100000 in
set_option maxHeartbeats 4000000 in
theorem cond_any (s : ByteArray) (w : World) (h : BAt w) (hs : s.size ≤ maxLen) : Calls Tryz.prog 12 #[.string s] w fun e w' => ∃ p, e = .returned (.pointer p) ∧ ExAt w' p (condF s) ∧ Below w.heap.size w w' := by
  unfold maxLen at hs
  by_cases hl : 200 < s.size
  · have d1 : decide ((200 : Int) < (s.size : Int)) = true := decide_eq_true (by omega)
    have HC : Hid (condF s = .nil) := by show _ = _; unfold condF; rw [if_pos hl]
    clear hl
    go_enter Tryz.func12, Tryz.ntmps12
    go_wp2
    go_ret
    exact ⟨none, rfl, by rw [HC.out]; rfl, Below.refl _ _⟩
  have d1 : decide ((200 : Int) < (s.size : Int)) = false := decide_eq_false (by omega)
  obtain ⟨t, ht⟩ : ∃ t, condP ++ s = t := ⟨_, rfl⟩
  have HC : Hid (t.size ≤ 1000 ∧ condF s = match parseS t with | some st => st.wh | none => .nil) := by
    refine ⟨by rw [← ht]; exact cond_size hl, ?_⟩
    unfold condF; rw [if_neg hl, ht]
  have e2 := str_add (⟨#[100, 101, 108, 101, 116, 101, 32, 102, 114, 111, 109, 32, 116, 32, 119, 104, 101, 114, 101, 32]⟩) s (by have : (⟨#[100, 101, 108, 101, 116, 101, 32, 102, 114, 111, 109, 32, 116, 32, 119, 104, 101, 114, 101, 32]⟩ : ByteArray).size = 20 := rfl; omega)
  rw [show ⟨#[100, 101, 108, 101, 116, 101, 32, 102, 114, 111, 109, 32, 116, 32, 119, 104, 101, 114, 101, 32]⟩ ++ s = t from ht] at e2
  have H : Hid (BAt w) := h
  clear hl hs h ht
  go_enter Tryz.func12, Tryz.ntmps12
  go_wp2_with fail
  refine (parse_any t w (by have := HC.out.1; omega) H.out.pa).mono ?_
  rintro _ w2 ⟨hb, sv, E, rfl, ⟨st, hp, rfl, hv⟩ | ⟨hn, rfl, t9, v9, rfl⟩⟩
  rotate_left
  · have HN : Hid (condF s = .nil) := by show _ = _; rw [HC.out.2, hn]
    obtain ⟨V, hV⟩ : ∃ V, (w2.alloc (.cells #[.int .i64 0, .string ⟨#[]⟩, .string ⟨#[]⟩, .slice none 0 0, .string ⟨#[]⟩, .slice none 0 0, .slice none 0 0, .pointer none, .pointer none, .slice none 0 0, .pointer none, .slice none 0 0, .int .i64 0] 30)).setCells w2.heap.size 0 svZ.cells.toList = V := ⟨_, rfl⟩
    have HKA : Hid (Blk w2.heap.size svZ.cells 30 (w2.alloc (.cells #[.int .i64 0, .string ⟨#[]⟩, .string ⟨#[]⟩, .slice none 0 0, .string ⟨#[]⟩, .slice none 0 0, .slice none 0 0, .pointer none, .pointer none, .slice none 0 0, .pointer none, .slice none 0 0, .int .i64 0] 30))) := Blk.new _ _ _
    have HVb : Hid (Below w.heap.size w V) := hb.trans (by rw [← hV]; exact (stored_below w2 svZ).mono hb.size)
    clear hb hn HC
    go_wp2_with (refine wpList_store_mid rfl 30 _ _ rfl _ 0 svZ.cells rfl rfl (HKA.out.there rfl) (s30 _) svZ_rows.one ?_; rw [hV])
    go_ret
    exact ⟨none, rfl, by rw [HN.out]; rfl, HVb.out⟩
  · have HN : Hid (condF s = st.wh) := by show _ = _; rw [HC.out.2, hp]
    obtain ⟨V, hV⟩ : ∃ V, (w2.alloc (.cells #[.int .i64 0, .string ⟨#[]⟩, .string ⟨#[]⟩, .slice none 0 0, .string ⟨#[]⟩, .slice none 0 0, .slice none 0 0, .pointer none, .pointer none, .slice none 0 0, .pointer none, .slice none 0 0, .int .i64 0] 30)).setCells w2.heap.size 0 sv.cells.toList = V := ⟨_, rfl⟩
    have hkA : Blk w2.heap.size svZ.cells 30 (w2.alloc (.cells #[.int .i64 0, .string ⟨#[]⟩, .string ⟨#[]⟩, .slice none 0 0, .string ⟨#[]⟩, .slice none 0 0, .slice none 0 0, .pointer none, .pointer none, .slice none 0 0, .pointer none, .slice none 0 0, .int .i64 0] 30)) := Blk.new _ _ _
    have hbV : Below w2.heap.size w2 V := by rw [← hV]; exact stored_below w2 sv
    have HKA : Hid (Blk w2.heap.size svZ.cells 30 (w2.alloc (.cells #[.int .i64 0, .string ⟨#[]⟩, .string ⟨#[]⟩, .slice none 0 0, .string ⟨#[]⟩, .slice none 0 0, .slice none 0 0, .pointer none, .pointer none, .slice none 0 0, .pointer none, .slice none 0 0, .int .i64 0] 30)) ∧ sv.Rows) := ⟨hkA, hv.rowsOk⟩
    have hk : Blk w2.heap.size sv.cells 30 V := by rw [← hV]; exact hkA.stored
    have HV : Hid (ExAt V sv.wh (condF s) ∧ Below w.heap.size w V) := ⟨by rw [HN.out]; exact ((PS.of hv).below hbV).wh, hb.trans (hbV.mono hb.size)⟩
    have z8 : V.cell? ⟨w2.heap.size, 8, none⟩ = some (.pointer sv.wh) := by rw [hk.cell 8]; rfl
    clear hb hp hv hkA hbV hk HC HN
    go_wp2_with (refine wpList_store_mid rfl 30 _ _ rfl _ 0 sv.cells rfl rfl (HKA.out.1.there rfl) (s30 _) HKA.out.2.one ?_; rw [hV])
    go_ret
    exact ⟨_, rfl, HV.out.1, HV.out.2⟩
end Go.Proofs.YtbdcbaamjkjhaaaGreatDoor
namespace Go.Proofs.YtbdcbaamjkjhaaaGreatDoor
open Go.RowKit Go.Extern.Stop Go.Stop Go.Extern

theorem Tryz.valueOf68 (t : Addr) (w : World) : (ReflectliteValue.unpack (.iface 83 (.pointer (some t)))).run Tryz.prog w
    = .ok (.agg #[.pointer (some ⟨13, 83, none⟩), .pointer (some ⟨w.heap.size, 0, none⟩), .int .u64 150]) (w.alloc (.cells #[.pointer (some t)] 83)) := by kernel_rfl
theorem Tryz.type68 (a : Addr) (w : World) : (ReflectliteValue.methodAny (ReflectliteValue.valueError "reflectlite.Value.Type" 0) (fun t _ _ _ => ReflectliteType.toType t) #[.agg #[.pointer (some ⟨13, 83, none⟩), .pointer (some a), .int .u64 150]]).run Tryz.prog w
    = .ok (.iface 156 (.agg #[.pointer (some ⟨13, 83, none⟩)])) w := by kernel_rfl
theorem Tryz.methodKind (h : Value) (w : World) : (Go.method 363 156 (.agg #[h]) "Kind").run Tryz.prog w = .ok (223, h) w := by kernel_rfl
theorem Tryz.kind68 (w : World) : ((ReflectliteType.abiMethod fun t => Functor.map (fun a : Nat => Value.int IntKind.u8 (a : Int)) (Rtype.kind t)) #[.pointer (some ⟨13, 83, none⟩)]).run Tryz.prog w = .ok (.int .u8 22) w := by kernel_rfl
theorem Tryz.kind24 (w : World) : ((ReflectliteType.abiMethod fun t => Functor.map (fun a : Nat => Value.int IntKind.u8 (a : Int)) (Rtype.kind t)) #[.pointer (some ⟨13, 53, none⟩)]).run Tryz.prog w = .ok (.int .u8 2) w := by kernel_rfl
theorem Tryz.parts68 (a : Addr) (w : World) : (ReflectliteValue.parts (.agg #[.pointer (some ⟨13, 83, none⟩), .pointer (some a), .int .u64 150])).run Tryz.prog w = .ok (some (83, a, 150)) w := by kernel_rfl
theorem Tryz.isNil68 (a p : Addr) (W : World) (ha : W.cell? a = some (.pointer (some p))) :
    (ReflectliteValue.method (ReflectliteValue.valueError "reflectlite.Value.IsNil" 0) ReflectliteValue.isNil #[.agg #[.pointer (some ⟨13, 83, none⟩), .pointer (some a), .int .u64 150]]).run Tryz.prog W = .ok (.bool false) W := by
  change Sem.run Tryz.prog (ReflectliteValue.parts (.agg #[.pointer (some ⟨13, 83, none⟩), .pointer (some a), .int .u64 150]) >>= _) W = _
  simp only [Sem.run_bind, Tryz.parts68, Result.andThen]
  simp [ReflectliteValue.isNil, loadVar, isAgg, underlying, Tryz.underlying83, ha, Result.andThen]
theorem Tryz.methodElem (h : Value) (w : World) : (Go.method 363 156 (.agg #[h]) "Elem").run Tryz.prog w = .ok (236, .agg #[h]) w := by kernel_rfl
theorem Tryz.methodImplements (h : Value) (w : World) : (Go.method 363 156 (.agg #[h]) "Implements").run Tryz.prog w = .ok (237, .agg #[h]) w := by kernel_rfl
theorem Tryz.methodAssignableTo (h : Value) (w : World) : (Go.method 363 156 (.agg #[h]) "AssignableTo").run Tryz.prog w = .ok (234, .agg #[h]) w := by kernel_rfl
theorem Tryz.elem68 (w : World) : (ReflectliteType.method ReflectliteType.elem #[.agg #[.pointer (some ⟨13, 83, none⟩)]]).run Tryz.prog w = .ok (.iface 156 (.agg #[.pointer (some ⟨13, 53, none⟩)])) w := by kernel_rfl
theorem Tryz.implements24 (w : World) : (ReflectliteType.relation "Implements" ReflectliteType.implements_ #[.agg #[.pointer (some ⟨13, 53, none⟩)], .iface 156 (.agg #[.pointer (some ⟨13, 32, none⟩)])]).run Tryz.prog w = .ok (.bool true) w := by kernel_rfl
theorem Tryz.typeOf24 (v : Value) (w : World) : (ReflectliteType.typeOf #[.iface 53 v]).run Tryz.prog w = .ok (.iface 156 (.agg #[.pointer (some ⟨13, 53, none⟩)])) w := by kernel_rfl
theorem Tryz.assignable24 (w : World) : (ReflectliteType.relation "AssignableTo" ReflectliteType.assignableTo #[.agg #[.pointer (some ⟨13, 53, none⟩)], .iface 156 (.agg #[.pointer (some ⟨13, 53, none⟩)])]).run Tryz.prog w = .ok (.bool true) w := by kernel_rfl
theorem Tryz.valueOf24 (n : Int) (w : World) : (ReflectliteValue.unpack (.iface 53 (.int .i64 n))).run Tryz.prog w
    = .ok (.agg #[.pointer (some ⟨13, 53, none⟩), .pointer (some ⟨w.heap.size, 0, none⟩), .int .u64 130]) (w.alloc (.cells #[.int .i64 n] 53)) := by kernel_rfl
theorem Tryz.elemOf68 (w : World) : (Rtype.elem? 83).run Tryz.prog w = .ok (some 53) w := by kernel_rfl
theorem Tryz.mk24 (p : Addr) (w : World) : (ReflectliteValue.mk 53 p ReflectliteValue.flagAddr).run Tryz.prog w = .ok (.agg #[.pointer (some ⟨13, 53, none⟩), .pointer (some p), .int .u64 386]) w := by kernel_rfl
theorem Tryz.elemV68 (a p : Addr) (W : World) (ha : W.cell? a = some (.pointer (some p))) :
    (ReflectliteValue.method (ReflectliteValue.valueError "reflectlite.Value.Elem" 0) ReflectliteValue.elem #[.agg #[.pointer (some ⟨13, 83, none⟩), .pointer (some a), .int .u64 150]]).run Tryz.prog W
      = .ok (.agg #[.pointer (some ⟨13, 53, none⟩), .pointer (some p), .int .u64 386]) W := by
  change Sem.run Tryz.prog (ReflectliteValue.parts (.agg #[.pointer (some ⟨13, 83, none⟩), .pointer (some a), .int .u64 150]) >>= _) W = _
  simp only [Sem.run_bind, Tryz.parts68, Result.andThen]
  simp [ReflectliteValue.elem, loadVar, isAgg, underlying, Tryz.underlying83, ha, Result.andThen, Tryz.elemOf68, Tryz.mk24]
end Go.Proofs.YtbdcbaamjkjhaaaGreatDoor
namespace Go.Proofs.YtbdcbaamjkjhaaaGreatDoor
open Go.RowKit Go.Extern.Stop Go.Stop Go.Extern

theorem Tryz.parts24a (a : Addr) (w : World) : (ReflectliteValue.parts (.agg #[.pointer (some ⟨13, 53, none⟩), .pointer (some a), .int .u64 386])).run Tryz.prog w = .ok (some (53, a, 386)) w := by kernel_rfl
theorem Tryz.parts24 (a : Addr) (w : World) : (ReflectliteValue.parts (.agg #[.pointer (some ⟨13, 53, none⟩), .pointer (some a), .int .u64 130])).run Tryz.prog w = .ok (some (53, a, 130)) w := by kernel_rfl
theorem Tryz.direct24 (w : World) : (Rtype.directlyAssignable 53 53).run Tryz.prog w = .ok true w := by kernel_rfl
theorem Tryz.set24 (ta b : Addr) (n : Int) (old : Value) (W : World) (hb : W.cell? b = some (.int .i64 n)) (ht : W.cell? ta = some old) (hf : W.frozen? ta = false) :
    (ReflectliteValue.set #[.agg #[.pointer (some ⟨13, 53, none⟩), .pointer (some ta), .int .u64 386], .agg #[.pointer (some ⟨13, 53, none⟩), .pointer (some b), .int .u64 130]]).run Tryz.prog W
      = .ok (.tuple #[]) (W.setCell ta (.int .i64 n)) := by
  change Sem.run Tryz.prog (ReflectliteValue.parts (.agg #[.pointer (some ⟨13, 53, none⟩), .pointer (some ta), .int .u64 386]) >>= fun p => ReflectliteValue.parts (.agg #[.pointer (some ⟨13, 53, none⟩), .pointer (some b), .int .u64 130]) >>= _) W = _
  simp only [Sem.run_bind, Tryz.parts24a, Tryz.parts24, Result.andThen]
  simp [ReflectliteValue.flagAddr, loadVar, isAgg, underlying, Tryz.underlying53, hb, Result.andThen, Tryz.direct24, storeVar, Value.cells, storeCells, Addr.add]
  rw [run_store Tryz.prog W ta _ _ (by rfl)]
  simp [ht, hf]
end Go.Proofs.YtbdcbaamjkjhaaaGreatDoor
namespace Go.Proofs.YtbdcbaamjkjhaaaGreatDoor
open Go.RowKit Go.Extern.Stop Go.Stop Go.Extern

set_option maxRecDepth 100000 in
set_option maxHeartbeats 2000000 in
theorem as37_hit (n : Int) (t a : Addr) (old : Value) (w : World) (ha : w.cell? a = some (.pointer (some t))) (ht0 : w.cell? t = some old) (hf0 : w.frozen? t = false) :
    Calls Tryz.prog 74 #[.iface 53 (.int .i64 n), .iface 83 (.pointer (some t)), .agg #[.pointer (some ⟨13, 83, none⟩), .pointer (some a), .int .u64 150], .iface 156 (.agg #[.pointer (some ⟨13, 53, none⟩)])] w
      fun ev w' => ev = .returned (.bool true) ∧ w'.cell? t = some (.int .i64 n) ∧ Below t.block w w' := by
  have h34 := @run_callFunc_extern Tryz.prog 71 _ (fun args => ReflectliteValue.unpack (args.getD 0 (.tuple #[]))) Tryz.func71 (by kernel_rfl) (by kernel_rfl) (by kernel_rfl) (by kernel_rfl)
  have h38 := @run_callFunc_extern Tryz.prog 107 _ ReflectliteType.typeOf Tryz.func107 (by kernel_rfl) (by kernel_rfl) (by kernel_rfl) (by kernel_rfl)
  have h65 := @run_callFunc_extern Tryz.prog 234 _ (ReflectliteType.relation "AssignableTo" ReflectliteType.assignableTo) Tryz.func234 (by kernel_rfl) (by kernel_rfl) (by kernel_rfl) (by kernel_rfl)
  have h39 := @run_callFunc_extern Tryz.prog 108 _ (ReflectliteValue.method (ReflectliteValue.valueError "reflectlite.Value.Elem" 0) ReflectliteValue.elem) Tryz.func108 (by kernel_rfl) (by kernel_rfl) (by kernel_rfl) (by kernel_rfl)
  have h40 := @run_callFunc_extern Tryz.prog 109 _ ReflectliteValue.set Tryz.func109 (by kernel_rfl) (by kernel_rfl) (by kernel_rfl) (by kernel_rfl)
  have tO := Tryz.typeOf24
  have mA := Tryz.methodAssignableTo
  have a24 := Tryz.assignable24
  have v24 := Tryz.valueOf24
  have htl : t.block < w.heap.size := World.block_lt_of_cell? w _ ht0
  have hal : a.block < w.heap.size := World.block_lt_of_cell? w _ ha
  have el := Tryz.elemV68 a t (w.alloc (.cells #[.pointer (some ⟨13, 83, none⟩), .pointer (some a), .int .u64 150] 126)) (by rw [World.cell?_alloc_lt _ _ a hal]; exact ha)
  have st := Tryz.set24 t ⟨w.heap.size + 1, 0, none⟩ n old ((w.alloc (.cells #[.pointer (some ⟨13, 83, none⟩), .pointer (some a), .int .u64 150] 126)).alloc (.cells #[.int .i64 n] 53))
    (by rw [World.cell?_alloc_at _ _ _ _ (by simp)]; rfl)
    (by rw [World.cell?_alloc_lt _ _ t (by simp; omega), World.cell?_alloc_lt _ _ t htl]; exact ht0)
    (by rw [World.frozen?_alloc_old _ _ t (by simp; omega), World.frozen?_alloc_old _ _ t (Nat.ne_of_lt htl)]; exact hf0)
  go_enter Tryz.func74, Tryz.ntmps74
  go_wp2
  refine wp_loop_rounds 1 ?_
  rw [rounds_succ]
  go_wp2
  go_ret
  refine ⟨rfl, World.cell?_setCell_same _ _ _ (u := old) (by rw [World.cell?_alloc_lt _ _ t (by simp; omega), World.cell?_alloc_lt _ _ t htl]; exact ht0), ?_⟩
  exact (((Below.refl t.block w).alloc (Nat.le_of_lt htl) _).alloc (by simp; omega) _).setCell (Nat.le_refl _) _

end Go.Proofs.YtbdcbaamjkjhaaaGreatDoor
namespace Go.Proofs.YtbdcbaamjkjhaaaGreatDoor
open Go.RowKit Go.Extern.Stop Go.Stop Go.Extern

set_option maxRecDepth 100000 in
set_option maxHeartbeats 2000000 in
theorem as31_hit  (n : Int) (t : Addr) (old : Value) (w : World) (hg : w.cell? ⟨1, 0, none⟩ = some (.iface 156 (.agg #[.pointer (some ⟨13, 32, none⟩)]))) (ht0 : w.cell? t = some old) (hf0 : w.frozen? t = false) :
    Calls Tryz.prog 38 #[.iface 53 (.int .i64 n), .iface 83 (.pointer (some t))] w fun ev w' => ev = .returned (.bool true) ∧ w'.cell? t = some (.int .i64 n) ∧ Below t.block w w' := by
  have h34 := @run_callFunc_extern Tryz.prog 71 _ (fun args => ReflectliteValue.unpack (args.getD 0 (.tuple #[]))) Tryz.func71 (by kernel_rfl) (by kernel_rfl) (by kernel_rfl) (by kernel_rfl)
  have h35 := @run_callFunc_extern Tryz.prog 72 _ (ReflectliteValue.methodAny (ReflectliteValue.valueError "reflectlite.Value.Type" 0) (fun t _ _ _ => ReflectliteType.toType t)) Tryz.func72 (by kernel_rfl) (by kernel_rfl) (by kernel_rfl) (by kernel_rfl)
  have h36 := @run_callFunc_extern Tryz.prog 73 _ (ReflectliteValue.method (ReflectliteValue.valueError "reflectlite.Value.IsNil" 0) ReflectliteValue.isNil) Tryz.func73 (by kernel_rfl) (by kernel_rfl) (by kernel_rfl) (by kernel_rfl)
  have h55 := @run_callFunc_extern Tryz.prog 223 _ (ReflectliteType.abiMethod fun t => do pure (.int .u8 (← Rtype.kind t))) Tryz.func223 (by kernel_rfl) (by kernel_rfl) (by kernel_rfl) (by kernel_rfl)
  have h67 := @run_callFunc_extern Tryz.prog 236 _ (ReflectliteType.method ReflectliteType.elem) Tryz.func236 (by kernel_rfl) (by kernel_rfl) (by kernel_rfl) (by kernel_rfl)
  have h68 := @run_callFunc_extern Tryz.prog 237 _ (ReflectliteType.relation "Implements" ReflectliteType.implements_) Tryz.func237 (by kernel_rfl) (by kernel_rfl) (by kernel_rfl) (by kernel_rfl)
  have f34 := Tryz.valueOf68
  have f35 := Tryz.type68
  have mK := Tryz.methodKind
  have mE := Tryz.methodElem
  have mI := Tryz.methodImplements
  have k68 := Tryz.kind68
  have k24 := Tryz.kind24
  have e68 := Tryz.elem68
  have i24 := Tryz.implements24
  have htl : t.block < w.heap.size := World.block_lt_of_cell? w _ ht0
  have hlt : 1 < w.heap.size := World.block_lt_of_cell? w _ hg
  have n36 := Tryz.isNil68 ⟨w.heap.size, 0, none⟩ t ((w.alloc (.cells #[.pointer (some t)] 83)).alloc (.cells #[.pointer (some ⟨13, 83, none⟩), .pointer (some ⟨w.heap.size, 0, none⟩), .int .u64 150] 126)) (by simp)
  have hg2 : ((w.alloc (.cells #[.pointer (some t)] 83)).alloc (.cells #[.pointer (some ⟨13, 83, none⟩), .pointer (some ⟨w.heap.size, 0, none⟩), .int .u64 150] 126)).cell? ⟨1, 0, none⟩ = some (.iface 156 (.agg #[.pointer (some ⟨13, 32, none⟩)])) := by
    rw [World.cell?_alloc_lt _ _ ⟨1, 0, none⟩ (by simp; omega), World.cell?_alloc_lt _ _ ⟨1, 0, none⟩ hlt]; exact hg
  go_enter Tryz.func38, Tryz.ntmps38
  go_wp2_with fail
  refine (as37_hit n t ⟨w.heap.size, 0, none⟩ old _
    (by rw [World.cell?_alloc_lt _ _ ⟨w.heap.size, 0, none⟩ (by simp)]; simp)
    (by rw [World.cell?_alloc_lt _ _ t (by simp; omega), World.cell?_alloc_lt _ _ t htl]; exact ht0)
    (by rw [World.frozen?_alloc_old _ _ t (by simp; omega), World.frozen?_alloc_old _ _ t (Nat.ne_of_lt htl)]; exact hf0)).mono ?_
  rintro _ w1 ⟨rfl, hc, hb1⟩
  go_wp2
  go_ret
  exact ⟨rfl, hc, (((Below.refl t.block w).alloc (Nat.le_of_lt htl) _).alloc (by simp; omega) _).trans hb1⟩

end Go.Proofs.YtbdcbaamjkjhaaaGreatDoor
namespace Go.Proofs.YtbdcbaamjkjhaaaGreatDoor
open Go.RowKit Go.Extern.Stop Go.Stop Go.Extern

def HG (w : World) : Prop := w.cell? ⟨1, 0, none⟩ = some (.iface 156 (.agg #[.pointer (some ⟨13, 32, none⟩)]))
theorem HG.lt {w : World} (h : HG w) : 1 < w.heap.size := World.block_lt_of_cell? w _ h
theorem HG.below {w w' : World} {B : Nat} (h : HG w) (hb : Below B w w') (hB : 1 < B) : HG w' := (hb.cell (p := ⟨1, 0, none⟩) hB).trans h

theorem tell_nil (w : World) : Calls Tryz.prog 18 #[.nilIface] w fun e w' => e = .returned (.int .i64 0) ∧ w' = w := by
  go_enter Tryz.func18, Tryz.ntmps18
  go_wp2
  go_ret
  exact ⟨rfl, rfl⟩

set_option maxRecDepth 100000 in
set_option maxHeartbeats 1000000 in
theorem tell_hit (n : Int) (w : World) (hg : HG w) : Calls Tryz.prog 18 #[.iface 53 (.int .i64 n)] w fun e w' => e = .returned (.int .i64 n) ∧ Below w.heap.size w w' := by
  have hg2 : (w.alloc (.cells #[.int .i64 0] 53)).cell? ⟨1, 0, none⟩ = some (.iface 156 (.agg #[.pointer (some ⟨13, 32, none⟩)])) := by
    rw [World.cell?_alloc_lt _ _ ⟨1, 0, none⟩ hg.lt]; exact hg
  have HGH : Hid _ := hg2
  clear hg2 hg
  go_enter Tryz.func18, Tryz.ntmps18
  go_wp2_with fail
  refine (as31_hit n ⟨w.heap.size, 0, none⟩ (.int .i64 0) _ HGH.out (by simp) (by simp)).mono ?_
  rintro _ w1 ⟨rfl, hc, hb1⟩
  have hb : Below w.heap.size w w1 := ((Below.refl _ w).alloc (Nat.le_refl _) _).trans hb1
  clear hb1
  go_wp2
  go_ret
  exact ⟨rfl, hb⟩

end Go.Proofs.YtbdcbaamjkjhaaaGreatDoor
namespace Go.Proofs.YtbdcbaamjkjhaaaGreatDoor
open Go.RowKit

theorem rightText_big (s : ByteArray) (h : 40 < s.size) (hs : s.size ≤ maxLen) (w : World) : Calls Tryz.prog 32 #[.string s] w fun e w' => e = .returned (.bool false) ∧ w' = w := by
  unfold maxLen at hs
  have d1 : decide ((s.size : Int) ≤ 40) = false := decide_eq_false (by omega)
  clear h hs
  go_enter Tryz.func32, Tryz.ntmps32
  go_wp2
  go_ret
  exact ⟨rfl, rfl⟩
theorem rightText_sm (s : ByteArray) (hs : s.size ≤ maxLen) (w : World) : Calls Tryz.prog 32 #[.string s] w fun e w' => ∃ b, e = .returned (.bool b) ∧ (b = true → s.size ≤ 40) ∧ w' = w := by
  by_cases h : s.size ≤ 40
  · exact (rightText_any s _ rfl w (by omega)).mono fun e w' ⟨h1, h2⟩ => ⟨_, h1, fun _ => h, h2⟩
  · exact (rightText_big s (by omega) hs w).mono fun e w' ⟨h1, h2⟩ => ⟨_, h1, (fun hh => by cases hh), h2⟩
theorem empty_sm {t : ByteArray} (h : (t.toList == []) = true) : t.size ≤ 40 := by
  have h1 : t.toList = [] := by simpa using h
  rw [← ba_len]
  have h2 : t.data.toList = [] := by rw [← ByteArray.toList_eq]; exact h1
  rw [h2]; decide
/-- what Right tells -/
def RightTo (v : Vl) (w : World) (e : Ending) (w' : World) : Prop := ∃ b, e = .returned (.bool b) ∧ (b = true → Sm v) ∧ Below w.heap.size w w'
set_option maxRecDepth 100000 in
set_option maxHeartbeats 4000000 in
theorem right_any (v : Vl) (w : World) (hs : v.t.size ≤ maxLen) : Calls Tryz.prog 11 #[vv v] w fun e w' => RightTo v w e w' := by
  obtain ⟨W, hW⟩ : ∃ W, w.alloc (.cells #[.int .i64 v.k, .int .i64 v.n, .string v.t] 39) = W := ⟨_, rfl⟩
  have hbW : Below w.heap.size w W := by rw [← hW]; exact (Below.refl _ _).alloc (Nat.le_refl _) _
  have hk0W : Blk (w.heap.size) v.cells 39 W := by
      have hq := Blk.new w v.cells 39
      rw [← hW]
      exact hq
  have G0 : Hid (Blk (w.heap.size) v.cells 39 W ∧ Below w.heap.size w W) := ⟨hk0W, hbW⟩
  clear hbW
  obtain ⟨a0, a1, a2, af⟩ := hk0W.vc
  have HS : Hid (v.t.size ≤ maxLen) := hs
  clear hk0W hs
  unfold vv
  obtain ⟨q1, hq1⟩ : ∃ q, (v.n == 0) = q := ⟨_, rfl⟩
  obtain ⟨q2, hq2⟩ : ∃ q, (v.t.toList == []) = q := ⟨_, rfl⟩
  have HQ : Hid (q2 = true → Sm v) := fun h => empty_sm (hq2.trans h)
  by_cases h0 : v.k = 0
  · have e0 : (v.k == 0) = true := by simp [h0]
    clear h0
    cases q1 <;> cases q2
    all_goals
      go_enter Tryz.func11, Tryz.ntmps11
      go_wp2
      go_ret
    · exact ⟨_, rfl, fun h => (by cases h), G0.out.2⟩
    · exact ⟨_, rfl, fun h => (by cases h), G0.out.2⟩
    · exact ⟨_, rfl, fun h => (by cases h), G0.out.2⟩
    · exact ⟨_, rfl, fun _ => HQ.out trivial, G0.out.2⟩
  by_cases h1 : v.k = 1
  · have e0 : (v.k == 0) = false := by simp [h0]
    have e1 : (v.k == 1) = true := by simp [h1]
    clear h0 h1
    cases q2
    all_goals
      go_enter Tryz.func11, Tryz.ntmps11
      go_wp2
      go_ret
    · exact ⟨_, rfl, fun h => (by cases h), G0.out.2⟩
    · exact ⟨_, rfl, fun _ => HQ.out trivial, G0.out.2⟩
  by_cases h2 : v.k = 2
  · have e0 : (v.k == 0) = false := by simp [h0]
    have e1 : (v.k == 1) = false := by simp [h1]
    have e2 : (v.k == 2) = true := by simp [h2]
    clear hq2 h0 h1 h2
    cases q1
    · go_enter Tryz.func11, Tryz.ntmps11
      go_wp2
      go_ret
      exact ⟨_, rfl, fun h => (by cases h), G0.out.2⟩
    · go_enter Tryz.func11, Tryz.ntmps11
      go_wp2_with fail
      refine (rightText_sm v.t HS.out W).mono ?_
      rintro _ _ ⟨b, rfl, hb, rfl⟩
      have HB : Hid (b = true → v.t.size ≤ 40) := hb
      clear hb
      go_wp2
      go_ret
      exact ⟨_, rfl, HB.out, G0.out.2⟩
  · have e0 : (v.k == 0) = false := by simp [h0]
    have e1 : (v.k == 1) = false := by simp [h1]
    have e2 : (v.k == 2) = false := by simp [h2]
    clear hq1 hq2 h0 h1 h2
    go_enter Tryz.func11, Tryz.ntmps11
    go_wp2
    go_ret
    exact ⟨_, rfl, fun h => (by cases h), G0.out.2⟩
end Go.Proofs.YtbdcbaamjkjhaaaGreatDoor
namespace Go.Proofs.YtbdcbaamjkjhaaaGreatDoor
open Go.RowKit

/-- a tree that was built -/
def BuiltTo (x : Ex) (w : World) (e : Ending) (w' : World) : Prop := ∃ q, e = .returned (.pointer q) ∧ ExAt w' q x ∧ Below w.heap.size w w'
/-- what the law's closures look at -/
structure SW (ba bb bc bf be : Nat) (a b c : Vl) (w : World) : Prop where
  ev : EnvW ba bb bc bf a b c w
  ke : Blk be #[.func (.func 33) #[] #[.pointer (some ⟨ba, 0, none⟩), .pointer (some ⟨bb, 0, none⟩), .pointer (some ⟨bc, 0, none⟩)], .func (.func 34) #[] #[.pointer (some ⟨bf, 0, none⟩)]] 45 w
  hg : HG w
theorem SW.below {ba bb bc bf be : Nat} {a b c : Vl} {w w' : World} (h : SW ba bb bc bf be a b c w) (hb : Below w.heap.size w w') : SW ba bb bc bf be a b c w' :=
  ⟨h.ev.below hb, h.ke.below hb, h.hg.below hb (by have := h.ev.lo; omega)⟩
theorem SW.env {ba bb bc bf be : Nat} {a b c : Vl} {w : World} (h : SW ba bb bc bf be a b c w) : w.cell? ⟨be, 0, none⟩ = some (.func (.func 33) #[] #[.pointer (some ⟨ba, 0, none⟩), .pointer (some ⟨bb, 0, none⟩), .pointer (some ⟨bc, 0, none⟩)]) ∧ w.cell? ⟨be, 1, none⟩ = some (.func (.func 34) #[] #[.pointer (some ⟨bf, 0, none⟩)]) := ⟨by rw [h.ke.cell 0]; rfl, by rw [h.ke.cell 1]; rfl⟩
/-- what columns have is small -/
structure Sms (a b c : Vl) : Prop where
  a : Sm a
  b : Sm b
  c : Sm c
def numOf : Except Int Vl → Int
  | .ok _ => 0
  | .error n => n
theorem tell_any (r : Except Int Vl) (w : World) (hg : HG w) : Calls Tryz.prog 18 #[errOf r] w fun e w' => e = .returned (.int .i64 (numOf r)) ∧ Below w.heap.size w w' := by
  cases r with
  | ok v => exact (tell_nil w).mono fun e w' ⟨h1, h2⟩ => ⟨h1, by rw [h2]; exact Below.refl _ _⟩
  | error n => exact tell_hit n w hg
theorem ok_of {R : Except Int Vl} (h : errOf R = .nilIface) : R = .ok (valOf R) := by
  cases R with
  | ok v => rfl
  | error n => cases h
theorem exAt_cases {w : World} {p : Option Addr} {X : Ex} (h : ExAt w p X) : p = none ∨ ∃ B, p = some ⟨B, 0, none⟩ := by
  cases X with
  | nil => exact Or.inl h
  | node c v nm l r => obtain ⟨B, _, _, e, _⟩ := h; exact Or.inr ⟨B, e⟩
end Go.Proofs.YtbdcbaamjkjhaaaGreatDoor
