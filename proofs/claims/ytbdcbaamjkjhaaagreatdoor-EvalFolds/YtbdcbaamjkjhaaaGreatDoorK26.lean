/- Part 26 of 29. -/
import Derived.Test.YtbdcbaamjkjhaaaGreatDoorK25
namespace Go.Proofs.YtbdcbaamjkjhaaaGreatDoor
open Go.RowKit

set_option maxRecDepth 100000 in
set_option maxHeartbeats 40000000 in
theorem evalFolds_any (s : ByteArray) (a b c : Vl) (w : World) (h : LAt w) (hs : s.size ≤ maxLen) (ha : a.t.size ≤ maxLen) (hb' : b.t.size ≤ maxLen) (hc : c.t.size ≤ maxLen) : Calls Tryz.prog 5 #[.string s, vv a, vv b, vv c] w fun e w' => e = .returned (.bool true) ∧ Below w.heap.size w w' := by
  obtain ⟨W, hW⟩ : ∃ W, ((w.alloc (.cells #[.int .i64 a.k, .int .i64 a.n, .string a.t] 39)).alloc (.cells #[.int .i64 b.k, .int .i64 b.n, .string b.t] 39)).alloc (.cells #[.int .i64 c.k, .int .i64 c.n, .string c.t] 39) = W := ⟨_, rfl⟩
  have hbW : Below w.heap.size w W := by rw [← hW]; exact (((Below.refl _ _).alloc (Nat.le_refl _) _).alloc (by simp only [World.size_alloc]; omega) _).alloc (by simp only [World.size_alloc]; omega) _
  have hk0W : Blk (w.heap.size) a.cells 39 W := by
      have hq := Blk.new w a.cells 39
      rw [← hW]
      exact hq.below (((Below.refl _ _).alloc (Nat.le_refl _) _).alloc (by simp only [World.size_alloc]; omega) _)
  have hk1W : Blk (w.heap.size + 1) b.cells 39 W := by
      have hq := Blk.new (w.alloc (.cells a.cells 39)) b.cells 39
      simp only [World.size_alloc] at hq
      rw [← hW]
      exact hq.below ((Below.refl _ _).alloc (Nat.le_refl _) _)
  have hk2W : Blk (w.heap.size + 2) c.cells 39 W := by
      have hq := Blk.new ((w.alloc (.cells a.cells 39)).alloc (.cells b.cells 39)) c.cells 39
      simp only [World.size_alloc, Nat.add_assoc, Nat.reduceAdd] at hq
      rw [← hW]
      exact hq
  have G0 : Hid (Blk (w.heap.size) a.cells 39 W ∧ Blk (w.heap.size + 1) b.cells 39 W ∧ Blk (w.heap.size + 2) c.cells 39 W ∧ Below w.heap.size w W) := ⟨hk0W, hk1W, hk2W, hbW⟩
  clear hbW
  have HS : Hid (s.size ≤ maxLen ∧ a.t.size ≤ maxLen ∧ b.t.size ≤ maxLen ∧ c.t.size ≤ maxLen) := ⟨hs, ha, hb', hc⟩
  have G1 : Hid (T0 a b c w W) := ⟨hk0W, hk1W, hk2W, h.below G0.out.2.2.2, G0.out.2.2.2⟩
  clear hk0W hk1W hk2W h hs ha hb' hc G0
  show Calls _ _ #[_, .agg #[.int .i64 a.k, .int .i64 a.n, .string a.t], .agg #[.int .i64 b.k, .int .i64 b.n, .string b.t], .agg #[.int .i64 c.k, .int .i64 c.n, .string c.t]] _ _
  go_enter Tryz.func5, Tryz.ntmps5
  go_wp2_with fail
  refine (known_any W G1.out.l).mono ?_
  rintro _ w1 ⟨rfl, hb⟩
  have G2 : Hid (T0 a b c w w1) := G1.out.below hb
  obtain ⟨a0, a1, a2, af⟩ := G2.out.ka.vc
  clear hb G1 hW
  go_wp2_with fail
  refine (right_any a w1 HS.out.2.1).mono ?_
  rintro _ w2 ⟨r1, rfl, hr1, hb⟩
  have G3 : Hid (T0 a b c w w2) := G2.out.below hb
  have Ra : Hid (r1 = true → Sm a) := hr1
  clear hb hr1 a0 a1 a2 af
  cases r1
  · clear Ra
    go_wp2
    go_ret
    exact ⟨rfl, G3.out.be⟩
  have Sa : Hid (Sm a) := Ra.out rfl
  clear Ra
  obtain ⟨b0, b1, b2, bf⟩ := G3.out.kb.vc
  go_wp2_with fail
  refine (right_any b w2 HS.out.2.2.1).mono ?_
  rintro _ w3 ⟨r1, rfl, hr1, hb⟩
  have G4 : Hid (T0 a b c w w3) := G3.out.below hb
  have Rb : Hid (r1 = true → Sm b) := hr1
  clear hb hr1 b0 b1 b2 bf
  cases r1
  · clear Rb
    go_wp2
    go_ret
    exact ⟨rfl, G4.out.be⟩
  have Sb : Hid (Sm b) := Rb.out rfl
  clear Rb
  obtain ⟨c0, c1, c2, cf⟩ := G4.out.kc.vc
  go_wp2_with fail
  refine (right_any c w3 HS.out.2.2.2).mono ?_
  rintro _ w4 ⟨r1, rfl, hr1, hb⟩
  have G5 : Hid (T0 a b c w w4) := G4.out.below hb
  have Rc : Hid (r1 = true → Sm c) := hr1
  clear hb hr1 c0 c1 c2 cf
  cases r1
  · clear Rc
    go_wp2
    go_ret
    exact ⟨rfl, G5.out.be⟩
  have Sc : Hid (Sm c) := Rc.out rfl
  clear Rc
  have HM : Hid (Sms a b c) := ⟨Sa.out, Sb.out, Sc.out⟩
  clear Sa Sb Sc
  obtain ⟨X, hX0⟩ : ∃ X, condF s = X := ⟨_, rfl⟩
  have TX : Hid (XK X ∧ condF s = X) := ⟨hX0 ▸ XK.of s, hX0⟩
  clear hX0
  go_wp2_with fail
  have h8 := cond_any s w4 G5.out.l.b HS.out.1
  rw [TX.out.2] at h8
  refine h8.mono ?_
  clear h8
  rintro _ w5 ⟨p, rfl, hx, hb⟩
  have G6 : Hid (FW a b c p X w w5) := ⟨G5.out.below hb, hx⟩
  clear hb hx G2 G3 G4 G5
  rcases exAt_cases G6.out.hx with rfl | ⟨B1, rfl⟩
  · go_wp2
    go_ret
    exact ⟨rfl, G6.out.t.be⟩
  obtain ⟨Y, hY⟩ : ∃ Y, foldF X = Y := ⟨_, rfl⟩
  obtain ⟨R, hR⟩ : ∃ R, evF a b c X = R := ⟨_, rfl⟩
  have TY : Hid (XK Y ∧ foldF X = Y ∧ foldF Y = Y ∧ evF a b c X = R ∧ evF a b c Y = R ∧ colsF Y = colsF X) := ⟨hY ▸ TX.out.1.fold, hY, by rw [← hY]; exact fold_idem X, hR, by rw [← hY, ev_fold]; exact hR, by rw [← hY]; exact cols_fold TX.out.1.ba⟩
  clear hY hR
  go_wp2_with fail
  have h8 := fold_all X TX.out.1.sm TX.out.1.nm _ w5 G6.out.t.l.envN G6.out.hx
  rw [TY.out.2.1] at h8
  refine h8.mono ?_
  clear h8
  rintro _ w6 ⟨q, rfl, hy, hb⟩
  have G7 : Hid (FW a b c (some ⟨B1, 0, none⟩) X w w6 ∧ ExAt w6 q Y) := ⟨G6.out.below hb, hy⟩
  clear hb hy G6
  obtain ⟨a0, a1, a2, af⟩ := G7.out.1.t.ka.vc
  obtain ⟨b0, b1, b2, bf⟩ := G7.out.1.t.kb.vc
  obtain ⟨c0, c1, c2, cf⟩ := G7.out.1.t.kc.vc
  go_wp2_with fail
  refine (env_any a b c w6 G7.out.1.t.l.ask G7.out.1.t.l.b.g.lo).mono ?_
  rintro _ w7 ⟨rfl, hE, hb⟩
  have G8 : Hid (FW a b c (some ⟨B1, 0, none⟩) X w w7 ∧ ExAt w7 q Y ∧ EnvW (w6.heap.size) (w6.heap.size + 1) (w6.heap.size + 1 + 1) (w6.heap.size + 4) a b c w7) := ⟨G7.out.1.below hb, G7.out.2.below hb, hE⟩
  clear a0 a1 a2 af b0 b1 b2 bf c0 c1 c2 cf hb hE G7
  go_wp2_with fail
  have h8 := evl_at G8.out.2.2 HM.out TX.out.1.sm G8.out.1.hx
  rw [TY.out.2.2.2.1, tup_eq] at h8
  refine h8.mono ?_
  clear h8
  rintro _ w8 ⟨rfl, hb⟩
  obtain ⟨v, hv⟩ : ∃ v, valOf R = v := ⟨_, rfl⟩
  obtain ⟨er, her⟩ : ∃ v, errOf R = v := ⟨_, rfl⟩
  have HA : Hid (valOf R = v ∧ errOf R = er) := ⟨hv, her⟩
  rw [hv, her]
  clear hv her
  obtain ⟨V2, hV2⟩ : ∃ V, w8.alloc (.cells #[.int .i64 v.k, .int .i64 v.n, .string v.t] 39) = V := ⟨_, rfl⟩
  have hbV : Below w8.heap.size w8 V2 := by rw [← hV2]; exact (Below.refl _ _).alloc (Nat.le_refl _) _
  have hkV : Blk w8.heap.size v.cells 39 V2 := by rw [← hV2]; exact Blk.new _ _ _
  have G9 : Hid (FW a b c (some ⟨B1, 0, none⟩) X w V2 ∧ ExAt V2 q Y ∧ Blk w8.heap.size v.cells 39 V2) := ⟨(G8.out.1.below hb).below hbV, (G8.out.2.1.below hb).below hbV, hkV⟩
  clear hb hbV hkV G8
  obtain ⟨a0, a1, a2, af⟩ := G9.out.1.t.ka.vc
  obtain ⟨b0, b1, b2, bf⟩ := G9.out.1.t.kb.vc
  obtain ⟨c0, c1, c2, cf⟩ := G9.out.1.t.kc.vc
  unfold vv
  go_wp2_with fail
  refine (env_any a b c V2 G9.out.1.t.l.ask G9.out.1.t.l.b.g.lo).mono ?_
  clear hV2
  rintro _ w9 ⟨rfl, hE, hb⟩
  have H1 : Hid (FW a b c (some ⟨B1, 0, none⟩) X w w9 ∧ ExAt w9 q Y ∧ Blk w8.heap.size v.cells 39 w9 ∧ EnvW (V2.heap.size) (V2.heap.size + 1) (V2.heap.size + 1 + 1) (V2.heap.size + 4) a b c w9) := ⟨G9.out.1.below hb, G9.out.2.1.below hb, G9.out.2.2.below hb, hE⟩
  clear a0 a1 a2 af b0 b1 b2 bf c0 c1 c2 cf hb hE G9
  go_wp2_with fail
  have h8 := evl_at H1.out.2.2.2 HM.out TY.out.1.sm H1.out.2.1
  rw [TY.out.2.2.2.2.1, tup_eq, HA.out.1, HA.out.2] at h8
  refine h8.mono ?_
  clear h8
  rintro _ w10 ⟨rfl, hb⟩
  obtain ⟨V3, hV3⟩ : ∃ V, w10.alloc (.cells #[.int .i64 v.k, .int .i64 v.n, .string v.t] 39) = V := ⟨_, rfl⟩
  have hbV : Below w10.heap.size w10 V3 := by rw [← hV3]; exact (Below.refl _ _).alloc (Nat.le_refl _) _
  have hkV : Blk w10.heap.size v.cells 39 V3 := by rw [← hV3]; exact Blk.new _ _ _
  have H2 : Hid (FW a b c (some ⟨B1, 0, none⟩) X w V3 ∧ ExAt V3 q Y ∧ Blk w8.heap.size v.cells 39 V3 ∧ Blk w10.heap.size v.cells 39 V3) := ⟨(H1.out.1.below hb).below hbV, (H1.out.2.1.below hb).below hbV, (H1.out.2.2.1.below hb).below hbV, hkV⟩
  clear hb hbV hkV H1
  obtain ⟨v0, v1, v2, vf⟩ := H2.out.2.2.1.vc
  obtain ⟨u0, u1, u2, uf⟩ := H2.out.2.2.2.vc
  unfold vv
  have s1 := stoodV
  have s2 := guardV
  obtain ⟨m, hm⟩ : ∃ m : Int, numOf R = m := ⟨_, rfl⟩
  have HN : Hid (numOf R = m) := hm
  clear hm
  go_wp2_with fail
  have h8 := tell_any R V3 H2.out.1.t.l.hg
  rw [HA.out.2, HN.out] at h8
  refine h8.mono ?_
  clear h8 hV3 v0 v1 v2 vf u0 u1 u2 uf
  rintro _ w11 ⟨rfl, hb⟩
  have H3 : Hid (FW a b c (some ⟨B1, 0, none⟩) X w w11 ∧ ExAt w11 q Y ∧ Blk w8.heap.size v.cells 39 w11) := ⟨H2.out.1.below hb, H2.out.2.1.below hb, H2.out.2.2.1.below hb⟩
  clear hb H2
  go_wp2_with fail
  have h8 := tell_any R w11 H3.out.1.t.l.hg
  rw [HA.out.2, HN.out] at h8
  refine h8.mono ?_
  clear h8
  rintro _ w12 ⟨rfl, hb⟩
  have H4 : Hid (FW a b c (some ⟨B1, 0, none⟩) X w w12 ∧ ExAt w12 q Y ∧ Blk w8.heap.size v.cells 39 w12) := ⟨H3.out.1.below hb, H3.out.2.1.below hb, H3.out.2.2.below hb⟩
  have dm : (m != m) = false := by simp
  clear hb H3
  go_wp2_with fail
  have h8 := fold_all Y TY.out.1.sm TY.out.1.nm _ w12 H4.out.1.t.l.envN H4.out.2.1
  rw [TY.out.2.2.1] at h8
  refine h8.mono ?_
  clear h8
  rintro _ w13 ⟨q2, rfl, hy, hb⟩
  have H5 : Hid (FW a b c (some ⟨B1, 0, none⟩) X w w13 ∧ ExAt w13 q Y ∧ Blk w8.heap.size v.cells 39 w13 ∧ ExAt w13 q2 Y) := ⟨H4.out.1.below hb, H4.out.2.1.below hb, H4.out.2.2.below hb, hy⟩
  clear hb hy H4
  go_wp2_with fail
  refine (sameExpr_any Y w13 q2 q H5.out.2.2.2 H5.out.2.1).mono ?_
  rintro _ w14 ⟨rfl, mm, rfl⟩
  obtain ⟨w14, hw14⟩ : ∃ w14, w13.drewN mm = w14 := ⟨_, rfl⟩
  rw [hw14]
  have H6 : Hid (FW a b c (some ⟨B1, 0, none⟩) X w w14 ∧ ExAt w14 q Y ∧ Blk w8.heap.size v.cells 39 w14) := by
    have hb : Below w13.heap.size w13 w14 := by rw [← hw14]; exact below_drewN (Below.refl _ _) mm
    exact ⟨H5.out.1.below hb, H5.out.2.1.below hb, H5.out.2.2.1.below hb⟩
  clear hw14 H5
  obtain ⟨L, hL⟩ : ∃ L, colsF X = L := ⟨_, rfl⟩
  have HL : Hid (colsF X = L ∧ colsF Y = L ∧ L.length ≤ 100000) := ⟨hL, TY.out.2.2.2.2.2.trans hL, hL ▸ TX.out.1.le⟩
  clear hL
  go_wp2_with fail
  refine (columns_any Y _ w14 H6.out.2.1 TY.out.1.nm TY.out.1.le).mono ?_
  rintro _ w15 h15
  obtain ⟨_, rfl, ⟨r1, c1, rfl, hr⟩, hb⟩ := h15.row TY.out.1.le
  rw [HL.out.2.1] at hr ⊢
  have H7 : Hid (FW a b c (some ⟨B1, 0, none⟩) X w w15 ∧ Blk w8.heap.size v.cells 39 w15 ∧ RowS w15 r1 L.length L) := ⟨H6.out.1.below hb, H6.out.2.2.below hb, hr⟩
  clear hb hr h15 H6
  go_wp2_with fail
  refine (columns_any X _ w15 H7.out.1.hx TX.out.1.nm TX.out.1.le).mono ?_
  rintro _ w16 h16
  obtain ⟨_, rfl, ⟨r2, c2, rfl, hr⟩, hb⟩ := h16.row TX.out.1.le
  rw [HL.out.1] at hr ⊢
  have H8 : Hid (FW a b c (some ⟨B1, 0, none⟩) X w w16 ∧ Blk w8.heap.size v.cells 39 w16 ∧ RowS w16 r1 L.length L ∧ RowS w16 r2 L.length L) := ⟨H7.out.1.below hb, H7.out.2.1.below hb, H7.out.2.2.below hb, hr⟩
  clear hb hr h16 H7
  go_wp2_with fail
  refine (ksame_any r1 r2 L.length L.length c1 c2 L w16 H8.out.2.2.1 H8.out.2.2.2).mono ?_
  rintro _ w17 ⟨rfl, mm2, rfl⟩
  obtain ⟨w17, hw17⟩ : ∃ w17, w16.drewN mm2 = w17 := ⟨_, rfl⟩
  rw [hw17]
  have H9 : Hid (FW a b c (some ⟨B1, 0, none⟩) X w w17 ∧ Blk w8.heap.size v.cells 39 w17) := by
    have hb : Below w16.heap.size w16 w17 := by rw [← hw17]; exact below_drewN (Below.refl _ _) mm2
    exact ⟨H8.out.1.below hb, H8.out.2.1.below hb⟩
  clear hw17 H8
  go_wp2_with fail
  refine (columns_any X _ w17 H9.out.1.hx TX.out.1.nm TX.out.1.le).mono ?_
  rintro _ w18 h18
  obtain ⟨_, rfl, ⟨r3, c3, rfl, hr⟩, hb⟩ := h18.row TX.out.1.le
  rw [HL.out.1] at hr ⊢
  have I1 : Hid (FW a b c (some ⟨B1, 0, none⟩) X w w18 ∧ Blk w8.heap.size v.cells 39 w18 ∧ RowS w18 r3 L.length L) := ⟨H9.out.1.below hb, H9.out.2.below hb, hr⟩
  clear hb hr h18 H9
  go_wp2_with fail
  go_loopw [16, 17] (fun us i wr => ∃ k : Nat, k ≤ L.length ∧ i = .int .i64 k ∧ us = .bool (useK L k) ∧ Hid (FW a b c (some ⟨B1, 0, none⟩) X w wr ∧ Blk w8.heap.size v.cells 39 wr ∧ RowS wr r3 L.length L)) (fun _ i _ => L.length - (intOf i).toNat)
  case atStart => exact ⟨0, Nat.zero_le _, rfl, rfl, I1⟩
  case round =>
    clear I1
    obtain ⟨k, hk, rfl, rfl, I1⟩ := hrel
    obtain ⟨wo, rfl⟩ : ∃ wo, wo = wr := ⟨_, rfl⟩
    by_cases hlt : k < L.length
    · obtain ⟨_, _, hx | ⟨b, off, rfl, hb, hrow⟩⟩ := I1.out.2.2
      · rw [hx] at hlt; exact absurd hlt (Nat.not_lt_zero _)
      have g1 := hrow k hlt
      have i1 : (k : Int) < (L.length : Int) := by omega
      have HU : Hid (useK L (k + 1) = (useK L k || (L[k].toList == [97]))) := useK_succ L k hlt
      obtain ⟨x, hx⟩ : ∃ x, L[k] = x := ⟨_, rfl⟩
      rw [hx] at g1 HU
      obtain ⟨uk, huk⟩ : ∃ u, useK L k = u := ⟨_, rfl⟩
      rw [huk] at HU ⊢
      clear hrow hx huk
      cases uk
      all_goals
        go_wp2
        go_roundw
        case rel => exact ⟨k + 1, by omega, by go_num, by rw [HU.out]; simp, I1⟩
        case measure => simp [intOf]; omega
    · obtain rfl : k = L.length := by omega
      obtain ⟨uk, huk⟩ : ∃ u, useK L L.length = u := ⟨_, rfl⟩
      have HU : Hid (useK L L.length = uk) := huk
      rw [huk]
      clear huk
      cases uk
      rotate_left
      · go_wp2
        go_ret
        exact ⟨rfl, I1.out.1.t.be⟩
      have HF : Hid (evF (numV 77) b c X = R) := by
        show _ = _
        rw [← TY.out.2.2.2.1]
        exact ev_free (by rw [HL.out.1]; exact useK_all L HU.out)
      have HM7 : Hid (Sms (numV 77) b c) := ⟨numV_sm 77, HM.out.b, HM.out.c⟩
      clear HU hlt hk
      have HQ : Hid (∀ wx, Below wo.heap.size wo wx → FW a b c (some ⟨B1, 0, none⟩) X w wx ∧ Blk w8.heap.size v.cells 39 wx) := fun wx h => ⟨I1.out.1.below h, I1.out.2.1.below h⟩
      go_upto_region 21 with fail
      go_cut [18, 19] (fun uu ee wc => ∃ bu : Nat, uu = .pointer (some ⟨bu, 0, none⟩) ∧ ee = er ∧ Hid (FW a b c (some ⟨B1, 0, none⟩) X w wc ∧ Blk w8.heap.size v.cells 39 wc ∧ Blk bu v.cells 39 wc))
      case first =>
        have HK : Hid (∀ wx, Below wo.heap.size wo wx → wx.cell? ⟨w.heap.size + 1, 0, none⟩ = some (.int .i64 b.k) ∧ wx.cell? ⟨w.heap.size + 1, 1, none⟩ = some (.int .i64 b.n) ∧ wx.cell? ⟨w.heap.size + 1, 2, none⟩ = some (.string b.t) ∧ wx.cell? ⟨w.heap.size + 2, 0, none⟩ = some (.int .i64 c.k) ∧ wx.cell? ⟨w.heap.size + 2, 1, none⟩ = some (.int .i64 c.n) ∧ wx.cell? ⟨w.heap.size + 2, 2, none⟩ = some (.string c.t)) := fun wx h => by
          obtain ⟨b0, b1, b2, _⟩ := (HQ.out wx h).1.t.kb.vc
          obtain ⟨c0, c1, c2, _⟩ := (HQ.out wx h).1.t.kc.vc
          exact ⟨b0, b1, b2, c0, c1, c2⟩
        have HD : Hid (Below wo.heap.size wo wo.drew) := (Below.refl _ _).drew
        have HB : Hid (Below wo.heap.size wo (wo.alloc (.cells #[.int .i64 0, .int .i64 0, .string ⟨#[]⟩] 39)).drew ∧ Blk wo.heap.size Vl.none.cells 39 (wo.alloc (.cells #[.int .i64 0, .int .i64 0, .string ⟨#[]⟩] 39)).drew) := ⟨((Below.refl _ _).alloc (Nat.le_refl _) _).drew, (Blk.new wo Vl.none.cells 39).below ((Below.refl _ _).drew)⟩
        clear I1
        go_region_held3 (fun wx => wx.cell? ⟨w.heap.size + 1, 0, none⟩ = some (.int .i64 b.k) ∧ wx.cell? ⟨w.heap.size + 1, 1, none⟩ = some (.int .i64 b.n) ∧ wx.cell? ⟨w.heap.size + 1, 2, none⟩ = some (.string b.t) ∧ wx.cell? ⟨w.heap.size + 2, 0, none⟩ = some (.int .i64 c.k) ∧ wx.cell? ⟨w.heap.size + 2, 1, none⟩ = some (.int .i64 c.n) ∧ wx.cell? ⟨w.heap.size + 2, 2, none⟩ = some (.string c.t)) (first | exact HK.out _ HZ.out | exact HK.out _ HBx.out | exact HK.out _ (HBx.out.alloc HBx.out.size _) | exact HK.out _ HD.out | exact HK.out _ HB.out.1) (first
          | (go_at_call 24; refine Calls.mono (knumber_any 77 _) ?_; rintro _ w19 ⟨rfl, hb⟩; simp only [vv, numV]; first
            | (have HBx : Hid (Below wo.heap.size wo w19) := HB.out.1.trans (hb.mono HB.out.1.size); have HU : Hid (Blk wo.heap.size Vl.none.cells 39 w19 ∧ wo.heap.size ≤ wo.heap.size) := ⟨HB.out.2.below hb, Nat.le_refl _⟩; clear hb)
            | (have HBx : Hid (Below wo.heap.size wo w19) := HD.out.trans (hb.mono HD.out.size); clear hb))
          | (go_at_call 13; refine Calls.mono (env_some (numV 77) b c _ (HQ.out _ (by first | exact HBx.out | exact HBx.out.alloc HBx.out.size _)).1.t.l) ?_; rintro _ w20 ⟨ba, bb, bc, bf, rfl, hE, hb⟩; first
            | (have HU : Hid (Blk w19.heap.size Vl.none.cells 39 w20 ∧ wo.heap.size ≤ w19.heap.size) := ⟨(Blk.new w19 Vl.none.cells 39).below hb, HBx.out.size⟩; have HBx : Hid (Below wo.heap.size wo w20) := (HBx.out.alloc HBx.out.size _).trans (hb.mono (HBx.out.alloc HBx.out.size _).size); have HEv : Hid (∀ wx, Below w20.heap.size w20 wx → Calls Tryz.prog 17 #[.pointer (some ⟨B1, 0, none⟩), .agg #[.func (.func 33) #[] #[.pointer (some ⟨ba, 0, none⟩), .pointer (some ⟨bb, 0, none⟩), .pointer (some ⟨bc, 0, none⟩)], .func (.func 34) #[] #[.pointer (some ⟨bf, 0, none⟩)]]] wx fun r w' => r = .returned (.tuple #[vv v, er]) ∧ Below wx.heap.size wx w') := fun wx h => (by have h8 := evl_at (hE.below h) HM7.out TX.out.1.sm (HQ.out wx (HBx.out.trans (h.mono HBx.out.size))).1.hx; rw [HF.out, tup_eq, HA.out.1, HA.out.2] at h8; exact h8); clear hb hE)
            | (have HBx : Hid (Below wo.heap.size wo w20) := HBx.out.trans (hb.mono HBx.out.size); have HU : Hid (Blk wo.heap.size Vl.none.cells 39 w20 ∧ wo.heap.size ≤ wo.heap.size) := ⟨HU.out.1.below hb, HU.out.2⟩; have HEv : Hid (∀ wx, Below w20.heap.size w20 wx → Calls Tryz.prog 17 #[.pointer (some ⟨B1, 0, none⟩), .agg #[.func (.func 33) #[] #[.pointer (some ⟨ba, 0, none⟩), .pointer (some ⟨bb, 0, none⟩), .pointer (some ⟨bc, 0, none⟩)], .func (.func 34) #[] #[.pointer (some ⟨bf, 0, none⟩)]]] wx fun r w' => r = .returned (.tuple #[vv v, er]) ∧ Below wx.heap.size wx w') := fun wx h => (by have h8 := evl_at (hE.below h) HM7.out TX.out.1.sm (HQ.out wx (HBx.out.trans (h.mono HBx.out.size))).1.hx; rw [HF.out, tup_eq, HA.out.1, HA.out.2] at h8; exact h8); clear hb hE)
            | (have HBx : Hid (Below wo.heap.size wo w20) := HBx.out.trans (hb.mono HBx.out.size); have HEv : Hid (∀ wx, Below w20.heap.size w20 wx → Calls Tryz.prog 17 #[.pointer (some ⟨B1, 0, none⟩), .agg #[.func (.func 33) #[] #[.pointer (some ⟨ba, 0, none⟩), .pointer (some ⟨bb, 0, none⟩), .pointer (some ⟨bc, 0, none⟩)], .func (.func 34) #[] #[.pointer (some ⟨bf, 0, none⟩)]]] wx fun r w' => r = .returned (.tuple #[vv v, er]) ∧ Below wx.heap.size wx w') := fun wx h => (by have h8 := evl_at (hE.below h) HM7.out TX.out.1.sm (HQ.out wx (HBx.out.trans (h.mono HBx.out.size))).1.hx; rw [HF.out, tup_eq, HA.out.1, HA.out.2] at h8; exact h8); clear hb hE))
          | (go_at_call 17; refine Calls.mono (HEv.out _ (by first | exact Below.refl _ _ | exact (Below.refl _ _).alloc (Nat.le_refl _) _)) ?_; rintro _ w21 ⟨rfl, hb⟩; first
            | (have hk : Blk w20.heap.size Vl.none.cells 39 w21 := (Blk.new w20 Vl.none.cells 39).below hb; have hle : wo.heap.size ≤ w20.heap.size := HBx.out.size; have HBx : Hid (Below wo.heap.size wo w21) := (HBx.out.alloc HBx.out.size _).trans (hb.mono (HBx.out.alloc HBx.out.size _).size); obtain ⟨k0, k1, k2, kf⟩ := hk.vc; have HZ : Hid (Below wo.heap.size wo (put39 w21 w20.heap.size v)) := put39_below v HBx.out hle; have GY : Hid (FW a b c (some ⟨B1, 0, none⟩) X w (put39 w21 w20.heap.size v) ∧ Blk w8.heap.size v.cells 39 (put39 w21 w20.heap.size v) ∧ Blk w20.heap.size v.cells 39 (put39 w21 w20.heap.size v)) := ⟨(HQ.out _ HZ.out).1, (HQ.out _ HZ.out).2, put39_blk v hk⟩; clear hb hk hle; unfold vv)
            | (have hk : Blk w19.heap.size Vl.none.cells 39 w21 := HU.out.1.below hb; have hle : wo.heap.size ≤ w19.heap.size := HU.out.2; have HBx : Hid (Below wo.heap.size wo w21) := HBx.out.trans (hb.mono HBx.out.size); obtain ⟨k0, k1, k2, kf⟩ := hk.vc; have HZ : Hid (Below wo.heap.size wo (put39 w21 w19.heap.size v)) := put39_below v HBx.out hle; have GY : Hid (FW a b c (some ⟨B1, 0, none⟩) X w (put39 w21 w19.heap.size v) ∧ Blk w8.heap.size v.cells 39 (put39 w21 w19.heap.size v) ∧ Blk w19.heap.size v.cells 39 (put39 w21 w19.heap.size v)) := ⟨(HQ.out _ HZ.out).1, (HQ.out _ HZ.out).2, put39_blk v hk⟩; clear hb hk hle; unfold vv)
            | (have hk : Blk wo.heap.size Vl.none.cells 39 w21 := HU.out.1.below hb; have hle : wo.heap.size ≤ wo.heap.size := HU.out.2; have HBx : Hid (Below wo.heap.size wo w21) := HBx.out.trans (hb.mono HBx.out.size); obtain ⟨k0, k1, k2, kf⟩ := hk.vc; have HZ : Hid (Below wo.heap.size wo (put39 w21 wo.heap.size v)) := put39_below v HBx.out hle; have GY : Hid (FW a b c (some ⟨B1, 0, none⟩) X w (put39 w21 wo.heap.size v) ∧ Blk w8.heap.size v.cells 39 (put39 w21 wo.heap.size v) ∧ Blk wo.heap.size v.cells 39 (put39 w21 wo.heap.size v)) := ⟨(HQ.out _ HZ.out).1, (HQ.out _ HZ.out).2, put39_blk v hk⟩; clear hb hk hle; unfold vv)
            | (have HBx : Hid (Below wo.heap.size wo w21) := HBx.out.trans (hb.mono HBx.out.size); obtain ⟨V, hV⟩ : ∃ V, w21.alloc (.cells #[.int .i64 v.k, .int .i64 v.n, .string v.t] 39) = V := ⟨_, rfl⟩; have hbV : Below w21.heap.size w21 V := (by rw [← hV]; exact (Below.refl _ _).alloc (Nat.le_refl _) _); have HZ : Hid (Below wo.heap.size wo V) := HBx.out.trans (hbV.mono HBx.out.size); have GY : Hid (FW a b c (some ⟨B1, 0, none⟩) X w V ∧ Blk w8.heap.size v.cells 39 V ∧ Blk w21.heap.size v.cells 39 V) := ⟨(HQ.out _ HZ.out).1, (HQ.out _ HZ.out).2, (by rw [← hV]; exact Blk.new _ _ _)⟩; clear hb hbV; unfold vv)))
        all_goals
          go_wp2_with fail
          go_meet
          case rel => exact ⟨_, rfl, rfl, GY⟩
      case rest =>
        obtain ⟨bu, rfl, rfl, GL⟩ := hcut
        obtain ⟨x1, hx1⟩ : ∃ u, u = wc := ⟨_, rfl⟩
        subst hx1
        clear I1 HQ
        obtain ⟨v0, v1, v2, vf⟩ := GL.out.2.1.vc
        obtain ⟨u0, u1, u2, uf⟩ := GL.out.2.2.vc
        have dm2 : (m == m) = true := by simp
        go_wp2_with fail
        have h8 := tell_any R x1 GL.out.1.t.l.hg
        rw [HA.out.2, HN.out] at h8
        refine h8.mono ?_
        clear h8 v0 v1 v2 vf u0 u1 u2 uf
        rintro _ x2 ⟨rfl, hb⟩
        have GM : Hid (FW a b c (some ⟨B1, 0, none⟩) X w x2) := GL.out.1.below hb
        clear hb GL
        go_wp2_with fail
        have h8 := tell_any R x2 GM.out.t.l.hg
        rw [HA.out.2, HN.out] at h8
        refine h8.mono ?_
        clear h8
        rintro _ x3 ⟨rfl, hb⟩
        have GN : Hid (Below w.heap.size w x3) := GM.out.t.be.trans (hb.mono GM.out.t.be.size)
        clear hb GM
        go_wp2
        go_ret
        exact ⟨rfl, GN.out⟩
end Go.Proofs.YtbdcbaamjkjhaaaGreatDoor
