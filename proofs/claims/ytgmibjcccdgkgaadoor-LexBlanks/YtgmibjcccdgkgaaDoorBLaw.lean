/- LexBlanks, walked: its first loop's round, and the whole. -/
import Derived.Test.YtgmibjcccdgkgaaDoorBSt
namespace Go.Proofs.YtgmibjcccdgkgaaDoor
open Go.RowKit

set_option maxRecDepth 100000 in
set_option maxHeartbeats 16000000 in
theorem blanks_short (s : ByteArray) (a1 : Option Addr) (c1 : Nat) (xs : List Int) (w : World) (h : s.size ≤ 600) (hx : xs.length ≤ 100) (hI : IntsAt w a1 xs) (hva : VarsAt w) : Calls Tryd.prog 4 #[.string s, .slice a1 xs.length c1] w fun e w' => e = .returned (.bool true) ∧ Below w.heap.size w w' := by
  obtain ⟨i3, hi3, hz0, hz1, hz2⟩ := info_parts info3
  have d1 : decide ((600 : Int) < (s.size : Int)) = false := decide_eq_false (by omega)
  have d2 : decide ((100 : Int) < (xs.length : Int)) = false := decide_eq_false (by omega)
  have HVa : Hid (VarsAt w) := hva
  have HI0 : Hid (IntsAt w a1 xs) := hI
  clear hva hI
  go_enter Tryd.func4, Tryd.ntmps4
  go_wp2_with fail
  refine (cutup_any split_any w HVa.out).mono ?_
  rintro _ w1 ⟨rfl, hb1⟩
  have HB1 : Hid (Below w.heap.size w w1) := hb1
  have HV1 : Hid (VarsAt w1) := HVa.out.below hb1
  clear hb1
  go_wp2_with fail
  refine (split_any s w1 (by omega) HV1.out).mono ?_
  rintro e w2 ⟨a, n, c, E, rfl, hcase, hb2⟩
  have HB2 : Hid (Below w.heap.size w w2) := HB1.out.trans (hb2.mono HB1.out.size)
  have HV2 : Hid (VarsAt w2) := HV1.out.below hb2
  clear hb2 HV1
  rcases hcase with ⟨k, p, hR, rfl, hE⟩ | ⟨L, hR, rfl, hrow, rfl⟩
  · rcases hE with ⟨_, _, hj⟩ | ⟨b, rfl, _, _⟩ | ⟨_, hj⟩
    · omega
    · clear hR
      go_wp2
      go_ret
      exact ⟨rfl, HB2.out⟩
    · omega
  · have HR : Hid (lexS s = .ok L) := hR
    have HRow : Hid (RowT w2 a L) := hrow
    have HI2 : Hid (IntsAt w2 a1 xs) := HI0.out.below HB2.out
    have hLb := lex_bounds hR
    have hL1 : L.length ≤ 201 := hLb.1
    have HLn : Hid (∀ x ∈ L, x.k = 1 → ∀ c ∈ x.t.data.toList, c.toNat < 128) := lex_names _ _ _ _ _ hR
    have HSz : Hid (∀ i (h : i < L.length), L[i].t.size ≤ 600) := fun i hi => by have := sum_at L i hi; omega
    have HPre : Hid (∀ i, (outL (gsN xs) (upN1 xs) 0 (L.take i)).length ≤ 2406) := pre_len2 hR h
    obtain ⟨B, hB⟩ : ∃ B, w2.heap.size = B := ⟨_, rfl⟩
    obtain ⟨W1, hW1⟩ : ∃ W, w2.alloc (.cells #[.pointer none, .slice none 0 0] 43) = W := ⟨_, rfl⟩
    have HS0 : Hid (St1 xs L B w2 0 (.slice none 0 0) W1) := by
      rw [← hW1, ← hB]
      refine ⟨?_, World.ownsRow_nil _ _ _ _, (Below.refl _ _).alloc (Nat.le_refl _) _⟩
      rw [List.take_zero]
      exact bis_new w2
    clear hR hrow HI0 HB1 hLb HVa
    go_wp2
    clear hW1
    go_loopw [8, 9] (fun v iv wr => ∃ i : Nat, i ≤ L.length ∧ iv = .int .i64 i ∧ Hid (St1 xs L B w2 i v wr)) (fun _ iv _ => L.length - (intOf iv).toNat)
    case atStart => exact ⟨0, Nat.zero_le _, rfl, HS0⟩
    case round =>
      clear HS0
      obtain ⟨i, hi, rfl, HS⟩ := hrel
      obtain ⟨wo, rfl⟩ : ∃ wo, wo = wr := ⟨_, rfl⟩
      obtain ⟨vo, rfl⟩ : ∃ vo, vo = u8 := ⟨_, rfl⟩
      obtain ⟨a4, n4, c4, rfl⟩ : ∃ a n c, vo = .slice a n c := by
        rcases HS.out.ats.2 with ⟨rfl, _⟩ | ⟨g, cap, cur, rfl, _⟩
        · exact ⟨none, 0, 0, rfl⟩
        · exact ⟨_, _, cap, rfl⟩
      obtain rfl : i = n4 := by
        rcases HS.out.ats.2 with ⟨e, h0⟩ | ⟨g, cap, cur, e, _⟩
        · cases e; exact h0
        · cases e; rfl
      by_cases hlt : i < L.length
      · skip
        as_aux_lemma =>
          have hlt' : (i : Int) < (L.length : Int) := by omega
          obtain ⟨k, hk⟩ : ∃ k, kf xs i = k := ⟨_, rfl⟩
          have hk4 : k < 4 := by rw [← hk]; exact kf_lt xs i
          have hk4' : (k : Int) < 4 := by omega
          have hk0' : (0 : Int) ≤ (k : Int) := by omega
          have HK : Hid (kf xs i = k) := hk
          obtain ⟨gb, hgb⟩ : ∃ gb : ByteArray, gb = ⟨(gapN k).toArray⟩ := ⟨_, rfl⟩
          have HGb : Hid (gb.data.toList = gsN xs i) := by show _ = _; rw [hgb, gsN, hk]
          have HGs : Hid (gb.size ≤ 4) := by show _ ≤ _; rw [← ba_len, hgb]; exact (gapN_ok k).2.2
          obtain ⟨wa, hwa⟩ : ∃ W, wo.alloc (.cells #[.string ⟨#[32]⟩, .string ⟨#[10]⟩, .string ⟨#[9, 32, 13]⟩, .string ⟨#[32, 32, 32, 32]⟩] 9) = W := ⟨_, rfl⟩
          have HSa : Hid (St1 xs L B w2 i (.slice a4 i c4) wa) := by rw [← hwa]; exact HS.out.alloc _
          have gcell : wa.cell? ⟨wo.heap.size, k, none⟩ = some (.string gb) := by rw [← hwa, hgb]; exact gap_cell wo k hk4
          have HRo : Hid (RowT w2 a L) := HRow
          obtain ⟨bL, off, rfl, hbL, hcell⟩ : ∃ b off, a = some ⟨b, off, none⟩ ∧ b < B ∧ ∀ j (h : j < L.length), w2.cell? ⟨b, off + j * 3, none⟩ = some (.int .i64 L[j].k) ∧ w2.cell? ⟨b, off + j * 3 + 1, none⟩ = some (.string L[j].t) ∧ w2.cell? ⟨b, off + j * 3 + 2, none⟩ = some (.int .i64 (L[j].p : Int)) := by
            rcases HRo.out.2 with hx | ⟨b, off, e, hb, hrow⟩
            · rw [hx] at hlt; simp at hlt
            · exact ⟨b, off, e, by rw [← hB]; exact hb, hrow⟩
          have HCell : Hid (∀ wx, Below B w2 wx → wx.cell? ⟨bL, off + i * 3, none⟩ = some (.int .i64 L[i].k) ∧ wx.cell? ⟨bL, off + i * 3 + 1, none⟩ = some (.string L[i].t)) := fun wx hwx => ⟨by rw [hwx.cell (p := ⟨bL, _, none⟩) hbL]; exact (hcell i hlt).1, by rw [hwx.cell (p := ⟨bL, _, none⟩) hbL]; exact (hcell i hlt).2.1⟩
          have HX : Hid (L[i].t.size ≤ 600 ∧ (L[i].k = 1 → ∀ c ∈ L[i].t.data.toList, c.toNat < 128)) := ⟨HSz.out i hlt, HLn.out _ (List.getElem_mem hlt)⟩
          have HP : Hid ((outL (gsN xs) (upN1 xs) 0 (L.take i)).length ≤ 2406) := HPre.out i
          have HT : Hid (∀ {v : Value} {wx wy : World} {t : List UInt8}, St3 xs L B w2 i v wx → wr (upN1 xs i) L[i] = t → BIs B B (outL (gsN xs) (upN1 xs) 0 (L.take i) ++ gsN xs i ++ t) wy → Below B wx wy → Lib.OthersKept 5 (some B) wx wy → St1 xs L B w2 (i + 1) v wy) := fun h1 h2 h3 h4 h5 => h1.to hlt h2 h3 h4 h5
          have HT2 : Hid (∀ {v v' : Value} {wx wy : World} {o : Obj}, St2 xs L B w2 i v wx → wy.ownsRow B 3 1 v' (i + 1) (ic (atsN (gsN xs) (upN1 xs) (L.take i)) ++ [.int .i64 (((outL (gsN xs) (upN1 xs) 0 (L.take i)).length + (gsN xs i).length : Nat) : Int)]) → (wx.alloc o).grownBy wy v.ownBlock → St3 xs L B w2 i v' wy) := fun h1 h2 h3 => h1.to hlt _ h2 h3
          have HVx : Hid (∀ wx, Below B w2 wx → MaxAt wx) := fun wx hwx => (HV2.out.below (by rw [hB]; exact hwx)).2
          have hwo := HS.out.low
          have HWo : Hid (Below B w2 wo) := hwo
          have hup : upN1 xs i = decide (k = 1) := by rw [upN1, hk]
          have HUp : Hid (upN1 xs i = decide (k = 1)) := hup
          generalize L[i] = x at HX HCell HT
          obtain ⟨xk, xt, xp⟩ := x
          simp only at HX HCell HT
          clear hcell HRo hgb hk hup HLn HSz HPre HRow HS hwo
          obtain ⟨pre, hpre⟩ : ∃ p, outL (gsN xs) (upN1 xs) 0 (L.take i) = p := ⟨_, rfl⟩
          rw [hpre] at HP HT HT2
          have HPe : Hid (outL (gsN xs) (upN1 xs) 0 (L.take i) = pre) := hpre
          clear hpre
          by_cases hx0 : xs.length = 0
          · have HK0 : Hid (k = 0) := by show _ = _; rw [← HK.out, kf, if_pos hx0]
            have hk00 : k = 0 := HK0.out
            have hx0' : ¬ (0 : Int) < (xs.length : Int) := by omega
            subst hk00
            clear HI2 hx0
            go_wp2_with fail
            refine (write_any B B pre gb wa (by have := HSa.out.bis; rw [HPe.out] at this; exact this) (by have := HP.out; have := HGs.out; omega) (by have := HSa.out.size; omega)).mono ?_
            rintro _ w5 ⟨rfl, hb5, hl5, hk5⟩
            rw [HGb.out] at hb5
            have HS5 : Hid (St2 xs L B w2 i (.slice a4 i c4) w5) := HSa.out.to (by rw [HPe.out]; exact hb5) hl5 hk5
            have HB5 : Hid (BIs B B (pre ++ gsN xs i) w5) := hb5
            have hB5 : B < w5.heap.size := HS5.out.size
            clear hb5 hl5 hk5 gcell hwa HSa
            go_wp2_with fail
            refine (len_any B B _ w5 HB5.out).mono ?_
            rintro _ w6 ⟨rfl, hw6⟩
            obtain rfl := hw6.symm
            have HQl : Hid (((pre ++ gsN xs i).length : Int) = ((pre.length + (gsN xs i).length : Nat) : Int)) := by show _ = _; rw [List.length_append]
            rw [HQl.out]
            obtain ⟨q, hq⟩ : ∃ q, pre.length + (gsN xs i).length = q := ⟨_, rfl⟩
            rw [hq]
            have HQ : Hid (pre.length + (gsN xs i).length = q) := hq
            clear hq HQl
            go_wp2_with (at_builtin; refine wpList_append_own _ rfl _ _ 38 rfl B 3 i3 (.int .i64 0) 1 8 Tryd.underlying38 hi3 hz0 hz1 hz2 rfl (by decide) _ _ _ rfl (HS5.out.ats.alloc _) ⟨w5.heap.size, 0, none⟩ 1 1 [.int .i64 (q : Int)] rfl rfl ?c1 ?c2 ?c3 ?c4 ?c5 ?_)
            case c1 => exact cell_one_new _ _ _
            case c2 => intro y hy; simp at hy; subst hy; rfl
            case c3 => simp [maxLen]; omega
            case c4 => omega
            case c5 => simp; omega
            · intro v6 w6 ho6 hg6 _
              have HS6 : Hid (St3 xs L B w2 i v6 w6) := HT2.out HS5.out (by rw [HQ.out]; exact own_eq ho6 (by simp) (by simp)) hg6
              have HB6 : Hid (BIs B B (pre ++ gsN xs i) w6) := by have := HS6.out.bis; rw [HPe.out] at this; exact this
              have hlow6 := HS6.out.low
              obtain ⟨g0, g1⟩ := HCell.out w6 hlow6
              have HM6 : Hid (MaxAt w6) := HVx.out w6 hlow6
              have hB6 : B < w6.heap.size := HS6.out.size
              have HLn : Hid ((pre ++ gsN xs i).length ≤ 2410) := by
                show _ ≤ _
                rw [List.length_append]
                have h1 := HP.out
                have h2 := HGs.out
                rw [← ba_len, HGb.out] at h2
                omega
              clear ho6 hg6 hlow6 HS5 HB5 HQ
              by_cases h3 : xk = 3
              · subst h3
                have HW : Hid (wr (upN1 xs i) ⟨3, xt, xp⟩ = 39 :: (esc xt.data.toList ++ [39])) := by show _ = _; simp [wr]
                go_wp2_with fail
                refine (esc_any xt w6 (by have := HX.out.1; omega) HM6.out).mono ?_
                rintro _ w7 ⟨rfl, hb7⟩
                have HS7 : Hid (St3 xs L B w2 i v6 w7) := HS6.out.below hb7
                have HB7 : Hid (BIs B B (pre ++ gsN xs i) w7) := bis_keep HB6.out (keptI_below hb7)
                have hB7 : B < w7.heap.size := HS7.out.size
                obtain ⟨eb, heb⟩ : ∃ eb : ByteArray, eb = ⟨(esc xt.data.toList).toArray⟩ := ⟨_, rfl⟩
                have HEb : Hid (eb.data.toList = esc xt.data.toList) := by show _ = _; rw [heb]
                have hes : eb.size ≤ 1200 := by
                  rw [← ba_len, HEb.out]
                  have := esc_len xt.data.toList
                  rw [ba_len] at this
                  have := HX.out.1
                  omega
                rw [← heb]
                have ha1 := str_add ⟨#[39]⟩ eb (by show 1 + eb.size ≤ _; omega)
                have ha2 := str_add (⟨#[39]⟩ ++ eb) ⟨#[39]⟩ (by rw [ByteArray.size_append]; show 1 + eb.size + 1 ≤ _; omega)
                have HE2 : Hid (((⟨#[39]⟩ ++ eb) ++ ⟨#[39]⟩ : ByteArray).data.toList = 39 :: (esc xt.data.toList ++ [39])) := by
                  show _ = _
                  rw [ba_app, ba_app, HEb.out]; rfl
                clear hb7 HS6 HB6 g0 g1 heb
                go_wp2_with fail
                refine (write_any B B (pre ++ gsN xs i) _ w7 HB7.out (by have := HLn.out; simp only [ByteArray.size_append]; show _ + (1 + eb.size + 1) ≤ _; omega) (by omega)).mono ?_
                rintro _ w8 ⟨rfl, hb8, hl8, hk8⟩
                rw [HE2.out] at hb8
                have HS8 : Hid (St1 xs L B w2 (i + 1) v6 w8) := HT.out HS7.out HW.out hb8 hl8 hk8
                clear hb8 hl8 hk8 HS7 HB7 HT HT2
                go_wp2
                go_roundw
                case rel => exact ⟨i + 1, by omega, by go_num, HS8⟩
                case measure => simp [intOf]; omega
              · have d3 : (xk == 3) = false := by rw [beq_eq_false_iff_ne]; exact h3
                by_cases h1 : xk = 1 ∧ (0 : Nat) = 1
                · obtain ⟨rfl, h1k⟩ := h1
                  exact absurd h1k (by decide)
                · have HW : Hid (wr (upN1 xs i) ⟨xk, xt, xp⟩ = xt.data.toList) := by
                    show _ = _
                    rw [HUp.out]
                    simp only [wr, if_neg h3, decide_eq_true_eq, if_neg h1]
                  have hxs := HX.out.1
                  have key : ((xk == 1) = true ∧ ((0 : Int) == 1) = false) ∨ (xk == 1) = false := by
                    by_cases hxk : xk = 1
                    · refine .inl ⟨by rw [beq_iff_eq]; exact hxk, ?_⟩
                      rw [beq_eq_false_iff_ne]
                      intro e
                      exact h1 ⟨hxk, by omega⟩
                    · exact .inr (by rw [beq_eq_false_iff_ne]; exact hxk)
                  clear h3 h1
                  rcases key with ⟨j1, j2⟩ | j1
                  all_goals
                    go_wp2_with fail
                    refine (write_any B B (pre ++ gsN xs i) xt w6 HB6.out (by have := HLn.out; omega) (by omega)).mono ?_
                    rintro _ w8 ⟨rfl, hb8, hl8, hk8⟩
                    have HS8 : Hid (St1 xs L B w2 (i + 1) v6 w8) := HT.out HS6.out HW.out hb8 hl8 hk8
                    clear hb8 hl8 hk8 HS6 HB6 HT HT2
                    go_wp2
                    go_roundw
                    case rel => exact ⟨i + 1, by omega, by go_num, HS8⟩
                    case measure => simp [intOf]; omega
          · have hx0' : (0 : Int) < (xs.length : Int) := by omega
            have hjx : i % xs.length < xs.length := Nat.mod_lt _ (by omega)
            obtain ⟨bx, offx, rfl, hbx, hcx⟩ : ∃ b off, a1 = some ⟨b, off, none⟩ ∧ b < w2.heap.size ∧ ∀ j (h : j < xs.length), w2.cell? ⟨b, off + j, none⟩ = some (.int .i64 xs[j]) := by
              rcases HI2.out with hx | h
              · rw [hx] at hx0; simp at hx0
              · exact h
            obtain ⟨y, hy⟩ : ∃ y, xs[i % xs.length] = y := ⟨_, rfl⟩
            have hcy : wo.cell? ⟨bx, offx + i % xs.length, none⟩ = some (.int .i64 y) := by
              rw [HWo.out.cell (p := ⟨bx, _, none⟩) (by rw [← hB]; exact hbx), ← hy]
              exact hcx _ hjx
            have HKy : Hid (pk y 4 = k) := by
              show _ = _
              rw [← HK.out, kf, if_neg hx0, ← hy]
              simp [List.getD, hjx]
            have hm1 : ((i : Int).tmod (xs.length : Int)) = ((i % xs.length : Nat) : Int) := by rw [Int.tmod_eq_emod_of_nonneg (by omega)]; rfl
            clear HI2 hx0 hcx hy
            go_wp2_with fail
            refine (pick_any y _).mono ?_
            rintro _ wp ⟨rfl, hwp⟩
            obtain rfl := hwp.symm
            rw [HKy.out]
            clear hcy hm1
            go_wp2_with fail
            refine (write_any B B pre gb wa (by have := HSa.out.bis; rw [HPe.out] at this; exact this) (by have := HP.out; have := HGs.out; omega) (by have := HSa.out.size; omega)).mono ?_
            rintro _ w5 ⟨rfl, hb5, hl5, hk5⟩
            rw [HGb.out] at hb5
            have HS5 : Hid (St2 xs L B w2 i (.slice a4 i c4) w5) := HSa.out.to (by rw [HPe.out]; exact hb5) hl5 hk5
            have HB5 : Hid (BIs B B (pre ++ gsN xs i) w5) := hb5
            have hB5 : B < w5.heap.size := HS5.out.size
            clear hb5 hl5 hk5 gcell hwa HSa
            go_wp2_with fail
            refine (len_any B B _ w5 HB5.out).mono ?_
            rintro _ w6 ⟨rfl, hw6⟩
            obtain rfl := hw6.symm
            have HQl : Hid (((pre ++ gsN xs i).length : Int) = ((pre.length + (gsN xs i).length : Nat) : Int)) := by show _ = _; rw [List.length_append]
            rw [HQl.out]
            obtain ⟨q, hq⟩ : ∃ q, pre.length + (gsN xs i).length = q := ⟨_, rfl⟩
            rw [hq]
            have HQ : Hid (pre.length + (gsN xs i).length = q) := hq
            clear hq HQl
            go_wp2_with (at_builtin; refine wpList_append_own _ rfl _ _ 38 rfl B 3 i3 (.int .i64 0) 1 8 Tryd.underlying38 hi3 hz0 hz1 hz2 rfl (by decide) _ _ _ rfl (HS5.out.ats.alloc _) ⟨w5.heap.size, 0, none⟩ 1 1 [.int .i64 (q : Int)] rfl rfl ?c1 ?c2 ?c3 ?c4 ?c5 ?_)
            case c1 => exact cell_one_new _ _ _
            case c2 => intro y hy; simp at hy; subst hy; rfl
            case c3 => simp [maxLen]; omega
            case c4 => omega
            case c5 => simp; omega
            · intro v6 w6 ho6 hg6 _
              have HS6 : Hid (St3 xs L B w2 i v6 w6) := HT2.out HS5.out (by rw [HQ.out]; exact own_eq ho6 (by simp) (by simp)) hg6
              have HB6 : Hid (BIs B B (pre ++ gsN xs i) w6) := by have := HS6.out.bis; rw [HPe.out] at this; exact this
              have hlow6 := HS6.out.low
              obtain ⟨g0, g1⟩ := HCell.out w6 hlow6
              have HM6 : Hid (MaxAt w6) := HVx.out w6 hlow6
              have hB6 : B < w6.heap.size := HS6.out.size
              have HLn : Hid ((pre ++ gsN xs i).length ≤ 2410) := by
                show _ ≤ _
                rw [List.length_append]
                have h1 := HP.out
                have h2 := HGs.out
                rw [← ba_len, HGb.out] at h2
                omega
              clear ho6 hg6 hlow6 HS5 HB5 HQ
              by_cases h3 : xk = 3
              · subst h3
                have HW : Hid (wr (upN1 xs i) ⟨3, xt, xp⟩ = 39 :: (esc xt.data.toList ++ [39])) := by show _ = _; simp [wr]
                go_wp2_with fail
                refine (esc_any xt w6 (by have := HX.out.1; omega) HM6.out).mono ?_
                rintro _ w7 ⟨rfl, hb7⟩
                have HS7 : Hid (St3 xs L B w2 i v6 w7) := HS6.out.below hb7
                have HB7 : Hid (BIs B B (pre ++ gsN xs i) w7) := bis_keep HB6.out (keptI_below hb7)
                have hB7 : B < w7.heap.size := HS7.out.size
                obtain ⟨eb, heb⟩ : ∃ eb : ByteArray, eb = ⟨(esc xt.data.toList).toArray⟩ := ⟨_, rfl⟩
                have HEb : Hid (eb.data.toList = esc xt.data.toList) := by show _ = _; rw [heb]
                have hes : eb.size ≤ 1200 := by
                  rw [← ba_len, HEb.out]
                  have := esc_len xt.data.toList
                  rw [ba_len] at this
                  have := HX.out.1
                  omega
                rw [← heb]
                have ha1 := str_add ⟨#[39]⟩ eb (by show 1 + eb.size ≤ _; omega)
                have ha2 := str_add (⟨#[39]⟩ ++ eb) ⟨#[39]⟩ (by rw [ByteArray.size_append]; show 1 + eb.size + 1 ≤ _; omega)
                have HE2 : Hid (((⟨#[39]⟩ ++ eb) ++ ⟨#[39]⟩ : ByteArray).data.toList = 39 :: (esc xt.data.toList ++ [39])) := by
                  show _ = _
                  rw [ba_app, ba_app, HEb.out]; rfl
                clear hb7 HS6 HB6 g0 g1 heb
                go_wp2_with fail
                refine (write_any B B (pre ++ gsN xs i) _ w7 HB7.out (by have := HLn.out; simp only [ByteArray.size_append]; show _ + (1 + eb.size + 1) ≤ _; omega) (by omega)).mono ?_
                rintro _ w8 ⟨rfl, hb8, hl8, hk8⟩
                rw [HE2.out] at hb8
                have HS8 : Hid (St1 xs L B w2 (i + 1) v6 w8) := HT.out HS7.out HW.out hb8 hl8 hk8
                clear hb8 hl8 hk8 HS7 HB7 HT HT2
                go_wp2
                go_roundw
                case rel => exact ⟨i + 1, by omega, by go_num, HS8⟩
                case measure => simp [intOf]; omega
              · have d3 : (xk == 3) = false := by rw [beq_eq_false_iff_ne]; exact h3
                by_cases h1 : xk = 1 ∧ k = 1
                · obtain ⟨rfl, h1k⟩ := h1
                  subst h1k
                  have HW : Hid (wr (upN1 xs i) ⟨1, xt, xp⟩ = upL xt.data.toList) := by show _ = _; rw [HUp.out]; simp [wr]
                  clear h3
                  go_wp2_with fail
                  refine (up_any xt w6 (by have := HX.out.1; omega) (HX.out.2 (by trivial))).mono ?_
                  rintro _ w7 ⟨rfl, hb7⟩
                  have HS7 : Hid (St3 xs L B w2 i v6 w7) := HS6.out.below hb7
                  have HB7 : Hid (BIs B B (pre ++ gsN xs i) w7) := bis_keep HB6.out (keptI_below hb7)
                  have hB7 : B < w7.heap.size := HS7.out.size
                  obtain ⟨eb, heb⟩ : ∃ eb : ByteArray, eb = ⟨(upL xt.data.toList).toArray⟩ := ⟨_, rfl⟩
                  have HEb : Hid (eb.data.toList = upL xt.data.toList) := by show _ = _; rw [heb]
                  have hes : eb.size ≤ 600 := by
                    rw [← ba_len, HEb.out, upL, List.length_map, ba_len]
                    exact HX.out.1
                  rw [← heb]
                  clear hb7 HS6 HB6 g0 g1 heb
                  go_wp2_with fail
                  refine (write_any B B (pre ++ gsN xs i) eb w7 HB7.out (by have := HLn.out; omega) (by omega)).mono ?_
                  rintro _ w8 ⟨rfl, hb8, hl8, hk8⟩
                  rw [HEb.out] at hb8
                  have HS8 : Hid (St1 xs L B w2 (i + 1) v6 w8) := HT.out HS7.out HW.out hb8 hl8 hk8
                  clear hb8 hl8 hk8 HS7 HB7 HT HT2
                  go_wp2
                  go_roundw
                  case rel => exact ⟨i + 1, by omega, by go_num, HS8⟩
                  case measure => simp [intOf]; omega
                · have HW : Hid (wr (upN1 xs i) ⟨xk, xt, xp⟩ = xt.data.toList) := by
                    show _ = _
                    rw [HUp.out]
                    simp only [wr, if_neg h3, decide_eq_true_eq, if_neg h1]
                  have hxs := HX.out.1
                  have key : ((xk == 1) = true ∧ ((k : Int) == 1) = false) ∨ (xk == 1) = false := by
                    by_cases hxk : xk = 1
                    · refine .inl ⟨by rw [beq_iff_eq]; exact hxk, ?_⟩
                      rw [beq_eq_false_iff_ne]
                      intro e
                      exact h1 ⟨hxk, by omega⟩
                    · exact .inr (by rw [beq_eq_false_iff_ne]; exact hxk)
                  clear h3 h1
                  rcases key with ⟨j1, j2⟩ | j1
                  all_goals
                    go_wp2_with fail
                    refine (write_any B B (pre ++ gsN xs i) xt w6 HB6.out (by have := HLn.out; omega) (by omega)).mono ?_
                    rintro _ w8 ⟨rfl, hb8, hl8, hk8⟩
                    have HS8 : Hid (St1 xs L B w2 (i + 1) v6 w8) := HT.out HS6.out HW.out hb8 hl8 hk8
                    clear hb8 hl8 hk8 HS6 HB6 HT HT2
                    go_wp2
                    go_roundw
                    case rel => exact ⟨i + 1, by omega, by go_num, HS8⟩
                    case measure => simp [intOf]; omega
      · skip
        as_aux_lemma =>
          obtain rfl : i = L.length := by omega
          have hlt' : ¬ ((L.length : Int) < (L.length : Int)) := by omega
          have hS := HS.out
          obtain ⟨O, hO⟩ : ∃ O, outL (gsN xs) (upN1 xs) 0 L = O := ⟨_, rfl⟩
          have HBi : Hid (BIs B B O wo) := by have := hS.bis; rw [List.take_length, hO] at this; exact this
          have HOl : Hid (O.length ≤ 2406) := by have := HPre.out L.length; rw [List.take_length, hO] at this; exact this
          have HAt : Hid (wo.ownsRow B 3 1 (.slice a4 L.length c4) L.length (ic (atsN (gsN xs) (upN1 xs) L))) := by have := hS.ats; rw [List.take_length] at this; exact this
          obtain ⟨M, hM⟩ : ∃ M, movL (gsN xs) (upN1 xs) 0 0 L = M := ⟨_, rfl⟩
          have HLex : Hid (lexS ⟨O.toArray⟩ = .ok M) := by show _ = _; rw [← hM]; exact lex_blanks HR.out (gsN xs) (upN1 xs) (gs_ok xs) _ (by rw [← hO])
          have hMl : M.length = L.length := by rw [← hM, mov_len]
          have HMat : Hid (∀ j (h : j < M.length) (h' : j < L.length), M[j].k = L[j].k ∧ M[j].t = L[j].t) := by
            show ∀ j (h : j < M.length) (h' : j < L.length), M[j].k = L[j].k ∧ M[j].t = L[j].t
            subst hM
            exact fun j h h' => mov_at _ _ L 0 0 j h h'
          have HMp : Hid (atsN (gsN xs) (upN1 xs) L = M.map (·.p)) := by show _ = _; rw [atsN, hM]
          have HMl : Hid (M.length = L.length) := hMl
          have hBo : B < wo.heap.size := hS.size
          have HLo : Hid (Below B w2 wo) := hS.low
          clear hS HS hO hM hMl HPre HLn HSz HI2 hlt
          go_wp2_with fail
          refine (string_any B B O wo HBi.out (by omega)).mono ?_
          rintro _ w9 ⟨rfl, hb9, hl9, hk9⟩
          have HAt9 : Hid (w9.ownsRow B 3 1 (.slice a4 L.length c4) L.length (ic (atsN (gsN xs) (upN1 xs) L))) := ats_keep HAt.out HBi.out hk9
          have HLo9 : Hid (Below B w2 w9) := HLo.out.trans hl9
          have hB9 : B < w9.heap.size := by
            obtain ⟨_, c, hc⟩ := bis_block hb9
            exact (Array.getElem?_eq_some_iff.1 hc).1
          clear hb9 hl9 hk9 HAt HBi HLo
          go_wp2_with fail
          refine (split_any ⟨O.toArray⟩ w9 (by rw [← ba_len]; exact Nat.le_trans HOl.out (by decide)) (HV2.out.below (by rw [hB]; exact HLo9.out))).mono ?_
          rintro e w10 ⟨a', n', c', E', rfl, hcase, hb10⟩
          rw [HLex.out] at hcase
          rcases hcase with ⟨k', p', hR', _⟩ | ⟨M', hR', hn', hrow2, rfl⟩
          · cases hR'
          cases hR'
          rw [HMl.out] at hn'
          subst hn'
          have HRow2 : Hid (RowT w10 a' M) := hrow2
          have HLo10 : Hid (Below B w2 w10) := HLo9.out.trans (hb10.mono (by omega))
          have HRow1 : Hid (RowT w10 a L) := HRow.out.below (by rw [hB]; exact HLo10.out)
          have HAt10 : Hid (w10.ownsRow B 3 1 (.slice a4 L.length c4) L.length (ic (atsN (gsN xs) (upN1 xs) L))) := own_below HAt9.out hb10
          have HBf : Hid (Below w.heap.size w w10) := HB2.out.trans (HLo10.out.mono (by rw [← hB]; exact HB2.out.size))
          clear hrow2 hb10 HAt9 HLo9 HRow HLex
          go_wp2
          go_loopw [12] (fun iv wr => ∃ k : Nat, k ≤ L.length ∧ iv = .int .i64 k ∧ Hid (∃ m, wr = w10.drewN m)) (fun iv _ => L.length - (intOf iv).toNat)
          case atStart => exact ⟨0, Nat.zero_le _, rfl, 0, rfl⟩
          case round =>
            obtain ⟨k, hk, rfl, hbl⟩ := hrel
            obtain ⟨m, rfl⟩ := hbl.out
            by_cases hlt : k < L.length
            · rcases HRow1.out.2 with hx | ⟨b, off, rfl, hb, hrow⟩
              · rw [hx] at hlt; simp at hlt
              rcases HRow2.out.2 with hx' | ⟨b', off', rfl, hb', hrow'⟩
              · have := HMl.out; rw [hx'] at this; rw [← this] at hlt; simp at hlt
              rcases HAt10.out.2 with ⟨_, h0⟩ | ⟨g, cap, cur, e, _⟩
              · omega
              have hkM : k < M.length := by rw [HMl.out]; exact hlt
              obtain ⟨g0, g1, g2⟩ := hrow k hlt
              obtain ⟨e0, e1, e2⟩ := hrow' k hkM
              have hma := HMat.out k hkM hlt
              rw [hma.1] at e0
              rw [hma.2] at e1
              have hat : w10.cell? ⟨g, k, none⟩ = some (.int .i64 (M[k].p : Int)) := by
                have k0 := HAt10.out.cells (g := g) (by cases e; rfl) k (.int .i64 (M[k].p : Int)) (by rw [HMp.out]; simp [ic, hkM])
                rw [Go.WideShapes.add_plain, Nat.zero_add] at k0
                exact k0
              cases e
              clear hrow hrow' hbl hma g2
              have i1 : (k : Int) < (L.length : Int) := by omega
              generalize L[k] = x at *
              generalize M[k] = y at *
              obtain ⟨xk, xt, xp⟩ := x
              obtain ⟨yk, yt, yp⟩ := y
              simp only at g0 g1 e0 e1 e2 hat
              go_wp2
              go_quiet (fail)
              go_wp2
              go_roundw
              case rel => exact ⟨k + 1, by omega, by go_num, m + nq, rfl⟩
              case measure => simp [intOf]; omega
            · go_wp2
              go_ret
              exact ⟨rfl, below_drewN HBf.out m⟩
end Go.Proofs.YtgmibjcccdgkgaaDoor
