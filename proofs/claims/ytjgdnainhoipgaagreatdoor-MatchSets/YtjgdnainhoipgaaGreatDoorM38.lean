/- Texts of the proof of MatchSets: HQu. -/
import Derived.Test.YtjgdnainhoipgaaGreatDoorM37
namespace Go.Proofs.YtjgdnainhoipgaaGreatDoor
open Go.RowKit Go.Maps

theorem RowsB.look {m n : Nat} {l : List Ht} {w : World} (h : RowsB m n l w) (hr : RisH l) (r : Int) (h0 : 0 ≤ r) (h1 : r ≤ 10000000000) : (Instr.lookup 29 (.map (some m)) (.int .i64 r) false).run Tryz.prog w = .ok (.int .i64 (cn l r)) w := by
  obtain ⟨D, hD, hM⟩ := h
  obtain ⟨c, hrun, hc, _⟩ := hD.lookup_int (t := 29) keyed3 Tryz.underlying29 Tryz.underlying3 (zero3h w) (keyOf_int_mk Tryz.underlying3 (row_wf h0 h1))
  have := hM.cn hr r
  rw [show rl r = Lit.int .i64 r from rfl, hc] at this
  have e : c = cn l r := by simpa using this
  rw [← e]
  exact hrun
theorem ix34 {t : List UInt8} (h : ¬ 0 ≤ Lib.indexByte t 34) : ∀ x ∈ t, notQ x = true := by
  intro x hx
  unfold notQ
  by_cases e : x.toNat = 34
  · have : x = 34 := UInt8.toNat_inj.1 e
    subst this
    exact absurd ((indexByte_none _ _).1.2 hx) h
  · simp [e]
theorem any_take {R : List Int} {r : Int} {j : Nat} (hj : j < R.length) : ((R.take (j + 1)).any (fun x => decide (x = r))) = (((R.take j).any (fun x => decide (x = r))) || decide (R[j] = r)) := by
  rw [List.take_succ_eq_append_getElem hj, List.any_append]
  simp
def tQuot (t : ByteArray) : ByteArray := ⟨#[34]⟩ ++ t ++ ⟨#[34]⟩
theorem tQuot_list (t : ByteArray) : (tQuot t).data.toList = 34 :: (t.data.toList ++ [34]) := by
  unfold tQuot
  simp [ByteArray.data_append]
theorem tQuot_size (t : ByteArray) : (tQuot t).size = t.size + 2 := by
  rw [← ba_len, tQuot_list]
  simp
theorem ask_tQuot {t : ByteArray} (h : ∀ x ∈ t.data.toList, notQ x = true) (hw : wordsL t.data.toList ≠ []) : askS (tQuot t) = (.node 1 (wordsL t.data.toList) .nil .nil, 0) := by
  rw [askS_cuts (s := tQuot t) (by rw [tQuot_list]; exact cuts_quot h)]
  exact ask_quot hw
section
variable {bf : Nat} {pls : ByteArray → List Pl} {beg : ByteArray → List ByteArray} {w : World}
set_option maxRecDepth 100000 in
set_option maxHeartbeats 8000000 in
theorem quoted_any (hF : Fdr bf tN pls beg w) (hg : Gl w) (a : Option Addr) (c : Nat) (ts : List ByteArray) (hr : RowS w a ts.length ts) (hs : ∀ t ∈ ts, t.size ≤ 40) (hl : ts.length ≤ 20)
    (hD : ∀ i (hi : i < ts.length) j (hj : j < (wordsL ts[i].data.toList).length), (⟨(i : Int) + 1, (j : Int)⟩ : Pl) ∈ pls (wordsL ts[i].data.toList)[j]) :
    Calls Tryz.prog 9 #[.pointer (some ⟨bf, 0, none⟩), .slice a ts.length c] w fun e w' => e = .returned (.bool true) ∧ Below w.heap.size w w' := by
  have HF : Hid (Fdr bf tN pls beg w) := hF
  have HG : Hid (Gl w) := hg
  have HS : Hid (∀ t ∈ ts, t.size ≤ 40) := hs
  have HD : Hid (∀ i (hi : i < ts.length) j (hj : j < (wordsL ts[i].data.toList).length), (⟨(i : Int) + 1, (j : Int)⟩ : Pl) ∈ pls (wordsL ts[i].data.toList)[j]) := hD
  obtain ⟨hrl, _, hx⟩ := hr
  clear hF hg hs hD hrl
  go_enter Tryz.func9, Tryz.ntmps9
  go_wp2
  go_loopw [5] (fun i wr => ∃ k : Nat, k ≤ ts.length ∧ i = .int .i64 k ∧ Hid (Below w.heap.size w wr)) (fun i _ => ts.length - (intOf i).toNat)
  case atStart => exact ⟨0, Nat.zero_le _, rfl, Below.refl _ _⟩
  case round =>
    obtain ⟨i, hi, rfl, HB⟩ := hrel
    by_cases hlt : i < ts.length
    · rcases hx with hx | ⟨b, off, rfl, hb, hrow⟩
      · simp [hx] at hlt
      have g1 := hrow i hlt
      rw [← HB.out.cell (p := ⟨b, _, none⟩) hb] at g1
      have i1 : (i : Int) < (ts.length : Int) := by omega
      have hts := HS.out ts[i] (List.getElem_mem hlt)
      have HDI : Hid (∀ j (hj : j < (wordsL ts[i].data.toList).length), (⟨(i : Int) + 1, (j : Int)⟩ : Pl) ∈ pls (wordsL ts[i].data.toList)[j]) := HD.out i hlt
      clear hrow
      generalize ts[i] = t at *
      have HSP : Hid _ := split_own (s := t) (w := w) (by omega) HG.out wr HB.out
      have HWC : Hid _ := words_count t
      go_wp2_with fail
      refine (show Calls _ _ _ _ _ from HSP.out).mono ?_
      rintro _ w1 ⟨a1, c1, rfl, hr1, hb1⟩
      have HB1 : Hid (Below w.heap.size w w1) := HB.out.trans (hb1.mono HB.out.size)
      rw [← hb1.cell (p := ⟨b, _, none⟩) (Nat.lt_of_lt_of_le hb HB.out.size)] at g1
      obtain ⟨ws, hws⟩ : ∃ ws, wordsL t.data.toList = ws := ⟨_, rfl⟩
      have HWS : Hid (wordsL t.data.toList = ws) := hws
      have HWK : Hid (∀ x ∈ ws, x.size ≤ 100) := fun x hx => by
        rw [← hws] at hx
        have := (word_ok hx).le
        omega
      rw [hws] at hr1 HDI
      obtain ⟨ra, rc, re, hr2, _⟩ := row_of_own hr1 (by have := HWC.out; rw [hws] at this; omega)
      have HR1 : Hid (RowS w1 a1 ws.length ws) := by cases re; exact hr2
      rw [hws]
      clear hb1 HSP hr1 hws re hr2
      obtain ⟨n, hn⟩ : ∃ n, ws.length = n := ⟨_, rfl⟩
      have HN : Hid (ws.length = n) := hn
      rw [hn]
      by_cases h2 : n < 2
      · have d2 : decide ((n : Int) < 2) = true := by simp; omega
        clear hn h2
        go_wp2
        go_roundw
        case rel => exact ⟨i + 1, by omega, by go_num, HB1⟩
        case measure => simp [intOf]; omega
      · have d2 : decide ((n : Int) < 2) = false := by simp; omega
        obtain ⟨N, hN⟩ : ∃ N, Lib.indexByte t.data.toList (34 : Int).toNat.toUInt8 = N := ⟨_, rfl⟩
        have HN34 : Hid (Lib.indexByte t.data.toList 34 = N) := hN
        have HIX : Hid _ := strings_ix t 34 w1
        rw [hN] at HIX
        have HN2 : Hid (2 ≤ n) := by show _ ≤ _; omega
        have hn21 : n ≤ 21 := by have q1 := HWC.out; have q2 := HWS.out; have q3 := HN.out; rw [q2, q3] at q1; omega
        clear hN hn h2
        go_wp2_with fail
        refine (show Calls _ _ _ _ _ from HIX.out).mono ?_
        rintro _ w9 ⟨rfl, h9⟩
        obtain rfl := h9.symm
        clear h9 HIX
        by_cases h0 : 0 ≤ N
        · have d0 : decide (0 ≤ N) = true := by simpa using h0
          clear h0
          go_wp2
          go_roundw
          case rel => exact ⟨i + 1, by omega, by go_num, HB1⟩
          case measure => simp [intOf]; omega
        · have d0 : decide (0 ≤ N) = false := by simpa using h0
          have HNQ : Hid (∀ x ∈ t.data.toList, notQ x = true) := ix34 (by rw [HN34.out]; exact h0)
          clear h0
          have hwn : wordsL t.data.toList ≠ [] := by
            rw [HWS.out]
            intro e
            have := HN.out
            have := HN2.out
            rw [e] at *
            simp at *
            omega
          have hask := ask_tQuot HNQ.out hwn
          rw [HWS.out] at hask hwn
          have hHT := hits_any (HF.out.below HB1.out) (HG.out.below HB1.out).e (tQuot t) (by rw [tQuot_size]; omega)
          rw [hask] at hHT
          have HHT : Hid _ := hHT
          obtain ⟨y, hy, hyr⟩ := quot_has HF.out.ok ((i : Int) + 1) ws hwn HDI.out
          have HQA : Hid (∀ x ∈ evalQ pls beg (.node 1 ws .nil .nil), ∀ w ∈ ws, ∃ q ∈ pls w, q.r = x.r) := quot_all HF.out.ok ws
          have HKL : Hid (Hk 250000 (evalQ pls beg (.node 1 ws .nil .nil))) := (eval_hk HF.out.ok (.node 1 ws .nil .nil)).mono (by show 250000 * 1 ≤ _; omega)
          obtain ⟨L, hL⟩ : ∃ L, evalQ pls beg (.node 1 ws .nil .nil) = L := ⟨_, rfl⟩
          rw [hL] at hy HQA HKL HHT
          have HCN : Hid (0 < cn L ((i : Int) + 1)) := (cn_pos HKL.out.pos _).2 ⟨y, hy, hyr⟩
          clear hask hwn hHT hy hyr hL HDI HNQ HN34 HWC
          go_wp2_with fail
          refine (show Calls _ _ _ _ _ from HHT.out).mono ?_
          rintro e0 w2 ⟨hb2, hcase⟩
          have hcase2 : ∃ m, e0 = Ending.returned (.tuple #[.map (some m), .bool true]) ∧ w1.heap.size ≤ m ∧ RowsB m L.length L w2 := by
            rcases hcase with ⟨h, _⟩ | ⟨_, m, h1, h2, h3⟩
            · exact absurd rfl h
            · exact ⟨m, h1, h2, h3⟩
          obtain ⟨m, rfl, hm, hrows⟩ := hcase2
          have HRB : Hid (RowsB m L.length L w2) := hrows
          have HB2 : Hid (Below w.heap.size w w2) := HB1.out.trans (hb2.mono HB1.out.size)
          have HB12 : Hid (Below w1.heap.size w1 w2) := hb2
          have hlk := HRB.out.look HKL.out.ris ((i : Int) + 1) (by omega) (by omega)
          obtain ⟨C, hC⟩ : ∃ C, cn L ((i : Int) + 1) = C := ⟨_, rfl⟩
          rw [hC] at hlk HCN
          have j0 : (C == 0) = false := by
            have := HCN.out
            simp
            omega
          have hw1 : IntKind.i64.wrap ((i : Int) + 1) = (i : Int) + 1 := wraps_i64 _ (by omega) (by omega)
          have hml : m < w2.heap.size := HRB.out.lt
          clear hb2 hcase hrows hC HCN HHT g1
          go_wp2
          go_loopw [9] (fun kv wr2 => ∃ k2 : Nat, k2 ≤ n ∧ kv = .int .i64 k2 ∧ Hid (Below w2.heap.size w2 wr2)) (fun kv _ => n - (intOf kv).toNat)
          case atStart => exact ⟨0, Nat.zero_le _, rfl, Below.refl _ _⟩
          case round =>
            obtain ⟨k2, hk2, rfl, HBK⟩ := hrel
            have HBW : Hid (Below w.heap.size w wr) := HB2.out.trans (HBK.out.mono HB2.out.size)
            by_cases hlt2 : k2 < n
            · have HQW := HR1.out.2.2
              rcases HQW with h0 | ⟨b1, o1, rfl, hb1', hrow1⟩
              · have := HN.out
                rw [h0] at this
                simp at this
                omega
              have hk2' : k2 < ws.length := by have := HN.out; omega
              have g1 := hrow1 k2 hk2'
              have hq := HWK.out ws[k2] (List.getElem_mem hk2')
              have HQA2 : Hid (∀ x ∈ L, ∃ q ∈ pls ws[k2], q.r = x.r) := fun x hx => HQA.out x hx _ (List.getElem_mem hk2')
              rw [← HB12.out.cell (p := ⟨b1, _, none⟩) hb1', ← HBK.out.cell (p := ⟨b1, _, none⟩) (Nat.lt_of_lt_of_le hb1' HB12.out.size)] at g1
              obtain ⟨q, hqe⟩ : ∃ q, ws[k2] = q := ⟨_, rfl⟩
              rw [hqe] at g1 hq HQA2
              clear hrow1 hb1' hqe hk2'
              have i2 : (k2 : Int) < (n : Int) := by omega
              have HPL : Hid _ := HF.out.pl wr HBW.out q hq
              go_wp2_with fail
              refine (show Calls _ _ _ _ _ from HPL.out).mono ?_
              rintro _ w3 ⟨v3, rfl, hin3, hb3⟩
              have HRW : Hid _ := rows_any v3 (pls q) w3 hin3 (by have := HF.out.ok.len q; omega)
              have HB3 : Hid (Below w2.heap.size w2 w3) := HBK.out.trans (hb3.mono HBK.out.size)
              clear hin3 hb3 HPL g1
              go_wp2_with fail
              refine (show Calls _ _ _ _ _ from HRW.out).mono ?_
              rintro _ w4 ⟨v4, rfl, ho4, hb4⟩
              have HB4 : Hid (Below w2.heap.size w2 w4) := HB3.out.trans (hb4.mono HB3.out.size)
              have HRM : Hid (∀ x ∈ L, x.r ∈ rowsFrom [] (pls q)) := fun x hx => by
                obtain ⟨z, hz, e⟩ := HQA2.out x hx
                exact ((rows_list (HF.out.ok.ris q)).2 x.r).2 ⟨z, hz, e⟩
              have hRl := (rowsFrom_le (pls q) []).1
              have hRl2 := HF.out.ok.len q
              clear hb4 HRW HB3 HQA2
              generalize rowsFrom [] (pls q) = R at *
              have hv : ∃ a c, v4 = .slice a R.length c ∧ (R = [] ∨ ∃ g, a = some ⟨g, 0, none⟩ ∧ g < w4.heap.size ∧ ∀ i (h : i < R.length), w4.cell? ⟨g, i, none⟩ = some (.int .i64 R[i])) := by
                rcases ho4.2 with ⟨rfl, h0⟩ | ⟨g, cap, cur, rfl, _, hg, _⟩
                · have : R = [] := List.length_eq_zero_iff.1 h0
                  subst this
                  exact ⟨none, 0, rfl, .inl rfl⟩
                · refine ⟨_, cap, rfl, .inr ⟨g, rfl, (Array.getElem?_eq_some_iff.1 hg).1, fun i hi => ?_⟩⟩
                  have k0 := ho4.cells (g := g) rfl i (.int .i64 R[i]) (by simp [icc, hi])
                  rw [Go.WideShapes.add_plain, Nat.zero_add] at k0
                  exact k0
              obtain ⟨va, vc, rfl, hx4⟩ := hv
              have HX4 : Hid _ := hx4
              obtain ⟨D, hD4, hH4⟩ := HRB.out.below HB4.out
              have HDD : Hid (w4.ownsMap Tryz.prog 3 (plainElem Tryz.prog 3) m L.length D) := hD4
              have HHS : Hid (HasH D L) := hH4
              have hm4 := hD4.lt
              have hR500 : R.length ≤ 500 := by simp only [List.length_nil] at hRl; omega
              clear ho4 hx4 hD4 hH4 hRl hRl2 hq
              go_wp2_with (refine wpList_range_own _ rfl _ 29 rfl 3 3 keyed3 Tryz.underlying29 (plainElem Tryz.prog 3) m L.length D rfl HDD.out ?_; intro w8 hrg hg8 hs8)
              try go_frame
              have hb8 : Below w4.heap.size w4 w8 := ⟨hg8.os, hg8.tape, hg8.output, hg8.size, fun k hk => hg8.block k hk (by simp)⟩
              have HL8 : Hid (w8.ranges Tryz.prog 3 (plainElem Tryz.prog 3) m w4.heap.size L.length D (Maps.has D) (Maps.size D) ∧ (∀ x, Maps.has D (rl x) = true → Maps.has D (rl x) = true) ∧ Below w4.heap.size w4 w8) := ⟨hrg, fun _ h => h, hb8⟩
              clear hrg hg8 hs8 hb8 HDD
              obtain ⟨r2, hr2⟩ : ∃ r2, w4.heap.size = r2 := ⟨_, rfl⟩
              have HR2 : Hid (w4.heap.size = r2) := hr2
              rw [hr2] at HL8 hm4
              rw [hr2]
              clear hr2
              go_loopw [] (fun wq => ∃ (left : Lit → Bool) (cnt : Nat), Hid (wq.ranges Tryz.prog 3 (plainElem Tryz.prog 3) m r2 L.length D left cnt ∧ (∀ x, left (rl x) = true → Maps.has D (rl x) = true) ∧ Below r2 w4 wq)) (fun wq => wq.rangeLeft m r2)
              case atStart => exact ⟨_, _, HL8⟩
              case round =>
                clear HL8
                obtain ⟨left, cnt, H3⟩ := hrel
                have hrg := H3.out.1
                go_wp2_with (at_next; refine wpList_next_ranges_ii _ rfl _ rfl 3 3 .i64 .i64 keyed3 Tryz.underlying3 Tryz.underlying3 m r2 L.length D left cnt rfl hrg ?_ ?_)
                · intro _ _
                  have HBE : Hid (Below w2.heap.size w2 wr) := HB4.out.trans (H3.out.2.2.mono (by rw [← HR2.out]; exact HB4.out.size))
                  clear hrg H3
                  go_wp2
                  go_roundw
                  case rel => exact ⟨k2 + 1, by omega, by go_num, HBE.out⟩
                  case measure => simp [intOf]; omega
                · intro x c7 w7 cnt7 hwf1 hwf2 hlx hat hrg7 hlt7 hg7 hs7 hen
                  have HX : Hid (x ∈ R) := by
                    obtain ⟨y1, hy1, e⟩ := (HHS.out.has x).1 (H3.out.2.1 x hlx)
                    have := HRM.out y1 hy1
                    rw [e] at this
                    exact this
                  have ho7 : Only (fun b => b = r2) wr w7 := ⟨hg7.os, hg7.tape, hg7.output, hg7.size, fun k hk hs => hg7.block k hk (fun e => hs (Option.some.inj e))⟩
                  have HB7 : Hid (Below r2 w4 w7) := Only.below H3.out.2.2 ho7 (by rw [← HR2.out]; have := H3.out.2.2.size; exact this) (fun i hi => by omega)
                  have HRG7 : Hid (w7.ranges Tryz.prog 3 (plainElem Tryz.prog 3) m r2 L.length D (fun z => left z && !z.sameKey (.int .i64 x)) cnt7) := hrg7
                  have HLT7 : Hid (cnt7 < cnt) := hlt7
                  have HSB : Hid (∀ x, left (rl x) = true → Maps.has D (rl x) = true) := H3.out.2.1
                  have hw0 : wr.rangeLeft m r2 = cnt := hrg.left_eq
                  have HW0 : Hid (wr.rangeLeft m r2 = cnt) := hw0
                  clear hlx hat hrg7 hlt7 ho7 hg7 hs7 H3 hwf1 hwf2 hrg hw0
                  go_wp2
                  go_loopw [14, 15] (fun hv jv wq => ∃ j : Nat, j ≤ R.length ∧ jv = .int .i64 j ∧ hv = .bool ((R.take j).any (fun z => decide (z = x))) ∧ Hid (wq = w7)) (fun _ jv _ => R.length - (intOf jv).toNat)
                  case atStart => exact ⟨0, Nat.zero_le _, rfl, rfl, rfl⟩
                  case round =>
                    obtain ⟨j, hj, rfl, rfl, hwq⟩ := hrel
                    obtain ⟨w9, hw9⟩ : ∃ w9, w9 = wr := ⟨_, rfl⟩
                    have HW9 : Hid (w9 = w7) := hw9.trans hwq.out
                    by_cases hlt3 : j < R.length
                    · rcases HX4.out with h0 | ⟨g, rfl, hgl, hrow4⟩
                      · rw [h0] at hlt3
                        simp at hlt3
                      have g1 := hrow4 j hlt3
                      rw [← HB7.out.cell (p := ⟨g, _, none⟩) (by rw [← HR2.out]; exact hgl), ← hwq.out] at g1
                      have hat := any_take (r := x) hlt3
                      obtain ⟨z, hz⟩ : ∃ z, R[j] = z := ⟨_, rfl⟩
                      rw [hz] at g1 hat
                      have HAT : Hid _ := hat
                      have i3 : (j : Int) < (R.length : Int) := by omega
                      obtain ⟨b0, hb0⟩ : ∃ b0, (R.take j).any (fun z => decide (z = x)) = b0 := ⟨_, rfl⟩
                      rw [hb0] at HAT ⊢
                      have HWQ : Hid (wr = w7) := hwq.out
                      clear hrow4 hat hz hb0 hwq hw9 hgl
                      cases b0
                      · by_cases hzx : z = x
                        · have j1 : (z == x) = true := by simpa using hzx
                          have HN1 : Hid ((R.take (j + 1)).any (fun z => decide (z = x)) = true) := by
                            have := HAT.out
                            rw [decide_eq_true hzx] at this
                            exact this
                          clear HAT hzx
                          go_wp2
                          go_roundw
                          case rel => exact ⟨j + 1, by omega, by go_num, by rw [HN1.out], HWQ.out⟩
                          case measure => simp [intOf]; omega
                        · have j1 : (z == x) = false := by simpa using hzx
                          have HN1 : Hid ((R.take (j + 1)).any (fun z => decide (z = x)) = false) := by
                            have := HAT.out
                            rw [decide_eq_false hzx] at this
                            exact this
                          clear HAT hzx
                          go_wp2
                          go_roundw
                          case rel => exact ⟨j + 1, by omega, by go_num, by rw [HN1.out], HWQ.out⟩
                          case measure => simp [intOf]; omega
                      · have HN1 : Hid ((R.take (j + 1)).any (fun z => decide (z = x)) = true) := by
                          have := HAT.out
                          rw [Bool.true_or] at this
                          exact this
                        clear HAT
                        go_wp2
                        go_roundw
                        case rel => exact ⟨j + 1, by omega, by go_num, by rw [HN1.out], HWQ.out⟩
                        case measure => simp [intOf]; omega
                    · have e : (R.take j).any (fun z => decide (z = x)) = true := by
                        rw [List.take_of_length_le (by omega)]
                        exact List.any_eq_true.2 ⟨x, HX.out, by simp⟩
                      rw [e]
                      have HWQ : Hid (wr = w7) := hwq.out
                      clear e hwq hw9
                      go_wp2
                      go_roundw
                      case rel => exact ⟨_, cnt7, by rw [HWQ.out]; exact ⟨HRG7.out, fun z hz => HSB.out z (by rw [Bool.and_eq_true] at hz; exact hz.1), HB7.out⟩⟩
                      case measure => rw [HWQ.out, HRG7.out.left_eq, HW0.out]; exact HLT7.out
            · go_wp2
              go_roundw
              case rel => exact ⟨i + 1, by omega, by go_num, HBW⟩
              case measure => simp [intOf]; omega
    · go_wp2
      go_ret
      exact ⟨rfl, HB.out⟩
end
end Go.Proofs.YtjgdnainhoipgaaGreatDoor
