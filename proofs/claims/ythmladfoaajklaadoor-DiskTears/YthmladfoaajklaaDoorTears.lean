/- The walk of DiskTears. -/
import Derived.Test.YthmladfoaajklaaDoorTearsA
import Derived.Deep.DeepCutAuto
import Derived.Deep.CutBlock
import Derived.BigQuiet
import Derived.Maps.RangeWalk
import Derived.Maps.StringElems
namespace Go.Proofs.YthmladfoaajklaaDoor
open Go.RowKit Go.Maps

set_option maxRecDepth 100000 in
set_option maxHeartbeats 4000000 in
theorem tears_walk (a0 : Option Addr) (l0 c0 : Nat) (xs : List Int) (a1 : Option Addr) (l1 c1 : Nat) (ys : List Int) (cut torn : Int) (w : World) (hr0 : Row1 w a0 l0 xs) (hr1 : Row1 w a1 l1 ys) (hc : cut ≤ 9223372036854775807) (hg : HG w) :
    Calls Tryd.prog 5 #[.slice a0 l0 c0, .slice a1 l1 c1, .int .i64 cut, .int .i64 torn] w fun e w' => e = .returned (.bool true) ∧ Below w.heap.size w w' := by
  obtain ⟨rfl, hm0, hx0⟩ := hr0
  obtain ⟨rfl, hm1, hx1⟩ := hr1
  unfold maxLen at hm0 hm1
  by_cases h40 : 40 < xs.length
  · have hd : (40 : Int) < (xs.length : Int) := by omega
    go_enter Tryd.func5, Tryd.ntmps5
    go_wp2
    go_ret
    exact ⟨rfl, Below.refl _ _⟩
  by_cases h41 : 40 < ys.length
  · have hd : (40 : Int) < (ys.length : Int) := by omega
    have hd2 : ¬ (40 : Int) < (xs.length : Int) := by omega
    go_enter Tryd.func5, Tryd.ntmps5
    go_wp2
    go_ret
    exact ⟨rfl, Below.refl _ _⟩
  have hd : ¬ (40 : Int) < (xs.length : Int) := by omega
  have hd2 : ¬ (40 : Int) < (ys.length : Int) := by omega
  have hz := Tryd.zeroValue44
  have hmm := @run_makeMap Tryd.prog
  have HW : Hid (HG w) := hg
  clear hg
  go_enter Tryd.func5, Tryd.ntmps5
  go_wp2_with fail
  refine Calls.mono (written_any w HW.out) ?_
  rintro _ w1 ⟨rfl, hb1⟩
  have hs1 := hb1.size
  have HP : Hid (Prg w1.heap.size ⟨fun _ => zeros, false, 0, 0⟩ (w1.alloc (.cells Tryd.zeroCells44 44))) := disk_new w1
  have HB : Hid (Below w.heap.size w (w1.alloc (.cells Tryd.zeroCells44 44))) := hb1.alloc hs1 _
  clear hb1
  go_wp2_with fail
  refine Calls.mono (cut_st HP.out cut torn) ?_
  rintro _ w2 ⟨rfl, hp2, hg2⟩
  have HO : Hid (St.Ok (St.cut ⟨fun _ => zeros, false, 0, 0⟩ cut torn)) := St.Ok.cut cut torn hc
  have HP : Hid (Prg w1.heap.size (St.cut ⟨fun _ => zeros, false, 0, 0⟩ cut torn) w2) := hp2
  have HB : Hid (Below w.heap.size w w2) := HB.out.grown hg2 HB.out.size (fun k e => by cases e; exact hs1)
  have hlt : w1.heap.size < w2.heap.size := DiskIs.lt hp2
  clear hp2 hg2 hz
  obtain ⟨bd, hbd⟩ : ∃ n, n = w1.heap.size := ⟨_, rfl⟩
  obtain ⟨bm, hbm⟩ : ∃ n, n = w2.heap.size := ⟨_, rfl⟩
  have HE : Hid (EnvT w bd bm 0 (St.cut ⟨fun _ => zeros, false, 0, 0⟩ cut torn) (.map []) (w2.alloc (.map #[] 0))) := by
    have hbl : Below w2.heap.size w2 (w2.alloc (.map #[] 0)) := (Below.refl _ _).alloc (Nat.le_refl _) _
    have hb2 := HB.out.trans (hbl.mono HB.out.size)
    have hsz := HB.out.size
    subst hbd hbm
    exact ⟨DiskIs.below HP.out hbl, World.ownsMap_made _ _ _ _, hb2, hg_of HW.out hb2, hs1, hsz, by omega⟩
  generalize St.cut ⟨fun _ => zeros, false, 0, 0⟩ cut torn = st0 at HE HO
  clear HP HB
  go_wp2_with fail
  rw [← hbd, ← hbm]
  clear hbd hbm hmm
  go_loopw [11, 12] (fun b i wr => ∃ (k : Nat) (st : St) (D : DataW Unit) (br : Int), k ≤ xs.length ∧ k ≤ ys.length ∧ i = .int .i64 k ∧ b = .int .i64 br ∧ Hid st.Ok ∧ Hid (br = 0 ∨ (br = 1 ∧ st.torn = 0)) ∧ Hid (EnvT w bd bm k st D wr) ∧ Hid (Last st.pg D)) (fun _ i _ => xs.length - (intOf i).toNat)
  case atStart => exact ⟨0, st0, .map [], 0, Nat.zero_le _, Nat.zero_le _, rfl, rfl, HO, .inl rfl, HE, ⟨isMap_empty, fun x hx => by simp [Maps.has] at hx⟩⟩
  case round =>
    clear HE HO
    obtain ⟨k, st, D, br, hk0, hk1, rfl, rfl, HO, HR, HE, HL⟩ := hrel
    by_cases hlt0 : k < xs.length
    · by_cases hlt1 : k < ys.length
      · rcases hx0 with hx0 | ⟨b0, off0, rfl, hb0, hrow0⟩
        · exact absurd hlt0 (by rw [hx0]; simp)
        rcases hx1 with hx1 | ⟨b1, off1, rfl, hb1, hrow1⟩
        · exact absurd hlt1 (by rw [hx1]; simp)
        have g0 := hrow0 k hlt0
        have g1 := hrow1 k hlt1
        have i0 : (k : Int) < (xs.length : Int) := by omega
        have i1 : (k : Int) < (ys.length : Int) := by omega
        clear hrow0 hrow1
        generalize xs[k] = a at *
        generalize ys[k] = c at *
        have e0 := (HE.out.below.cell (p := ⟨b0, off0 + k, none⟩) hb0).trans g0
        have hj := pk_lt a 9 (by omega)
        obtain ⟨j, hjj⟩ : ∃ j, pk a 9 = j := ⟨_, rfl⟩
        have HJ : Hid (pk a 9 = j) := hjj
        rw [hjj] at hj
        clear hjj
        have hj4 : j < 4001 := by omega
        obtain ⟨cd, nw, HC, HN, hcd⟩ : ∃ (cd : Int) (nw : ByteArray), Hid (st.code j = cd) ∧ Hid ((st.wr j (pageOf c)).pg j = nw) ∧ ((cd = 0 ∧ Hid (st.pow = true) ∧ nw = pageOf c) ∨ (cd = 14 ∧ Hid (st.pow = false) ∧ Hid (nw = tornPage (pageOf c) (st.pg j) st.torn))) := by
          cases hp : st.pow
          · exact ⟨14, _, St.code_off j hj4 hp, rfl, .inr ⟨rfl, rfl, by show _ = _; rw [(St.wr_off j hj4 _ hp).1, upd_same]⟩⟩
          · exact ⟨0, _, St.code_on j hj4 hp, rfl, .inl ⟨rfl, rfl, by rw [St.wr_on j hj4 _ hp, upd_same]⟩⟩
        have HS : Hid ((st.pg j).size = 1024) := page_of_sizes HE.out.prg j hj4
        go_wp2_with fail
        refine Calls.mono (pick_any a 9 (by omega) (by omega) _) ?_
        rintro _ wr ⟨rfl, rfl⟩
        rw [HJ.out]
        go_wp2_with fail
        refine Calls.mono (read_as HE.out.prg j hj4 _ rfl) ?_
        rintro _ w3 ⟨rfl, hb3⟩
        have HE : Hid _ := HE.out.step hb3
        clear hb3 e0
        have e1 := (HE.out.below.cell (p := ⟨b1, off1 + k, none⟩) hb1).trans g1
        go_wp2_with fail
        refine Calls.mono (page2_any c _) ?_
        rintro _ w4 ⟨rfl, hb4⟩
        have HE : Hid _ := HE.out.step hb4
        clear hb4 e1
        go_wp2_with fail
        refine Calls.mono (write_as HE.out.prg HO.out j cd HC.out (pageOf c) (pageOf_size2 c)) ?_
        rintro _ w5 ⟨E, rfl, hE, hp5, hg5⟩
        have HE : Hid _ := HE.out.wrote HW.out hp5 hg5
        have HF : Hid (ErrNo E cd) := hE
        clear hE hp5 hg5
        go_wp2_with fail
        refine Calls.mono (tell_no HF.out _ HE.out.hg) ?_
        rintro _ w6 ⟨rfl, hb6⟩
        have HE : Hid _ := HE.out.step hb6
        clear hb6 HF
        go_wp2_with fail
        refine Calls.mono (read_as HE.out.prg j hj4 nw HN.out) ?_
        rintro _ w7 ⟨rfl, hb7⟩
        have HE : Hid _ := HE.out.step hb7
        clear hb7
        go_upto_block 2 with fail
        go_cut [11] (fun b wx => ∃ br2 : Int, b = .int .i64 br2 ∧ Hid (br2 = 0 ∨ (br2 = 1 ∧ (st.wr j (pageOf c)).torn = 0)) ∧ Hid (EnvT w bd bm k (st.wr j (pageOf c)) D wx))
        case first =>
          rcases hcd with ⟨rfl, HQ, rfl⟩ | ⟨rfl, HQ, HT⟩
          · have e1 := (HE.out.below.cell (p := ⟨b1, off1 + k, none⟩) hb1).trans g1
            go_wp2_with fail
            refine Calls.mono (page2_any c _) ?_
            rintro _ w8 ⟨rfl, hb8⟩
            have HE : Hid _ := HE.out.step hb8
            clear hb8 e1
            go_wp2
            go_meet
            refine ⟨br, rfl, ?_, HE⟩
            show br = 0 ∨ br = 1 ∧ (st.wr j (pageOf c)).torn = 0
            rw [St.wr_on_torn _ _ HQ.out]
            exact HR.out
          · have HQ2 : Hid ((st.wr j (pageOf c)).pow = false) := St.pow_wr j (pageOf c) HQ.out
            have HT0 : Hid ((st.wr j (pageOf c)).torn = 0) := (St.wr_off j hj4 (pageOf c) HQ.out).2
            go_wp2_with fail
            refine Calls.mono (on_off HE.out.prg HQ2.out) ?_
            rintro _ w7 ⟨rfl, rfl⟩
            have ho : (st.pg j).size = 1024 := HS.out
            cases hq : (nw.toList == (st.pg j).toList)
            · have hnw : nw.size = 1024 := by rw [HT.out]; exact torn_size _ _ _ (pageOf_size2 c) ho HO.out.torn
              have hbr : wrap64 (br + 1) = 1 := by
                rcases HR.out with h | ⟨_, h⟩
                · rw [h]; unfold wrap64; omega
                · exfalso
                  have : nw = st.pg j := by rw [HT.out, h, torn_zero]
                  rw [this] at hq
                  simp at hq
              have hpp := pageOf_size2 c
              go_wp2_with fail
              rw [hbr]
              clear hbr
              go_loopw [18] (fun m wr => ∃ m0 : Nat, m0 ≤ 1024 ∧ m = .int .i64 m0 ∧ Hid (EnvT w bd bm k (st.wr j (pageOf c)) D wr)) (fun m _ => 1024 - (intOf m).toNat)
              case atStart => exact ⟨0, by omega, rfl, HE⟩
              case round =>
                clear HE
                obtain ⟨m0, hm, rfl, HE⟩ := hrel
                by_cases hlt : m0 < 1024
                · have hlt' : (m0 : Int) < 1024 := by omega
                  cases hE : (((nw[m0]'(by omega)).toNat : Int) == (((pageOf c)[m0]'(by omega)).toNat : Int))
                  · have hge : st.torn ≤ m0 := by
                      apply Nat.le_of_not_lt
                      intro hh
                      have e := torn_ahead (pageOf c) (st.pg j) st.torn m0 hh hpp HO.out.torn (by rw [← HT.out]; omega) (by omega)
                      have e2 : nw[m0]'(by omega) = (pageOf c)[m0]'(by omega) := by
                        rw [← e]
                        congr 1
                      rw [e2] at hE
                      simp at hE
                    have hbq : ((nw.extract m0 1024).toList == ((st.pg j).extract m0 1024).toList) = true := by
                      rw [HT.out, torn_after _ _ _ _ hge hpp ho HO.out.torn]
                      simp
                    clear hge
                    go_wp2_with fail
                    have HE : Hid _ := HE.out.drew
                    go_region_held3 (fun w' => w'.cell? ⟨b1, off1 + k, none⟩ = some (.int .i64 c)) (exact (HE.out.below.cell (p := ⟨b1, off1 + k, none⟩) hb1).trans g1)
                      (first
                        | (go_at_call 26; refine Calls.mono (page2_any c _) ?_; rintro _ w9 ⟨rfl, hb9⟩; have HE : Hid _ := HE.out.step hb9; clear hb9))
                    all_goals go_wp2_with fail
                    all_goals go_quiet (fail)
                    all_goals have HE : Hid _ := HE.out.drewN nq
                    all_goals go_wp2
                    all_goals go_meet
                    all_goals exact ⟨1, rfl, (show (1 : Int) = 0 ∨ (1 : Int) = 1 ∧ (st.wr j (pageOf c)).torn = 0 from .inr ⟨rfl, HT0.out⟩), HE⟩
                  · go_wp2_with fail
                    have HE : Hid _ := HE.out.drew
                    go_region_held3 (fun w' => w'.cell? ⟨b1, off1 + k, none⟩ = some (.int .i64 c)) (exact (HE.out.below.cell (p := ⟨b1, off1 + k, none⟩) hb1).trans g1)
                      (first
                        | (go_at_call 26; refine Calls.mono (page2_any c _) ?_; rintro _ w9 ⟨rfl, hb9⟩; have HE : Hid _ := HE.out.step hb9; clear hb9))
                    all_goals (go_wp2_with fail; go_roundw)
                    all_goals first
                      | (case rel => exact ⟨m0 + 1, by omega, by go_num, HE⟩)
                      | (case measure => simp [intOf]; omega)
                · have hdd : decide ((m0 : Int) < 1024) = false := by simp; omega
                  have hbq : ((nw.extract m0 1024).toList == ((st.pg j).extract m0 1024).toList) = true := by
                    rw [HT.out, torn_after _ _ _ _ (by have := HO.out.torn; omega) hpp ho HO.out.torn]
                    simp
                  go_wp2_with fail
                  go_quiet (fail)
                  have HE : Hid _ := HE.out.drewN nq
                  go_wp2_with fail
                  go_quiet (fail)
                  have HE : Hid _ := HE.out.drewN nq
                  go_wp2
                  go_meet
                  exact ⟨1, rfl, (show (1 : Int) = 0 ∨ (1 : Int) = 1 ∧ (st.wr j (pageOf c)).torn = 0 from .inr ⟨rfl, HT0.out⟩), HE⟩
            · go_wp2
              go_meet
              exact ⟨br, rfl, (show br = 0 ∨ br = 1 ∧ (st.wr j (pageOf c)).torn = 0 by rcases HR.out with h | ⟨h, _⟩; exact .inl h; exact .inr ⟨h, HT0.out⟩), HE⟩
        case rest =>
          clear HE hcd
          obtain ⟨br2, rfl, HR2, HE⟩ := hcut
          have hown := HE.out.own
          have hkey : keyOf Tryd.prog 3 (.int .i64 j) = some (.int .i64 j) := keyOf_int_mk Tryd.underlying3 (wf_nat j hj4)
          have hsz : nw.size = 1024 := by rw [← HN.out]; exact page_of_sizes HE.out.prg j hj4
          have hmax : nw.size ≤ maxLen := by unfold maxLen; omega
          go_wp2_with (at_mapUpdate; refine wpList_mapUpdate_own _ rfl _ _ _ 55 rfl 3 9 keyed3 Tryd.underlying55 _ bm k D rfl hown (by unfold maxLen; omega) _ _ _ rfl rfl hkey _ [] (plainElem_string Tryd.underlying9 hmax) ?_; intro w8 hown8 hg8)
          have HE : Hid _ := HE.out.put HW.out hown8 hg8
          have HL2 : Hid (Last (st.wr j (pageOf c)).pg (D.put (.int .i64 j) (.lit (.string nw.data.toList)))) := by
            have := HL.out.put (pg' := (st.wr j (pageOf c)).pg) j hj4 (fun i hi => St.wr_other j hj4 _ i hi)
            rw [HN.out] at this
            exact this
          clear hown8 hg8 hown
          go_wp2
          go_roundw
          case rel => exact ⟨k + 1, st.wr j (pageOf c), _, br2, by omega, by omega, by go_num, rfl, HO.out.wr j (pageOf c), HR2, HE, HL2⟩
          case measure => simp [intOf]; omega
      · have i0 : (k : Int) < (xs.length : Int) := by omega
        have i1 : ¬ (k : Int) < (ys.length : Int) := by omega
        clear hx0 hx1
        have hown := HE.out.own
        have hlb : bd < wr.heap.size := DiskIs.lt HE.out.prg
        have hlm : bm < wr.heap.size := hown.lt
        have hls := HE.out.below.size
        go_wp2_with (at_range; refine wpList_range_own _ rfl _ 55 rfl 3 9 keyed3 Tryd.underlying55 _ bm k D rfl hown ?_; intro w3 hrg3 hg3 hs3)
        try go_frame
        have HE : Hid _ := HE.out.step (below_of_grown hg3)
        clear hown hg3
        go_loopw [19] (fun _ wx => ∃ (left : Lit → Bool) (cnt : Nat), wx.ranges Tryd.prog 3 (plainElem Tryd.prog 9) bm wr.heap.size k D left cnt ∧ Hid (EnvT w bd bm k st D wx)) (fun _ wx => wx.rangeLeft bm wr.heap.size)
        case atStart => exact ⟨_, _, hrg3, HE⟩
        case round =>
          clear HE hrg3
          obtain ⟨left, cnt, hrg, HE⟩ := hrel
          go_wp2_with (at_next; refine wpList_next_ranges_is _ rfl _ rfl 3 9 .i64 keyed3 Tryd.underlying3 Tryd.underlying9 bm _ k D left cnt rfl hrg ?_ ?_)
          · intro _ _
            go_wp2
            go_ret
            exact ⟨rfl, HE.out.below⟩
          · intro x s4 w4 cnt4 hwx hws hlx hat hrg4 hlt4 hg4 hs4 hen
            have HE : Hid _ := HE.out.iter HW.out hg4 hls (by omega) (by omega)
            obtain ⟨j, hxj, hj, ha⟩ := HL.out.yes x (has_true_of_atKey hat)
            have hsj : Hid (st.pg j = s4) := (str_of ((hat (.lit (.string []))).symm.trans (ha _))).symm
            have HXJ : Hid (x = j) := hxj
            clear hg4 hat ha hxj
            go_wp2_with fail
            refine Calls.mono (read_eq HE.out.prg x j HXJ.out hj s4 hsj.out) ?_
            rintro _ w5 ⟨rfl, hb5⟩
            have HE : Hid _ := HE.out.step hb5
            have hrg5 := hrg4.kept (grown_of_below hb5 none) (by simp) (by simp)
            clear hb5 hrg4 hen
            go_wp2_with fail
            go_roundw
            case rel => exact ⟨_, cnt4, hrg5, HE⟩
            case measure => rw [hrg5.left_eq, hrg.left_eq]; exact hlt4
    · have i0 : ¬ (k : Int) < (xs.length : Int) := by omega
      clear hx0 hx1
      have hown := HE.out.own
      have hlb : bd < wr.heap.size := DiskIs.lt HE.out.prg
      have hlm : bm < wr.heap.size := hown.lt
      have hls := HE.out.below.size
      go_wp2_with (at_range; refine wpList_range_own _ rfl _ 55 rfl 3 9 keyed3 Tryd.underlying55 _ bm k D rfl hown ?_; intro w3 hrg3 hg3 hs3)
      try go_frame
      have HE : Hid _ := HE.out.step (below_of_grown hg3)
      clear hown hg3
      go_loopw [19] (fun _ wx => ∃ (left : Lit → Bool) (cnt : Nat), wx.ranges Tryd.prog 3 (plainElem Tryd.prog 9) bm wr.heap.size k D left cnt ∧ Hid (EnvT w bd bm k st D wx)) (fun _ wx => wx.rangeLeft bm wr.heap.size)
      case atStart => exact ⟨_, _, hrg3, HE⟩
      case round =>
        clear HE hrg3
        obtain ⟨left, cnt, hrg, HE⟩ := hrel
        go_wp2_with (at_next; refine wpList_next_ranges_is _ rfl _ rfl 3 9 .i64 keyed3 Tryd.underlying3 Tryd.underlying9 bm _ k D left cnt rfl hrg ?_ ?_)
        · intro _ _
          go_wp2
          go_ret
          exact ⟨rfl, HE.out.below⟩
        · intro x s4 w4 cnt4 hwx hws hlx hat hrg4 hlt4 hg4 hs4 hen
          have HE : Hid _ := HE.out.iter HW.out hg4 hls (by omega) (by omega)
          obtain ⟨j, hxj, hj, ha⟩ := HL.out.yes x (has_true_of_atKey hat)
          have hsj : Hid (st.pg j = s4) := (str_of ((hat (.lit (.string []))).symm.trans (ha _))).symm
          have HXJ : Hid (x = j) := hxj
          clear hg4 hat ha hxj
          go_wp2_with fail
          refine Calls.mono (read_eq HE.out.prg x j HXJ.out hj s4 hsj.out) ?_
          rintro _ w5 ⟨rfl, hb5⟩
          have HE : Hid _ := HE.out.step hb5
          have hrg5 := hrg4.kept (grown_of_below hb5 none) (by simp) (by simp)
          clear hb5 hrg4 hen
          go_wp2_with fail
          go_roundw
          case rel => exact ⟨_, cnt4, hrg5, HE⟩
          case measure => rw [hrg5.left_eq, hrg.left_eq]; exact hlt4
end Go.Proofs.YthmladfoaajklaaDoor
