/- Texts of the proof of PagerPlays: Ply2. -/
import Derived.Test.YtjnjjpdgifnnpaaGreatDoorM10
import Derived.Deep.DeepCutAuto
import Derived.Deep.CutBlock
import Derived.BigQuiet
namespace Go.Proofs.YtjnjjpdgifnnpaaGreatDoor
open Go.RowKit Go.Maps

theorem open_new (w : World) : Calls Tryz.prog 5 #[.pointer (some ⟨w.heap.size, 0, none⟩)] (w.alloc (.cells Tryz.zeroCells26 26)) fun e w' => ∃ bp bm, e = .returned (.tuple #[.pointer (some ⟨bp, 0, none⟩), .nilIface]) ∧ w.heap.size + 1 ≤ bp ∧ w.heap.size + 1 ≤ bm ∧ PagerIs bp w.heap.size bm 0 (loaded st0.pg 1 false) w' ∧ Prg w.heap.size st0 w' ∧ Below w.heap.size w w' := by
  refine (open_any (s := st0) (disk_new w)).mono ?_
  rintro _ w1 ⟨bp, bm, rfl, h1, h2, h3, h4, h5⟩
  rw [World.size_alloc] at h1 h2
  exact ⟨bp, bm, rfl, h1, h2, h3, h4, ((Below.refl _ w).alloc (Nat.le_refl _) _).trans (h5.mono (by rw [World.size_alloc]; omega))⟩

set_option maxRecDepth 100000 in
set_option maxHeartbeats 100000000 in
theorem plays_walk (ad : Option Addr) (len cap : Nat) (xs : List Wt) (w : World) (hr : Row4 w ad len xs) (hg : HG w) :
    Calls Tryz.prog 3 #[.slice ad len cap] w fun e w' => e = .returned (.bool true) ∧ Below w.heap.size w w' := by
  obtain ⟨rfl, hm, hx⟩ := hr
  unfold maxLen at hm
  by_cases h50 : 50 < xs.length
  · have hd : (50 : Int) < (xs.length : Int) := by omega
    go_enter Tryz.func3, Tryz.ntmps3
    go_wp2
    go_ret
    exact ⟨rfl, Below.refl _ _⟩
  have hd : ¬ (50 : Int) < (xs.length : Int) := by omega
  have hz := Tryz.zeroValue26
  have HW : Hid (HG w) := hg
  clear hg
  go_enter Tryz.func3, Tryz.ntmps3
  go_wp2_with fail
  refine (open_new w).mono ?_
  rintro _ w1 ⟨bp, bm, rfl, l1, l2, hP, hD, hb1⟩
  have HP : Hid (PagerIs bp w.heap.size bm 0 (loaded st0.pg 1 false) w1) := hP
  have HD : Hid (Prg w.heap.size st0 w1) := hD
  have HB1 : Hid _ := hb1
  clear hP hD hb1 hz
  go_wp2_with fail
  refine (open_nil w1).mono ?_
  rintro _ wa ⟨rfl, hwa⟩
  subst wa
  go_wp2_with fail
  refine (bare_any _ 7 _ (HW.out.below HB1.out HW.out.lt) (.inr (.inr ⟨rfl, rfl⟩))).mono ?_
  rintro _ w2 ⟨rfl, hb2⟩
  have HP2 : Hid (PagerIs bp w.heap.size bm 0 (loaded st0.pg 1 false) w2) := HP.out.below hb2
  have HD2 : Hid (Prg w.heap.size st0 w2) := HD.out.below hb2
  have HB2 : Hid (Below w.heap.size w w2) := HB1.out.trans (hb2.mono HB1.out.size)
  clear HP HD HB1 hb2
  obtain ⟨Z, hz, sZ⟩ := zero38
  obtain ⟨M, hM⟩ : ∃ M, pagesL w2.heap.size (fun _ => 0) (fun _ => 0) = M := ⟨_, rfl⟩
  have lM : M.length = 17 := by rw [← hM, pagesL_len]
  have sM : (Tryz.prog.info? 38).map (·.size) = some M.length := by rw [lM]; exact size38
  have sM2 : (Tryz.prog.info? 38).map (·.size) = some M.toArray.size := by rw [List.size_toArray]; exact sM
  have oM := all_oneCell_toArray (show ∀ v ∈ M, v.oneCell' = true by rw [← hM]; exact pagesL_one _ _ _)
  have hbu : Tryz.prog.built 38 [(0, .map (some w2.heap.size))] = some M.toArray := by rw [← hM]; exact built38z _
  have hru := fun wx => run_build (P := Tryz.prog) wx 38 #[(0, .map (some w2.heap.size))] M.toArray hbu
  have hmm := @run_makeMap Tryz.prog
  obtain ⟨wa, hwa⟩ : ∃ wa, w2.alloc (.map #[] 0) = wa := ⟨_, rfl⟩
  obtain ⟨wb, hwb⟩ : ∃ wb, wa.alloc (.cells Z 38) = wb := ⟨_, rfl⟩
  have za : wa.heap.size = w2.heap.size + 1 := by rw [← hwa, World.size_alloc]
  have hrm : Room (w2.heap.size + 1) 17 wb := by rw [← hwb, ← za]; exact Room.new wa Z 38 17 sZ
  have HTb : Hid (wb.there (w2.heap.size + 1) 0 M.toArray.size) := hrm.there (by rw [List.size_toArray, lM])
  have H3 : Hid (First w2 M (wb.setCells (w2.heap.size + 1) 0 M)) := first_of M hM Z sZ hwa hwb
  clear hrm hbu
  go_upto_region 9 with (first | (refine wpList_build rfl 38 _ rfl [(0, .map (some w2.heap.size))] rfl (.agg M.toArray) (hru _) ?_) | (refine wpList_store_mid rfl 38 _ _ rfl (w2.heap.size + 1) 0 M.toArray rfl rfl HTb.out sM2 oM ?_))
  go_frame
  obtain ⟨w3, hw3⟩ : ∃ w3, wb.setCells (w2.heap.size + 1) 0 M = w3 := ⟨_, rfl⟩
  rw [hw3] at H3
  rw [hw3]
  clear hw3 hwa hwb HTb za hru hmm
  go_cut [9, 10] (fun s9 s10 wx => ∃ b9 b10 m1 m2, s9 = .pointer (some ⟨b9, 0, none⟩) ∧ s10 = .pointer (some ⟨b10, 0, none⟩) ∧ Hid (Nin2 w3 w2.heap.size (w2.heap.size + 1) M b9 b10 m1 m2 wx))
  case first =>
    as_aux_lemma =>
    refine nine_ok hM H3 (fun _ _ d _ _ h => by cases d <;> exact h) ?_
    intro b9 b10 m1 m2 wz y58 y59 y60 y61 HF
    go_wp2_with fail
    go_meet
    exact ⟨b9, b10, m1, m2, rfl, rfl, HF⟩
  case rest =>
    obtain ⟨b9, b10, m1, m2, rfl, rfl, HF⟩ := hcut
    have hkc : ∀ i, i < w2.heap.size → wc.heap[i]? = w2.heap[i]? := fun i hi => (HF.out.below.block i (by have := H3.out.size; omega)).trans (H3.out.below.block i hi)
    have HPc : Hid (PagerIs bp w.heap.size bm 0 (loaded st0.pg 1 false) wc) := ⟨HP2.out.cells.block (hkc _ HP2.out.lt), HP2.out.own.block (hkc _ HP2.out.mlt)⟩
    have HM : Hid (pagesL w2.heap.size (fun _ => 0) (fun _ => 0) = M) := hM
    have hz8 := Tryz.zeroValue48
    clear hkc hz hM lM sM sM2 oM
    go_wp2_with fail
    refine (mark_any HPc.out).mono ?_
    rintro _ w5 ⟨mk, rfl, hk5, hS5, hb5⟩
    obtain ⟨V, hV⟩ : ∃ V, markL (loaded st0.pg 1 false).used (loaded st0.pg 1 false).rp (loaded st0.pg 1 false).rn mk (loaded st0.pg 1 false).commits = V := ⟨_, rfl⟩
    rw [hV]
    have lV : V.length = 2018 := by rw [← hV, markL_len]
    have sV2 : (Tryz.prog.info? 48).map (·.size) = some V.toArray.size := by rw [List.size_toArray, lV]; exact size48
    have oV := all_oneCell_toArray (show ∀ v ∈ V, v.oneCell' = true by rw [← hV]; exact markL_one _ _ _ _ _)
    have HTV : Hid ((w5.alloc (.cells Tryz.zeroCells48 48)).there w5.heap.size 0 V.toArray.size) := (Room.new w5 Tryz.zeroCells48 48 2018 zsize48).there (by rw [List.size_toArray, lV])
    have HE : Hid (Env (B11 w.heap.size bp (w2.heap.size + 1) b9 b10 w5.heap.size bm w2.heap.size m1 m2 mk) x0 d0 2000 w ((w5.alloc (.cells Tryz.zeroCells48 48)).setCells w5.heap.size 0 V)) :=
      env_start l1 l2 HP2.out HD2.out HB2.out HM.out H3.out HF.out hk5 hS5 hb5 Tryz.zeroCells48 zsize48 V hV.symm
    clear hk5 hS5 hb5 hV lV HPc HM HF H3 HP2 HD2 HB2 l1 l2
    go_wp2_with (refine wpList_store_mid rfl 48 _ _ rfl w5.heap.size 0 V.toArray rfl rfl HTV.out sV2 oV ?_)
    generalize ((w5.alloc (.cells Tryz.zeroCells48 48)).setCells w5.heap.size 0 V) = w6 at *
    obtain ⟨a5, ha5⟩ : ∃ a5, w5.heap.size = a5 := ⟨_, rfl⟩
    obtain ⟨a2, ha2⟩ : ∃ a2, w2.heap.size + 1 = a2 := ⟨_, rfl⟩
    obtain ⟨a0, ha0⟩ : ∃ a0, w.heap.size = a0 := ⟨_, rfl⟩
    rw [ha5, ha2, ha0] at HE
    rw [ha5, ha2, ha0]
    have H0 : Hid (w.heap.size = a0) := ha0
    clear ha5 ha2 ha0 HTV sV2 oV hz8
    go_loopw [4, 12, 13] (fun p4 f12 i wr => ∃ (k b1 b6 b7 b8 c9 c10 : Nat) (x : Ps) (d : Dc), k ≤ xs.length ∧ i = .int .i64 k ∧ p4 = .pointer (some ⟨b1, 0, none⟩) ∧ f12 = .bool x.fresh ∧ Hid (Env (B11 a0 b1 a2 b9 b10 a5 b6 b7 b8 c9 c10) x d (2000 + 2 * k) w wr) ∧ Hid (Alike x d) ∧ Hid (Few k x)) (fun _ _ i _ => xs.length - (intOf i).toNat)
    case atStart => exact ⟨0, bp, bm, w2.heap.size, m1, m2, mk, x0, d0, Nat.zero_le _, rfl, rfl, rfl, HE, alike0, few0⟩
    case round =>
      clear HE
      obtain ⟨k, b1, b6, b7, b8, c9, c10, x, d, hk, rfl, rfl, rfl, HE, HA, HFw⟩ := hrel
      by_cases hlt : k < xs.length
      · rcases hx with hx | ⟨b, off, rfl, hb, hrow⟩
        · exact absurd hlt (by rw [hx]; simp)
        obtain ⟨e1, e2, e3, e4, hfit⟩ := hrow k hlt
        have i1 : (k : Int) < (xs.length : Int) := by omega
        have g1 := (HE.out.below.cell (p := ⟨b, off + k * 4, none⟩) hb).trans e1
        have g2 := (HE.out.below.cell (p := ⟨b, off + k * 4 + 1, none⟩) hb).trans e2
        have g3 := (HE.out.below.cell (p := ⟨b, off + k * 4 + 2, none⟩) hb).trans e3
        have g4 := (HE.out.below.cell (p := ⟨b, off + k * 4 + 3, none⟩) hb).trans e4
        clear hrow e1 e2 e3 e4
        generalize xs[k] = y at *
        obtain ⟨q, a, c, t⟩ := y
        simp only at g1 g2 g3 g4
        have HFit : Hid ((Lit.int .i64 a).wf = true) := hfit
        clear hfit
        have hbl : Below wr.heap.size wr (wr.alloc (.cells #[.int .i64 q, .int .i64 a, .int .i64 c, .int .i64 t] 51)) := (Below.refl _ _).alloc (Nat.le_refl _) _
        have HE1 : Hid (Env (B11 a0 b1 a2 b9 b10 a5 b6 b7 b8 c9 c10) x d (2000 + 2 * k) w (wr.alloc (.cells #[.int .i64 q, .int .i64 a, .int .i64 c, .int .i64 t] 51))) := HE.out.step hbl
        have HX : Hid (Xrow wr.heap.size q a c t (wr.alloc (.cells #[.int .i64 q, .int .i64 a, .int .i64 c, .int .i64 t] 51))) := xrow_new wr q a c t
        have r2 : (wr.alloc (.cells #[.int .i64 q, .int .i64 a, .int .i64 c, .int .i64 t] 51)).cell? ⟨a2, 0, none⟩ = some (.map (some b7)) := by
          have := HE1.out.nowR 0 (.map (some b7)) rfl
          rwa [Nat.zero_add] at this
        have hk50 : k < 50 := by omega
        have HBx : Hid (∀ i, i < 11 → B11 a0 b1 a2 b9 b10 a5 b6 b7 b8 c9 c10 i < wr.heap.size) := HE.out.lt
        clear HE hbl
        go_upto_block 2 with (refine look_text _ rfl _ _ rfl HE1.out.now a HFit.out rfl rfl ?_)
        clear r2 g1 g2 g3 g4
        obtain ⟨bx, hbx⟩ : ∃ bx, wr.heap.size = bx := ⟨_, rfl⟩
        obtain ⟨wx, hwx⟩ : ∃ wx, wr.alloc (.cells #[.int .i64 q, .int .i64 a, .int .i64 c, .int .i64 t] 51) = wx := ⟨_, rfl⟩
        rw [hwx] at HE1 HX
        rw [hbx] at HX HBx
        rw [hwx, hbx]
        clear hwx hbx
        obtain ⟨u, hu⟩ : ∃ u, (fi d.F a).isSome = u := ⟨_, rfl⟩
        obtain ⟨T, hT⟩ : ∃ T, (fi d.F a).getD ⟨#[]⟩ = T := ⟨_, rfl⟩
        rw [hu, hT]
        have HUse : Hid ((fi d.F a).isSome = u) := hu
        clear hu hT
        go_cut [4, 12] (fun p4 f12 wz => ∃ (b1 b6 b7 b8 c9 c10 : Nat) (x : Ps) (d : Dc), p4 = .pointer (some ⟨b1, 0, none⟩) ∧ f12 = .bool x.fresh ∧ Hid (Env (B11 a0 b1 a2 b9 b10 a5 b6 b7 b8 c9 c10) x d (2000 + 2 * (k + 1)) w wz) ∧ Hid (Alike x d) ∧ Hid (Few (k + 1) x))
        case first =>
          rcases nine_ways q with ⟨rfl, _⟩ | ⟨rfl, _⟩ | ⟨rfl, _⟩ | ⟨rfl, _⟩ | ⟨rfl, _⟩ | ⟨rfl, _⟩ | ⟨rfl, _⟩ | ⟨rfl, _⟩ | ⟨rfl, _⟩ | ⟨q0, q1, q2, q3, q4, q5, q6, q7, q8⟩
          · as_aux_lemma =>
              refine case0 hk50 HW HE1 HX HBx HA HFw HUse rfl (fun _ _ d _ _ h => by cases d <;> exact h) ?_
              intro e1 e6 e7 e8 e9 e10 x d wz g y2 y5 y17 y18 y19 y84 y85 y86 y87 y88 y89 y90 y91 y92 y93 y94 y95 y96 y97 y98 y99 y100 y101 y102 y103 y104 y105 y106 y107 y108 y109 y110 y111 y112 y113 y114 y115 y116 y117 y118 y119 y120 y121 y122 y123 y124 y125 y126 y127 y128 y129 y130 y131 y132 y133 y134 y135 y136 y137 y138 y139 y140 y141 y142 y143 y144 y145 y146 y147 y148 y149 y150 y151 y152 y153 y154 y155 y156 y157 y158 y159 y160 y161 y162 y163 y164 y165 y166 y167 y168 y169 y170 y171 y172 y173 y174 y175 y176 y177 y178 y179 y180 y181 y182 y183 y184 y185 y186 y187 y188 y189 y190 y191 y192 y193 y194 y195 y196 y197 y198 y199 y200 y201 y202 y203 y204 y205 y206 y207 y208 y209 y210 y211 y212 y213 y214 y215 y216 y217 y218 y219 y220 y221 y222 y223 y224 y225 y226 y227 y228 y229 y230 y231 y232 y233 y234 y235 y236 y237 y238 y239 y240 y241 y242 y243 y244 y245 y246 y247 y248 y249 hg HE HA HF
              go_wp2_with fail
              go_meet
              exact ⟨e1, e6, e7, e8, e9, e10, x, d, rfl, congrArg Value.bool hg, HE, HA, HF⟩
          · as_aux_lemma =>
              refine case1 hk50 HW HE1 HX HBx HA HFw HUse rfl (fun _ _ d _ _ h => by cases d <;> exact h) ?_
              intro e1 e6 e7 e8 e9 e10 x d wz g y2 y5 y17 y18 y19 y84 y85 y86 y87 y88 y89 y90 y91 y92 y93 y94 y95 y96 y97 y98 y99 y100 y101 y102 y103 y104 y105 y106 y107 y108 y109 y110 y111 y112 y113 y114 y115 y116 y117 y118 y119 y120 y121 y122 y123 y124 y125 y126 y127 y128 y129 y130 y131 y132 y133 y134 y135 y136 y137 y138 y139 y140 y141 y142 y143 y144 y145 y146 y147 y148 y149 y150 y151 y152 y153 y154 y155 y156 y157 y158 y159 y160 y161 y162 y163 y164 y165 y166 y167 y168 y169 y170 y171 y172 y173 y174 y175 y176 y177 y178 y179 y180 y181 y182 y183 y184 y185 y186 y187 y188 y189 y190 y191 y192 y193 y194 y195 y196 y197 y198 y199 y200 y201 y202 y203 y204 y205 y206 y207 y208 y209 y210 y211 y212 y213 y214 y215 y216 y217 y218 y219 y220 y221 y222 y223 y224 y225 y226 y227 y228 y229 y230 y231 y232 y233 y234 y235 y236 y237 y238 y239 y240 y241 y242 y243 y244 y245 y246 y247 y248 y249 hg HE HA HF
              go_wp2_with fail
              go_meet
              exact ⟨e1, e6, e7, e8, e9, e10, x, d, rfl, congrArg Value.bool hg, HE, HA, HF⟩
          · as_aux_lemma =>
              refine case2 hk50 HW HE1 HX HBx HA HFw HUse rfl (fun _ _ d _ _ h => by cases d <;> exact h) ?_
              intro e1 e6 e7 e8 e9 e10 x d wz g y2 y5 y17 y18 y19 y84 y85 y86 y87 y88 y89 y90 y91 y92 y93 y94 y95 y96 y97 y98 y99 y100 y101 y102 y103 y104 y105 y106 y107 y108 y109 y110 y111 y112 y113 y114 y115 y116 y117 y118 y119 y120 y121 y122 y123 y124 y125 y126 y127 y128 y129 y130 y131 y132 y133 y134 y135 y136 y137 y138 y139 y140 y141 y142 y143 y144 y145 y146 y147 y148 y149 y150 y151 y152 y153 y154 y155 y156 y157 y158 y159 y160 y161 y162 y163 y164 y165 y166 y167 y168 y169 y170 y171 y172 y173 y174 y175 y176 y177 y178 y179 y180 y181 y182 y183 y184 y185 y186 y187 y188 y189 y190 y191 y192 y193 y194 y195 y196 y197 y198 y199 y200 y201 y202 y203 y204 y205 y206 y207 y208 y209 y210 y211 y212 y213 y214 y215 y216 y217 y218 y219 y220 y221 y222 y223 y224 y225 y226 y227 y228 y229 y230 y231 y232 y233 y234 y235 y236 y237 y238 y239 y240 y241 y242 y243 y244 y245 y246 y247 y248 y249 hg HE HA HF
              go_wp2_with fail
              go_meet
              exact ⟨e1, e6, e7, e8, e9, e10, x, d, rfl, congrArg Value.bool hg, HE, HA, HF⟩
          · as_aux_lemma =>
              refine case3 hk50 HW HE1 HX HBx HA HFw HUse rfl (fun _ _ d _ _ h => by cases d <;> exact h) ?_
              intro e1 e6 e7 e8 e9 e10 x d wz g y2 y5 y17 y18 y19 y84 y85 y86 y87 y88 y89 y90 y91 y92 y93 y94 y95 y96 y97 y98 y99 y100 y101 y102 y103 y104 y105 y106 y107 y108 y109 y110 y111 y112 y113 y114 y115 y116 y117 y118 y119 y120 y121 y122 y123 y124 y125 y126 y127 y128 y129 y130 y131 y132 y133 y134 y135 y136 y137 y138 y139 y140 y141 y142 y143 y144 y145 y146 y147 y148 y149 y150 y151 y152 y153 y154 y155 y156 y157 y158 y159 y160 y161 y162 y163 y164 y165 y166 y167 y168 y169 y170 y171 y172 y173 y174 y175 y176 y177 y178 y179 y180 y181 y182 y183 y184 y185 y186 y187 y188 y189 y190 y191 y192 y193 y194 y195 y196 y197 y198 y199 y200 y201 y202 y203 y204 y205 y206 y207 y208 y209 y210 y211 y212 y213 y214 y215 y216 y217 y218 y219 y220 y221 y222 y223 y224 y225 y226 y227 y228 y229 y230 y231 y232 y233 y234 y235 y236 y237 y238 y239 y240 y241 y242 y243 y244 y245 y246 y247 y248 y249 hg HE HA HF
              go_wp2_with fail
              go_meet
              exact ⟨e1, e6, e7, e8, e9, e10, x, d, rfl, congrArg Value.bool hg, HE, HA, HF⟩
          · as_aux_lemma =>
              refine case4 hk50 HW HE1 HX HBx HA HFw HUse rfl (fun _ _ d _ _ h => by cases d <;> exact h) ?_
              intro e1 e6 e7 e8 e9 e10 x d wz g y2 y5 y17 y18 y19 y84 y85 y86 y87 y88 y89 y90 y91 y92 y93 y94 y95 y96 y97 y98 y99 y100 y101 y102 y103 y104 y105 y106 y107 y108 y109 y110 y111 y112 y113 y114 y115 y116 y117 y118 y119 y120 y121 y122 y123 y124 y125 y126 y127 y128 y129 y130 y131 y132 y133 y134 y135 y136 y137 y138 y139 y140 y141 y142 y143 y144 y145 y146 y147 y148 y149 y150 y151 y152 y153 y154 y155 y156 y157 y158 y159 y160 y161 y162 y163 y164 y165 y166 y167 y168 y169 y170 y171 y172 y173 y174 y175 y176 y177 y178 y179 y180 y181 y182 y183 y184 y185 y186 y187 y188 y189 y190 y191 y192 y193 y194 y195 y196 y197 y198 y199 y200 y201 y202 y203 y204 y205 y206 y207 y208 y209 y210 y211 y212 y213 y214 y215 y216 y217 y218 y219 y220 y221 y222 y223 y224 y225 y226 y227 y228 y229 y230 y231 y232 y233 y234 y235 y236 y237 y238 y239 y240 y241 y242 y243 y244 y245 y246 y247 y248 y249 hg HE HA HF
              go_wp2_with fail
              go_meet
              exact ⟨e1, e6, e7, e8, e9, e10, x, d, rfl, congrArg Value.bool hg, HE, HA, HF⟩
          · as_aux_lemma =>
              refine case5 hk50 HW HE1 HX HBx HA HFw HUse rfl (fun _ _ d _ _ h => by cases d <;> exact h) ?_
              intro e1 e6 e7 e8 e9 e10 x d wz g y2 y5 y17 y18 y19 y84 y85 y86 y87 y88 y89 y90 y91 y92 y93 y94 y95 y96 y97 y98 y99 y100 y101 y102 y103 y104 y105 y106 y107 y108 y109 y110 y111 y112 y113 y114 y115 y116 y117 y118 y119 y120 y121 y122 y123 y124 y125 y126 y127 y128 y129 y130 y131 y132 y133 y134 y135 y136 y137 y138 y139 y140 y141 y142 y143 y144 y145 y146 y147 y148 y149 y150 y151 y152 y153 y154 y155 y156 y157 y158 y159 y160 y161 y162 y163 y164 y165 y166 y167 y168 y169 y170 y171 y172 y173 y174 y175 y176 y177 y178 y179 y180 y181 y182 y183 y184 y185 y186 y187 y188 y189 y190 y191 y192 y193 y194 y195 y196 y197 y198 y199 y200 y201 y202 y203 y204 y205 y206 y207 y208 y209 y210 y211 y212 y213 y214 y215 y216 y217 y218 y219 y220 y221 y222 y223 y224 y225 y226 y227 y228 y229 y230 y231 y232 y233 y234 y235 y236 y237 y238 y239 y240 y241 y242 y243 y244 y245 y246 y247 y248 y249 hg HE HA HF
              go_wp2_with fail
              go_meet
              exact ⟨e1, e6, e7, e8, e9, e10, x, d, rfl, congrArg Value.bool hg, HE, HA, HF⟩
          · as_aux_lemma =>
              refine case6 hk50 HW HE1 HX HBx HA HFw HUse rfl (fun _ _ d _ _ h => by cases d <;> exact h) ?_
              intro e1 e6 e7 e8 e9 e10 x d wz g y2 y5 y17 y18 y19 y84 y85 y86 y87 y88 y89 y90 y91 y92 y93 y94 y95 y96 y97 y98 y99 y100 y101 y102 y103 y104 y105 y106 y107 y108 y109 y110 y111 y112 y113 y114 y115 y116 y117 y118 y119 y120 y121 y122 y123 y124 y125 y126 y127 y128 y129 y130 y131 y132 y133 y134 y135 y136 y137 y138 y139 y140 y141 y142 y143 y144 y145 y146 y147 y148 y149 y150 y151 y152 y153 y154 y155 y156 y157 y158 y159 y160 y161 y162 y163 y164 y165 y166 y167 y168 y169 y170 y171 y172 y173 y174 y175 y176 y177 y178 y179 y180 y181 y182 y183 y184 y185 y186 y187 y188 y189 y190 y191 y192 y193 y194 y195 y196 y197 y198 y199 y200 y201 y202 y203 y204 y205 y206 y207 y208 y209 y210 y211 y212 y213 y214 y215 y216 y217 y218 y219 y220 y221 y222 y223 y224 y225 y226 y227 y228 y229 y230 y231 y232 y233 y234 y235 y236 y237 y238 y239 y240 y241 y242 y243 y244 y245 y246 y247 y248 y249 hg HE HA HF
              go_wp2_with fail
              go_meet
              exact ⟨e1, e6, e7, e8, e9, e10, x, d, rfl, congrArg Value.bool hg, HE, HA, HF⟩
          · as_aux_lemma =>
              refine case7 hk50 HW HE1 HX HBx HA HFw HUse rfl (fun _ _ d _ _ h => by cases d <;> exact h) ?_
              intro e1 e6 e7 e8 e9 e10 x d wz g y2 y5 y17 y18 y19 y84 y85 y86 y87 y88 y89 y90 y91 y92 y93 y94 y95 y96 y97 y98 y99 y100 y101 y102 y103 y104 y105 y106 y107 y108 y109 y110 y111 y112 y113 y114 y115 y116 y117 y118 y119 y120 y121 y122 y123 y124 y125 y126 y127 y128 y129 y130 y131 y132 y133 y134 y135 y136 y137 y138 y139 y140 y141 y142 y143 y144 y145 y146 y147 y148 y149 y150 y151 y152 y153 y154 y155 y156 y157 y158 y159 y160 y161 y162 y163 y164 y165 y166 y167 y168 y169 y170 y171 y172 y173 y174 y175 y176 y177 y178 y179 y180 y181 y182 y183 y184 y185 y186 y187 y188 y189 y190 y191 y192 y193 y194 y195 y196 y197 y198 y199 y200 y201 y202 y203 y204 y205 y206 y207 y208 y209 y210 y211 y212 y213 y214 y215 y216 y217 y218 y219 y220 y221 y222 y223 y224 y225 y226 y227 y228 y229 y230 y231 y232 y233 y234 y235 y236 y237 y238 y239 y240 y241 y242 y243 y244 y245 y246 y247 y248 y249 hg HE HA HF
              go_wp2_with fail
              go_meet
              exact ⟨e1, e6, e7, e8, e9, e10, x, d, rfl, congrArg Value.bool hg, HE, HA, HF⟩
          · as_aux_lemma =>
              refine case8 hk50 HW HE1 HX HBx HA HFw HUse rfl (fun _ _ d _ _ h => by cases d <;> exact h) ?_
              intro e1 e6 e7 e8 e9 e10 x d wz g y2 y5 y17 y18 y19 y84 y85 y86 y87 y88 y89 y90 y91 y92 y93 y94 y95 y96 y97 y98 y99 y100 y101 y102 y103 y104 y105 y106 y107 y108 y109 y110 y111 y112 y113 y114 y115 y116 y117 y118 y119 y120 y121 y122 y123 y124 y125 y126 y127 y128 y129 y130 y131 y132 y133 y134 y135 y136 y137 y138 y139 y140 y141 y142 y143 y144 y145 y146 y147 y148 y149 y150 y151 y152 y153 y154 y155 y156 y157 y158 y159 y160 y161 y162 y163 y164 y165 y166 y167 y168 y169 y170 y171 y172 y173 y174 y175 y176 y177 y178 y179 y180 y181 y182 y183 y184 y185 y186 y187 y188 y189 y190 y191 y192 y193 y194 y195 y196 y197 y198 y199 y200 y201 y202 y203 y204 y205 y206 y207 y208 y209 y210 y211 y212 y213 y214 y215 y216 y217 y218 y219 y220 y221 y222 y223 y224 y225 y226 y227 y228 y229 y230 y231 y232 y233 y234 y235 y236 y237 y238 y239 y240 y241 y242 y243 y244 y245 y246 y247 y248 y249 hg HE HA HF
              go_wp2_with fail
              go_meet
              exact ⟨e1, e6, e7, e8, e9, e10, x, d, rfl, congrArg Value.bool hg, HE, HA, HF⟩
          · as_aux_lemma =>
              refine case9 q0 q1 q2 q3 q4 q5 q6 q7 q8 hk50 HW HE1 HX HBx HA HFw HUse rfl (fun _ _ d _ _ h => by cases d <;> exact h) ?_
              intro e1 e6 e7 e8 e9 e10 x d wz g y2 y5 y17 y18 y19 y84 y85 y86 y87 y88 y89 y90 y91 y92 y93 y94 y95 y96 y97 y98 y99 y100 y101 y102 y103 y104 y105 y106 y107 y108 y109 y110 y111 y112 y113 y114 y115 y116 y117 y118 y119 y120 y121 y122 y123 y124 y125 y126 y127 y128 y129 y130 y131 y132 y133 y134 y135 y136 y137 y138 y139 y140 y141 y142 y143 y144 y145 y146 y147 y148 y149 y150 y151 y152 y153 y154 y155 y156 y157 y158 y159 y160 y161 y162 y163 y164 y165 y166 y167 y168 y169 y170 y171 y172 y173 y174 y175 y176 y177 y178 y179 y180 y181 y182 y183 y184 y185 y186 y187 y188 y189 y190 y191 y192 y193 y194 y195 y196 y197 y198 y199 y200 y201 y202 y203 y204 y205 y206 y207 y208 y209 y210 y211 y212 y213 y214 y215 y216 y217 y218 y219 y220 y221 y222 y223 y224 y225 y226 y227 y228 y229 y230 y231 y232 y233 y234 y235 y236 y237 y238 y239 y240 y241 y242 y243 y244 y245 y246 y247 y248 y249 hg HE HA HF
              go_wp2_with fail
              go_meet
              exact ⟨e1, e6, e7, e8, e9, e10, x, d, rfl, congrArg Value.bool hg, HE, HA, HF⟩
        case rest =>
          as_aux_lemma =>
            clear HE1 HX HBx HUse HA HFw
            obtain ⟨b1, b6, b7, b8, c9, c10, x, d, rfl, rfl, HE, HA, HFw⟩ := hcut
            apply_assumption
            refine rest_ok HW HE HA (fun _ _ d _ _ h => by cases d <;> exact h) ?_
            intro wz y2 y20 y21 y22 y23 y24 y25 y26 y250 y251 y252 y253 y254 y255 y256 y257 y258 y259 y260 y261 y262 y263 y264 y265 y266 y267 y268 y269 y270 y271 y272 y273 y274 y275 y276 y277 y278 y279 y280 y281 y282 y283 y284 y285 y286 y287 y288 y289 y290 y291 y292 y293 y294 y295 y296 y297 y298 y299 y300 y301 y302 y303 y304 y305 y306 y307 y308 y309 y310 y311 y312 y313 y314 y315 y316 y317 y318 y319 y320 y321 y322 y323 y324 y325 y326 y327 y328 y329 y330 y331 HE
            go_wp2_with fail
            go_roundw
            case rel => exact ⟨k + 1, b1, b6, b7, b8, c9, c10, x, d, by omega, by go_num, rfl, rfl, HE, HA, HFw⟩
            case measure => simp [intOf]; omega
      · clear hx
        have hkl : (k : Int) = xs.length := by omega
        have HBl := HE.out.below
        go_wp2
        go_ret
        exact ⟨rfl, HBl⟩
end Go.Proofs.YtjnjjpdgifnnpaaGreatDoor
