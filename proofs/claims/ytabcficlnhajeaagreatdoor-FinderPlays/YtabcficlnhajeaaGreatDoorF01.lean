/- Texts of the proof of FinderPlays: Rhw, Shp, Shelf, Disk, Tear, Write, State, Pg, Load. -/
import Derived.Test.YtabcficlnhajeaaGreatDoorF00
import Derived.Shelf.LaysM
import Derived.Shelf.Strconv.Clone
import Derived.Shelf.Strings.Repeat
import Derived.Shelf.Strings.Prefix
import Derived.Test.YtabcficlnhajeaaGreatDoorProg
import Derived.Lib.BufferWrite
import Derived.Laws.IdiomCopy
import Derived.Laws.IdiomStrings
import Derived.Carry
namespace Go.Proofs.YtabcficlnhajeaaGreatDoor
open Go.RowKit Go.Maps

theorem results_cells3 {P : Program} {fn : Func} {p0 p1 p2 : Tmp} {t0 t1 t2 : TypeId} {v0 v1 v2 : Value} (h : fn.results = #[.cell p0 t0, .cell p1 t1, .cell p2 t2]) (tmps : Array Value) (w : World) (a0 a1 a2 : Addr)
    (hp0 : tmps.getD p0 undef = .pointer (some a0)) (hp1 : tmps.getD p1 undef = .pointer (some a1)) (hp2 : tmps.getD p2 undef = .pointer (some a2))
    (hl0 : (loadVar t0 a0).run P w = .ok v0 w) (hl1 : (loadVar t1 a1).run P w = .ok v1 w) (hl2 : (loadVar t2 a2).run P w = .ok v2 w) :
    (results fn tmps).run P w = .ok (.tuple #[v0, v1, v2]) w := by
  have e0 : tmps[p0]?.getD undef = .pointer (some a0) := by simpa [Array.getD_eq_getD_getElem?] using hp0
  have e1 : tmps[p1]?.getD undef = .pointer (some a1) := by simpa [Array.getD_eq_getD_getElem?] using hp1
  have e2 : tmps[p2]?.getD undef = .pointer (some a2) := by simpa [Array.getD_eq_getD_getElem?] using hp2
  simp [results, h, e0, e1, e2, asAddr, hl0, hl1, hl2]

set_option maxRecDepth 100000 in
set_option maxHeartbeats 1600000 in
theorem readHead_any (s : ByteArray) (hs : s.size = 1024) (w : World) :
    Calls Tryz.prog 65 #[.string s] w fun e w' => e = .returned (.tuple #[.agg (flags (usedOf s)).toArray, .agg (flags (upperOf s)).toArray, .agg (rootsL (rpOf s) (rnOf s)).toArray]) ∧ Below w.heap.size w w' := by
  have hz := Tryz.zeroValue82
  have hz3 := Tryz.zeroValue85
  have h250 : 250 ≤ s.size := by omega
  go_enter Tryz.func65, Tryz.ntmps65
  go_wp2_with fail
  clear hz hz3
  have h0 := H3.start w
  have e1 : (s.extract 0 250).size = 250 := by rw [ext_size _ _ _ (by omega)]
  have e2 : (s.extract 250 1024).size = 774 := by rw [ext_size _ _ _ (by omega)]
  refine (readFlags_any (s.extract 0 250) (by omega) (by omega) _).mono ?_
  rintro _ w1 ⟨rfl, hb1⟩
  have h1 : H3 w w1 _ _ _ _ := h0.later hb1
  clear h0 hb1
  obtain ⟨fs, hfs⟩ : ∃ fs, flags (bitOf (s.extract 0 250)) = fs := ⟨_, rfl⟩
  rw [hfs]
  have hs2 : (Tryz.prog.info? 82).map (·.size) = some fs.toArray.size := by rw [← hfs]; exact size_flagsA _
  have ho := all_oneCell_toArray (show ∀ v ∈ fs, v.oneCell' = true by rw [← hfs]; exact flags_one _)
  have HT : Hid (w1.there w.heap.size 0 fs.toArray.size) := h1.used.there (by rw [← hfs, List.size_toArray, flags_len])
  have h2 : H3 w (w1.setCells w.heap.size 0 fs) (bitOf s) _ _ _ := h1.store0 (by rw [← hfs]; exact flags_congr fun k hk => bitOf_low s hk)
  have q0 := h2.used.cell 0 (by omega)
  have f0 := h2.used.free 0
  have H2 : Hid _ := h2
  clear h2 h1 hfs
  go_wp2_with (refine wpList_store_mid rfl 82 _ _ rfl _ 0 fs.toArray rfl rfl HT.out hs2 ho ?_)
  clear q0 f0 HT ho hs2
  have h3 := H2.out.zero
  clear H2
  refine (readFlags_any (s.extract 250 1024) (by omega) (by omega) _).mono ?_
  rintro _ w2 ⟨rfl, hb2⟩
  have h4 : H3 w w2 _ _ _ _ := h3.later hb2
  clear h3 hb2
  obtain ⟨gs, hgs⟩ : ∃ gs, flags (bitOf (s.extract 250 1024)) = gs := ⟨_, rfl⟩
  rw [hgs]
  have hs2 : (Tryz.prog.info? 82).map (·.size) = some gs.toArray.size := by rw [← hgs]; exact size_flagsA _
  have ho := all_oneCell_toArray (show ∀ v ∈ gs, v.oneCell' = true by rw [← hgs]; exact flags_one _)
  have HT : Hid (w2.there (w.heap.size + 1) 0 gs.toArray.size) := h4.upper.there (by rw [← hgs, List.size_toArray, flags_len])
  have H5 : Hid (H3 w (w2.setCells (w.heap.size + 1) 0 gs) (usedOf s) (upperOf s) (fun _ => 0) (fun _ => 0)) := h4.store1 (by rw [← hgs]; exact flags_congr fun k hk => bitOf_high s hk)
  clear h4 hgs
  go_wp2_with (refine wpList_store_mid rfl 82 _ _ rfl _ 0 gs.toArray rfl rfl HT.out hs2 ho ?_)
  clear HT hs2 ho e1 e2
  go_loopw [13] (fun i wr => ∃ k : Nat, k ≤ 8 ∧ i = .int .i64 k ∧ Hid (H3 w wr (usedOf s) (upperOf s) (fun j => if j < k then rpOf s j else 0) (fun j => if j < k then rnOf s j else 0))) (fun i _ => 8 - (intOf i).toNat)
  case atStart =>
    exact ⟨0, by omega, rfl, by simpa using H5⟩
  case round =>
    obtain ⟨k, hk, rfl, HC⟩ := hrel
    by_cases hlt : k < 8
    · have h1 : (k : Int) < 8 := by omega
      have g1 : (500 + 4 * (k : Int)) ≤ (s.size : Int) := by omega
      have g2 : (500 + 4 * (k : Int) + 2) ≤ (s.size : Int) := by omega
      go_wp2_with fail
      refine (rootAt_any k hlt _).mono ?_
      rintro _ wa ⟨rfl, hw⟩
      subst wa
      go_wp2_with fail
      refine (readNumber_any (s.extract (500 + 4 * k) 1024) (by rw [ext_size _ _ _ (by omega)]; omega) _).mono ?_
      rintro _ wa ⟨rfl, n1, hw⟩
      subst wa
      rw [numOf_ext _ _ _ (by omega)]
      go_wp2_with fail
      refine (rootAt_any k hlt _).mono ?_
      rintro _ wa ⟨rfl, hw⟩
      subst wa
      go_wp2_with fail
      refine (readNumber_any (s.extract (500 + 4 * k + 2) 1024) (by rw [ext_size _ _ _ (by omega)]; omega) _).mono ?_
      rintro _ wa ⟨rfl, n2, hw⟩
      rw [numOf_ext _ _ _ (by omega)]
      have HX : Hid (H3 w wa (usedOf s) (upperOf s) (fun j => if j < k then rpOf s j else 0) (fun j => if j < k then rnOf s j else 0)) := by
        rw [hw]; exact (HC.out.drewN n1).drewN n2
      clear HC hw
      have f1 := HX.out.roots.free (k * 2)
      have f2 := HX.out.roots.free (k * 2 + 1)
      have q1 := HX.out.roots.cell (k * 2) (by omega)
      have q2 := HX.out.roots.cell (k * 2 + 1) (by omega)
      go_wp2
      go_roundw
      case rel =>
        refine ⟨k + 1, by omega, by go_num, HX.out.root ?_ ?_ ?_ ?_⟩
        · show (if k < k + 1 then rpOf s k else 0) = _
          rw [if_pos (by omega)]; rfl
        · show (if k < k + 1 then rnOf s k else 0) = _
          rw [if_pos (by omega), rnOf, show 502 + 4 * k = 500 + 4 * k + 2 by omega]
        · intro j hj
          show (if j < k + 1 then rpOf s j else 0) = if j < k then rpOf s j else 0
          by_cases e : j < k
          · rw [if_pos e, if_pos (by omega)]
          · rw [if_neg e, if_neg (by omega)]
        · intro j hj
          show (if j < k + 1 then rnOf s j else 0) = if j < k then rnOf s j else 0
          by_cases e : j < k
          · rw [if_pos e, if_pos (by omega)]
          · rw [if_neg e, if_neg (by omega)]
      case measure => simp [intOf]; omega
    · have h1 : (k : Int) = 8 := by omega
      go_wp2_with fail
      clear H5
      have hk8 : k = 8 := by omega
      have HX : Hid (H3 w wr (usedOf s) (upperOf s) (rpOf s) (rnOf s)) := by
        have h9 := HC.out
        refine ⟨h9.used, h9.upper, ⟨fun j hj => ?_, h9.roots.free⟩, h9.below, h9.size⟩
        rw [h9.roots.cell j hj, if_pos (show j / 2 < k by omega), if_pos (show j / 2 < k by omega)]
      clear HC
      obtain ⟨A, hA⟩ : ∃ A, rpOf s = A := ⟨_, rfl⟩
      obtain ⟨B, hB⟩ : ∃ B, rnOf s = B := ⟨_, rfl⟩
      rw [hA, hB] at HX
      obtain ⟨F, hF⟩ : ∃ F, flags (usedOf s) = F := ⟨_, rfl⟩
      obtain ⟨G, hG⟩ : ∃ G, flags (upperOf s) = G := ⟨_, rfl⟩
      obtain ⟨R, hR⟩ : ∃ R, rootsL A B = R := ⟨_, rfl⟩
      have hsF : (Tryz.prog.info? 82).map (·.size) = some F.length := by rw [← hF]; exact size_flags _
      have hsG : (Tryz.prog.info? 82).map (·.size) = some G.length := by rw [← hG]; exact size_flags _
      have hsR : (Tryz.prog.info? 85).map (·.size) = some R.length := by rw [← hR]; exact size_roots _ _
      have hoF := all_oneCell_toArray (show ∀ v ∈ F, v.oneCell' = true by rw [← hF]; exact flags_one _)
      have hoG := all_oneCell_toArray (show ∀ v ∈ G, v.oneCell' = true by rw [← hG]; exact flags_one _)
      have hoR := all_oneCell_toArray (show ∀ v ∈ R, v.oneCell' = true by rw [← hR]; exact rootsL_one _ _)
      have lF : F.toArray.size = 2000 := by rw [← hF, List.size_toArray, flags_len]
      have lG : G.toArray.size = 2000 := by rw [← hG, List.size_toArray, flags_len]
      have lR : R.toArray.size = 16 := by rw [← hR, List.size_toArray, rootsL_len]
      have rF : ∀ wx, H3 w wx (usedOf s) (upperOf s) A B → wx.rangeAt w.heap.size 0 F := fun wx h => by rw [← hF]; exact h.used.range
      have rG : ∀ wx, H3 w wx (usedOf s) (upperOf s) A B → wx.rangeAt (w.heap.size + 1) 0 G := fun wx h => by rw [← hG]; exact h.upper.range
      have rR : ∀ wx, H3 w wx (usedOf s) (upperOf s) A B → wx.rangeAt (w.heap.size + 1 + 1) 0 R := fun wx h => by rw [← hR]; exact h.roots.range
      have sF : ∀ wx, H3 w wx (usedOf s) (upperOf s) A B → H3 w (wx.setCells w.heap.size 0 F.toArray.toList) (usedOf s) (upperOf s) A B := fun wx h => h.store0 hF.symm
      have sG : ∀ wx, H3 w wx (usedOf s) (upperOf s) A B → H3 w (wx.setCells (w.heap.size + 1) 0 G.toArray.toList) (usedOf s) (upperOf s) A B := fun wx h => h.store1 hG.symm
      have sR : ∀ wx, H3 w wx (usedOf s) (upperOf s) A B → H3 w (wx.setCells (w.heap.size + 1 + 1) 0 R.toArray.toList) (usedOf s) (upperOf s) A B := fun wx h => h.store2 hR.symm
      have hend : ∀ wx, H3 w wx (usedOf s) (upperOf s) A B → Hid (Below w.heap.size w wx) := fun wx h => h.below
      have HE : Hid (flags (usedOf s) = F ∧ flags (upperOf s) = G ∧ rootsL (rpOf s) (rnOf s) = R) := ⟨hF, hG, by rw [hA, hB, hR]⟩
      clear hF hG hA hB hR h1 hk8
      refine wp_region_held_drew (S := fun wx => H3 w wx (usedOf s) (upperOf s) A B) (by kernel_rfl) HX.out.drew ?_
      intro g0
      refine wpAnyH_take (i := 0) rfl (by kernel_rfl) (by kernel_rfl) (by kernel_rfl) (fun _ _ _ h => h) (yieldsIf_load_mid (by rfl) 82 _ rfl _ 0 rfl F _ (fun wx h => rF wx h) Tryz.underlying82 rfl hsF) g0 ?_
      simp only [Act.put, List.setIfInBounds_toArray]
      refine wpAnyH_take (i := 1) rfl (by kernel_rfl) (by kernel_rfl) (by kernel_rfl) (fun _ _ _ h => h) (yieldsIf_load_mid (by rfl) 82 _ rfl _ 0 rfl G _ (fun wx h => rG wx h) Tryz.underlying82 rfl hsG) g0 ?_
      simp only [Act.put]
      refine wpAnyH_take (i := 2) rfl (by kernel_rfl) (by kernel_rfl) (by kernel_rfl) (fun _ _ _ h => h) (yieldsIf_load_mid (by rfl) 85 _ rfl _ 0 rfl R _ (fun wx h => rR wx h) Tryz.underlying85 rfl hsR) g0 ?_
      simp only [Act.put]
      refine wpAnyH_ready (rs := [3]) (by kernel_rfl) (by decide) (AllReadyH.cons rfl (fun K hK => ?_) AllReadyH.nil)
      rw [if_pos (by rfl)]
      refine wp_store_mid 82 _ _ rfl _ 0 F.toArray rfl rfl (g0.used.there lF) (by rw [List.size_toArray]; exact hsF) hoF ?_
      have g1 := sF _ g0
      refine hK.out _ _ g1 (fun _ => ?_)
      clear hK K
      simp only [Act.put]
      refine wpAnyH_ready (rs := [4]) (by kernel_rfl) (by decide) (AllReadyH.cons rfl (fun K hK => ?_) AllReadyH.nil)
      rw [if_pos (by rfl)]
      refine wp_store_mid 82 _ _ rfl _ 0 G.toArray rfl rfl (g1.upper.there lG) (by rw [List.size_toArray]; exact hsG) hoG ?_
      have g2 := sG _ g1
      refine hK.out _ _ g2 (fun _ => ?_)
      clear hK K
      simp only [Act.put]
      refine wpAnyH_ready (rs := [5]) (by kernel_rfl) (by decide) (AllReadyH.cons rfl (fun K hK => ?_) AllReadyH.nil)
      rw [if_pos (by rfl)]
      refine wp_store_mid 85 _ _ rfl _ 0 R.toArray rfl rfl (g2.roots.there lR) (by rw [List.size_toArray]; exact hsR) hoR ?_
      have g3 := sR _ g2
      refine hK.out _ _ g3 (fun _ => ?_)
      clear hK K
      simp only [Act.put]
      refine wpAnyH_done (by kernel_rfl) ?_ _
      generalize ((wr.drew.setCells w.heap.size 0 F.toArray.toList).setCells (w.heap.size + 1) 0 G.toArray.toList).setCells (w.heap.size + 1 + 1) 0 R.toArray.toList = wz at *
      have l0 := run_loadVar_mid (P := Tryz.prog) wz w.heap.size 0 82 F _ (rF _ g3) Tryz.underlying82 rfl hsF
      have l1 := run_loadVar_mid (P := Tryz.prog) wz (w.heap.size + 1) 0 82 G _ (rG _ g3) Tryz.underlying82 rfl hsG
      have l2 := run_loadVar_mid (P := Tryz.prog) wz (w.heap.size + 1 + 1) 0 85 R _ (rR _ g3) Tryz.underlying85 rfl hsR
      have HB := hend _ g3
      clear rF rG rR sF sG sR hend g0 g1 g2 g3
      go_wp2_with fail
      exact bodyPost_ret (v := .tuple #[.agg F.toArray, .agg G.toArray, .agg R.toArray]) (results_cells3 Tryz.results65 _ _ _ _ _ rfl rfl rfl l0 l1 l2) rfl ⟨by rw [HE.out.1, HE.out.2.1, HE.out.2.2], HB.out⟩
end Go.Proofs.YtabcficlnhajeaaGreatDoor
namespace Go.Proofs
open Go.Shelf
def Tryz.laysM316_ren : Go.Shelf.Ren := ⟨fun | 316 => 97 | n => n, fun | 9 => 9 | 3 => 3 | 4 => 4 | 37 => 139 | 0 => 0 | 127 => 205 | 5 => 5 | n => n, fun | n => n⟩
theorem Tryz.laysM316 : Go.Proofs.LaysM.n316 Tryz.prog Tryz.laysM316_ren := {
  mixed := by kernel_rfl
  f316 := Tryz.func97.trans (congrArg some (by kernel_rfl))
  t0 := Tryz.underlying0
  a0 := Tryz.isAgg0
  z0 := Tryz.sizeOf0
  v0 := Tryz.zeroValue0
  t3 := Tryz.underlying3
  a3 := Tryz.isAgg3
  z3 := Tryz.sizeOf3
  v3 := Tryz.zeroValue3
  t4 := Tryz.underlying4
  a4 := Tryz.isAgg4
  z4 := Tryz.sizeOf4
  v4 := Tryz.zeroValue4
  t9 := Tryz.underlying9
  a9 := Tryz.isAgg9
  z9 := Tryz.sizeOf9
  v9 := Tryz.zeroValue9
  t37 := Tryz.underlying139
  a37 := Tryz.isAgg139
  z37 := Tryz.sizeOf139
  v37 := Tryz.zeroValue139
  t127 := Tryz.underlying205
  a127 := Tryz.isAgg205
  z127 := Tryz.sizeOf205
  v127 := Tryz.zeroValue205
  t5 := Tryz.underlying5
  a5 := Tryz.isAgg5
  z5 := Tryz.sizeOf5
  v5 := Tryz.zeroValue5
  i0 := by kernel_rfl
  i3 := by kernel_rfl
  i4 := by kernel_rfl
  i5 := by kernel_rfl
  i9 := by kernel_rfl
  i37 := by kernel_rfl
  i127 := by kernel_rfl }
def Tryz.lays99_ren : Go.Shelf.Ren := ⟨fun | 99 => 60 | 206 => 88 | n => n, fun | 9 => 9 | 4 => 4 | 3 => 3 | n => n, fun | n => n⟩
theorem Tryz.lays99 : Go.Proofs.Lays.n99 Tryz.prog Tryz.lays99_ren := {
  mixed := by kernel_rfl
  f99 := Tryz.func60.trans (congrArg some (by kernel_rfl))
  f206 := Tryz.func88.trans (congrArg some (by kernel_rfl))
  t3 := Tryz.underlying3
  a3 := Tryz.isAgg3
  z3 := Tryz.sizeOf3
  v3 := Tryz.zeroValue3
  t4 := Tryz.underlying4
  a4 := Tryz.isAgg4
  z4 := Tryz.sizeOf4
  v4 := Tryz.zeroValue4
  t9 := Tryz.underlying9
  a9 := Tryz.isAgg9
  z9 := Tryz.sizeOf9
  v9 := Tryz.zeroValue9 }
def Tryz.lays105_ren : Go.Shelf.Ren := ⟨fun | 105 => 126 | 212 => 179 | 99 => 60 | 165 => 180 | 166 => 181 | 170 => 182 | 169 => 183 | 263 => 203 | 264 => 204 | 206 => 88 | 240 => 205 | 241 => 206 | 276 => 212 | 277 => 213 | n => n, fun | 9 => 9 | 3 => 3 | 4 => 4 | 20 => 20 | 0 => 0 | 46 => 35 | 109 => 249 | 5 => 5 | 72 => 253 | 76 => 62 | 51 => 232 | 146 => 257 | 53 => 159 | 148 => 273 | 70 => 251 | 37 => 139 | 75 => 26 | 127 => 205 | 164 => 174 | 80 => 256 | n => n, fun | n => n⟩
theorem Tryz.lays105 : Go.Proofs.Lays.n105 Tryz.prog Tryz.lays105_ren := {
  mixed := by kernel_rfl
  f99 := Tryz.func60.trans (congrArg some (by kernel_rfl))
  f105 := Tryz.func126.trans (congrArg some (by kernel_rfl))
  f165 := Tryz.func180.trans (congrArg some (by kernel_rfl))
  f166 := Tryz.func181.trans (congrArg some (by kernel_rfl))
  f169 := Tryz.func183.trans (congrArg some (by kernel_rfl))
  f170 := Tryz.func182.trans (congrArg some (by kernel_rfl))
  f206 := Tryz.func88.trans (congrArg some (by kernel_rfl))
  f212 := Tryz.func179.trans (congrArg some (by kernel_rfl))
  f240 := Tryz.func205.trans (congrArg some (by kernel_rfl))
  f241 := Tryz.func206.trans (congrArg some (by kernel_rfl))
  f263 := Tryz.func203.trans (congrArg some (by kernel_rfl))
  f264 := Tryz.func204.trans (congrArg some (by kernel_rfl))
  f276 := Tryz.func212.trans (congrArg some (by kernel_rfl))
  f277 := Tryz.func213.trans (congrArg some (by kernel_rfl))
  t0 := Tryz.underlying0
  a0 := Tryz.isAgg0
  z0 := Tryz.sizeOf0
  v0 := Tryz.zeroValue0
  t3 := Tryz.underlying3
  a3 := Tryz.isAgg3
  z3 := Tryz.sizeOf3
  v3 := Tryz.zeroValue3
  t4 := Tryz.underlying4
  a4 := Tryz.isAgg4
  z4 := Tryz.sizeOf4
  v4 := Tryz.zeroValue4
  t5 := Tryz.underlying5
  a5 := Tryz.isAgg5
  z5 := Tryz.sizeOf5
  v5 := Tryz.zeroValue5
  t9 := Tryz.underlying9
  a9 := Tryz.isAgg9
  z9 := Tryz.sizeOf9
  v9 := Tryz.zeroValue9
  t20 := Tryz.underlying20
  a20 := Tryz.isAgg20
  z20 := Tryz.sizeOf20
  v20 := Tryz.zeroValue20
  t37 := Tryz.underlying139
  a37 := Tryz.isAgg139
  z37 := Tryz.sizeOf139
  v37 := Tryz.zeroValue139
  t46 := Tryz.underlying35
  a46 := Tryz.isAgg35
  z46 := Tryz.sizeOf35
  v46 := Tryz.zeroValue35
  t51 := Tryz.underlying232
  a51 := Tryz.isAgg232
  z51 := Tryz.sizeOf232
  v51 := Tryz.zeroValue232
  t53 := Tryz.underlying159
  a53 := Tryz.isAgg159
  z53 := Tryz.sizeOf159
  v53 := Tryz.zeroValue159
  t70 := Tryz.underlying251
  a70 := Tryz.isAgg251
  z70 := Tryz.sizeOf251
  v70 := Tryz.zeroValue251
  t72 := Tryz.underlying253
  a72 := Tryz.isAgg253
  z72 := Tryz.sizeOf253
  v72 := Tryz.zeroValue253
  t75 := Tryz.underlying26
  a75 := Tryz.isAgg26
  z75 := Tryz.sizeOf26
  v75 := Tryz.zeroValue26
  t76 := Tryz.underlying62
  a76 := Tryz.isAgg62
  z76 := Tryz.sizeOf62
  v76 := Tryz.zeroValue62
  t109 := Tryz.underlying249
  a109 := Tryz.isAgg249
  z109 := Tryz.sizeOf249
  v109 := Tryz.zeroValue249
  t127 := Tryz.underlying205
  a127 := Tryz.isAgg205
  z127 := Tryz.sizeOf205
  v127 := Tryz.zeroValue205
  t146 := Tryz.underlying257
  a146 := Tryz.isAgg257
  z146 := Tryz.sizeOf257
  v146 := Tryz.zeroValue257
  t148 := Tryz.underlying273
  a148 := Tryz.isAgg273
  z148 := Tryz.sizeOf273
  v148 := Tryz.zeroValue273
  t164 := Tryz.underlying174
  a164 := Tryz.isAgg174
  z164 := Tryz.sizeOf174
  v164 := Tryz.zeroValue174 }
end Go.Proofs
namespace Go.Proofs
open Go.Shelf Go.RowKit
theorem Tryz.Builder_Extra_105 : Builder.Extra Tryz.prog Tryz.lays105_ren := {
  sizeBuilder := by kernel_rfl
  liesBuilder := by kernel_rfl
  t5 := Tryz.underlying5
  a5 := Tryz.isAgg5
  z5 := Tryz.sizeOf5
  v5 := Tryz.zeroValue5
  infoByte := by kernel_rfl
  cellsByte := by kernel_rfl
  sizeByte := by kernel_rfl
  neB5 := by decide }
end Go.Proofs
namespace Go.Proofs.YtabcficlnhajeaaGreatDoor
open Go.Shelf Go.RowKit
theorem lib_clone (s : ByteArray) (w : World) (hlim : s.size ≤ 281474976710656) :
    Calls Tryz.prog 97 #[.string s] w fun e w' => e = .returned (.string s) ∧ Below w.heap.size w w' := Any.stringslite_Clone Tryz.laysM316 s w hlim
theorem lib_repeat (s : ByteArray) (c : Nat) (w : World) (hc : c ≤ 9223372036854775807) (hlen : s.size * c ≤ 140737488355328) :
    Calls Tryz.prog 126 #[.string s, .int .i64 c] w fun e w' => e = .returned (.string ⟨(Lib.repeatL s.data.toList c).toArray⟩) ∧ Below w.heap.size w w' := Any.strings_Repeat Tryz.lays105 Tryz.Builder_Extra_105 s c w hc hlen
end Go.Proofs.YtabcficlnhajeaaGreatDoor
namespace Go.Proofs.YtabcficlnhajeaaGreatDoor
open Go.RowKit

/-- a page of noughts -/
def zeros : ByteArray := ⟨(List.replicate 1024 (0 : UInt8)).toArray⟩
theorem zeros_size : zeros.size = 1024 := by
  show (List.replicate 1024 (0 : UInt8)).toArray.size = 1024
  rw [List.size_toArray, List.length_replicate]

theorem not_empty {s : ByteArray} (h : s.size = 1024) : s.toList.isEmpty = false := by
  rw [ByteArray.toList_eq]
  cases hl : s.data.toList with
  | nil => have : s.size = s.data.toList.length := by simp
           rw [hl, h] at this; cases this
  | cons a l => rfl

/-- block b is a disk with these pages -/
structure DiskIs (b : Nat) (pg : Nat → ByteArray) (ends : Bool) (left torn : Int) (w : World) : Prop where
  page : ∀ k, k < 4001 → (w.cell? ⟨b, k, none⟩ = some (.string (pg k)) ∧ (pg k).size = 1024) ∨ (w.cell? ⟨b, k, none⟩ = some (.string ⟨#[]⟩) ∧ pg k = zeros)
  ends : w.cell? ⟨b, 4001, none⟩ = some (.bool ends)
  left : w.cell? ⟨b, 4002, none⟩ = some (.int .i64 left)
  torn : w.cell? ⟨b, 4003, none⟩ = some (.int .i64 torn)
  free : ∀ k, w.frozen? ⟨b, k, none⟩ = false

theorem grown_of_below {w w' : World} (h : Below w.heap.size w w') (row : Option Nat) : w.grownBy w' row := ⟨h.os, h.tape, h.output, h.size, fun k hk _ => h.block k hk⟩

theorem DiskIs.lt {b : Nat} {pg : Nat → ByteArray} {ends : Bool} {left torn : Int} {w : World} (h : DiskIs b pg ends left torn w) : b < w.heap.size := World.block_lt_of_cell? w _ h.ends

theorem DiskIs.size {b : Nat} {pg : Nat → ByteArray} {ends : Bool} {left torn : Int} {w : World} (h : DiskIs b pg ends left torn w) (k : Nat) (hk : k < 4001) : (pg k).size = 1024 := by
  rcases h.page k hk with ⟨_, h1⟩ | ⟨_, h1⟩
  · exact h1
  · rw [h1, zeros_size]

theorem DiskIs.block {b : Nat} {pg : Nat → ByteArray} {ends : Bool} {left torn : Int} {w w' : World} (h : DiskIs b pg ends left torn w) (hb : w'.heap[b]? = w.heap[b]?) : DiskIs b pg ends left torn w' := by
  have c : ∀ k, w'.cell? ⟨b, k, none⟩ = w.cell? ⟨b, k, none⟩ := fun k => World.cell?_of_block hb
  refine ⟨fun k hk => ?_, ?_, ?_, ?_, fun k => ?_⟩
  · rw [c]; exact h.page k hk
  · rw [c]; exact h.ends
  · rw [c]; exact h.left
  · rw [c]; exact h.torn
  · exact (World.frozen?_of_block (a := ⟨b, k, none⟩) hb).trans (h.free k)

theorem DiskIs.grown {b : Nat} {pg : Nat → ByteArray} {ends : Bool} {left torn : Int} {w w' : World} {row : Option Nat} (h : DiskIs b pg ends left torn w) (hg : w.grownBy w' row) (hne : some b ≠ row) : DiskIs b pg ends left torn w' :=
  h.block (hg.block b h.lt hne)

theorem DiskIs.below {b : Nat} {pg : Nat → ByteArray} {ends : Bool} {left torn : Int} {w w' : World} (h : DiskIs b pg ends left torn w) (hb : Below w.heap.size w w') : DiskIs b pg ends left torn w' :=
  h.block (hb.block b h.lt)

theorem DiskIs.drew {b : Nat} {pg : Nat → ByteArray} {ends : Bool} {left torn : Int} {w : World} (h : DiskIs b pg ends left torn w) : DiskIs b pg ends left torn w.drew := h.block rfl

theorem there_yes (k : Nat) (w : World) (hk : k < 4001) : Calls Tryz.prog 90 #[.int .i64 k] w fun e w' => e = .returned (.bool true) ∧ w' = w := by
  have h1 : (k : Int) < 4001 := by omega
  go_enter Tryz.func90, Tryz.ntmps90
  go_wp2
  go_ret
  exact ⟨ret_bool (by simp), rfl⟩

theorem there_no (k : Int) (w : World) (hk : k < 0 ∨ 4001 ≤ k) : Calls Tryz.prog 90 #[.int .i64 k] w fun e w' => e = .returned (.bool false) ∧ w' = w := by
  by_cases h0 : 0 ≤ k
  · have h1 : ¬ k < 4001 := by omega
    go_enter Tryz.func90, Tryz.ntmps90
    go_wp2
    go_ret
    exact ⟨ret_bool (by simp), rfl⟩
  · go_enter Tryz.func90, Tryz.ntmps90
    go_wp2
    go_ret
    exact ⟨ret_bool (by simp), rfl⟩

theorem clone_any (s : ByteArray) (w : World) (hs : s.size ≤ 1024) : Calls Tryz.prog 70 #[.string s] w fun e w' => e = .returned (.string s) ∧ Below w.heap.size w w' := by
  go_enter Tryz.func70, Tryz.ntmps70
  go_wp2_with fail
  refine (lib_clone s w (by omega)).mono ?_
  rintro _ w1 ⟨rfl, hb⟩
  go_wp2
  go_ret
  exact ⟨rfl, hb⟩

theorem zeros_any (w : World) : Calls Tryz.prog 126 #[.string ⟨#[0]⟩, .int .i64 1024] w fun e w' => e = .returned (.string zeros) ∧ Below w.heap.size w w' := by
  have h := lib_repeat ⟨#[0]⟩ 1024 w (by omega) (by show 1 * 1024 ≤ _; omega)
  have e : Lib.repeatL (ByteArray.mk #[0]).data.toList 1024 = List.replicate 1024 0 := by
    show Lib.repeatL [0] 1024 = _
    have h1 : ([0] : List UInt8) = List.replicate 1 0 := rfl
    rw [h1, Lib.repeatL_replicate, Nat.mul_one]
  rw [e] at h
  exact h

set_option maxHeartbeats 400000 in
theorem whole_any {b : Nat} {pg : Nat → ByteArray} {ends : Bool} {left torn : Int} {w : World} (h : DiskIs b pg ends left torn w) (k : Nat) (hk : k < 4001) :
    Calls Tryz.prog 91 #[.pointer (some ⟨b, 0, none⟩), .int .i64 k] w fun e w' => e = .returned (.string (pg k)) ∧ Below w.heap.size w w' := by
  have h1 : (k : Int) < 4001 := by omega
  rcases h.page k hk with ⟨c, hs⟩ | ⟨c, hz⟩
  · clear h
    have hne := not_empty hs
    generalize pg k = s at *
    go_enter Tryz.func91, Tryz.ntmps91
    go_wp2
    go_ret
    exact ⟨rfl, Below.refl _ _⟩
  · rw [hz]
    clear h
    go_enter Tryz.func91, Tryz.ntmps91
    go_wp2_with fail
    refine (zeros_any w).mono ?_
    rintro _ w1 ⟨rfl, hb⟩
    go_wp2
    go_ret
    exact ⟨rfl, hb⟩
end Go.Proofs.YtabcficlnhajeaaGreatDoor
namespace Go.Proofs.YtabcficlnhajeaaGreatDoor
open Go.RowKit

/-- the pages, with one laid anew -/
def upd (pg : Nat → ByteArray) (k : Nat) (s : ByteArray) : Nat → ByteArray := fun i => if i = k then s else pg i

section
variable {b : Nat} {pg : Nat → ByteArray} {ends : Bool} {left torn : Int} {w : World}

theorem grownBy_set (W : World) (b o : Nat) (v : Value) : W.grownBy (W.setCell ⟨b, o, none⟩ v) (some b) :=
  ⟨rfl, rfl, rfl, by simp [World.setCell], fun k _ hk => Below.heap_setCell W ⟨b, o, none⟩ v k (fun e => hk (by rw [e]))⟩

theorem DiskIs.setPage (h : DiskIs b pg ends left torn w) (k : Nat) (hk : k < 4001) (s : ByteArray) (hs : s.size = 1024) : DiskIs b (upd pg k s) ends left torn (w.setCell ⟨b, k, none⟩ (.string s)) := by
  have o : ∀ i, k ≠ i → (w.setCell ⟨b, k, none⟩ (.string s)).cell? ⟨b, i, none⟩ = w.cell? ⟨b, i, none⟩ := fun i hi => World.cell?_setCell_other _ _ _ _ (fun e => hi (by cases e; rfl))
  refine ⟨fun i hi => ?_, ?_, ?_, ?_, fun i => ?_⟩
  · by_cases e : i = k
    · subst e
      have hc : ∃ u, w.cell? ⟨b, i, none⟩ = some u := by
        rcases h.page i hk with ⟨c, _⟩ | ⟨c, _⟩ <;> exact ⟨_, c⟩
      obtain ⟨u, hu⟩ := hc
      exact .inl ⟨by rw [World.cell?_setCell_same _ _ _ hu]; simp [upd], by simp [upd, hs]⟩
    · rw [o i (Ne.symm e)]
      simpa [upd, e] using h.page i hi
  · rw [o 4001 (by omega)]; exact h.ends
  · rw [o 4002 (by omega)]; exact h.left
  · rw [o 4003 (by omega)]; exact h.torn
  · rw [World.frozen?_setCell]; exact h.free i

theorem DiskIs.setEnds (h : DiskIs b pg ends left torn w) (x : Bool) : DiskIs b pg x left torn (w.setCell ⟨b, 4001, none⟩ (.bool x)) := by
  have o : ∀ i, 4001 ≠ i → (w.setCell ⟨b, 4001, none⟩ (.bool x)).cell? ⟨b, i, none⟩ = w.cell? ⟨b, i, none⟩ := fun i hi => World.cell?_setCell_other _ _ _ _ (fun e => hi (by cases e; rfl))
  refine ⟨fun i hi => ?_, World.cell?_setCell_same _ _ _ h.ends, ?_, ?_, fun i => ?_⟩
  · rw [o i (by omega)]; exact h.page i hi
  · rw [o 4002 (by omega)]; exact h.left
  · rw [o 4003 (by omega)]; exact h.torn
  · rw [World.frozen?_setCell]; exact h.free i

theorem DiskIs.setLeft (h : DiskIs b pg ends left torn w) (x : Int) : DiskIs b pg ends x torn (w.setCell ⟨b, 4002, none⟩ (.int .i64 x)) := by
  have o : ∀ i, 4002 ≠ i → (w.setCell ⟨b, 4002, none⟩ (.int .i64 x)).cell? ⟨b, i, none⟩ = w.cell? ⟨b, i, none⟩ := fun i hi => World.cell?_setCell_other _ _ _ _ (fun e => hi (by cases e; rfl))
  refine ⟨fun i hi => ?_, ?_, World.cell?_setCell_same _ _ _ h.left, ?_, fun i => ?_⟩
  · rw [o i (by omega)]; exact h.page i hi
  · rw [o 4001 (by omega)]; exact h.ends
  · rw [o 4003 (by omega)]; exact h.torn
  · rw [World.frozen?_setCell]; exact h.free i

theorem DiskIs.setTorn (h : DiskIs b pg ends left torn w) (x : Int) : DiskIs b pg ends left x (w.setCell ⟨b, 4003, none⟩ (.int .i64 x)) := by
  have o : ∀ i, 4003 ≠ i → (w.setCell ⟨b, 4003, none⟩ (.int .i64 x)).cell? ⟨b, i, none⟩ = w.cell? ⟨b, i, none⟩ := fun i hi => World.cell?_setCell_other _ _ _ _ (fun e => hi (by cases e; rfl))
  refine ⟨fun i hi => ?_, ?_, ?_, World.cell?_setCell_same _ _ _ h.torn, fun i => ?_⟩
  · rw [o i (by omega)]; exact h.page i hi
  · rw [o 4001 (by omega)]; exact h.ends
  · rw [o 4002 (by omega)]; exact h.left
  · rw [World.frozen?_setCell]; exact h.free i

/-- torn bytes, cut to 0 to 1024 -/
def clip (t : Int) : Int := min (max t 0) 1024

theorem read_yes (h : DiskIs b pg ends left torn w) (k : Nat) (hk : k < 4001) :
    Calls Tryz.prog 63 #[.pointer (some ⟨b, 0, none⟩), .int .i64 k] w fun e w' => e = .returned (.tuple #[.string (pg k), .nilIface]) ∧ Below w.heap.size w w' := by
  have hs : (pg k).size ≤ 1024 := Nat.le_of_eq (h.size k hk)
  have HD : Hid (DiskIs b pg ends left torn w) := h
  clear h
  go_enter Tryz.func63, Tryz.ntmps63
  go_wp2_with fail
  refine (there_yes k w hk).mono ?_
  rintro _ _ ⟨rfl, rfl⟩
  go_wp2_with fail
  refine (whole_any HD.out k hk).mono ?_
  rintro _ w1 ⟨rfl, hb1⟩
  go_wp2_with fail
  refine (clone_any _ w1 hs).mono ?_
  rintro _ w2 ⟨rfl, hb2⟩
  go_wp2
  go_ret2
  exact ⟨rfl, hb1.trans (hb2.mono hb1.size)⟩

theorem read_no (b : Nat) (k : Int) (w : World) (hk : k < 0 ∨ 4001 ≤ k) :
    Calls Tryz.prog 63 #[.pointer (some ⟨b, 0, none⟩), .int .i64 k] w fun e w' => e = .returned (.tuple #[.string ⟨#[]⟩, .iface 30 (.int .i64 2)]) ∧ w' = w := by
  go_enter Tryz.func63, Tryz.ntmps63
  go_wp2_with fail
  refine (there_no k w hk).mono ?_
  rintro _ _ ⟨rfl, rfl⟩
  go_wp2
  go_ret2
  exact ⟨rfl, rfl⟩

/-- what copy lays of a text -/
theorem run_copy_str {P : Program} (w : World) (dT sT ty elem : TypeId) (g o dLen dCap : Nat) (s : ByteArray)
    (hu : P.underlying dT = some (.slice elem)) (hs : (P.info? elem).map (·.size) = some 1) (hle : s.size ≤ dLen) (hc : ∀ j, j < s.size → (w.cell? ⟨g, o + j, none⟩).isSome = true) (hf : ∀ j, j < s.size → w.frozen? ⟨g, o + j, none⟩ = false) :
    (Builtin.copy_ #[dT, sT] ty #[.slice (some ⟨g, o, none⟩) dLen dCap, .string s]).run P w = .ok (goInt s.size) (w.setCells g o (Lib.byteCells s.data.toList)) := by
  have hlen : (Lib.byteCells s.data.toList).length = s.size := by rw [Lib.byteCells_length, ← Lib.size_eq]
  have hst := run_storeCells_cells (P := P) g o (Lib.byteCells s.data.toList) 0 w (by rw [hlen]; simpa using hc) (by rw [hlen]; simpa using hf) (Lib.byteCells_one _)
  have hmin : Nat.min s.size dLen = s.size := Nat.min_eq_left hle
  have htk : List.take s.size (List.map (fun b : UInt8 => Value.int IntKind.u8 (b.toNat : Int)) s.data.toList) = Lib.byteCells s.data.toList := by
    rw [List.take_of_length_le (by rw [List.length_map, ← Lib.size_eq]; exact Nat.le_refl _)]
    rfl
  simp only [Nat.add_zero] at hst
  cases hq : P.info? elem with
  | none => simp [hq] at hs
  | some i =>
    simp [Builtin.copy_, run_underlying hu, Builtin.lenOf, Builtin.firstCells, sizeOf, typeInfo, hq, hmin]
    rw [htk, hst]
    simp [Result.andThen]

/-- bytes of a text in a new row -/
theorem bytes_of (s : ByteArray) (w : World) : ∃ cap w', (convert 9 139 (.string s)).run Tryz.prog w = .ok (.slice (some ⟨w.heap.size, 0, none⟩) s.size cap) w' ∧ Below w.heap.size w w' ∧ w'.heap.size = w.heap.size + 1 ∧
    (∀ j (hj : j < s.data.toList.length), w'.cell? ⟨w.heap.size, j, none⟩ = some (.int .u8 (s.data.toList[j].toNat : Int))) ∧ (∀ j, j < s.size → w'.frozen? ⟨w.heap.size, j, none⟩ = false) := by
  have h := run_bytes_of_string (P := Tryz.prog) w 9 139 5 s Tryz.underlying9 Tryz.underlying139 Tryz.underlying5
  refine ⟨_, _, h, (Below.refl _ w).drew.alloc (Nat.le_refl _) _, ?_, ?_, ?_⟩
  · simp
  · intro j hj
    have hn : (w.drew.alloc (.cells (bytesRow s (grownCap w s.size 0 5)) 5 ((bytesRow s (grownCap w s.size 0 5)).size, (bytesRow s (grownCap w s.size 0 5)).size + 1))).heap[w.heap.size]? = _ := heap_alloc_new w.drew _
    have hj' : j < s.data.size := by simpa using hj
    simp only [World.cell?, hn]
    have hj2 : j < s.size := hj'
    simp [bytesRow, Array.getElem?_append, hj2]
  · intro j hj
    have hn : (w.drew.alloc (.cells (bytesRow s (grownCap w s.size 0 5)) 5 ((bytesRow s (grownCap w s.size 0 5)).size, (bytesRow s (grownCap w s.size 0 5)).size + 1))).heap[w.heap.size]? = _ := heap_alloc_new w.drew _
    have hj' : j < (bytesRow s (grownCap w s.size 0 5)).size := by
      have e : s.data.size = s.size := rfl
      simp [bytesRow]; omega
    simp only [World.frozen?, hn]
    simp
    omega

/-- a page of which torn bytes were written -/
def tornPage (s old : ByteArray) (t : Nat) : ByteArray := ⟨(s.data.toList.take t ++ old.data.toList.drop t).toArray⟩


theorem torn_size (s old : ByteArray) (t : Nat) (hs : s.size = 1024) (ho : old.size = 1024) (ht : t ≤ 1024) : (tornPage s old t).size = 1024 := by
  have e1 : s.data.toList.length = 1024 := by simpa using hs
  have e2 : old.data.toList.length = 1024 := by simpa using ho
  show (s.data.toList.take t ++ old.data.toList.drop t).toArray.size = 1024
  rw [List.size_toArray, List.length_append, List.length_take, List.length_drop, e1, e2]
  omega

/-- copy, and the text that comes of it -/
theorem torn_of (s old : ByteArray) (t B cap : Nat) (w : World) (hs : s.size = 1024) (ho : old.size = 1024) (ht : t ≤ 1024)
    (hc : ∀ j (hj : j < old.data.toList.length), w.cell? ⟨B, j, none⟩ = some (.int .u8 (old.data.toList[j].toNat : Int))) (hf : ∀ j, j < old.size → w.frozen? ⟨B, j, none⟩ = false) :
    ∃ w', (Builtin.copy_ #[139, 9] 3 #[.slice (some ⟨B, 0, none⟩) 1024 cap, .string (s.extract 0 t)]).run Tryz.prog w = .ok (goInt t) w' ∧ Below B w w' ∧
      (convert 139 9 (.slice (some ⟨B, 0, none⟩) 1024 cap)).run Tryz.prog w'.drew = .ok (.string (tornPage s old t)) w'.drew := by
  have e1 : s.data.toList.length = 1024 := by simpa using hs
  have e2 : old.data.toList.length = 1024 := by simpa using ho
  have ex : (s.extract 0 t).data.toList = s.data.toList.take t := by simp [ByteArray.data_extract]
  have exs : (s.extract 0 t).size = t := by
    have : (s.extract 0 t).size = (s.extract 0 t).data.toList.length := by simp
    rw [this, ex, List.length_take, e1]; omega
  have h := run_copy_str (P := Tryz.prog) w 139 9 3 5 B 0 1024 cap (s.extract 0 t) Tryz.underlying139 (by kernel_rfl) (by omega)
    (fun j hj => by rw [Nat.zero_add, hc j (by omega)]; rfl) (fun j hj => by rw [Nat.zero_add]; exact hf j (by omega))
  rw [exs, ex] at h
  have hlen : (Lib.byteCells (s.data.toList.take t)).length = t := by rw [Lib.byteCells_length, List.length_take, e1]; omega
  refine ⟨_, h, Below.setCells' (Nat.le_refl _) _ _ _ (Below.refl _ _), ?_⟩
  have hl : (s.data.toList.take t ++ old.data.toList.drop t).length = 1024 := by rw [List.length_append, List.length_take, List.length_drop, e1, e2]; omega
  have hb := run_convert_bytes_back (P := Tryz.prog) (w.setCells B 0 (Lib.byteCells (s.data.toList.take t))).drew 139 9 5 ⟨B, 0, none⟩ cap (s.data.toList.take t ++ old.data.toList.drop t) Tryz.underlying139 Tryz.underlying5 Tryz.underlying9 (fun j hj => by
    rw [Addr.add_lit, Nat.zero_add]
    show (w.setCells B 0 (Lib.byteCells (s.data.toList.take t))).cell? ⟨B, j, none⟩ = _
    by_cases hjt : j < t
    · have := World.cell?_setCells_in B (Lib.byteCells (s.data.toList.take t)) 0 w (fun i hi => by rw [Nat.zero_add, hc i (by omega)]; rfl) j (by omega)
      rw [Nat.zero_add] at this
      rw [this, List.getElem_append_left (by rw [List.length_take, e1]; omega)]
      simp [Lib.byteCells]
    · rw [World.cell?_setCells_out B _ 0 w ⟨B, j, none⟩ (fun _ _ => .inr (by rw [hlen]; show 0 + t ≤ j; omega)), hc j (by omega)]
      have hx : (s.data.toList.take t ++ old.data.toList.drop t)[j]'hj = old.data.toList[j]'(by omega) := by
        apply Option.some.inj
        rw [← List.getElem?_eq_getElem, ← List.getElem?_eq_getElem, List.getElem?_append_right (by rw [List.length_take, e1]; omega), List.getElem?_drop, List.length_take, e1, show t + (j - min t 1024) = j by omega]
      rw [hx])
  rw [hl] at hb
  exact hb

end
end Go.Proofs.YtabcficlnhajeaaGreatDoor
namespace Go.Proofs.YtabcficlnhajeaaGreatDoor
open Go.RowKit
section
variable {b : Nat} {pg : Nat → ByteArray} {ends : Bool} {left torn : Int} {w : World}

theorem grown_of_drew {w w' : World} (h : Below w.drew.heap.size w.drew w') (row : Option Nat) : w.grownBy w' row := ⟨h.os, h.tape, h.output, h.size, fun k hk _ => h.block k hk⟩

end
end Go.Proofs.YtabcficlnhajeaaGreatDoor
namespace Go.Proofs.YtabcficlnhajeaaGreatDoor
open Go.RowKit

/-- what a disk has -/
structure St where
  pg : Nat → ByteArray
  ends : Bool
  left : Int
  torn : Nat

structure St.Ok (s : St) : Prop where
  torn : s.torn ≤ 1024
  low : s.ends = true → 0 ≤ s.left
  high : s.left ≤ 9223372036854775807

/-- whether there is power -/
def St.pow (s : St) : Bool := !s.ends || decide (0 < s.left)

def inside (k : Int) : Bool := decide (0 ≤ k) && decide (k < 4001)

/-- what a write of a whole page tells -/
def St.code (s : St) (k : Int) : Int := if inside k then (if s.pow then 0 else 14) else 2
/-- what it leaves -/
def St.wr (s : St) (k : Int) (p : ByteArray) : St :=
  if inside k then
    (if s.pow then ⟨upd s.pg k.toNat p, s.ends, if s.ends then s.left - 1 else s.left, s.torn⟩
     else ⟨upd s.pg k.toNat (tornPage p (s.pg k.toNat) s.torn), s.ends, s.left, 0⟩)
  else s

def St.cut (s : St) (writes t : Int) : St := ⟨s.pg, decide (0 ≤ writes), writes, (clip t).toNat⟩

theorem St.Ok.wr {s : St} (h : s.Ok) (k : Int) (p : ByteArray) : (s.wr k p).Ok := by
  obtain ⟨pg, ends, left, torn⟩ := s
  have h1 := h.torn
  have h2 := h.low
  have h3 := h.high
  simp only at h1 h2 h3
  unfold St.wr
  split
  · split
    · rename_i hp
      cases ends
      · exact ⟨h1, (fun e => by cases e), h3⟩
      · have : 0 < left := by simpa [St.pow] using hp
        exact ⟨h1, fun _ => by show 0 ≤ left - 1; omega, by show left - 1 ≤ _; omega⟩
    · exact ⟨Nat.zero_le _, h2, h3⟩
  · exact h

theorem clip_le (t : Int) : 0 ≤ clip t ∧ clip t ≤ 1024 := by unfold clip; omega
theorem St.Ok.cut {s : St} (writes t : Int) (h : writes ≤ 9223372036854775807) : (s.cut writes t).Ok := by
  have := clip_le t
  exact ⟨by show (clip t).toNat ≤ 1024; omega, fun e => by simpa [St.cut] using e, h⟩

/-- block b is the program's disk in this state -/
def Prg (b : Nat) (s : St) (w : World) : Prop := DiskIs b s.pg s.ends s.left s.torn w
/-- the error of a code -/
def ErrNo (E : Value) (n : Int) : Prop := (E = .nilIface ∧ n = 0) ∨ E = .iface 30 (.int .i64 n)
theorem errIs_zero : ErrNo .nilIface 0 := .inl ⟨rfl, rfl⟩
theorem errIs_no (n : Int) : ErrNo (.iface 30 (.int .i64 n)) n := .inr rfl

theorem outside_of {k : Int} (h : inside k = false) : k < 0 ∨ 4001 ≤ k := by
  simp [inside] at h
  omega
theorem inside_of {k : Int} (h : inside k = true) : ∃ n : Nat, k = n ∧ n < 4001 := by
  simp [inside] at h
  exact ⟨k.toNat, by omega, by omega⟩

theorem page_of_sizes {b : Nat} {s : St} {w : World} (h : Prg b s w) (k : Nat) (hk : k < 4001) : (s.pg k).size = 1024 := DiskIs.size h k hk

theorem zero44 : Tryz.zeroCells48.toList = List.replicate 4001 (.string ⟨#[]⟩) ++ [.bool false, .int .i64 0, .int .i64 0] := by kernel_rfl

/-- a disk's zero value -/
theorem disk_new (w : World) : Prg w.heap.size ⟨fun _ => zeros, false, 0, 0⟩ (w.alloc (.cells Tryz.zeroCells48 48)) := by
  have hn : (w.alloc (.cells Tryz.zeroCells48 48)).heap[w.heap.size]? = some (.cells Tryz.zeroCells48 48) := heap_alloc_new w _
  have hc : ∀ k : Nat, (w.alloc (.cells Tryz.zeroCells48 48)).cell? ⟨w.heap.size, k, none⟩ = Tryz.zeroCells48[k]? := fun k => by simp only [World.cell?, hn]; simp
  have hl : ∀ k : Nat, Tryz.zeroCells48[k]? = (List.replicate 4001 (Value.string ⟨#[]⟩) ++ [Value.bool false, Value.int .i64 0, Value.int .i64 0])[k]? := fun (k : Nat) => by rw [← zero44, Array.getElem?_toList]
  refine ⟨fun k hk => .inr ⟨?_, rfl⟩, ?_, ?_, ?_, fun k => ?_⟩
  · rw [hc, hl, List.getElem?_append_left (by rw [List.length_replicate]; exact hk), List.getElem?_replicate, if_pos hk]
  · rw [hc, hl, List.getElem?_append_right (by rw [List.length_replicate]; omega), List.length_replicate]; rfl
  · rw [hc, hl, List.getElem?_append_right (by rw [List.length_replicate]; omega), List.length_replicate]; rfl
  · rw [hc, hl, List.getElem?_append_right (by rw [List.length_replicate]; omega), List.length_replicate]; rfl
  · simp only [World.frozen?, hn]; simp
end Go.Proofs.YtabcficlnhajeaaGreatDoor
namespace Go.Proofs.YtabcficlnhajeaaGreatDoor
open Go.RowKit Go.Maps

theorem Prg.only {S : Nat → Prop} {b : Nat} {s : St} {w w' : World} (h : Prg b s w) (ho : Only S w w') (hs : ¬ S b) : Prg b s w' := DiskIs.block h (ho.block b (DiskIs.lt h) hs)
theorem Prg.below {b : Nat} {s : St} {w w' : World} (h : Prg b s w) (hb : Below w.heap.size w w') : Prg b s w' := DiskIs.below h hb
theorem Prg.drew {b : Nat} {s : St} {w : World} (h : Prg b s w) : Prg b s w.drew := DiskIs.block h rfl
theorem PagerIs.nd {bp bd bm n : Nat} {p : Pg} {s : St} {w : World} (h : PagerIs bp bd bm n p w) (k : Prg bd s w) : bp ≠ bd := fun e => by
  subst e
  have h1 := h.cells.cell 0 (by omega)
  rcases DiskIs.page k 0 (by omega) with ⟨h2, _⟩ | ⟨h2, _⟩ <;> (rw [h1] at h2; cases h2)
theorem PagerIs.md {bp bd bm n : Nat} {p : Pg} {s : St} {w : World} (h : PagerIs bp bd bm n p w) (k : Prg bd s w) : bm ≠ bd := h.own.ne_cell (DiskIs.ends k)
end Go.Proofs.YtabcficlnhajeaaGreatDoor
namespace Go.Proofs.YtabcficlnhajeaaGreatDoor
open Go.RowKit Go.Maps

/-- block bp has these 4,020 cells -/
structure Row (bp : Nat) (v : Nat → Value) (w : World) : Prop where
  cell : ∀ k, k < 4020 → w.cell? ⟨bp, k, none⟩ = some (v k)
  free : ∀ k, w.frozen? ⟨bp, k, none⟩ = false
section
variable {bp : Nat} {v : Nat → Value} {w w' : World}
theorem Row.lt (h : Row bp v w) : bp < w.heap.size := World.block_lt_of_cell? w _ (h.cell 0 (by omega))
theorem Row.block (h : Row bp v w) (hb : w'.heap[bp]? = w.heap[bp]?) : Row bp v w' :=
  ⟨fun k hk => (World.cell?_of_block hb).trans (h.cell k hk), fun k => (World.frozen?_of_block (a := ⟨bp, k, none⟩) hb).trans (h.free k)⟩
theorem Row.below (h : Row bp v w) (hb : Below w.heap.size w w') : Row bp v w' := h.block (hb.block _ h.lt)
theorem Row.there (h : Row bp v w) (o n : Nat) (ho : o + n ≤ 4020) : w.there bp o n := fun j hj => ⟨by rw [h.cell _ (by omega)]; rfl, h.free _⟩
/-- with a row of cells laid anew -/
def over (v : Nat → Value) (o : Nat) (vs : List Value) : Nat → Value := fun k => if o ≤ k then (vs[k - o]?).getD (v k) else v k
theorem Row.setN (h : Row bp v w) (o : Nat) (vs : List Value) (ho : o + vs.length ≤ 4020) : Row bp (over v o vs) (w.setCells bp o vs) := by
  refine ⟨fun k hl => ?_, fun k => by rw [World.frozen?_setCells]; exact h.free k⟩
  by_cases e : k < o ∨ o + vs.length ≤ k
  · rw [World.cell?_setCells_out bp vs o w ⟨bp, k, none⟩ (fun _ _ => e), h.cell k hl]
    congr 1
    unfold over
    split
    · rw [List.getElem?_eq_none (by omega)]; rfl
    · rfl
  · obtain ⟨j, rfl⟩ : ∃ j, k = o + j := ⟨k - o, by omega⟩
    have hj : j < vs.length := by omega
    rw [World.cell?_setCells_in bp vs o w (fun i hi => by rw [h.cell _ (by omega)]; rfl) j hj]
    unfold over
    rw [if_pos (by omega), show o + j - o = j by omega, List.getElem?_eq_getElem hj]; rfl
theorem Row.set (h : Row bp v w) (o : Nat) (x : Value) (ho : o < 4020) : Row bp (over v o [x]) (w.setCell ⟨bp, o, none⟩ x) := by
  refine ⟨fun k hl => ?_, fun k => by rw [World.frozen?_setCell]; exact h.free k⟩
  by_cases e : k = o
  · subst e
    rw [World.cell?_setCell_same _ _ _ (h.cell k hl)]
    unfold over
    rw [if_pos (Nat.le_refl _), Nat.sub_self]; rfl
  · rw [World.cell?_setCell_other _ _ _ _ (fun e' => e (by injection e' with e1 e2; omega)), h.cell k hl]
    congr 1
    unfold over
    split
    · rw [List.getElem?_eq_none (by simp; omega)]; rfl
    · rfl
theorem over_in (v : Nat → Value) (o : Nat) (vs : List Value) {j : Nat} {x : Value} (h : vs[j]? = some x) : over v o vs (o + j) = x := by
  unfold over
  rw [if_pos (by omega), show o + j - o = j by omega, h]; rfl
theorem over_out (v : Nat → Value) (o : Nat) (vs : List Value) {k : Nat} (h : k < o ∨ o + vs.length ≤ k) : over v o vs k = v k := by
  unfold over
  split
  · rw [List.getElem?_eq_none (by omega)]; rfl
  · rfl
end
theorem Row.cells {bp bd bm : Nat} {p : Pg} {v : Nat → Value} {w : World} (h : Row bp v w) (hv : ∀ k, k < 4020 → v k = cellOf p bd bm k) : Cells bp bd bm p w :=
  ⟨fun k hk => by rw [h.cell k hk, hv k hk], h.free⟩
theorem Cells.row {bp bd bm : Nat} {p : Pg} {w : World} (h : Cells bp bd bm p w) : Row bp (cellOf p bd bm) w := ⟨h.cell, h.free⟩

theorem Only.set (bp o : Nat) (v : Value) (w : World) : Only (fun b => b = bp) w (w.setCell ⟨bp, o, none⟩ v) := Only.of_grown (grownBy_set w bp o v) rfl
theorem Only.setCells (bp : Nat) : ∀ (vs : List Value) (o : Nat) (w : World), Only (fun b => b = bp) w (w.setCells bp o vs)
  | [], _, w => Only.refl _ w
  | v :: r, o, w => (Only.set bp o v w).trans (Only.setCells bp r (o + 1) (w.setCell ⟨bp, o, none⟩ v)) (fun _ h => .inl h)
theorem Only.alloc (bp : Nat) (o : Obj) (w : World) : Only (fun b => b = bp) w (w.alloc o) := Only.of_below ((Below.refl _ _).alloc (Nat.le_refl _) _)

/-- which page is the head -/
def headOf (pg : Nat → ByteArray) : ByteArray := pg (placeF 0 ((pg 4000).data.toList.getD 0 0 != 0))
/-- what is committed to a disk -/
def loaded (pg : Nat → ByteArray) (commits : Int) (down : Bool) : Pg :=
  ⟨upperOf (headOf pg), usedOf (headOf pg), rpOf (headOf pg), rnOf (headOf pg), fun _ => none, commits, down⟩
end Go.Proofs.YtabcficlnhajeaaGreatDoor
