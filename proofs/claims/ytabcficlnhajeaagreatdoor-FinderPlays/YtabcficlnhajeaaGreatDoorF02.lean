/- Texts of the proof of FinderPlays: Loa2, Opn, Sml, Srt, Mpl, Rdp, Wrp, Alc, Usd, Mrk, Cln. -/
import Derived.Test.YtabcficlnhajeaaGreatDoorF01
namespace Go.Proofs.YtabcficlnhajeaaGreatDoor
open Go.RowKit Go.Maps

theorem placeF_lt (k : Nat) (hk : k < 2000) (b : Bool) : placeF k b < 4001 := by unfold placeF; split <;> omega

theorem headOf_is (pg : Nat → ByteArray) (h : 0 < (pg 4000).size) : pg (placeF 0 (((pg 4000)[0].toNat : Int) != 0)) = headOf pg := by
  unfold headOf
  have e0 : (pg 4000).data.toList.getD 0 0 = (pg 4000)[0] := by
    have hl : 0 < (pg 4000).data.toList.length := by simpa using h
    rw [List.getD_eq_getElem?_getD, List.getElem?_eq_getElem hl]; rfl
  rw [e0]
  congr 2
  by_cases e : (pg 4000)[0] = 0
  · rw [e]; rfl
  · have h1 : ((pg 4000)[0] != 0) = true := by simpa using e
    have h2 : ((pg 4000)[0]).toNat ≠ 0 := fun h3 => e (by apply UInt8.toNat_inj.1; rw [h3]; rfl)
    rw [h1]
    simp only [bne_iff_ne, ne_eq]
    omega

/-- the cells that a load leaves -/
theorem loaded_cells {bd bm : Nat} {v : Nat → Value} (pg : Nat → ByteArray) (c : Int) (d : Bool) (hv0 : v 0 = .pointer (some ⟨bd, 0, none⟩)) (h18 : v 4018 = .int .i64 c) (h19 : v 4019 = .bool d) (F G R : List Value)
    (hF : flags (usedOf (headOf pg)) = F) (hG : flags (upperOf (headOf pg)) = G) (hR : rootsL (rpOf (headOf pg)) (rnOf (headOf pg)) = R) (k : Nat) (hk : k < 4020) :
    over (over (over (over v 2001 F) 1 G) 4001 R) 4017 [.map (some bm)] k = cellOf (loaded pg c d) bd bm k := by
  have lF : F.length = 2000 := by rw [← hF, flags_len]
  have lG : G.length = 2000 := by rw [← hG, flags_len]
  have lR : R.length = 16 := by rw [← hR, rootsL_len]
  by_cases h0 : k = 0
  · subst h0
    rw [over_out _ _ _ (by omega), over_out _ _ _ (by omega), over_out _ _ _ (by omega), over_out _ _ _ (by omega), hv0]; rfl
  by_cases h1 : k < 2001
  · obtain ⟨j, rfl⟩ : ∃ j, k = 1 + j := ⟨k - 1, by omega⟩
    rw [over_out _ _ _ (by omega), over_out _ _ _ (by omega), over_in (x := .bool (upperOf (headOf pg) j)) _ _ _ (by rw [← hG, flags_get _ (by omega)]), cellOf_upper _ _ _ (by omega)]; rfl
  by_cases h2 : k < 4001
  · obtain ⟨j, rfl⟩ : ∃ j, k = 2001 + j := ⟨k - 2001, by omega⟩
    rw [over_out _ _ _ (by omega), over_out _ _ _ (by omega), over_out _ _ _ (by omega), over_in (x := .bool (usedOf (headOf pg) j)) _ _ _ (by rw [← hF, flags_get _ (by omega)]), cellOf_used _ _ _ (by omega)]; rfl
  by_cases h3 : k < 4017
  · obtain ⟨j, rfl⟩ : ∃ j, k = 4001 + j := ⟨k - 4001, by omega⟩
    rw [over_out _ _ _ (by omega), over_in (x := .int .i64 (if j % 2 = 0 then rpOf (headOf pg) (j / 2) else rnOf (headOf pg) (j / 2))) _ _ _ (by rw [← hR, rootsL_get _ _ (by omega)]), cellOf_root _ _ _ (by omega)]; rfl
  by_cases h4 : k = 4017
  · subst h4
    exact over_in _ 4017 _ (j := 0) rfl
  rw [over_out _ _ _ (by simp; omega), over_out _ _ _ (by omega), over_out _ _ _ (by omega), over_out _ _ _ (by omega)]
  by_cases h5 : k = 4018
  · subst h5; rw [h18]; rfl
  · obtain rfl : k = 4019 := by omega
    rw [h19]; rfl

set_option maxRecDepth 100000 in
set_option maxHeartbeats 800000 in
theorem load_any {bp bd : Nat} {v : Nat → Value} {s : St} {w : World} (hR : Row bp v w) (hv0 : v 0 = .pointer (some ⟨bd, 0, none⟩)) (c : Int) (d : Bool) (h18 : v 4018 = .int .i64 c) (h19 : v 4019 = .bool d) (hD : Prg bd s w) (hne : bp ≠ bd) :
    Calls Tryz.prog 33 #[.pointer (some ⟨bp, 0, none⟩)] w fun e w' => e = .returned (.tuple #[]) ∧ (∃ bm, w.heap.size ≤ bm ∧ PagerIs bp bd bm 0 (loaded s.pg c d) w') ∧ Prg bd s w' ∧ Only (fun b => b = bp) w w' := by
  have q0 := hR.cell 0 (by omega)
  rw [hv0] at q0
  have HR : Hid _ := hR
  have HD : Hid _ := hD
  clear hR hD
  go_enter Tryz.func33, Tryz.ntmps33
  go_wp2_with fail
  refine (read_yes HD.out 4000 (by omega)).mono ?_
  rintro _ w1 ⟨rfl, hb1⟩
  have hT : (s.pg 4000).size = 1024 := page_of_sizes HD.out 4000 (by omega)
  have hT0 : 0 < (s.pg 4000).size := by omega
  have hT0' : (0 : Int) < ((s.pg 4000).size : Int) := by omega
  have HK : Hid (∀ wx, Below w1.heap.size w1 wx → wx.cell? ⟨bp, 0, none⟩ = some (.pointer (some ⟨bd, 0, none⟩))) := fun wx hx => by
    rw [hx.cell (p := ⟨bp, 0, none⟩) (by have := HR.out.lt; have := hb1.size; show bp < _; omega), hb1.cell (p := ⟨bp, 0, none⟩) HR.out.lt]; exact q0
  have HDx : Hid (∀ wx, Below w1.heap.size w1 wx → Prg bd s wx) := fun wx hx => (HD.out.below hb1).below hx
  have q1 := HK.out _ (Below.refl _ _)
  go_wp2_with fail
  go_region_held3 (fun wx => wx.cell? ⟨bp, 0, none⟩ = some (.pointer (some ⟨bd, 0, none⟩))) (first | exact HK.out _ HB.out | exact HK.out _ (Below.refl _ _).drew) (first | (go_at_call 64; refine (place_any 0 (by omega) _ _).mono ?_; rintro _ wy ⟨rfl, hwy⟩; subst wy) | (go_at_call 63; refine (read_yes (HDx.out _ (Below.refl _ _).drew) _ (placeF_lt 0 (by omega) _)).mono ?_; rintro _ wy ⟨rfl, hb⟩; have HB : Hid (Below w1.heap.size w1 wy) := (Below.refl _ w1).drew.trans hb))
  obtain ⟨P, hP⟩ : ∃ P, s.pg (placeF 0 (((s.pg 4000)[0].toNat : Int) != 0)) = P := ⟨_, rfl⟩
  have hPs : P.size = 1024 := by rw [← hP]; exact page_of_sizes HD.out _ (placeF_lt 0 (by omega) _)
  have HP : Hid (P = headOf s.pg) := by rw [← hP]; exact headOf_is s.pg hT0
  rw [hP]
  clear hP
  have hmm := @run_makeMap Tryz.prog
  go_wp2_with fail
  refine (readHead_any P hPs _).mono ?_
  rintro _ w2 ⟨rfl, hb2⟩
  have hb3 : Below w.heap.size w w2 := hb1.trans ((HB.out.trans (hb2.mono HB.out.size)).mono hb1.size)
  have hr2 : Row bp v w2 := HR.out.below hb3
  have hd2 : Prg bd s w2 := HD.out.below hb3
  obtain ⟨F, hF⟩ : ∃ F, flags (usedOf P) = F := ⟨_, rfl⟩
  obtain ⟨G, hG⟩ : ∃ G, flags (upperOf P) = G := ⟨_, rfl⟩
  obtain ⟨R, hR⟩ : ∃ R, rootsL (rpOf P) (rnOf P) = R := ⟨_, rfl⟩
  have lF : F.length = 2000 := by rw [← hF, flags_len]
  have lG : G.length = 2000 := by rw [← hG, flags_len]
  have lR : R.length = 16 := by rw [← hR, rootsL_len]
  have sF : (Tryz.prog.info? 82).map (·.size) = some F.toArray.size := by rw [← hF]; exact size_flagsA _
  have sG : (Tryz.prog.info? 82).map (·.size) = some G.toArray.size := by rw [← hG]; exact size_flagsA _
  have sR : (Tryz.prog.info? 85).map (·.size) = some R.toArray.size := by rw [← hR]; exact size_rootsA _ _
  have oF := all_oneCell_toArray (show ∀ v ∈ F, v.oneCell' = true by rw [← hF]; exact flags_one _)
  have oG := all_oneCell_toArray (show ∀ v ∈ G, v.oneCell' = true by rw [← hG]; exact flags_one _)
  have oR := all_oneCell_toArray (show ∀ v ∈ R, v.oneCell' = true by rw [← hR]; exact rootsL_one _ _)
  have r3 := hr2.setN 2001 F (by omega)
  have r4 := r3.setN 1 G (by omega)
  have r5 := r4.setN 4001 R (by omega)
  have T0 : Hid (w2.there bp 2001 F.toArray.size) := hr2.there _ _ (by rw [List.size_toArray]; omega)
  have T1 : Hid ((w2.setCells bp 2001 F).there bp 1 G.toArray.size) := r3.there _ _ (by rw [List.size_toArray]; omega)
  have T2 : Hid (((w2.setCells bp 2001 F).setCells bp 1 G).there bp 4001 R.toArray.size) := r4.there _ _ (by rw [List.size_toArray]; omega)
  rw [hF, hG, hR]
  have HE : Hid (flags (usedOf P) = F ∧ flags (upperOf P) = G ∧ rootsL (rpOf P) (rnOf P) = R) := ⟨hF, hG, hR⟩
  have HL : Hid (F.length = 2000 ∧ G.length = 2000 ∧ R.length = 16) := ⟨lF, lG, lR⟩
  have H5 : Hid _ := r5
  have r6 := r5.below ((Below.refl _ _).alloc (o := .map #[] 0) (Nat.le_refl _))
  have q17 := r6.cell 4017 (by omega)
  have f17 := r6.free 4017
  have H6 : Hid _ := r6.set 4017 (.map (some (((w2.setCells bp 2001 F).setCells bp 1 G).setCells bp 4001 R).heap.size)) (by omega)
  have HD2 : Hid _ := hd2
  have HB3 : Hid _ := hb3
  clear r6 hF hG hR lF lG lR r3 r4 r5 hr2 hd2 hb2 hb3 hb1 HB q1
  go_wp2_with (first | (refine wpList_store_mid rfl 82 _ _ rfl bp 2001 F.toArray rfl rfl T0.out sF oF ?_) | (refine wpList_store_mid rfl 82 _ _ rfl bp 1 G.toArray rfl rfl T1.out sG oG ?_) | (refine wpList_store_mid rfl 85 _ _ rfl bp 4001 R.toArray rfl rfl T2.out sR oR ?_))
  go_end0
  have hs4 : w2.heap.size ≤ (((w2.setCells bp 2001 F).setCells bp 1 G).setCells bp 4001 R).heap.size := Nat.le_trans (Only.setCells bp F 2001 w2).size (Nat.le_trans (Only.setCells bp G 1 _).size (Only.setCells bp R 4001 _).size)
  have ho : Only (fun b => b = bp) w2 (((w2.setCells bp 2001 F).setCells bp 1 G).setCells bp 4001 R) := ((Only.setCells bp F 2001 w2).trans (Only.setCells bp G 1 _) (fun _ h => .inl h)).trans (Only.setCells bp R 4001 _) (fun _ h => .inl h)
  have hown := World.ownsMap_made (H := Unit) (((w2.setCells bp 2001 F).setCells bp 1 G).setCells bp 4001 R) Tryz.prog 3 sheetElem
  generalize (((w2.setCells bp 2001 F).setCells bp 1 G).setCells bp 4001 R) = w4 at *
  have ho2 : Only (fun b => b = bp) w4 ((w4.alloc (.map #[] 0)).setCell ⟨bp, 4017, none⟩ (.map (some w4.heap.size))) := (Only.alloc bp _ w4).trans (Only.set bp 4017 _ _) (fun _ h => .inl h)
  have ho3 := ho.trans ho2 (fun _ h => .inl h)
  have hbp : bp < w2.heap.size := Nat.lt_of_lt_of_le HR.out.lt HB3.out.size
  have hs := HB3.out.size
  refine ⟨rfl, ⟨w4.heap.size, by omega, ?_, ?_⟩, Prg.only (s := s) HD2.out ho3 (fun e => hne e.symm), (Only.of_below HB3.out).trans ho3 (fun _ h => .inl h)⟩
  · have := HP.out
    subst this
    exact H6.out.cells (fun k hk => loaded_cells s.pg c d hv0 h18 h19 F G R HE.out.1 HE.out.2.1 HE.out.2.2 k hk)
  · have hS : Sheets w4.heap.size 0 (fun _ => none) (w4.alloc (.map #[] 0)) := ⟨_, hown, mapIs_empty⟩
    exact hS.only (Only.set bp 4017 _ _) (fun e => by omega)
end Go.Proofs.YtabcficlnhajeaaGreatDoor
namespace Go.Proofs.YtabcficlnhajeaaGreatDoor
open Go.RowKit Go.Maps

theorem open_nil (w : World) : Calls Tryz.prog 12 #[.pointer none] w fun e w' => e = .returned (.tuple #[.pointer none, .iface 30 (.int .i64 7)]) ∧ w' = w := by
  go_enter Tryz.func12, Tryz.ntmps12
  go_wp2
  go_ret2
  exact ⟨rfl, rfl⟩

theorem size76 : Tryz.zeroCells90.size = 4020 := by kernel_rfl
theorem zero76_19 : Tryz.zeroCells90[4019]? = some (.bool false) := by kernel_rfl
/-- a pager as it is made -/
theorem made_facts (bd : Nat) (A : Array Value) (hA : (Tryz.zeroCells90.setIfInBounds 0 (.pointer (some ⟨bd, 0, none⟩))).setIfInBounds 4018 (.int .i64 1) = A) :
    A.size = 4020 ∧ A[0]? = some (.pointer (some ⟨bd, 0, none⟩)) ∧ A[4018]? = some (.int .i64 1) ∧ A[4019]? = some (.bool false) := by
  subst hA
  refine ⟨by rw [Array.size_setIfInBounds, Array.size_setIfInBounds, size76], ?_, ?_, ?_⟩
  · rw [Array.getElem?_setIfInBounds_ne (by omega), Array.getElem?_setIfInBounds_self_of_lt (by rw [size76]; omega)]
  · rw [Array.getElem?_setIfInBounds_self_of_lt (by rw [Array.size_setIfInBounds, size76]; omega)]
  · rw [Array.getElem?_setIfInBounds_ne (by omega), Array.getElem?_setIfInBounds_ne (by omega), zero76_19]
theorem made_row (A : Array Value) (hs : A.size = 4020) (w : World) : Row w.heap.size (fun k => (A[k]?).getD undef) (w.alloc (.cells A 90)) := by
  have hn : (w.alloc (.cells A 90)).heap[w.heap.size]? = some (.cells A 90) := heap_alloc_new w _
  refine ⟨fun k hk => ?_, fun k => by simp only [World.frozen?, hn]; simp⟩
  rw [cell_of_row _ _ _ _ _ _ hn]
  have hl : k < A.size := by rw [hs]; exact hk
  show A[k]? = some ((A[k]?).getD undef)
  rw [Array.getElem?_eq_getElem hl]; rfl

set_option maxRecDepth 100000 in
set_option maxHeartbeats 800000 in
theorem open_any {bd : Nat} {s : St} {w : World} (hD : Prg bd s w) :
    Calls Tryz.prog 12 #[.pointer (some ⟨bd, 0, none⟩)] w fun e w' => ∃ bp bm, e = .returned (.tuple #[.pointer (some ⟨bp, 0, none⟩), .nilIface]) ∧ w.heap.size ≤ bp ∧ w.heap.size ≤ bm ∧ PagerIs bp bd bm 0 (loaded s.pg 1 false) w' ∧ Prg bd s w' ∧ Below w.heap.size w w' := by
  have HD : Hid _ := hD
  clear hD
  go_enter Tryz.func12, Tryz.ntmps12
  go_wp2_with fail
  obtain ⟨A, hA⟩ : ∃ A, (Tryz.zeroCells90.setIfInBounds 0 (.pointer (some ⟨bd, 0, none⟩))).setIfInBounds 4018 (.int .i64 1) = A := ⟨_, rfl⟩
  rw [hA]
  obtain ⟨a1, a2, a3, a4⟩ := made_facts bd A hA
  clear hA
  have hr := made_row A a1 w
  have hd : Prg bd s (w.alloc (.cells A 90)) := Prg.below (s := s) HD.out ((Below.refl _ _).alloc (Nat.le_refl _) _)
  have hlt : bd < w.heap.size := DiskIs.lt HD.out
  refine (load_any (bp := w.heap.size) (bd := bd) (s := s) hr (by rw [a2]; rfl) 1 false (by rw [a3]; rfl) (by rw [a4]; rfl) hd (by omega)).mono ?_
  rintro _ w1 ⟨rfl, ⟨bm, hbm, hP⟩, hD1, hO⟩
  have hsz : (w.alloc (.cells A 90)).heap.size = w.heap.size + 1 := World.size_alloc _ _
  have HB : Hid (Below w.heap.size w w1) := Only.below ((Below.refl _ _).alloc (o := .cells A 90) (Nat.le_refl _)) hO (by omega) (fun i hi => by omega)
  have HP : Hid _ := hP
  have HD1 : Hid _ := hD1
  have HM : Hid (w.heap.size ≤ bm) := by rw [hsz] at hbm; exact (by omega : w.heap.size ≤ bm)
  clear hP hD1 hO hr hd hbm a1 a2 a3 a4
  go_wp2
  go_ret2
  exact ⟨w.heap.size, bm, rfl, Nat.le_refl _, HM.out, HP.out, HD1.out, HB.out⟩
end Go.Proofs.YtabcficlnhajeaaGreatDoor
namespace Go.Proofs.YtabcficlnhajeaaGreatDoor
open Go.RowKit Go.Maps

section
variable {bp bd bm n : Nat} {p : Pg} {s : St} {w : World}

theorem down_any (h : Cells bp bd bm p w) : Calls Tryz.prog 81 #[.pointer (some ⟨bp, 0, none⟩)] w fun e w' => e = .returned (.bool p.down) ∧ w' = w := by
  have q := h.cell 4019 (by omega)
  rw [cellOf_down] at q
  clear h
  go_enter Tryz.func81, Tryz.ntmps81
  go_wp2
  go_ret
  exact ⟨rfl, rfl⟩

/-- the error of a code -/
def errV (n : Int) : Value := if n = 0 then .nilIface else .iface 30 (.int .i64 n)
/-- what keeps a page from being read or changed -/
def Pg.code (p : Pg) (k : Int) : Int := if 0 ≤ k ∧ k < 2000 ∧ p.used k.toNat = true then (if p.down then 6 else 0) else 2
theorem Pg.code_no {p : Pg} {k : Int} (h : ¬ (0 ≤ k ∧ k < 2000 ∧ p.used k.toNat = true)) : p.code k = 2 := if_neg h
theorem Pg.code_yes {p : Pg} {k : Int} (h : 0 ≤ k ∧ k < 2000 ∧ p.used k.toNat = true) : p.code k = if p.down then 6 else 0 := if_pos h

set_option maxRecDepth 100000 in
set_option maxHeartbeats 400000 in
theorem reach_any (h : Cells bp bd bm p w) (k : Int) : Calls Tryz.prog 120 #[.pointer (some ⟨bp, 0, none⟩), .int .i64 k] w fun e w' => ∃ E, e = .returned E ∧ E = errV (p.code k) ∧ w' = w := by
  by_cases h0 : 0 ≤ k ∧ k < 2000
  · obtain ⟨j, rfl⟩ : ∃ j : Nat, k = j := ⟨k.toNat, by omega⟩
    have hj : j < 2000 := by omega
    have h1 : (j : Int) < 2000 := by omega
    have q := h.cell (2001 + j) (by omega)
    rw [cellOf_used _ _ _ hj] at q
    have q2 := h.cell 4019 (by omega)
    rw [cellOf_down] at q2
    clear h
    cases hu : p.used j
    · rw [hu] at q
      rw [Pg.code_no (fun e => by rw [Int.toNat_natCast, hu] at e; cases e.2.2)]
      go_enter Tryz.func120, Tryz.ntmps120
      go_wp2_with fail
      refine (below_any j 2000 w).mono ?_
      rintro _ wa ⟨rfl, hw⟩
      subst wa
      rw [decide_eq_true (show (0 : Int) ≤ j by omega), decide_eq_true h1]
      go_wp2
      go_ret
      exact ⟨_, rfl, rfl, rfl⟩
    · rw [hu] at q
      rw [Pg.code_yes ⟨by omega, h1, by rw [Int.toNat_natCast]; exact hu⟩]
      cases hd : p.down
      · rw [hd] at q2
        go_enter Tryz.func120, Tryz.ntmps120
        go_wp2_with fail
        refine (below_any j 2000 w).mono ?_
        rintro _ wa ⟨rfl, hw⟩
        subst wa
        rw [decide_eq_true (show (0 : Int) ≤ j by omega), decide_eq_true h1]
        go_wp2
        go_ret
        exact ⟨_, rfl, rfl, rfl⟩
      · rw [hd] at q2
        go_enter Tryz.func120, Tryz.ntmps120
        go_wp2_with fail
        refine (below_any j 2000 w).mono ?_
        rintro _ wa ⟨rfl, hw⟩
        subst wa
        rw [decide_eq_true (show (0 : Int) ≤ j by omega), decide_eq_true h1]
        go_wp2
        go_ret
        exact ⟨_, rfl, rfl, rfl⟩
  · clear h
    rw [Pg.code_no (fun e => h0 ⟨e.1, e.2.1⟩)]
    have hb : (decide (0 ≤ k) && decide (k < 2000)) = false := by
      cases hx : (decide (0 ≤ k) && decide (k < 2000))
      · rfl
      · simp at hx; exact absurd hx h0
    go_enter Tryz.func120, Tryz.ntmps120
    go_wp2_with fail
    refine (below_any k 2000 w).mono ?_
    rintro _ wa ⟨rfl, hw⟩
    subst wa
    rw [hb]
    go_wp2
    go_ret
    exact ⟨_, rfl, rfl, rfl⟩

/-- what Root tells -/
theorem root_yes (h : Cells bp bd bm p w) (i : Nat) (hi : i < 8) : Calls Tryz.prog 34 #[.pointer (some ⟨bp, 0, none⟩), .int .i64 i] w fun e w' => e = .returned (.tuple #[.int .i64 (p.rp i), .int .i64 (p.rn i), .nilIface]) ∧ Below w.heap.size w w' := by
  have h1 : (i : Int) < 8 := by omega
  have q1 := h.cell (4001 + i * 2) (by omega)
  have q2 := h.cell (4001 + i * 2 + 1) (by omega)
  rw [cellOf_root _ _ _ (by omega), if_pos (by omega), show i * 2 / 2 = i by omega] at q1
  rw [show 4001 + i * 2 + 1 = 4001 + (i * 2 + 1) by omega, cellOf_root _ _ _ (by omega), if_neg (by omega), show (i * 2 + 1) / 2 = i by omega, ← Nat.add_assoc] at q2
  clear h
  go_enter Tryz.func34, Tryz.ntmps34
  go_wp2_with fail
  refine (below_any i 8 w).mono ?_
  rintro _ wa ⟨rfl, hw⟩
  subst wa
  rw [decide_eq_true (show (0 : Int) ≤ i by omega), decide_eq_true h1]
  go_wp2
  go_quiet (fail)
  go_wp2
  go_ret3
  exact ⟨rfl, ((Below.refl _ _).alloc (Nat.le_refl _) _).trans ⟨rfl, rfl, rfl, Nat.le_refl _, fun _ _ => rfl⟩⟩

theorem root_no (i : Int) (hi : ¬ (0 ≤ i ∧ i < 8)) (w : World) : Calls Tryz.prog 34 #[.pointer (some ⟨bp, 0, none⟩), .int .i64 i] w fun e w' => e = .returned (.tuple #[.int .i64 0, .int .i64 0, .iface 30 (.int .i64 2)]) ∧ w' = w := by
  have hb : (decide (0 ≤ i) && decide (i < 8)) = false := by
    cases hx : (decide (0 ≤ i) && decide (i < 8))
    · rfl
    · simp at hx; exact absurd hx hi
  go_enter Tryz.func34, Tryz.ntmps34
  go_wp2_with fail
  refine (below_any i 8 w).mono ?_
  rintro _ wa ⟨rfl, hw⟩
  subst wa
  rw [hb]
  go_wp2
  go_ret3
  exact ⟨rfl, rfl⟩
end
end Go.Proofs.YtabcficlnhajeaaGreatDoor
namespace Go.Proofs.YtabcficlnhajeaaGreatDoor
open Go.RowKit Go.Maps

theorem over_same (v : Nat → Value) (o : Nat) (x : Value) : over v o [x] o = x := over_in v o [x] (j := 0) rfl
/-- a number from 0 to below a bound -/
def inB (k b : Int) : Bool := decide (0 ≤ k) && decide (k < b)
def Pg.setRoot (p : Pg) (i : Nat) (k t : Int) : Pg := { p with rp := fun j => if j = i then k else p.rp j, rn := fun j => if j = i then t else p.rn j }

section
variable {bp bd bm n : Nat} {p : Pg} {s : St} {w : World}

theorem Cells.setRoot (h : Cells bp bd bm p w) (i : Nat) (hi : i < 8) (k t : Int) : Cells bp bd bm (p.setRoot i k t) ((w.setCell ⟨bp, 4001 + i * 2, none⟩ (.int .i64 k)).setCell ⟨bp, 4001 + i * 2 + 1, none⟩ (.int .i64 t)) := by
  have h1 := (h.row.set (4001 + i * 2) (.int .i64 k) (by omega)).set (4001 + i * 2 + 1) (.int .i64 t) (by omega)
  refine h1.cells fun j hj => ?_
  by_cases e2 : j = 4001 + i * 2 + 1
  · subst e2
    rw [over_same, show 4001 + i * 2 + 1 = 4001 + (i * 2 + 1) by omega, cellOf_root _ _ _ (by omega), if_neg (by omega), show (i * 2 + 1) / 2 = i by omega]
    simp [Pg.setRoot]
  · rw [over_out _ _ _ (by simp; omega)]
    by_cases e1 : j = 4001 + i * 2
    · subst e1
      rw [over_same, cellOf_root _ _ _ (by omega), if_pos (by omega), show (i * 2) / 2 = i by omega]
      simp [Pg.setRoot]
    · rw [over_out _ _ _ (by simp; omega)]
      by_cases e3 : 4001 ≤ j ∧ j < 4017
      · obtain ⟨m, rfl⟩ : ∃ m, j = 4001 + m := ⟨j - 4001, by omega⟩
        rw [cellOf_root _ _ _ (by omega), cellOf_root _ _ _ (by omega)]
        by_cases e : m % 2 = 0
        · rw [if_pos e, if_pos e]
          simp only [Pg.setRoot]
          rw [if_neg (by omega)]
        · rw [if_neg e, if_neg e]
          simp only [Pg.setRoot]
          rw [if_neg (by omega)]
      · unfold cellOf
        by_cases a0 : j = 0
        · rw [if_pos a0, if_pos a0]
        rw [if_neg a0, if_neg a0]
        by_cases a1 : j < 2001
        · rw [if_pos a1, if_pos a1]; rfl
        rw [if_neg a1, if_neg a1]
        by_cases a2 : j < 4001
        · rw [if_pos a2, if_pos a2]; rfl
        rw [if_neg a2, if_neg a2, if_neg (show ¬ j < 4017 by omega), if_neg (show ¬ j < 4017 by omega)]; rfl

set_option maxRecDepth 100000 in
set_option maxHeartbeats 400000 in
theorem setRoot_yes (h : Cells bp bd bm p w) (hd : p.down = false) (i : Nat) (hi : i < 8) (k t : Int) (hk : inB k 2000 = true) (ht : inB t 65536 = true) :
    Calls Tryz.prog 150 #[.pointer (some ⟨bp, 0, none⟩), .int .i64 i, .int .i64 k, .int .i64 t] w fun e w' => e = .returned .nilIface ∧ Cells bp bd bm (p.setRoot i k t) w' ∧ Only (fun b => b = bp) w w' := by
  have h1 : (i : Int) < 8 := by omega
  have q := h.cell 4019 (by omega)
  rw [cellOf_down, hd] at q
  have q1 := h.cell (4001 + i * 2) (by omega)
  have q2 := h.cell (4001 + i * 2 + 1) (by omega)
  have f1 := h.free (4001 + i * 2)
  have f2 := h.free (4001 + i * 2 + 1)
  have HC : Hid _ := h.setRoot i hi k t
  clear h
  go_enter Tryz.func150, Tryz.ntmps150
  go_wp2_with fail
  refine (below_any i 8 w).mono ?_
  rintro _ wa ⟨rfl, hw⟩
  subst wa
  rw [decide_eq_true (show (0 : Int) ≤ i by omega), decide_eq_true h1]
  go_wp2_with fail
  refine (below_any k 2000 w).mono ?_
  rintro _ wa ⟨rfl, hw⟩
  subst wa
  rw [show (decide (0 ≤ k) && decide (k < 2000)) = true from hk]
  go_wp2_with fail
  refine (below_any t 65536 w).mono ?_
  rintro _ wa ⟨rfl, hw⟩
  subst wa
  rw [show (decide (0 ≤ t) && decide (t < 65536)) = true from ht]
  go_wp2
  go_ret
  exact ⟨rfl, HC.out, (Only.set bp _ _ w).trans (Only.set bp _ _ _) (fun _ h => .inl h)⟩

set_option maxHeartbeats 400000 in
theorem setRoot_no (w : World) (i k t : Int) (hn : ¬ (inB i 8 = true ∧ inB k 2000 = true ∧ inB t 65536 = true)) :
    Calls Tryz.prog 150 #[.pointer (some ⟨bp, 0, none⟩), .int .i64 i, .int .i64 k, .int .i64 t] w fun e w' => e = .returned (.iface 30 (.int .i64 2)) ∧ w' = w := by
  cases hi : inB i 8
  · go_enter Tryz.func150, Tryz.ntmps150
    go_wp2_with fail
    refine (below_any i 8 w).mono ?_
    rintro _ wa ⟨rfl, hw⟩
    subst wa
    rw [show (decide (0 ≤ i) && decide (i < 8)) = false from hi]
    go_wp2
    go_ret
    exact ⟨rfl, rfl⟩
  · cases hk : inB k 2000
    · go_enter Tryz.func150, Tryz.ntmps150
      go_wp2_with fail
      refine (below_any i 8 w).mono ?_
      rintro _ wa ⟨rfl, hw⟩
      subst wa
      rw [show (decide (0 ≤ i) && decide (i < 8)) = true from hi]
      go_wp2_with fail
      refine (below_any k 2000 w).mono ?_
      rintro _ wa ⟨rfl, hw⟩
      subst wa
      rw [show (decide (0 ≤ k) && decide (k < 2000)) = false from hk]
      go_wp2
      go_ret
      exact ⟨rfl, rfl⟩
    · have ht : inB t 65536 = false := by
        cases e : inB t 65536
        · rfl
        · exact absurd ⟨hi, hk, e⟩ hn
      go_enter Tryz.func150, Tryz.ntmps150
      go_wp2_with fail
      refine (below_any i 8 w).mono ?_
      rintro _ wa ⟨rfl, hw⟩
      subst wa
      rw [show (decide (0 ≤ i) && decide (i < 8)) = true from hi]
      go_wp2_with fail
      refine (below_any k 2000 w).mono ?_
      rintro _ wa ⟨rfl, hw⟩
      subst wa
      rw [show (decide (0 ≤ k) && decide (k < 2000)) = true from hk]
      go_wp2_with fail
      refine (below_any t 65536 w).mono ?_
      rintro _ wa ⟨rfl, hw⟩
      subst wa
      rw [show (decide (0 ≤ t) && decide (t < 65536)) = false from ht]
      go_wp2
      go_ret
      exact ⟨rfl, rfl⟩
end
end Go.Proofs.YtabcficlnhajeaaGreatDoor
namespace Go.Proofs.YtabcficlnhajeaaGreatDoor
open Go.RowKit Go.Maps

theorem key_of (k : Nat) (hk : k < 2000) : keyOf Tryz.prog 3 (.int .i64 k) = some (.int .i64 k) := keyOf_int_mk Tryz.underlying3 (wf_nat k (by omega))
theorem zero86 (w : World) : (zeroValue 195).run Tryz.prog w = .ok (.agg #[.string ⟨#[]⟩]) w := by kernel_rfl
theorem bytes_inj {a b : ByteArray} (h : a.data.toList = b.data.toList) : a = b := by
  cases a; cases b
  congr
  exact Array.toList_inj.1 h

section
variable {ops : Array Oper} {rest : List Oper} {o : Oper} {a : Act} {Q : Exit → Act → World → Prop} {bm n : Nat} {f : Nat → Option ByteArray}
theorem look_sheet (w : World) (hg : o.guard = none) (m x : Operand) (hop : o.op = Op.lookup 86 m x true) (hS : Sheets bm n f w) (k : Nat) (hk : k < 2000) (hm : a.eval m = .map (some bm)) (hx : a.eval x = .int .i64 k)
    (hK : wpList Tryz.prog ops Q rest (a.put o.dst (.tuple #[.agg #[.string ((f k).getD ⟨#[]⟩)], .bool (f k).isSome])) w) : wpList Tryz.prog ops Q (o :: rest) a w := by
  obtain ⟨D, hD, hM⟩ := hS
  refine wpList_lookup_own_ok w hg m x 86 hop 3 195 keyed3 Tryz.underlying86 sheetElem (zero86 w) (.lit (.string [])) [] rfl bm n D hm hD _ _ hx (key_of k hk) ?_
  intro v ps hv
  obtain ⟨s, rfl, hz⟩ := sheetElem_inv hv
  have h1 := congrArg Prod.fst hz
  simp only at h1
  rw [hM.has k hk]
  cases hf : f k with
  | none =>
    rw [atKey_of_not_has (by rw [hM.has k hk, hf]; rfl)] at h1
    injection h1 with h2
    injection h2 with h3
    have : s = ⟨#[]⟩ := bytes_inj (by rw [← h3])
    rw [hf] at hK
    rw [this]; exact hK
  | some t =>
    rw [hM.elem k t hk hf] at h1
    injection h1 with h2
    injection h2 with h3
    have : s = t := (bytes_inj h3).symm
    rw [hf] at hK
    rw [this]; exact hK

theorem put_sheet (w : World) (hg : o.guard = none) (m x v : Operand) (hop : o.op = Op.mapUpdate 86 m x v) (hS : Sheets bm n f w) (hn : n < 1000000) (k : Nat) (hk : k < 2000) (s : ByteArray) (hs : s.size = 1024) (hm : a.eval m = .map (some bm)) (hx : a.eval x = .int .i64 k) (hv : a.eval v = .agg #[.string s])
    (hK : ∀ w', Sheets bm (n + 1) (put f k (some s)) w' → Only (fun b => b = bm) w w' → wpList Tryz.prog ops Q rest (a.put o.dst undef) w') : wpList Tryz.prog ops Q (o :: rest) a w := by
  obtain ⟨D, hD, hM⟩ := hS
  refine wpList_mapUpdate_own w hg m x v 86 hop 3 195 keyed3 Tryz.underlying86 sheetElem bm n D hm hD (Nat.lt_trans hn (by decide)) _ _ _ hx hv (key_of k hk) _ _ (sheetElem_mk s) ?_
  intro w' h1 h2
  exact hK w' ⟨_, h1, hM.put k hk s hs⟩ (Only.of_grown h2 rfl)

theorem del_sheet (w : World) (hg : o.guard = none) (m x : Operand) (hop : o.op = Op.call { callee := Callee.builtin Builtin.delete, args := #[m, x], argTypes := #[86, 3] }) (hS : Sheets bm n f w) (k : Nat) (hk : k < 2000) (hm : a.eval m = .map (some bm)) (hx : a.eval x = .int .i64 k)
    (hK : ∀ w', Sheets bm n (put f k none) w' → Only (fun b => b = bm) w w' → wpList Tryz.prog ops Q rest (a.put o.dst (.tuple #[])) w') : wpList Tryz.prog ops Q (o :: rest) a w := by
  obtain ⟨D, hD, hM⟩ := hS
  refine wpList_delete_own w hg m x 86 3 hop 195 keyed3 Tryz.underlying86 sheetElem bm n D hm hD _ _ hx (key_of k hk) ?_
  intro w' h1 h2
  exact hK w' ⟨_, h1, hM.del k⟩ (Only.of_grown h2.grown rfl)
end
end Go.Proofs.YtabcficlnhajeaaGreatDoor
namespace Go.Proofs.YtabcficlnhajeaaGreatDoor
open Go.RowKit Go.Maps

/-- what a page in use has -/
def Pg.text (p : Pg) (pg : Nat → ByteArray) (k : Nat) : ByteArray := (p.chg k).getD (pg (placeF k (p.upper k)))

section
variable {bp bd bm n : Nat} {p : Pg} {s : St} {w : World}

theorem no_iff (p : Pg) (k : Int) : p.code k = 2 ∨ (∃ j : Nat, k = j ∧ j < 2000 ∧ p.used j = true) := by
  by_cases e : 0 ≤ k ∧ k < 2000 ∧ p.used k.toNat = true
  · exact .inr ⟨k.toNat, by omega, by omega, e.2.2⟩
  · exact .inl (Pg.code_no e)
theorem code_ok {p : Pg} {j : Nat} (hd : p.down = false) (hj : j < 2000) (hu : p.used j = true) : p.code j = 0 := by
  rw [Pg.code_yes ⟨by omega, by omega, by rw [Int.toNat_natCast]; exact hu⟩, hd]; rfl

set_option maxRecDepth 100000 in
theorem readp_no (h : Cells bp bd bm p w) (k : Int) (hc : p.code k = 2) :
    Calls Tryz.prog 82 #[.pointer (some ⟨bp, 0, none⟩), .int .i64 k] w fun e w' => e = .returned (.tuple #[.string ⟨#[]⟩, .iface 30 (.int .i64 2)]) ∧ w' = w := by
  have HC : Hid (Cells bp bd bm p w) := h
  clear h
  go_enter Tryz.func82, Tryz.ntmps82
  go_wp2_with fail
  refine (reach_any HC.out k).mono ?_
  rintro _ wa ⟨E, rfl, hE, hw⟩
  subst wa
  rw [hc] at hE
  obtain rfl : E = .iface 30 (.int .i64 2) := hE
  go_wp2
  go_ret2
  exact ⟨rfl, rfl⟩

set_option maxRecDepth 100000 in
set_option maxHeartbeats 400000 in
theorem readp_yes (h : PagerIs bp bd bm n p w) (hD : Prg bd s w) (hd : p.down = false) (j : Nat) (hj : j < 2000) (hu : p.used j = true) :
    Calls Tryz.prog 82 #[.pointer (some ⟨bp, 0, none⟩), .int .i64 j] w fun e w' => e = .returned (.tuple #[.string (p.text s.pg j), .nilIface]) ∧ Below w.heap.size w w' := by
  have HP : Hid (PagerIs bp bd bm n p w) := h
  have HD : Hid (Prg bd s w) := hD
  have q0 := h.cells.cell 0 (by omega)
  rw [show cellOf p bd bm 0 = .pointer (some ⟨bd, 0, none⟩) from rfl] at q0
  have q1 := h.cells.cell 4017 (by omega)
  rw [cellOf_map] at q1
  have q2 := h.cells.cell (1 + j) (by omega)
  rw [cellOf_upper _ _ _ hj] at q2
  have h1 : (j : Int) < 2000 := by omega
  clear h hD
  go_enter Tryz.func82, Tryz.ntmps82
  go_wp2_with fail
  refine (reach_any HP.out.cells j).mono ?_
  rintro _ wa ⟨E, rfl, hE, hw⟩
  subst wa
  rw [code_ok hd hj hu] at hE
  obtain rfl : E = .nilIface := hE
  cases hf : p.chg j with
  | some t =>
    have ht : t.size = 1024 := by
      obtain ⟨D, _, hM⟩ := HP.out.own
      exact (hM.small j t hf).2
    go_wp2_with (refine look_sheet _ rfl _ _ rfl HP.out.own j hj rfl rfl ?_; rw [hf])
    refine (clone_any t _ (by omega)).mono ?_
    rintro _ w1 ⟨rfl, hb⟩
    have HB : Hid (Below w.heap.size w w1) := ((Below.refl _ w).alloc (o := .cells #[.string t] 195) (Nat.le_refl _)).trans (hb.mono (by rw [World.size_alloc]; omega))
    clear hb
    go_wp2
    go_ret2
    exact ⟨by rw [Pg.text, hf]; rfl, HB.out⟩
  | none =>
    go_wp2_with (refine look_sheet _ rfl _ _ rfl HP.out.own j hj rfl rfl ?_; rw [hf])
    have HK : Hid (∀ wx, Below w.heap.size w wx → wx.cell? ⟨bp, 0, none⟩ = some (.pointer (some ⟨bd, 0, none⟩)) ∧ wx.cell? ⟨bp, 1 + j, none⟩ = some (.bool (p.upper j))) := fun wx hx =>
      ⟨by rw [hx.cell (p := ⟨bp, 0, none⟩) HP.out.lt]; exact q0, by rw [hx.cell (p := ⟨bp, 1 + j, none⟩) HP.out.lt]; exact q2⟩
    have HDx : Hid (∀ wx, Below w.heap.size w wx → Prg bd s wx) := fun wx hx => Prg.below HD.out hx
    have HB0 : Hid (Below w.heap.size w (w.alloc (.cells #[.string ⟨#[]⟩] 195)).drew) := ((Below.refl _ w).alloc (o := .cells #[.string ⟨#[]⟩] 195) (Nat.le_refl _)).drew
    have hlt := placeF_lt j hj (p.upper j)
    go_region_held3 (fun wx => wx.cell? ⟨bp, 0, none⟩ = some (.pointer (some ⟨bd, 0, none⟩)) ∧ wx.cell? ⟨bp, 1 + j, none⟩ = some (.bool (p.upper j))) (first | exact HK.out _ HB.out | exact HK.out _ HB0.out) (first | (go_at_call 64; refine (place_any j hj _ _).mono ?_; rintro _ wy ⟨rfl, hwy⟩; subst wy) | (go_at_call 63; refine (read_yes (HDx.out _ HB0.out) _ hlt).mono ?_; rintro _ wy ⟨rfl, hb⟩; have HB : Hid (Below w.heap.size w wy) := HB0.out.trans (hb.mono HB0.out.size)))
    go_wp2
    go_ret2
    exact ⟨by rw [Pg.text, hf]; rfl, HB.out⟩
end
end Go.Proofs.YtabcficlnhajeaaGreatDoor
namespace Go.Proofs.YtabcficlnhajeaaGreatDoor
open Go.RowKit Go.Maps

theorem store_sheet {bm n : Nat} {f : Nat → Option ByteArray} {w : World} (hS : Sheets bm n f w) (hn : n < 1000000) (k : Nat) (hk : k < 2000) (s : ByteArray) (hs : s.size = 1024) :
    ∃ w', (Instr.mapUpdate 86 (.map (some bm)) (.int .i64 k) (.agg #[.string s])).run Tryz.prog w = .ok () w' ∧ Sheets bm (n + 1) (put f k (some s)) w' ∧ Only (fun b => b = bm) w w' := by
  obtain ⟨D, hD, hM⟩ := hS
  obtain ⟨w', h1, h2, h3⟩ := hD.store keyed3 Tryz.underlying86 (Nat.lt_trans hn (by decide)) (key_of k hk) (sheetElem_mk s)
  exact ⟨w', h1, ⟨_, h2, hM.put k hk s hs⟩, Only.of_grown h3.grown rfl⟩

def Pg.write (p : Pg) (k : Nat) (s : ByteArray) : Pg := { p with chg := put p.chg k (some s) }
def Pg.free (p : Pg) (k : Nat) : Pg := { p with used := fun i => if i = k then false else p.used i, chg := put p.chg k none }
theorem Cells.chg {bp bd bm : Nat} {p : Pg} {w : World} (h : Cells bp bd bm p w) (f : Nat → Option ByteArray) : Cells bp bd bm { p with chg := f } w := ⟨fun k hk => h.cell k hk, h.free⟩

section
variable {bp bd bm n : Nat} {p : Pg} {s : St} {w : World}

theorem writep_no (h : Cells bp bd bm p w) (k : Int) (hc : p.code k = 2) (t : ByteArray) :
    Calls Tryz.prog 191 #[.pointer (some ⟨bp, 0, none⟩), .int .i64 k, .string t] w fun e w' => e = .returned (.iface 30 (.int .i64 2)) ∧ w' = w := by
  have HC : Hid (Cells bp bd bm p w) := h
  clear h
  go_enter Tryz.func191, Tryz.ntmps191
  go_wp2_with fail
  refine (reach_any HC.out k).mono ?_
  rintro _ wa ⟨E, rfl, hE, hw⟩
  subst wa
  rw [hc] at hE
  obtain rfl : E = .iface 30 (.int .i64 2) := hE
  go_wp2
  go_ret
  exact ⟨rfl, rfl⟩

theorem writep_arg (h : Cells bp bd bm p w) (hd : p.down = false) (j : Nat) (hj : j < 2000) (hu : p.used j = true) (t : ByteArray) (ht : t.size ≠ 1024) :
    Calls Tryz.prog 191 #[.pointer (some ⟨bp, 0, none⟩), .int .i64 j, .string t] w fun e w' => e = .returned (.iface 30 (.int .i64 1)) ∧ w' = w := by
  have HC : Hid (Cells bp bd bm p w) := h
  have h1 : ¬ ((t.size : Int) = 1024) := by omega
  clear h
  go_enter Tryz.func191, Tryz.ntmps191
  go_wp2_with fail
  refine (reach_any HC.out j).mono ?_
  rintro _ wa ⟨E, rfl, hE, hw⟩
  subst wa
  rw [code_ok hd hj hu] at hE
  obtain rfl : E = .nilIface := hE
  go_wp2
  go_ret
  exact ⟨rfl, rfl⟩

set_option maxRecDepth 100000 in
set_option maxHeartbeats 400000 in
theorem writep_yes (h : PagerIs bp bd bm n p w) (hn : n < 1000000) (hd : p.down = false) (j : Nat) (hj : j < 2000) (hu : p.used j = true) (t : ByteArray) (ht : t.size = 1024) :
    Calls Tryz.prog 191 #[.pointer (some ⟨bp, 0, none⟩), .int .i64 j, .string t] w fun e w' => e = .returned .nilIface ∧ PagerIs bp bd bm (n + 1) (p.write j t) w' ∧ Only (fun b => b = bm) w w' := by
  have HP : Hid (PagerIs bp bd bm n p w) := h
  have q1 := h.cells.cell 4017 (by omega)
  rw [cellOf_map] at q1
  have h1 : (t.size : Int) = 1024 := by omega
  have hne := h.ne
  clear h
  go_enter Tryz.func191, Tryz.ntmps191
  go_wp2_with fail
  refine (reach_any HP.out.cells j).mono ?_
  rintro _ wa ⟨E, rfl, hE, hw⟩
  subst wa
  rw [code_ok hd hj hu] at hE
  obtain rfl : E = .nilIface := hE
  go_wp2_with fail
  have HK : Hid (∀ wx, Only (fun b => b = bm) w wx → wx.cell? ⟨bp, 4017, none⟩ = some (.map (some bm))) := fun wx hx => by rw [hx.cell HP.out.lt (fun e => hne e.symm)]; exact q1
  have HB0 : Hid (Only (fun b => b = bm) w w.drew) := (Only.refl _ w).drew
  go_region_held3 (fun wx => wx.cell? ⟨bp, 4017, none⟩ = some (.map (some bm))) (first | exact HK.out _ HO2.out | exact HK.out _ HO.out | exact HK.out _ HB0.out) (first | (go_at_call 70; refine (clone_any t _ (by omega)).mono ?_; rintro _ wy ⟨rfl, hb⟩; have HO : Hid (Only (fun b => b = bm) w wy) := (Only.of_below ((Below.refl _ w).drew.trans hb)); obtain ⟨w2, hst, hs2, ho2⟩ := store_sheet (HP.out.own.block (Below.block ((Below.refl _ w).drew.trans hb) _ HP.out.own.lt)) hn j hj t ht; have HO2 : Hid (Only (fun b => b = bm) w w2) := HO.out.trans ho2 (fun _ h => .inl h); have HS2 : Hid _ := hs2; clear hs2 ho2 hb))
  go_wp2
  go_ret
  exact ⟨rfl, ⟨(HP.out.cells.block (HO2.out.block bp HP.out.lt (fun e => hne e.symm))).chg _, HS2.out⟩, HO2.out⟩

set_option maxRecDepth 100000 in
theorem freep_no (h : Cells bp bd bm p w) (k : Int) (hc : p.code k = 2) :
    Calls Tryz.prog 189 #[.pointer (some ⟨bp, 0, none⟩), .int .i64 k] w fun e w' => e = .returned (.iface 30 (.int .i64 2)) ∧ w' = w := by
  have HC : Hid (Cells bp bd bm p w) := h
  clear h
  go_enter Tryz.func189, Tryz.ntmps189
  go_wp2_with fail
  refine (reach_any HC.out k).mono ?_
  rintro _ wa ⟨E, rfl, hE, hw⟩
  subst wa
  rw [hc] at hE
  obtain rfl : E = .iface 30 (.int .i64 2) := hE
  go_wp2
  go_ret
  exact ⟨rfl, rfl⟩

theorem Cells.setUsed (h : Cells bp bd bm p w) (j : Nat) (hj : j < 2000) (b : Bool) : Cells bp bd bm { p with used := fun i => if i = j then b else p.used i } (w.setCell ⟨bp, 2001 + j, none⟩ (.bool b)) := by
  refine (h.row.set (2001 + j) (.bool b) (by omega)).cells fun k hk => ?_
  by_cases e : k = 2001 + j
  · subst e
    rw [over_same, cellOf_used _ _ _ hj]; simp
  · rw [over_out _ _ _ (by simp; omega)]
    by_cases e2 : 2001 ≤ k ∧ k < 4001
    · obtain ⟨m, rfl⟩ : ∃ m, k = 2001 + m := ⟨k - 2001, by omega⟩
      rw [cellOf_used _ _ _ (by omega), cellOf_used _ _ _ (by omega)]
      simp only
      rw [if_neg (by omega)]
    · unfold cellOf
      by_cases a0 : k = 0
      · rw [if_pos a0, if_pos a0]
      rw [if_neg a0, if_neg a0]
      by_cases a1 : k < 2001
      · rw [if_pos a1, if_pos a1]
      rw [if_neg a1, if_neg a1, if_neg (show ¬ k < 4001 by omega), if_neg (show ¬ k < 4001 by omega)]

set_option maxRecDepth 100000 in
set_option maxHeartbeats 400000 in
theorem freep_yes (h : PagerIs bp bd bm n p w) (hd : p.down = false) (j : Nat) (hj : j < 2000) (hu : p.used j = true) :
    Calls Tryz.prog 189 #[.pointer (some ⟨bp, 0, none⟩), .int .i64 j] w fun e w' => e = .returned .nilIface ∧ PagerIs bp bd bm n (p.free j) w' ∧ Only (fun b => b = bp ∨ b = bm) w w' := by
  have HP : Hid (PagerIs bp bd bm n p w) := h
  have h1 : (j : Int) < 2000 := by omega
  have q2 := h.cells.cell (2001 + j) (by omega)
  have f2 := h.cells.free (2001 + j)
  have hC := h.cells.setUsed j hj false
  have q1 := hC.cell 4017 (by omega)
  rw [cellOf_map] at q1
  have hne := h.ne
  have HS : Hid (Sheets bm n p.chg (w.setCell ⟨bp, 2001 + j, none⟩ (.bool false))) := h.own.only (Only.set bp _ _ w) hne
  have HC : Hid _ := hC
  clear h hC
  go_enter Tryz.func189, Tryz.ntmps189
  go_wp2_with fail
  refine (reach_any HP.out.cells j).mono ?_
  rintro _ wa ⟨E, rfl, hE, hw⟩
  subst wa
  rw [code_ok hd hj hu] at hE
  obtain rfl : E = .nilIface := hE
  go_wp2_with (refine del_sheet _ rfl _ _ rfl HS.out j hj rfl rfl ?_; intro w2 hs2 ho2; have HS2 : Hid _ := hs2; have HO2 : Hid _ := ho2; clear hs2 ho2)
  go_ret
  refine ⟨rfl, ⟨(HC.out.block (HO2.out.block bp (by rw [World.size_setCell]; exact HP.out.lt) (fun e => hne e.symm))).chg _, HS2.out⟩, ((Only.set bp _ _ w).mono (fun i hi => .inl hi)).trans HO2.out (fun i hi => .inl (.inr hi))⟩
end
end Go.Proofs.YtabcficlnhajeaaGreatDoor
namespace Go.Proofs.YtabcficlnhajeaaGreatDoor
open Go.RowKit Go.Maps

/-- the least place at which there is no -/
def FirstNo (f : Nat → Bool) (m : Nat) (r : Int) : Prop := (r = -1 ∧ ∀ j, j < m → f j = true) ∨ ∃ i : Nat, r = i ∧ i < m ∧ f i = false ∧ ∀ j, j < i → f j = true

set_option maxHeartbeats 400000 in
theorem index_any (B o m c : Nat) (hm : m < 1000000) (f : Nat → Bool) (w : World) (hc : ∀ j, j < m → w.cell? ⟨B, o + j, none⟩ = some (.bool (f j))) :
    Calls Tryz.prog 209 #[.slice (some ⟨B, o, none⟩) m c, .bool false] w fun e w' => (∃ r, e = .returned (.int .i64 r) ∧ FirstNo f m r) ∧ w' = w := by
  go_enter Tryz.func209, Tryz.ntmps209
  go_wp2_with fail
  go_loop [8] (fun i => ∃ k : Nat, k ≤ m ∧ i = .int .i64 k ∧ Hid (∀ j, j < k → f j = true)) (fun i => m - (intOf i).toNat)
  case atStart => exact ⟨0, Nat.zero_le _, rfl, fun j hj => by omega⟩
  case round =>
    obtain ⟨k, hk, rfl, HF⟩ := hrel
    by_cases hlt : k < m
    · have h1 : (k : Int) < (m : Int) := by omega
      have q := hc k hlt
      cases hf : f k
      · rw [hf] at q
        go_wp2
        go_ret
        exact ⟨⟨_, rfl, .inr ⟨k, rfl, hlt, hf, HF.out⟩⟩, rfl⟩
      · rw [hf] at q
        go_wp2
        go_round
        case rel => exact ⟨k + 1, by omega, by go_num, fun j hj => by
          by_cases e : j = k
          · rw [e]; exact hf
          · exact HF.out j (by omega)⟩
        case measure => simp [intOf]; omega
    · have h1 : ¬ (k : Int) < (m : Int) := by omega
      go_wp2
      go_ret
      exact ⟨⟨_, rfl, .inl ⟨rfl, fun j hj => HF.out j (by omega)⟩⟩, rfl⟩

def Pg.alloc (p : Pg) (k : Nat) : Pg := { p with used := fun i => if i = k then true else p.used i, chg := put p.chg k (some zeros) }

section
variable {bp bd bm n : Nat} {p : Pg} {s : St} {w : World}
set_option maxRecDepth 100000 in
set_option maxHeartbeats 400000 in
/-- Alloc, where some page is free: the least one -/
theorem allocp_any (h : PagerIs bp bd bm n p w) (hn : n < 1000000) (hd : p.down = false) (k : Nat) (h0 : 0 < k) (hk : k < 2000) (hu : p.used k = false) (hl : ∀ j, 0 < j → j < k → p.used j = true) :
    Calls Tryz.prog 188 #[.pointer (some ⟨bp, 0, none⟩)] w fun e w' => e = .returned (.tuple #[.int .i64 k, .nilIface]) ∧ PagerIs bp bd bm (n + 1) (p.alloc k) w' ∧ Only (fun b => b = bp ∨ b = bm) w w' := by
  have HP : Hid (PagerIs bp bd bm n p w) := h
  have q := h.cells.cell 4019 (by omega)
  rw [cellOf_down, hd] at q
  have HC : Hid (∀ j, j < 1999 → w.cell? ⟨bp, 2002 + j, none⟩ = some (.bool (p.used (j + 1)))) := fun j hj => by
    rw [show 2002 + j = 2001 + (j + 1) by omega, h.cells.cell _ (by omega), cellOf_used _ _ _ (by omega)]
  clear h
  go_enter Tryz.func188, Tryz.ntmps188
  go_wp2_with fail
  obtain ⟨m, rfl⟩ : ∃ m, k = m + 1 := ⟨k - 1, by omega⟩
  refine (index_any bp 2002 1999 1999 (by omega) (fun j => p.used (j + 1)) w HC.out).mono ?_
  rintro _ wa ⟨⟨r, rfl, hF⟩, hw⟩
  subst wa
  have hr : r = (m : Int) := by
    rcases hF with ⟨_, h1⟩ | ⟨i, rfl, h1, h2, h3⟩
    · exact absurd (show p.used (m + 1) = true from h1 m (by omega)) (by rw [hu]; decide)
    · by_cases e1 : i < m
      · exact absurd (show p.used (i + 1) = false from h2) (by rw [hl (i + 1) (by omega) (by omega)]; decide)
      · by_cases e2 : m < i
        · exact absurd (show p.used (m + 1) = true from h3 m e2) (by rw [hu]; decide)
        · omega
  subst hr
  clear hF HC
  have h1 : 1 + (m : Int) < 2000 := by omega
  have e0 : ((1 + (m : Int)) == 0) = false := by simp; omega
  have q2 := HP.out.cells.cell (2001 + (1 + m)) (by omega)
  have f2 := HP.out.cells.free (2001 + (1 + m))
  have hC := HP.out.cells.setUsed (1 + m) (by omega) true
  have q1 := hC.cell 4017 (by omega)
  rw [cellOf_map] at q1
  have hne := HP.out.ne
  have HC : Hid _ := hC
  have HS : Hid (Sheets bm n p.chg (w.setCell ⟨bp, 2001 + (1 + m), none⟩ (.bool true))) := HP.out.own.only (Only.set bp _ _ w) hne
  clear hC
  go_wp2_with fail
  obtain ⟨wb, hwb⟩ : ∃ wb, w.setCell ⟨bp, 2001 + (1 + m), none⟩ (.bool true) = wb := ⟨_, rfl⟩
  have ho1 : Only (fun b => b = bp) w wb := by rw [← hwb]; exact Only.set bp _ _ w
  rw [hwb] at q1 HC HS
  rw [hwb]
  have hbp : bp < wb.heap.size := HC.out.lt
  have HK : Hid (∀ wx, Only (fun b => b = bm) wb wx → wx.cell? ⟨bp, 4017, none⟩ = some (.map (some bm))) := fun wx hx => by rw [hx.cell hbp (fun e => hne e.symm)]; exact q1
  have HB0 : Hid (Only (fun b => b = bm) wb wb.drew) := (Only.refl _ wb).drew
  have HO1 : Hid _ := ho1
  clear ho1 q2 f2 hwb q
  go_region_held3 (fun wx => wx.cell? ⟨bp, 4017, none⟩ = some (.map (some bm))) (first | exact HK.out _ HO2.out | exact HK.out _ HO.out | exact HK.out _ HB0.out) (first | (go_at_call 126; refine (zeros_any _).mono ?_; rintro _ wy ⟨rfl, hb⟩; have HO : Hid (Only (fun b => b = bm) wb wy) := (Only.of_below ((Below.refl _ wb).drew.trans hb)); obtain ⟨w2, hst, hs2, ho2⟩ := store_sheet (HS.out.block (Below.block ((Below.refl _ wb).drew.trans hb) _ HS.out.lt)) hn (1 + m) (by omega) zeros zeros_size; rw [show ((1 + m : Nat) : Int) = 1 + (m : Int) by omega] at hst; have HO2 : Hid (Only (fun b => b = bm) wb w2) := HO.out.trans ho2 (fun _ h => .inl h); have HS2 : Hid _ := hs2; clear hs2 ho2 hb))
  go_wp2
  go_ret2
  refine ⟨by rw [show ((m + 1 : Nat) : Int) = 1 + (m : Int) by omega]; rfl, ⟨?_, ?_⟩, (HO1.out.mono (fun i hi => .inl hi)).trans HO2.out (fun i hi => .inl (.inr hi))⟩
  · have h9 := (HC.out.block (HO2.out.block bp hbp (fun e => hne e.symm))).chg (put p.chg (1 + m) (some zeros))
    rw [Nat.add_comm 1 m] at h9
    exact h9
  · have h9 := HS2.out
    rw [Nat.add_comm 1 m] at h9
    exact h9
end
end Go.Proofs.YtabcficlnhajeaaGreatDoor
namespace Go.Proofs.YtabcficlnhajeaaGreatDoor
open Go.RowKit Go.Maps

/-- how many of the first ones are so -/
def countU (f : Nat → Bool) : Nat → Nat
  | 0 => 0
  | k + 1 => countU f k + (if f k then 1 else 0)
theorem countU_le (f : Nat → Bool) : ∀ k, countU f k ≤ k
  | 0 => Nat.le_refl _
  | k + 1 => by
    have := countU_le f k
    unfold countU
    split <;> omega

theorem run_index_bits (F : List Value) (k : Nat) (hk : k < 2000) (b : Bool) (hb : F[k]? = some (.bool b)) (w : World) : (Instr.index 82 (.agg F.toArray) (.int .i64 k)).run Tryz.prog w = .ok (.bool b) w := by
  simp [Instr.index, run_underlying Tryz.underlying82, asIntOf, part, Tryz.sizeOf4, Tryz.isAgg4, hb, go_sem]
  omega

section
variable {bp bd bm n : Nat} {p : Pg} {s : St} {w : World}
end
end Go.Proofs.YtabcficlnhajeaaGreatDoor
namespace Go.Proofs.YtabcficlnhajeaaGreatDoor
open Go.RowKit Go.Maps

section
variable {bp bd bm n : Nat} {p : Pg} {s : St} {w : World} {f : Nat → Option ByteArray}
end
end Go.Proofs.YtabcficlnhajeaaGreatDoor
namespace Go.Proofs.YtabcficlnhajeaaGreatDoor
open Go.RowKit Go.Maps

theorem size46 : (Tryz.prog.info? 88).map (·.size) = some 2017 := by kernel_rfl
theorem zsize46 : Tryz.zeroCells88.size = 2017 := by kernel_rfl
theorem stateL_lt (used : Nat → Bool) (rp rn : Nat → Int) (m m' : Nat) {k : Nat} (hk : k < 2016) : (stateL used rp rn m)[k]? = (stateL used rp rn m')[k]? := by
  by_cases h : k < 2000
  · rw [stateL_used _ _ _ _ h, stateL_used _ _ _ _ h]
  · obtain ⟨j, rfl⟩ : ∃ j, k = 2000 + j := ⟨k - 2000, by omega⟩
    rw [stateL_root _ _ _ _ (by omega), stateL_root _ _ _ _ (by omega)]

/-- what is known of two rows that were laid -/
structure Two (B : Nat) (L : List Value) (w wx : World) : Prop where
  first : wx.rangeAt B 0 L
  free : ∀ k, wx.frozen? ⟨B, k, none⟩ = false
  second : wx.there (B + 1) 0 2017
  below : Below B w wx
  size : B + 2 ≤ wx.heap.size
theorem Two.start (w : World) (L : List Value) (Z : Array Value) (hZ : Z.size = 2017) : Two w.heap.size L w ((w.alloc (.cells L.toArray 88)).alloc (.cells Z 88)) := by
  have hn1 : (w.alloc (.cells L.toArray 88)).heap[w.heap.size]? = some (.cells L.toArray 88) := heap_alloc_new w _
  have hs1 : (w.alloc (.cells L.toArray 88)).heap.size = w.heap.size + 1 := World.size_alloc _ _
  have hn2 : ((w.alloc (.cells L.toArray 88)).alloc (.cells Z 88)).heap[w.heap.size + 1]? = some (.cells Z 88) := by rw [← hs1]; exact heap_alloc_new _ _
  have b2 : Below (w.heap.size + 1) (w.alloc (.cells L.toArray 88)) ((w.alloc (.cells L.toArray 88)).alloc (.cells Z 88)) := by rw [← hs1]; exact (Below.refl _ _).alloc (Nat.le_refl _) _
  have hn1' : ((w.alloc (.cells L.toArray 88)).alloc (.cells Z 88)).heap[w.heap.size]? = some (.cells L.toArray 88) := by rw [b2.block _ (by omega)]; exact hn1
  refine ⟨fun j v hj => ?_, fun k => by simp only [World.frozen?, hn1']; simp, fun j hj => ⟨?_, by simp only [World.frozen?, hn2]; simp⟩, ((Below.refl _ _).alloc (Nat.le_refl _) _).trans (b2.mono (by omega)), by rw [World.size_alloc, hs1]; omega⟩
  · rw [Nat.zero_add, cell_of_row _ _ _ _ _ _ hn1']
    simpa using hj
  · rw [Nat.zero_add, cell_of_row _ _ _ _ _ _ hn2]
    have hl : j < Z.size := by rw [hZ]; exact hj
    simp [hl]
theorem Two.later {B : Nat} {L : List Value} {w wx wy : World} (h : Two B L w wx) (hb : Below wx.heap.size wx wy) : Two B L w wy := by
  have hs := h.size
  refine ⟨fun j v hj => ?_, fun k => ?_, fun j hj => ⟨?_, ?_⟩, h.below.trans (hb.mono (by omega)), Nat.le_trans h.size hb.size⟩
  · rw [hb.cell (p := ⟨B, 0 + j, none⟩) (by show B < _; omega)]; exact h.first j v hj
  · rw [hb.frozen (p := ⟨B, k, none⟩) (by show B < _; omega)]; exact h.free k
  · rw [hb.cell (p := ⟨B + 1, 0 + j, none⟩) (by show B + 1 < _; omega)]; exact (h.second j hj).1
  · rw [hb.frozen (p := ⟨B + 1, 0 + j, none⟩) (by show B + 1 < _; omega)]; exact (h.second j hj).2

section
variable {bp bd bm n : Nat} {p : Pg} {s : St} {w : World} {f : Nat → Option ByteArray}
end
end Go.Proofs.YtabcficlnhajeaaGreatDoor
