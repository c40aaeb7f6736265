/- Texts of the proof of FinderPlays: Llw. -/
import Derived.Test.YtabcficlnhajeaaGreatDoorF38
namespace Go.Proofs.YtabcficlnhajeaaGreatDoor
open Go.RowKit Go.Maps

theorem tx_size : (⟨#[97, 32, 98, 32, 99, 32, 100, 32, 101, 32, 102, 32, 103, 32, 104, 32, 105, 32, 106, 32, 107, 32, 108, 32, 109, 32, 110, 32, 111, 32, 112, 32, 113, 32, 114, 32, 115]⟩ : ByteArray).size = 37 := rfl
set_option maxRecDepth 100000 in
set_option maxHeartbeats 40000000 in
theorem plays_main (w : World) (n0 c0 : Nat) (a0 : Option Addr) (nt : Nat → Wn) (name wd : ByteArray) (fill : Int) (hx : NtA w a0 n0 nt) (hn0 : n0 ≤ 50) (hna : name.size ≤ 40) (hwd : wd.size ≤ 40) (hg : Gl w) :
    Calls Tryz.prog 3 #[.slice a0 n0 c0, .string name, .string wd, .int .i64 fill] w fun e w' => e = .returned (.bool true) ∧ Below w.heap.size w w' := by
  have HX : Hid (NtA w a0 n0 nt) := hx
  have HG0 : Hid (Gl w) := hg
  have e0 : ¬ (50 : Int) < (n0 : Int) := by omega
  have e1 : ¬ (40 : Int) < (name.size : Int) := by omega
  have e2 : ¬ (40 : Int) < (wd.size : Int) := by omega
  have HNA : Hid (name.size ≤ 40) := hna
  have HWD : Hid (wd.size ≤ 40) := hwd
  have hlo : 3 ≤ w.heap.size := by obtain ⟨m, hm⟩ := hg.m; exact World.block_lt_of_cell? _ _ hm
  obtain ⟨A, hA⟩ : ∃ A : Int, IntKind.u64.wrap fill = A := ⟨_, rfl⟩
  have hA0 : 0 ≤ A := by
    have : IntKind.u64.wrap fill = fill % 18446744073709551616 := rfl
    rw [← hA, this]; omega
  obtain ⟨q, hq⟩ : ∃ q : Nat, A.tmod 27 = (q : Nat) := ⟨(A.tmod 27).toNat, by rw [Int.tmod_eq_emod_of_nonneg hA0]; omega⟩
  have hq2 : q < 27 := by rw [Int.tmod_eq_emod_of_nonneg hA0] at hq; omega
  have hw1 : IntKind.u64.wrap (q : Int) = (q : Int) := by
    have : IntKind.u64.wrap (q : Int) = (q : Int) % 18446744073709551616 := rfl
    rw [this]; omega
  have hw2 : IntKind.i64.wrap (q : Int) = (q : Int) := wraps_i64 _ (by omega) (by omega)
  clear hx hg hna hwd hA0
  go_enter Tryz.func3, Tryz.ntmps3
  go_wp2_with fail
  refine (openF_any w).mono ?_
  rintro _ w1 ⟨bf, bt, bp, bd, bm, rfl, hp1, hl1, hb1⟩
  have HP1 : Hid (PrS bf bt bp bd bm 0 21000 (InD []) w1) := hp1.mono (Nat.le_refl _) (by omega)
  have HB1 : Hid (Below w.heap.size w w1) := hb1
  have HBK : Hid (Bks bf bt bp bd bm w1.heap.size w.heap.size) := by
    have k1 := hp1.lt
    exact ⟨hlo, hl1, ⟨k1.1, k1.2.1, k1.2.2.1, k1.2.2.2.1, k1.2.2.2.2⟩⟩
  clear hp1 hl1 hb1
  go_wp2_with fail
  refine (over_nil w1).mono ?_
  rintro _ w9 ⟨rfl, h9⟩
  obtain rfl := h9.symm
  clear h9
  have HBR : Hid (Calls Tryz.prog 6 #[.iface 30 (.int .i64 7), .int .i64 7] w1 fun e w' => e = .returned (.bool true) ∧ Below w1.heap.size w1 w') := bareB 7 (HG0.out.below HB1.out)
  go_wp2_with fail
  refine (show Calls _ _ _ _ _ from HBR.out).mono ?_
  rintro _ w2 ⟨rfl, hb2⟩
  have hb2' : Below w1.heap.size w1 w2 := hb2
  have hd2 := DocF.new w1.heap.size w2 hb2.size
  have hba : Below w2.heap.size w2 (w2.alloc (.cells #[.slice none 0 0] 34)) := (Below.refl _ _).alloc (Nat.le_refl _) _
  have hb3 : Below w1.heap.size w1 (w2.alloc (.cells #[.slice none 0 0] 34)) := hb2.trans (hba.mono hb2.size)
  have hbw : Below w.heap.size w (w2.alloc (.cells #[.slice none 0 0] 34)) := HB1.out.trans (hb3.mono HB1.out.size)
  have HT0 : Hid (Bt bf bt bp bd bm (800 * 0) w1.heap.size w2.heap.size [] w (w2.alloc (.cells #[.slice none 0 0] 34))) := ⟨HP1.out.below hb3, hd2, Nts.nil, HG0.out.below hbw, hbw⟩
  obtain ⟨B0, hB0⟩ : ∃ B0, w1.heap.size = B0 := ⟨_, rfl⟩
  obtain ⟨b, hb⟩ : ∃ b, w2.heap.size = b := ⟨_, rfl⟩
  rw [hB0, hb] at HT0
  rw [hB0] at HBK
  have hbB : B0 ≤ b := by rw [← hB0, ← hb]; exact hb2.size
  clear hb2 hb2' hd2 hba hb3 hbw HBR HP1 HB1 hB0
  go_wp2_with fail
  clear hb
  go_loopw [13] (fun iv wr => ∃ (i : Nat) (D : List Nd), i ≤ q ∧ iv = .int .i64 (i : Nat) ∧ Hid (Bt bf bt bp bd bm (800 * i) B0 b D w wr)) (fun iv _ => q + 1 - (intOf iv).toNat)
  case atStart => exact ⟨0, [], Nat.zero_le _, rfl, HT0⟩
  case round =>
    clear HT0
    obtain ⟨i, D, hi, rfl, HT⟩ := hrel
    by_cases hlt : i < q
    · have j1 : (i : Int) < (q : Int) := by omega
      obtain ⟨tt, htt⟩ : ∃ tt : ByteArray, (⟨#[97, 32, 98, 32, 99, 32, 100, 32, 101, 32, 102, 32, 103, 32, 104, 32, 105, 32, 106, 32, 107, 32, 108, 32, 109, 32, 110, 32, 111, 32, 112, 32, 113, 32, 114, 32, 115]⟩ : ByteArray) = tt := ⟨_, rfl⟩
      have hts : tt.size = 37 := by rw [← htt]; rfl
      have HAD : Hid _ := addB HT.out HBK.out ⟨#[120]⟩ tt ((i : Int) + 1) (by decide) (by omega) (by omega)
      obtain ⟨AE, hAE⟩ : ∃ AE, addE D ⟨#[120]⟩ ((i : Int) + 1) tt = AE := ⟨_, rfl⟩
      obtain ⟨AD, hAD⟩ : ∃ AD, addD D ⟨#[120]⟩ ((i : Int) + 1) tt = AD := ⟨_, rfl⟩
      have HAR : Hid (∀ wx, Md bf bt bp bd bm (800 * i + 800) B0 b D AD w wx → Calls Tryz.prog 8 #[.pointer (some ⟨b, 0, none⟩), .string ⟨#[120]⟩, .int .i64 ((i : Int) + 1), .string tt] wx fun e w' => e = .returned (.int .i64 AE) ∧ Bt bf bt bp bd bm (800 * i + 800) B0 b AD w w' ∧ Only (fun k => k = b) wx w') := fun wx hm => by
        rw [← hAE, ← hAD]
        rw [← hAD] at hm
        exact addR hm HBK.out (by omega)
      rw [hAE, hAD] at HAD
      obtain ⟨EV, hEV⟩ : ∃ EV, errV AE = EV := ⟨_, rfl⟩
      have HBE : Hid (∀ wx, Gl wx → Calls Tryz.prog 6 #[EV, .int .i64 AE] wx fun e w' => e = .returned (.bool true) ∧ Below wx.heap.size wx w') := fun wx hg => by rw [← hEV]; exact bareB AE hg
      rw [hEV] at HAD
      have hwi : IntKind.i64.wrap ((i : Int) + 1) = (i : Int) + 1 := wraps_i64 _ (by omega) (by omega)
      clear hAE hAD hEV hts
      go_wp2_with fail
      try rw [htt]
      refine (show Calls _ _ _ _ _ from HAD.out).mono ?_
      rintro _ w4 ⟨rfl, hm4, _⟩
      have HM4 : Hid _ := hm4
      clear hm4
      go_wp2_with fail
      try rw [htt]
      refine (show Calls _ _ _ _ _ from HAR.out w4 HM4.out).mono ?_
      rintro _ w5 ⟨rfl, ht5, _⟩
      have HT5 : Hid (Bt bf bt bp bd bm (800 * i + 800) B0 b AD w w5) := ht5
      clear ht5 HM4
      go_wp2_with fail
      refine (show Calls _ _ _ _ _ from HBE.out w5 HT5.out.g).mono ?_
      rintro _ w6 ⟨rfl, hb6⟩
      have HT6 : Hid (Bt bf bt bp bd bm (800 * (i + 1)) B0 b AD w w6) := (HT5.out.below hb6).mono (by omega)
      clear hb6
      go_wp2_with fail
      go_roundw
      case rel => exact ⟨i + 1, AD, by omega, by go_num, HT6⟩
      case measure => simp [intOf]; omega
    · have j1 : ¬ (i : Int) < (q : Int) := by omega
      obtain rfl : q = i := by omega
      have HT1 : Hid (Bt bf bt bp bd bm (21600 + 2000 * 0) B0 b D w wr) := HT.out.mono (by omega)
      clear HT
      go_wp2_with fail
      go_loopw [15] (fun iv wr => ∃ (i : Nat) (D : List Nd), i ≤ n0 ∧ iv = .int .i64 (i : Nat) ∧ Hid (Bt bf bt bp bd bm (21600 + 2000 * i) B0 b D w wr)) (fun iv _ => n0 + 1 - (intOf iv).toNat)
      case atStart => exact ⟨0, D, Nat.zero_le _, rfl, HT1⟩
      case round =>
        clear HT1
        obtain ⟨i, D, hi, rfl, HT⟩ := hrel
        by_cases hlt2 : i < n0
        · have j2 : (i : Int) < (n0 : Int) := by omega
          obtain ⟨b9, o9, ha0, hbl, k0, k1, k2, k3⟩ := HX.out.below HT.out.b i hlt2
          cases ha0
          have hix := fun wx => index_four Tryz.underlying22 elem_note size_note b9 o9 n0 c0 i hlt2 wx
          obtain ⟨d, hd⟩ : ∃ d, nt i = d := ⟨_, rfl⟩
          rw [hd] at k0 k1 k2 k3
          obtain ⟨nq, nr, nn, tx⟩ := d
          simp only at k0 k1 k2 k3
          clear hd
          have hba : Below wr.heap.size wr (wr.alloc (.cells #[.int .i64 nq, .int .i64 nr, .string nn, .string tx] 39)) := (Below.refl _ _).alloc (Nat.le_refl _) _
          have HTA : Hid (Bt bf bt bp bd bm (21600 + 2000 * i) B0 b D w (wr.alloc (.cells #[.int .i64 nq, .int .i64 nr, .string nn, .string tx] 39))) := HT.out.below hba
          have HV : Hid (VarN wr.heap.size [.int .i64 nq, .int .i64 nr, .string nn, .string tx] (wr.alloc (.cells #[.int .i64 nq, .int .i64 nr, .string nn, .string tx] 39))) := VarN.new wr #[.int .i64 nq, .int .i64 nr, .string nn, .string tx] 39 (by simp)
          obtain ⟨V, hV⟩ : ∃ V, wr.heap.size = V := ⟨_, rfl⟩
          have hVb : b < V ∧ B0 ≤ V := by
            have h1 := HT.out.x
            obtain ⟨h2, v, h3, _⟩ := h1
            have := h3.lt
            omega
          obtain ⟨wA, hwA⟩ : ∃ z, wr.alloc (.cells #[.int .i64 nq, .int .i64 nr, .string nn, .string tx] 39) = z := ⟨_, rfl⟩
          rw [hwA] at HTA HV
          rw [hV] at HV
          have q0 := HV.out.cell 0 (by simp)
          have q2 := HV.out.cell 2 (by simp)
          have q3 := HV.out.cell 3 (by simp)
          simp only [List.getElem_cons_zero, List.getElem_cons_succ] at q0 q2 q3
          clear HT hba
          have HVB : Hid (b < V ∧ B0 ≤ V) := hVb
          clear hVb
          by_cases s1 : 40 < nn.size
          · have i1 : (40 : Int) < (nn.size : Int) := by omega
            have HTC : Hid (Bt bf bt bp bd bm (21600 + 2000 * (i + 1)) B0 b D w wA) := HTA.out.mono (by omega)
            clear s1
            go_wp2_with fail
            go_roundw
            case rel => exact ⟨i + 1, D, by omega, by go_num, HTC⟩
            case measure => simp [intOf]; omega
          · have i1 : ¬ (40 : Int) < (nn.size : Int) := by omega
            by_cases s2 : 100 < tx.size
            · have i2 : (100 : Int) < (tx.size : Int) := by omega
              have HTC : Hid (Bt bf bt bp bd bm (21600 + 2000 * (i + 1)) B0 b D w wA) := HTA.out.mono (by omega)
              clear s1 s2
              go_wp2_with fail
              go_roundw
              case rel => exact ⟨i + 1, D, by omega, by go_num, HTC⟩
              case measure => simp [intOf]; omega
            · have i2 : ¬ (100 : Int) < (tx.size : Int) := by omega
              have HNS : Hid (nn.size ≤ 40) := by show _ ≤ _; omega
              have HTS : Hid (tx.size ≤ 100) := by show _ ≤ _; omega
              have HTD : Hid (Bt bf bt bp bd bm (21600 + 2000 * i) B0 b D w wA.drew) := HTA.out.below (Below.refl _ wA).drew
              clear s1 s2
              by_cases z0 : nq = 0
              · subst z0
                obtain ⟨AE, hAE⟩ : ∃ AE, addE D nn nr tx = AE := ⟨_, rfl⟩
                obtain ⟨AD, hAD⟩ : ∃ AD, addD D nn nr tx = AD := ⟨_, rfl⟩
                obtain ⟨EV, hEV⟩ : ∃ EV, errV AE = EV := ⟨_, rfl⟩
                have HAD : Hid _ := addB HTD.out HBK.out nn tx nr (by have := HNS.out; omega) (by have := HTS.out; omega) (by omega)
                have HAR : Hid (∀ wx, Md bf bt bp bd bm (21600 + 2000 * i + 800) B0 b D AD w wx → Calls Tryz.prog 8 #[.pointer (some ⟨b, 0, none⟩), .string nn, .int .i64 nr, .string tx] wx fun e w' => e = .returned (.int .i64 AE) ∧ Bt bf bt bp bd bm (21600 + 2000 * i + 800) B0 b AD w w' ∧ Only (fun k => k = b) wx w') := fun wx hm => by
                  rw [← hAE, ← hAD]
                  rw [← hAD] at hm
                  exact addR hm HBK.out (by have := HTS.out; omega)
                have HBE : Hid (∀ wx, Gl wx → Calls Tryz.prog 6 #[EV, .int .i64 AE] wx fun e w' => e = .returned (.bool true) ∧ Below wx.heap.size wx w') := fun wx hg => by rw [← hEV]; exact bareB AE hg
                rw [hAE, hAD, hEV] at HAD
                have D0 : Hid ((fun wx => wx.cell? ⟨V, 0, none⟩ = some (.int .i64 0) ∧ wx.cell? ⟨V, 1, none⟩ = some (.int .i64 nr) ∧ wx.cell? ⟨V, 2, none⟩ = some (.string nn) ∧ wx.cell? ⟨V, 3, none⟩ = some (.string tx)) wA) := HV.out.c4
                clear hAE hAD hEV
                go_wp2_with fail
                clear k0 k1 k2 k3 hix q0 q2 q3 hV hwA
                go_region_held3 (fun wx => wx.cell? ⟨V, 0, none⟩ = some (.int .i64 0) ∧ wx.cell? ⟨V, 1, none⟩ = some (.int .i64 nr) ∧ wx.cell? ⟨V, 2, none⟩ = some (.string nn) ∧ wx.cell? ⟨V, 3, none⟩ = some (.string tx)) (first | exact D0.out | exact D1.out | exact D2.out | exact D3.out) (first | (go_at_call 7; refine (show Calls _ _ _ _ _ from HAD.out).mono ?_; rintro _ w3 ⟨rfl, hm3, ho3⟩; have HV3 : Hid (VarN V [.int .i64 0, .int .i64 nr, .string nn, .string tx] w3) := HV.out.drew.only ho3 (by have := HVB.out; show ¬ V < B0; omega); have D1 : Hid ((fun wx => wx.cell? ⟨V, 0, none⟩ = some (.int .i64 0) ∧ wx.cell? ⟨V, 1, none⟩ = some (.int .i64 nr) ∧ wx.cell? ⟨V, 2, none⟩ = some (.string nn) ∧ wx.cell? ⟨V, 3, none⟩ = some (.string tx)) w3) := HV3.out.c4; have HM3 : Hid _ := hm3; clear hm3 ho3) | (go_at_call 8; refine (show Calls _ _ _ _ _ from HAR.out w3 HM3.out).mono ?_; rintro _ w4 ⟨rfl, ht4, ho4⟩; have HV4 : Hid (VarN V [.int .i64 0, .int .i64 nr, .string nn, .string tx] w4) := HV3.out.only ho4 (by have := HVB.out; show ¬ V = b; omega); have D2 : Hid ((fun wx => wx.cell? ⟨V, 0, none⟩ = some (.int .i64 0) ∧ wx.cell? ⟨V, 1, none⟩ = some (.int .i64 nr) ∧ wx.cell? ⟨V, 2, none⟩ = some (.string nn) ∧ wx.cell? ⟨V, 3, none⟩ = some (.string tx)) w4) := HV4.out.c4; have HT4 : Hid _ := ht4; clear ht4 ho4) | (go_at_call 6; refine (show Calls _ _ _ _ _ from HBE.out w4 HT4.out.g).mono ?_; rintro _ w5 ⟨rfl, hb5⟩; have HV5 : Hid (VarN V [.int .i64 0, .int .i64 nr, .string nn, .string tx] w5) := HV4.out.below hb5; have D3 : Hid ((fun wx => wx.cell? ⟨V, 0, none⟩ = some (.int .i64 0) ∧ wx.cell? ⟨V, 1, none⟩ = some (.int .i64 nr) ∧ wx.cell? ⟨V, 2, none⟩ = some (.string nn) ∧ wx.cell? ⟨V, 3, none⟩ = some (.string tx)) w5) := HV5.out.c4; have HT5 : Hid _ := HT4.out.below hb5; clear hb5))
                have HT7 : Hid (Bt bf bt bp bd bm (21600 + 2000 * (i + 1)) B0 b AD w w5) := HT5.out.mono (by omega)
                have q2' := HV5.out.c4.2.2.1
                have q3' := HV5.out.c4.2.2.2
                have HPL1 : Hid _ := places_law HT7.out nn wd (by have := HNS.out; omega) (by have := HWD.out; omega)
                go_wp2_with fail
                refine (show Calls _ _ _ _ _ from HPL1.out).mono ?_
                rintro _ w8 ⟨rfl, hb8⟩
                have HT8 : Hid (Bt bf bt bp bd bm (21600 + 2000 * (i + 1)) B0 b AD w w8) := HT7.out.below hb8
                have q3'' := (HV5.out.below hb8).c4.2.2.2
                clear hb8 HPL1 q2' q3'
                have HPL2 : Hid _ := places_law HT8.out name tx (by have := HNA.out; omega) (by have := HTS.out; omega)
                go_wp2_with fail
                refine (show Calls _ _ _ _ _ from HPL2.out).mono ?_
                rintro _ w9 ⟨rfl, hb9⟩
                have HT9 : Hid (Bt bf bt bp bd bm (21600 + 2000 * (i + 1)) B0 b AD w w9) := HT8.out.below hb9
                clear hb9 HPL2
                go_wp2_with fail
                go_roundw
                case rel => exact ⟨i + 1, AD, by omega, by go_num, HT9⟩
                case measure => simp [intOf]; omega
              · by_cases z1 : nq = 1
                · subst z1
                  obtain ⟨AE, hAE⟩ : ∃ AE, chkE nn nr = AE := ⟨_, rfl⟩
                  obtain ⟨AD, hAD⟩ : ∃ AD, drpD D nn nr tx = AD := ⟨_, rfl⟩
                  obtain ⟨EV, hEV⟩ : ∃ EV, errV AE = EV := ⟨_, rfl⟩
                  have HAD : Hid _ := dropB HTD.out HBK.out nn tx nr HTS.out (by omega)
                  have HAR : Hid (∀ wx, Md bf bt bp bd bm (21600 + 2000 * i + 2000) B0 b D AD w wx → Calls Tryz.prog 10 #[.pointer (some ⟨b, 0, none⟩), .string nn, .int .i64 nr, .string tx] wx fun e w' => e = .returned (.int .i64 AE) ∧ Bt bf bt bp bd bm (21600 + 2000 * i + 2000) B0 b AD w w' ∧ Only (fun k => k = b) wx w') := fun wx hm => by
                    rw [← hAE, ← hAD]
                    rw [← hAD] at hm
                    exact dropR hm HBK.out (by have := HTS.out; omega)
                  have HBE : Hid (∀ wx, Gl wx → Calls Tryz.prog 6 #[EV, .int .i64 AE] wx fun e w' => e = .returned (.bool true) ∧ Below wx.heap.size wx w') := fun wx hg => by rw [← hEV]; exact bareB AE hg
                  rw [hAE, hAD, hEV] at HAD
                  have D0 : Hid ((fun wx => wx.cell? ⟨V, 0, none⟩ = some (.int .i64 1) ∧ wx.cell? ⟨V, 1, none⟩ = some (.int .i64 nr) ∧ wx.cell? ⟨V, 2, none⟩ = some (.string nn) ∧ wx.cell? ⟨V, 3, none⟩ = some (.string tx)) wA) := HV.out.c4
                  clear hAE hAD hEV
                  go_wp2_with fail
                  clear k0 k1 k2 k3 hix q0 q2 q3 hV hwA
                  go_region_held3 (fun wx => wx.cell? ⟨V, 0, none⟩ = some (.int .i64 1) ∧ wx.cell? ⟨V, 1, none⟩ = some (.int .i64 nr) ∧ wx.cell? ⟨V, 2, none⟩ = some (.string nn) ∧ wx.cell? ⟨V, 3, none⟩ = some (.string tx)) (first | exact D0.out | exact D1.out | exact D2.out | exact D3.out) (first | (go_at_call 9; refine (show Calls _ _ _ _ _ from HAD.out).mono ?_; rintro _ w3 ⟨rfl, hm3, ho3⟩; have HV3 : Hid (VarN V [.int .i64 1, .int .i64 nr, .string nn, .string tx] w3) := HV.out.drew.only ho3 (by have := HVB.out; show ¬ V < B0; omega); have D1 : Hid ((fun wx => wx.cell? ⟨V, 0, none⟩ = some (.int .i64 1) ∧ wx.cell? ⟨V, 1, none⟩ = some (.int .i64 nr) ∧ wx.cell? ⟨V, 2, none⟩ = some (.string nn) ∧ wx.cell? ⟨V, 3, none⟩ = some (.string tx)) w3) := HV3.out.c4; have HM3 : Hid _ := hm3; clear hm3 ho3) | (go_at_call 10; refine (show Calls _ _ _ _ _ from HAR.out w3 HM3.out).mono ?_; rintro _ w4 ⟨rfl, ht4, ho4⟩; have HV4 : Hid (VarN V [.int .i64 1, .int .i64 nr, .string nn, .string tx] w4) := HV3.out.only ho4 (by have := HVB.out; show ¬ V = b; omega); have D2 : Hid ((fun wx => wx.cell? ⟨V, 0, none⟩ = some (.int .i64 1) ∧ wx.cell? ⟨V, 1, none⟩ = some (.int .i64 nr) ∧ wx.cell? ⟨V, 2, none⟩ = some (.string nn) ∧ wx.cell? ⟨V, 3, none⟩ = some (.string tx)) w4) := HV4.out.c4; have HT4 : Hid _ := ht4; clear ht4 ho4) | (go_at_call 6; refine (show Calls _ _ _ _ _ from HBE.out w4 HT4.out.g).mono ?_; rintro _ w5 ⟨rfl, hb5⟩; have HV5 : Hid (VarN V [.int .i64 1, .int .i64 nr, .string nn, .string tx] w5) := HV4.out.below hb5; have D3 : Hid ((fun wx => wx.cell? ⟨V, 0, none⟩ = some (.int .i64 1) ∧ wx.cell? ⟨V, 1, none⟩ = some (.int .i64 nr) ∧ wx.cell? ⟨V, 2, none⟩ = some (.string nn) ∧ wx.cell? ⟨V, 3, none⟩ = some (.string tx)) w5) := HV5.out.c4; have HT5 : Hid _ := HT4.out.below hb5; clear hb5))
                  have HT7 : Hid (Bt bf bt bp bd bm (21600 + 2000 * (i + 1)) B0 b AD w w5) := HT5.out.mono (by omega)
                  have q2' := HV5.out.c4.2.2.1
                  have q3' := HV5.out.c4.2.2.2
                  have HPL1 : Hid _ := places_law HT7.out nn wd (by have := HNS.out; omega) (by have := HWD.out; omega)
                  go_wp2_with fail
                  refine (show Calls _ _ _ _ _ from HPL1.out).mono ?_
                  rintro _ w8 ⟨rfl, hb8⟩
                  have HT8 : Hid (Bt bf bt bp bd bm (21600 + 2000 * (i + 1)) B0 b AD w w8) := HT7.out.below hb8
                  have q3'' := (HV5.out.below hb8).c4.2.2.2
                  clear hb8 HPL1 q2' q3'
                  have HPL2 : Hid _ := places_law HT8.out name tx (by have := HNA.out; omega) (by have := HTS.out; omega)
                  go_wp2_with fail
                  refine (show Calls _ _ _ _ _ from HPL2.out).mono ?_
                  rintro _ w9 ⟨rfl, hb9⟩
                  have HT9 : Hid (Bt bf bt bp bd bm (21600 + 2000 * (i + 1)) B0 b AD w w9) := HT8.out.below hb9
                  clear hb9 HPL2
                  go_wp2_with fail
                  go_roundw
                  case rel => exact ⟨i + 1, AD, by omega, by go_num, HT9⟩
                  case measure => simp [intOf]; omega
                · have y0 : (nq == 0) = false := by simp [z0]
                  have y1 : (nq == 1) = false := by simp [z1]
                  have HTX : Hid (Bt bf bt bp bd bm (21600 + 2000 * (i + 1)) B0 b D w wA) := HTA.out.mono (by omega)
                  have q2' := HV.out.c4.2.2.1
                  have q3' := HV.out.c4.2.2.2
                  have HPL1 : Hid _ := places_law HTX.out nn wd (by have := HNS.out; omega) (by have := HWD.out; omega)
                  go_wp2_with fail
                  refine (show Calls _ _ _ _ _ from HPL1.out).mono ?_
                  rintro _ w8 ⟨rfl, hb8⟩
                  have HT8 : Hid (Bt bf bt bp bd bm (21600 + 2000 * (i + 1)) B0 b D w w8) := HTX.out.below hb8
                  have q3'' := (HV.out.below hb8).c4.2.2.2
                  clear hb8 HPL1 q2' q3'
                  have HPL2 : Hid _ := places_law HT8.out name tx (by have := HNA.out; omega) (by have := HTS.out; omega)
                  go_wp2_with fail
                  refine (show Calls _ _ _ _ _ from HPL2.out).mono ?_
                  rintro _ w9 ⟨rfl, hb9⟩
                  have HT9 : Hid (Bt bf bt bp bd bm (21600 + 2000 * (i + 1)) B0 b D w w9) := HT8.out.below hb9
                  clear hb9 HPL2
                  go_wp2_with fail
                  go_roundw
                  case rel => exact ⟨i + 1, D, by omega, by go_num, HT9⟩
                  case measure => simp [intOf]; omega
        · have j2 : ¬ (i : Int) < (n0 : Int) := by omega
          have HPL1 : Hid _ := places_law HT.out name wd (by have := HNA.out; omega) (by have := HWD.out; omega)
          go_wp2_with fail
          refine (show Calls _ _ _ _ _ from HPL1.out).mono ?_
          rintro _ w8 ⟨rfl, hb8⟩
          have HT8 : Hid _ := HT.out.below hb8
          clear hb8 HPL1
          have HPL2 : Hid _ := places_law HT8.out ⟨#[120]⟩ ⟨#[99]⟩ (by decide) (by decide)
          go_wp2_with fail
          refine (show Calls _ _ _ _ _ from HPL2.out).mono ?_
          rintro _ w9 ⟨rfl, hb9⟩
          have HT9 : Hid _ := HT8.out.below hb9
          clear hb9 HPL2
          go_wp2
          go_ret
          exact ⟨rfl, HT9.out.b⟩
end Go.Proofs.YtabcficlnhajeaaGreatDoor
