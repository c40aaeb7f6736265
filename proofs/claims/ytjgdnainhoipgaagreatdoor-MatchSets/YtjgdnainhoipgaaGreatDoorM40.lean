/- Texts of the proof of MatchSets: HLw. -/
import Derived.Test.YtjgdnainhoipgaaGreatDoorM39
namespace Go.Proofs.YtjgdnainhoipgaaGreatDoor
open Go.RowKit Go.Maps

def LookTo (m : Nat) (r : Nat) (v : Int) (wx : World) : Prop := (Instr.lookup 29 (.map (some m)) (.int .i64 (r : Int)) false).run Tryz.prog wx = .ok (.int .i64 v) wx
/-- what hits tells of a text -/
def PH (pls : ByteArray → List Pl) (beg : ByteArray → List ByteArray) (s : ByteArray) (wx : World) (e : Ending) (w' : World) : Prop :=
  Below wx.heap.size wx w' ∧ ((askS s).2 ≠ 0 ∧ e = .returned (.tuple #[.map none, .bool false]) ∨ (askS s).2 = 0 ∧ ∃ m, e = .returned (.tuple #[.map (some m), .bool true]) ∧ wx.heap.size ≤ m ∧ RowsB m (evalQ pls beg (askS s).1).length (evalQ pls beg (askS s).1) w')
section
variable {pls : ByteArray → List Pl} {beg : ByteArray → List ByteArray} {s : ByteArray} {wx w' : World} {e : Ending}
theorem PH.no (h : PH pls beg s wx e w') (hs : (askS s).2 ≠ 0) : e = .returned (.tuple #[.map none, .bool false]) ∧ Below wx.heap.size wx w' := by
  rcases h.2 with ⟨_, h2⟩ | ⟨h2, _⟩
  · exact ⟨h2, h.1⟩
  · exact absurd h2 hs
theorem PH.yes (h : PH pls beg s wx e w') {q : Qy} (hs : askS s = (q, 0)) : ∃ m, e = .returned (.tuple #[.map (some m), .bool true]) ∧ RowsB m (evalQ pls beg q).length (evalQ pls beg q) w' ∧ Below wx.heap.size wx w' := by
  rcases h.2 with ⟨h2, _⟩ | ⟨_, m, h2, _, h3⟩
  · rw [hs] at h2; exact absurd rfl h2
  · rw [hs] at h3; exact ⟨m, h2, h3, h.1⟩
theorem PH.some (h : PH pls beg s wx e w') : ∃ mv ok, e = .returned (.tuple #[.map mv, .bool ok]) ∧ ((askS s).2 ≠ 0 → ok = false) ∧ Below wx.heap.size wx w' := by
  rcases h.2 with ⟨_, h2⟩ | ⟨h1, m, h2, _⟩
  · exact ⟨_, _, h2, fun _ => rfl, h.1⟩
  · exact ⟨_, _, h2, fun h => absurd h1 h, h.1⟩
end
set_option maxRecDepth 100000 in
set_option maxHeartbeats 16000000 in
theorem sets_main (w : World) (hg : Gl w) (a : Option Addr) (c : Nat) (ts : List ByteArray) (A B : ByteArray) (hr : RowS w a ts.length ts) (hn : ts.length ≤ 20) (hA : A.size ≤ 200) (hB : B.size ≤ 200) (hAB : A.size + B.size ≤ 200) :
    Calls Tryz.prog 3 #[.slice a ts.length c, .string A, .string B] w fun e w' => e = .returned (.bool true) ∧ Below w.heap.size w w' := by
  have HG : Hid (Gl w) := hg
  have HRT : Hid (RowS w a ts.length ts) := hr
  obtain ⟨_, _, hx⟩ := hr
  have e0 : ¬ (20 : Int) < (ts.length : Int) := by omega
  have e1 : ¬ (200 : Int) < (A.size : Int) := by omega
  have e2 : ¬ (200 : Int) < (B.size : Int) := by omega
  have e3 : ¬ (200 : Int) < (A.size : Int) + (B.size : Int) := by omega
  have HAS : Hid _ := asked_any w HG.out.e
  clear hg
  go_enter Tryz.func3, Tryz.ntmps3
  go_wp2_with fail
  refine (show Calls _ _ _ _ _ from HAS.out).mono ?_
  rintro _ w1 ⟨rfl, hb1⟩
  have HB1 : Hid (Below w.heap.size w w1) := hb1
  have HFO : Hid _ := found_any w1
  clear hb1 HAS
  go_wp2_with fail
  refine (show Calls _ _ _ _ _ from HFO.out).mono ?_
  rintro _ w2 ⟨bf, bt, bp, bd, bm, rfl, hps, ⟨_, _, hp3, _, hp5⟩, hb2⟩
  have HB2 : Hid (Below w.heap.size w w2) := HB1.out.trans (hb2.mono HB1.out.size)
  have HPM : Hid (w.heap.size ≤ bp ∧ w.heap.size ≤ bm) := ⟨Nat.le_trans HB1.out.size hp3, Nat.le_trans HB1.out.size hp5⟩
  have HPS : Hid (PrS bf bt bp bd bm (800 * 0) 21000 (InD []) w2) := hps.mono (by omega) (by omega)
  clear hb2 hps hp3 hp5 HFO HB1
  go_wp2
  go_loopw [8] (fun i wr => ∃ (k : Nat) (D : List Nd), k ≤ ts.length ∧ i = .int .i64 k ∧ Hid (NtOk ts k D ∧ PrS bf bt bp bd bm (800 * k) 21000 (InD D) wr ∧ Below w.heap.size w wr ∧ ∀ i (hi : i < ts.length), i < k → ts[i].size ≤ 40)) (fun i _ => ts.length - (intOf i).toNat)
  case atStart => exact ⟨0, [], Nat.zero_le _, rfl, NtOk.zero ts, HPS.out, HB2.out, fun _ _ h => absurd h (Nat.not_lt_zero _)⟩
  case round =>
    clear HPS HB2
    obtain ⟨k, D, hk, rfl, hz⟩ := hrel
    have HNT : Hid (NtOk ts k D) := hz.out.1
    have HPS : Hid (PrS bf bt bp bd bm (800 * k) 21000 (InD D) wr) := hz.out.2.1
    have HB : Hid (Below w.heap.size w wr) := hz.out.2.2.1
    have HTZ : Hid (∀ i (hi : i < ts.length), i < k → ts[i].size ≤ 40) := hz.out.2.2.2
    clear hz
    by_cases hlt : k < ts.length
    · rcases hx with hx | ⟨b, off, rfl, hb, hrow⟩
      · simp [hx] at hlt
      have g1 := hrow k hlt
      rw [← HB.out.cell (p := ⟨b, _, none⟩) hb] at g1
      have i1 : (k : Int) < (ts.length : Int) := by omega
      by_cases hsz : 40 < ts[k].size
      · obtain ⟨t, ht⟩ : ∃ t, ts[k] = t := ⟨_, rfl⟩
        rw [ht] at g1 hsz
        have d1 : (40 : Int) < (t.size : Int) := by omega
        clear hrow ht hsz
        go_wp2
        go_ret
        exact ⟨rfl, HB.out⟩
      · obtain ⟨z1, z2⟩ := HNT.out.add hlt (by omega) (by omega)
        have HAD : Hid _ := addG_any HNT.out.nts HPS.out (HG.out.below HB.out) tN ts[k] ((k : Int) + 1) (by decide) (by omega) (by omega)
        rw [z1] at HAD
        have HTZ2 : Hid (∀ i (hi : i < ts.length), i < k + 1 → ts[i].size ≤ 40) := fun i hi h => by
          by_cases e : i = k
          · subst e; omega
          · exact HTZ.out i hi (by omega)
        have HNT2 : Hid (NtOk ts (k + 1) (addD D tN ((k : Int) + 1) ts[k])) := z2
        obtain ⟨t, ht⟩ : ∃ t, ts[k] = t := ⟨_, rfl⟩
        rw [ht] at g1 hsz HAD HNT2
        have d1 : ¬ (40 : Int) < (t.size : Int) := by omega
        have hw1 : IntKind.i64.wrap ((k : Int) + 1) = (k : Int) + 1 := wraps_i64 _ (by omega) (by omega)
        clear hrow ht hsz z1 z2 HNT HPS
        go_wp2_with fail
        refine (show Calls _ _ _ _ _ from HAD.out).mono ?_
        rintro _ w3 ⟨rfl, hp3, ho3⟩
        have ev0 : errV 0 = Value.nilIface := rfl
        have HP3 : Hid (PrS bf bt bp bd bm (800 * (k + 1)) 21000 (InD (addD D tN ((k : Int) + 1) t)) w3) := hp3.mono (by omega) (Nat.le_refl _)
        have HB3 : Hid (Below w.heap.size w w3) := Only.below HB.out ho3 HB.out.size (fun i hi => by rcases hi with hi | hi; rw [hi]; exact HPM.out.1; rw [hi]; exact HPM.out.2)
        rw [ev0]
        clear hp3 ho3 HAD HB ev0
        go_wp2
        go_roundw
        case rel => exact ⟨k + 1, _, by omega, by go_num, HNT2.out, HP3.out, HB3.out, HTZ2.out⟩
        case measure => simp [intOf]; omega
    · have e : k = ts.length := by omega
      subst e
      obtain ⟨pls, beg, hF, hP⟩ := fdr_of HNT.out.nts HPS.out (HG.out.below HB.out) tN (by decide)
      have HF : Hid (Fdr bf tN pls beg wr) := hF
      have HDD : Hid _ := HNT.out.pls hP
      have HTS : Hid (∀ t ∈ ts, t.size ≤ 40) := fun t ht => by
        obtain ⟨i, hi, rfl⟩ := List.getElem_of_mem ht
        exact HTZ.out i hi hi
      have HH : Hid (∀ wx s, Below wr.heap.size wr wx → s.size ≤ 400 → Calls Tryz.prog 7 #[.pointer (some ⟨bf, 0, none⟩), .string s] wx fun e w' => PH pls beg s wx e w') := fun wx s hb hs => hits_any (HF.out.below hb) ((HG.out.below HB.out).below hb).e s hs
      have HSZ : Hid (A.size ≤ 200 ∧ B.size ≤ 200 ∧ A.size + B.size ≤ 200) := ⟨hA, hB, hAB⟩
      have HSA : Hid (A.size ≤ 400 ∧ B.size ≤ 400) := ⟨by omega, by omega⟩
      clear hF hP HNT HPS hx hk hlt e1 e2 e3
      by_cases hqa : (askS A).2 = 0
      · by_cases hqb : (askS B).2 = 0
        · rcases four_ask hqa hqb with ⟨f1, f2, f3, f4⟩ | ⟨f5, f6⟩
          · have HF1 : Hid (askS (tTwo mAnd A B) = (.node 4 [] (askS A).1 (askS B).1, 0)) := f1
            have HF2 : Hid (askS (tTwo mOr A B) = (.node 5 [] (askS A).1 (askS B).1, 0)) := f2
            have HF3 : Hid (askS (tTwo mNot A B) = (.node 6 [] (askS A).1 (askS B).1, 0)) := f3
            have HF4 : Hid (askS (tTwo mBare B A) = (.node 4 [] (askS B).1 (askS A).1, 0)) := f4
            clear f1 f2 f3 f4
            have HQA : Hid (askS A = ((askS A).1, 0)) := Prod.ext rfl hqa
            have HQB : Hid (askS B = ((askS B).1, 0)) := Prod.ext rfl hqb
            clear hqa hqb
            go_wp2_with fail
            refine (show Calls _ _ _ _ _ from HH.out wr A (Below.refl _ _) HSA.out.1).mono ?_
            rintro e3 w3 h3
            obtain ⟨m3, rfl, hm3, hb3⟩ := h3.yes HQA.out
            have HB3 : Hid (Below wr.heap.size wr w3) := hb3
            have HM3 : Hid (RowsB m3 (evalQ pls beg (askS A).1).length (evalQ pls beg (askS A).1) w3) := hm3
            clear h3 hb3 hm3
            go_wp2_with fail
            refine (show Calls _ _ _ _ _ from HH.out w3 B HB3.out HSA.out.2).mono ?_
            rintro e4 w4 h4
            obtain ⟨m4, rfl, hm4, hb4⟩ := h4.yes HQB.out
            have HB4 : Hid (Below wr.heap.size wr w4) := HB3.out.trans (hb4.mono HB3.out.size)
            have HB34 : Hid (Below w3.heap.size w3 w4) := hb4
            have HM4 : Hid (RowsB m4 (evalQ pls beg (askS B).1).length (evalQ pls beg (askS B).1) w4) := hm4
            clear h4 hb4 hm4
            go_wp2_with fail
            refine (show Calls _ _ _ _ _ from HH.out w4 (tTwo mAnd A B) HB4.out (by rw [tTwo_size]; have := HSZ.out; have e : (mAnd).length = 7 := rfl; omega)).mono ?_
            rintro e5 w5 h5
            obtain ⟨m5, rfl, hm5, hb5⟩ := h5.yes HF1.out
            have HB5 : Hid (Below wr.heap.size wr w5) := HB4.out.trans (hb5.mono HB4.out.size)
            have HS5 : Hid (Below w4.heap.size w4 w5) := hb5
            have HM5 : Hid (RowsB m5 _ _ w5) := hm5
            clear h5 hb5 hm5
            go_wp2_with fail
            refine (show Calls _ _ _ _ _ from HH.out w5 (tTwo mOr A B) HB5.out (by rw [tTwo_size]; have := HSZ.out; have e : (mOr).length = 6 := rfl; omega)).mono ?_
            rintro e6 w6 h6
            obtain ⟨m6, rfl, hm6, hb6⟩ := h6.yes HF2.out
            have HB6 : Hid (Below wr.heap.size wr w6) := HB5.out.trans (hb6.mono HB5.out.size)
            have HS6 : Hid (Below w5.heap.size w5 w6) := hb6
            have HM6 : Hid (RowsB m6 _ _ w6) := hm6
            clear h6 hb6 hm6
            go_wp2_with fail
            refine (show Calls _ _ _ _ _ from HH.out w6 (tTwo mNot A B) HB6.out (by rw [tTwo_size]; have := HSZ.out; have e : (mNot).length = 7 := rfl; omega)).mono ?_
            rintro e7 w7 h7
            obtain ⟨m7, rfl, hm7, hb7⟩ := h7.yes HF3.out
            have HB7 : Hid (Below wr.heap.size wr w7) := HB6.out.trans (hb7.mono HB6.out.size)
            have HS7 : Hid (Below w6.heap.size w6 w7) := hb7
            have HM7 : Hid (RowsB m7 _ _ w7) := hm7
            clear h7 hb7 hm7
            go_wp2_with fail
            refine (show Calls _ _ _ _ _ from HH.out w7 (tTwo mBare B A) HB7.out (by rw [tTwo_size]; have := HSZ.out; have e : (mBare).length = 3 := rfl; omega)).mono ?_
            rintro e8 w8 h8
            obtain ⟨m8, rfl, hm8, hb8⟩ := h8.yes HF4.out
            have HB8 : Hid (Below wr.heap.size wr w8) := HB7.out.trans (hb8.mono HB7.out.size)
            have HS8 : Hid (Below w7.heap.size w7 w8) := hb8
            have HM8 : Hid (RowsB m8 _ _ w8) := hm8
            clear h8 hb8 hm8
            have HKX : Hid (Hk 100000000 (evalQ pls beg (askS A).1)) := (eval_hk HF.out.ok _).mono (by have := (askS_nice A HSA.out.1).1; omega)
            have HKY : Hid (Hk 100000000 (evalQ pls beg (askS B).1)) := (eval_hk HF.out.ok _).mono (by have := (askS_nice B HSA.out.2).1; omega)
            have q5 : evalQ pls beg (.node 4 [] (askS A).1 (askS B).1) = togL 4 (evalQ pls beg (askS A).1) (evalQ pls beg (askS B).1) := rfl
            have q6 : evalQ pls beg (.node 5 [] (askS A).1 (askS B).1) = togL 5 (evalQ pls beg (askS A).1) (evalQ pls beg (askS B).1) := rfl
            have q7 : evalQ pls beg (.node 6 [] (askS A).1 (askS B).1) = togL 6 (evalQ pls beg (askS A).1) (evalQ pls beg (askS B).1) := rfl
            have q8 : evalQ pls beg (.node 4 [] (askS B).1 (askS A).1) = togL 4 (evalQ pls beg (askS B).1) (evalQ pls beg (askS A).1) := rfl
            rw [q5] at HM5
            rw [q6] at HM6
            rw [q7] at HM7
            rw [q8] at HM8
            have HM4 : Hid (RowsB m4 _ _ w8) := (((HM4.out.below HS5.out).below HS6.out).below HS7.out).below HS8.out
            have HM3 : Hid (RowsB m3 _ _ w8) := ((((HM3.out.below HB34.out).below HS5.out).below HS6.out).below HS7.out).below HS8.out
            have HM5 : Hid (RowsB m5 _ _ w8) := ((HM5.out.below HS6.out).below HS7.out).below HS8.out
            have HM6 : Hid (RowsB m6 _ _ w8) := (HM6.out.below HS7.out).below HS8.out
            have HM7 : Hid (RowsB m7 _ _ w8) := HM7.out.below HS8.out
            clear q5 q6 q7 q8 HB3 HB4 HB34 HS5 HS6 HS7 HS8 HB5 HB6 HB7 HF1 HF2 HF3 HF4 HQA HQB
            generalize evalQ pls beg (askS A).1 = X at *
            generalize evalQ pls beg (askS B).1 = Y at *
            go_wp2
            go_loopw [23] (fun i wq => ∃ r : Nat, 1 ≤ r ∧ r ≤ ts.length + 1 ∧ i = .int .i64 r ∧ Hid (Below w8.heap.size w8 wq)) (fun i _ => ts.length + 1 - (intOf i).toNat)
            case atStart => exact ⟨1, Nat.le_refl _, by omega, rfl, Below.refl _ _⟩
            case round =>
              obtain ⟨r, hr1, hr2, rfl, HBQ⟩ := hrel
              have HB8W : Hid (Below w.heap.size w w8) := HB.out.trans (HB8.out.mono HB.out.size)
              by_cases hlt : r ≤ ts.length
              · skip
                have i1 : (r : Int) ≤ (ts.length : Int) := by omega
                have i0 : (1 : Int) ≤ (r : Int) := by omega
                obtain ⟨p, hp⟩ : ∃ p, cn X (r : Int) = p := ⟨_, rfl⟩
                obtain ⟨q, hq⟩ : ∃ q, cn Y (r : Int) = q := ⟨_, rfl⟩
                have hp0 : 0 ≤ p := by rw [← hp]; exact cn_nonneg HKX.out.pos _
                have hq0 : 0 ≤ q := by rw [← hq]; exact cn_nonneg HKY.out.pos _
                have hp1 : p ≤ 100000000 := by rw [← hp]; exact cn_le HKX.out _
                have hq1 : q ≤ 100000000 := by rw [← hq]; exact cn_le HKY.out _
                have a5 := cn_and HKX.out HKY.out (r : Int)
                have a6 := cn_or HKX.out HKY.out (r : Int)
                have a7 := cn_not2 HKX.out HKY.out (r : Int)
                have a8 := cn_and HKY.out HKX.out (r : Int)
                rw [hp, hq] at a5 a6 a7 a8
                have HLK : Hid (∀ wx, Below w8.heap.size w8 wx → LookTo m3 r p wx ∧ LookTo m4 r q wx ∧ LookTo m5 r (cn (togL 4 X Y) r) wx ∧ LookTo m6 r (cn (togL 5 X Y) r) wx ∧ LookTo m7 r (cn (togL 6 X Y) r) wx ∧ LookTo m8 r (cn (togL 4 Y X) r) wx) := fun wx hb => by
                  refine ⟨?_, ?_, (HM5.out.below hb).look (HKX.out.tog 4 HKY.out).ris r (by omega) (by omega), (HM6.out.below hb).look (HKX.out.tog 5 HKY.out).ris r (by omega) (by omega), (HM7.out.below hb).look (HKX.out.tog 6 HKY.out).ris r (by omega) (by omega), (HM8.out.below hb).look (HKY.out.tog 4 HKX.out).ris r (by omega) (by omega)⟩
                  · rw [← hp]; exact (HM3.out.below hb).look HKX.out.ris r (by omega) (by omega)
                  · rw [← hq]; exact (HM4.out.below hb).look HKY.out.ris r (by omega) (by omega)
                clear hp hq
                have hwp : IntKind.i64.wrap p = p := wraps_i64 _ (by omega) (by omega)
                have hwq : IntKind.i64.wrap q = q := wraps_i64 _ (by omega) (by omega)
                have hwpq : IntKind.i64.wrap (p + q) = p + q := wraps_i64 _ (by omega) (by omega)
                by_cases p0 : 0 < p
                · by_cases q0 : 0 < q
                  · rw [if_pos ⟨p0, q0⟩] at a5
                    rw [if_pos q0] at a7
                    rw [if_pos ⟨q0, p0⟩, Int.add_comm] at a8
                    have hqz : (q == 0) = false := by simp; omega
                    have hpq : ((p + q) != (p + q)) = false := by simp
                    rw [a5, a6, a7, a8] at HLK
                    clear a5 a6 a7 a8
                    have k3 : ∀ k, (Instr.lookup 29 (.map (some m3)) (.int .i64 (r : Int)) false).run Tryz.prog (wr.drewN k) = .ok (.int .i64 _) (wr.drewN k) := fun k => (HLK.out _ (HBQ.out.trans ((below_drewN (Below.refl _ _) k).mono HBQ.out.size))).1
                    have k4 : ∀ k, (Instr.lookup 29 (.map (some m4)) (.int .i64 (r : Int)) false).run Tryz.prog (wr.drewN k) = .ok (.int .i64 _) (wr.drewN k) := fun k => (HLK.out _ (HBQ.out.trans ((below_drewN (Below.refl _ _) k).mono HBQ.out.size))).2.1
                    go_wp2_with fail
                    go_quiet (fail)
                    clear k3 k4
                    have HBQ5 : Hid (Below w8.heap.size w8 (wr.drewN nq)) := HBQ.out.trans ((below_drewN (Below.refl _ _) nq).mono HBQ.out.size)
                    generalize (wr.drewN nq) = W5 at *
                    obtain ⟨_, _, l5, l6, l7, l8⟩ := HLK.out W5 HBQ5.out
                    unfold LookTo at l5 l6 l7 l8
                    clear HLK
                    go_wp2
                    go_roundw
                    case rel => exact ⟨r + 1, by omega, by omega, by go_num, HBQ5.out⟩
                    case measure => simp [intOf]; omega
                  · obtain rfl : q = 0 := by omega
                    rw [if_neg (fun h => q0 h.2)] at a5
                    rw [if_neg q0] at a7
                    rw [if_neg (fun h => q0 h.1)] at a8
                    rw [Int.add_zero] at a6 hwpq
                    have hpq : (p != p) = false := by simp
                    rw [a5, a6, a7, a8] at HLK
                    clear a5 a6 a7 a8
                    have k3 : ∀ k, (Instr.lookup 29 (.map (some m3)) (.int .i64 (r : Int)) false).run Tryz.prog (wr.drewN k) = .ok (.int .i64 _) (wr.drewN k) := fun k => (HLK.out _ (HBQ.out.trans ((below_drewN (Below.refl _ _) k).mono HBQ.out.size))).1
                    have k4 : ∀ k, (Instr.lookup 29 (.map (some m4)) (.int .i64 (r : Int)) false).run Tryz.prog (wr.drewN k) = .ok (.int .i64 _) (wr.drewN k) := fun k => (HLK.out _ (HBQ.out.trans ((below_drewN (Below.refl _ _) k).mono HBQ.out.size))).2.1
                    go_wp2_with fail
                    go_quiet (fail)
                    clear k3 k4
                    have HBQ5 : Hid (Below w8.heap.size w8 (wr.drewN nq)) := HBQ.out.trans ((below_drewN (Below.refl _ _) nq).mono HBQ.out.size)
                    generalize (wr.drewN nq) = W5 at *
                    obtain ⟨_, _, l5, l6, l7, l8⟩ := HLK.out W5 HBQ5.out
                    unfold LookTo at l5 l6 l7 l8
                    clear HLK
                    go_wp2
                    go_roundw
                    case rel => exact ⟨r + 1, by omega, by omega, by go_num, HBQ5.out⟩
                    case measure => simp [intOf]; omega
                · obtain rfl : p = 0 := by omega
                  by_cases q0 : 0 < q
                  · rw [if_neg (fun h => p0 h.1)] at a5
                    rw [if_pos q0] at a7
                    rw [if_neg (fun h => p0 h.2)] at a8
                    rw [Int.zero_add] at a6 hwpq
                    have hqz : (q == 0) = false := by simp; omega
                    have hpq : (q != q) = false := by simp
                    rw [a5, a6, a7, a8] at HLK
                    clear a5 a6 a7 a8
                    have k3 : ∀ k, (Instr.lookup 29 (.map (some m3)) (.int .i64 (r : Int)) false).run Tryz.prog (wr.drewN k) = .ok (.int .i64 _) (wr.drewN k) := fun k => (HLK.out _ (HBQ.out.trans ((below_drewN (Below.refl _ _) k).mono HBQ.out.size))).1
                    have k4 : ∀ k, (Instr.lookup 29 (.map (some m4)) (.int .i64 (r : Int)) false).run Tryz.prog (wr.drewN k) = .ok (.int .i64 _) (wr.drewN k) := fun k => (HLK.out _ (HBQ.out.trans ((below_drewN (Below.refl _ _) k).mono HBQ.out.size))).2.1
                    go_wp2_with fail
                    go_quiet (fail)
                    clear k3 k4
                    have HBQ5 : Hid (Below w8.heap.size w8 (wr.drewN nq)) := HBQ.out.trans ((below_drewN (Below.refl _ _) nq).mono HBQ.out.size)
                    generalize (wr.drewN nq) = W5 at *
                    obtain ⟨_, _, l5, l6, l7, l8⟩ := HLK.out W5 HBQ5.out
                    unfold LookTo at l5 l6 l7 l8
                    clear HLK
                    go_wp2
                    go_roundw
                    case rel => exact ⟨r + 1, by omega, by omega, by go_num, HBQ5.out⟩
                    case measure => simp [intOf]; omega
                  · obtain rfl : q = 0 := by omega
                    rw [if_neg (fun h => p0 h.1)] at a5
                    rw [if_neg q0] at a7
                    rw [if_neg (fun h => p0 h.2)] at a8
                    rw [Int.zero_add] at a6 hwpq
                    rw [a5, a6, a7, a8] at HLK
                    clear a5 a6 a7 a8
                    have k3 : ∀ k, (Instr.lookup 29 (.map (some m3)) (.int .i64 (r : Int)) false).run Tryz.prog (wr.drewN k) = .ok (.int .i64 _) (wr.drewN k) := fun k => (HLK.out _ (HBQ.out.trans ((below_drewN (Below.refl _ _) k).mono HBQ.out.size))).1
                    have k4 : ∀ k, (Instr.lookup 29 (.map (some m4)) (.int .i64 (r : Int)) false).run Tryz.prog (wr.drewN k) = .ok (.int .i64 _) (wr.drewN k) := fun k => (HLK.out _ (HBQ.out.trans ((below_drewN (Below.refl _ _) k).mono HBQ.out.size))).2.1
                    go_wp2_with fail
                    go_quiet (fail)
                    clear k3 k4
                    have HBQ5 : Hid (Below w8.heap.size w8 (wr.drewN nq)) := HBQ.out.trans ((below_drewN (Below.refl _ _) nq).mono HBQ.out.size)
                    generalize (wr.drewN nq) = W5 at *
                    obtain ⟨_, _, l5, l6, l7, l8⟩ := HLK.out W5 HBQ5.out
                    unfold LookTo at l5 l6 l7 l8
                    clear HLK
                    go_wp2
                    go_roundw
                    case rel => exact ⟨r + 1, by omega, by omega, by go_num, HBQ5.out⟩
                    case measure => simp [intOf]; omega

              · have i1 : ¬ (r : Int) ≤ (ts.length : Int) := by omega
                have HBE : Hid (Below w.heap.size w wr) := HB8W.out.trans (HBQ.out.mono HB8W.out.size)
                have HQU : Hid _ := quoted_any (HF.out.below (HB8.out.trans (HBQ.out.mono HB8.out.size))) (HG.out.below HBE.out) a c ts (HRT.out.below HBE.out) (HTS.out) (by omega) HDD.out
                go_wp2_with fail
                refine (show Calls _ _ _ _ _ from HQU.out).mono ?_
                rintro _ w9 ⟨rfl, hb9⟩
                have HB9 : Hid (Below w.heap.size w w9) := HBE.out.trans (hb9.mono HBE.out.size)
                clear hb9 HQU
                go_wp2
                go_ret
                exact ⟨rfl, HB9.out⟩
          · have HF5 : Hid ((askS (tDeep A B)).2 ≠ 0) := f5
            have HF6 : Hid ((askS (tTwo mAnd A B)).2 ≠ 0 ∨ (askS (tTwo mBare B A)).2 ≠ 0) := f6
            clear f5 f6
            have HQA : Hid (askS A = ((askS A).1, 0)) := Prod.ext rfl hqa
            have HQB : Hid (askS B = ((askS B).1, 0)) := Prod.ext rfl hqb
            clear hqa hqb
            go_wp2_with fail
            refine (show Calls _ _ _ _ _ from HH.out wr A (Below.refl _ _) HSA.out.1).mono ?_
            rintro e3 w3 h3
            obtain ⟨m3, rfl, hm3, hb3⟩ := h3.yes HQA.out
            have HB3 : Hid (Below wr.heap.size wr w3) := hb3
            have HM3 : Hid (RowsB m3 (evalQ pls beg (askS A).1).length (evalQ pls beg (askS A).1) w3) := hm3
            clear h3 hb3 hm3
            go_wp2_with fail
            refine (show Calls _ _ _ _ _ from HH.out w3 B HB3.out HSA.out.2).mono ?_
            rintro e4 w4 h4
            obtain ⟨m4, rfl, hm4, hb4⟩ := h4.yes HQB.out
            have HB4 : Hid (Below wr.heap.size wr w4) := HB3.out.trans (hb4.mono HB3.out.size)
            have HB34 : Hid (Below w3.heap.size w3 w4) := hb4
            have HM4 : Hid (RowsB m4 (evalQ pls beg (askS B).1).length (evalQ pls beg (askS B).1) w4) := hm4
            clear h4 hb4 hm4
            go_wp2_with fail
            refine (show Calls _ _ _ _ _ from HH.out w4 (tTwo mAnd A B) HB4.out (by rw [tTwo_size]; have := HSZ.out; have e : (mAnd).length = 7 := rfl; omega)).mono ?_
            rintro e5 w5 h5
            obtain ⟨v5, o5, rfl, ho5, hb5⟩ := h5.some
            have HB5 : Hid (Below wr.heap.size wr w5) := HB4.out.trans (hb5.mono HB4.out.size)
            have HO5 : Hid _ := ho5
            clear h5 hb5 ho5
            go_wp2_with fail
            refine (show Calls _ _ _ _ _ from HH.out w5 (tTwo mOr A B) HB5.out (by rw [tTwo_size]; have := HSZ.out; have e : (mOr).length = 6 := rfl; omega)).mono ?_
            rintro e6 w6 h6
            obtain ⟨v6, o6, rfl, ho6, hb6⟩ := h6.some
            have HB6 : Hid (Below wr.heap.size wr w6) := HB5.out.trans (hb6.mono HB5.out.size)
            have HO6 : Hid _ := ho6
            clear h6 hb6 ho6
            go_wp2_with fail
            refine (show Calls _ _ _ _ _ from HH.out w6 (tTwo mNot A B) HB6.out (by rw [tTwo_size]; have := HSZ.out; have e : (mNot).length = 7 := rfl; omega)).mono ?_
            rintro e7 w7 h7
            obtain ⟨v7, o7, rfl, ho7, hb7⟩ := h7.some
            have HB7 : Hid (Below wr.heap.size wr w7) := HB6.out.trans (hb7.mono HB6.out.size)
            have HO7 : Hid _ := ho7
            clear h7 hb7 ho7
            go_wp2_with fail
            refine (show Calls _ _ _ _ _ from HH.out w7 (tTwo mBare B A) HB7.out (by rw [tTwo_size]; have := HSZ.out; have e : (mBare).length = 3 := rfl; omega)).mono ?_
            rintro e8 w8 h8
            obtain ⟨v8, o8, rfl, ho8, hb8⟩ := h8.some
            have HB8 : Hid (Below wr.heap.size wr w8) := HB7.out.trans (hb8.mono HB7.out.size)
            have HO8 : Hid _ := ho8
            clear h8 hb8 ho8
            cases o5
            · have HPA : Hid _ := parse2_any (tDeep A B) w8 (by rw [tDeep_size]; have := HSZ.out; omega) (((HG.out.below HB.out).below HB8.out).e)
              go_wp2_with fail
              refine (show Calls _ _ _ _ _ from HPA.out).mono ?_
              rintro _ w9 ⟨p9, E9, rfl, _, hE9, hb9⟩
              obtain rfl : E9 = .iface 52 (.int .i64 (askS (tDeep A B)).2) := by
                rcases hE9 with ⟨h, _⟩ | ⟨_, h⟩
                · exact absurd h HF5.out
                · exact h
              have HB9 : Hid (Below w.heap.size w w9) := HB.out.trans ((HB8.out.trans (hb9.mono HB8.out.size)).mono HB.out.size)
              clear hE9 hb9 HPA
              generalize (askS (tDeep A B)).2 = E at *
              go_wp2
              go_ret
              exact ⟨rfl, HB9.out⟩
            · cases o6
              · have HPA : Hid _ := parse2_any (tDeep A B) w8 (by rw [tDeep_size]; have := HSZ.out; omega) (((HG.out.below HB.out).below HB8.out).e)
                go_wp2_with fail
                refine (show Calls _ _ _ _ _ from HPA.out).mono ?_
                rintro _ w9 ⟨p9, E9, rfl, _, hE9, hb9⟩
                obtain rfl : E9 = .iface 52 (.int .i64 (askS (tDeep A B)).2) := by
                  rcases hE9 with ⟨h, _⟩ | ⟨_, h⟩
                  · exact absurd h HF5.out
                  · exact h
                have HB9 : Hid (Below w.heap.size w w9) := HB.out.trans ((HB8.out.trans (hb9.mono HB8.out.size)).mono HB.out.size)
                clear hE9 hb9 HPA
                generalize (askS (tDeep A B)).2 = E at *
                go_wp2
                go_ret
                exact ⟨rfl, HB9.out⟩
              · cases o7
                · have HPA : Hid _ := parse2_any (tDeep A B) w8 (by rw [tDeep_size]; have := HSZ.out; omega) (((HG.out.below HB.out).below HB8.out).e)
                  go_wp2_with fail
                  refine (show Calls _ _ _ _ _ from HPA.out).mono ?_
                  rintro _ w9 ⟨p9, E9, rfl, _, hE9, hb9⟩
                  obtain rfl : E9 = .iface 52 (.int .i64 (askS (tDeep A B)).2) := by
                    rcases hE9 with ⟨h, _⟩ | ⟨_, h⟩
                    · exact absurd h HF5.out
                    · exact h
                  have HB9 : Hid (Below w.heap.size w w9) := HB.out.trans ((HB8.out.trans (hb9.mono HB8.out.size)).mono HB.out.size)
                  clear hE9 hb9 HPA
                  generalize (askS (tDeep A B)).2 = E at *
                  go_wp2
                  go_ret
                  exact ⟨rfl, HB9.out⟩
                · cases o8
                  · have HPA : Hid _ := parse2_any (tDeep A B) w8 (by rw [tDeep_size]; have := HSZ.out; omega) (((HG.out.below HB.out).below HB8.out).e)
                    go_wp2_with fail
                    refine (show Calls _ _ _ _ _ from HPA.out).mono ?_
                    rintro _ w9 ⟨p9, E9, rfl, _, hE9, hb9⟩
                    obtain rfl : E9 = .iface 52 (.int .i64 (askS (tDeep A B)).2) := by
                      rcases hE9 with ⟨h, _⟩ | ⟨_, h⟩
                      · exact absurd h HF5.out
                      · exact h
                    have HB9 : Hid (Below w.heap.size w w9) := HB.out.trans ((HB8.out.trans (hb9.mono HB8.out.size)).mono HB.out.size)
                    clear hE9 hb9 HPA
                    generalize (askS (tDeep A B)).2 = E at *
                    go_wp2
                    go_ret
                    exact ⟨rfl, HB9.out⟩
                  · exfalso
                    rcases HF6.out with h | h
                    · exact absurd (HO5.out h) (by decide)
                    · exact absurd (HO8.out h) (by decide)
        · have HQA : Hid ((askS A).2 = 0) := hqa
          have HQB : Hid ((askS B).2 ≠ 0) := hqb
          clear hqa hqb
          go_wp2_with fail
          refine (show Calls _ _ _ _ _ from HH.out wr A (Below.refl _ _) HSA.out.1).mono ?_
          rintro e3 w3 h3
          obtain ⟨m3, rfl, _, hb3⟩ := h3.yes (q := (askS A).1) (Prod.ext rfl HQA.out)
          have HB3 : Hid (Below wr.heap.size wr w3) := hb3
          clear h3 hb3
          go_wp2_with fail
          refine (show Calls _ _ _ _ _ from HH.out w3 B HB3.out HSA.out.2).mono ?_
          rintro e4 w4 h4
          obtain ⟨rfl, hb4⟩ := h4.no HQB.out
          have HB4 : Hid (Below w.heap.size w w4) := HB.out.trans ((HB3.out.trans (hb4.mono HB3.out.size)).mono HB.out.size)
          clear h4 hb4
          go_wp2
          go_ret
          exact ⟨rfl, HB4.out⟩
      · have HQA : Hid ((askS A).2 ≠ 0) := hqa
        clear hqa
        go_wp2_with fail
        refine (show Calls _ _ _ _ _ from HH.out wr A (Below.refl _ _) HSA.out.1).mono ?_
        rintro e3 w3 h3
        obtain ⟨rfl, hb3⟩ := h3.no HQA.out
        have HB3 : Hid (Below wr.heap.size wr w3) := hb3
        clear h3 hb3
        go_wp2_with fail
        refine (show Calls _ _ _ _ _ from HH.out w3 B HB3.out HSA.out.2).mono ?_
        rintro e4 w4 h4
        obtain ⟨mv4, o4, rfl, _, hb4⟩ := h4.some
        have HB4 : Hid (Below w.heap.size w w4) := HB.out.trans ((HB3.out.trans (hb4.mono HB3.out.size)).mono HB.out.size)
        clear h4 hb4
        go_wp2
        go_ret
        exact ⟨rfl, HB4.out⟩
end Go.Proofs.YtjgdnainhoipgaaGreatDoor
