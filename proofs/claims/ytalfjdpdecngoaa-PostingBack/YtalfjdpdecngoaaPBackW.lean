/- PostingBack, walked. -/
import Derived.Test.YtalfjdpdecngoaaPBack
namespace Go.Proofs.Ytalfjdpdecngoaa
open Go.RowKit

set_option maxRecDepth 100000 in
set_option maxHeartbeats 8000000 in
theorem back_long (a1 a2 : Option Addr) (n1 c1 n2 c2 : Nat) (row : Int) (w : World) (h1 : n1 ≤ maxLen) (h2 : n2 ≤ maxLen) (h : 40 < n1 ∨ 40 < n2) :
    Calls Try.prog 4 #[.slice a1 n1 c1, .slice a2 n2 c2, .int .i64 row] w fun e w' => e = .returned (.bool true) ∧ Below w.heap.size w w' := by
  unfold maxLen at h1 h2
  by_cases h3 : 40 < n1
  · have d1 : decide ((40 : Int) < (n1 : Int)) = true := by simp; omega
    go_enter Try.func4, Try.ntmps4
    go_wp2
    go_ret
    exact ⟨by simp, Below.refl _ _⟩
  · have d1 : decide ((40 : Int) < (n1 : Int)) = false := by simp; omega
    have d2 : decide ((40 : Int) < (n2 : Int)) = true := by simp; omega
    go_enter Try.func4, Try.ntmps4
    go_wp2
    go_ret
    exact ⟨by simp, Below.refl _ _⟩

set_option maxRecDepth 100000 in
set_option maxHeartbeats 8000000 in
theorem back_short (a1 a2 : Option Addr) (c1 c2 : Nat) (xs ys : List Pl) (row : Int) (w : World) (h1 : InP w (.slice a1 xs.length c1) xs) (h2 : InP w (.slice a2 ys.length c2) ys) (hl1 : xs.length ≤ 40) (hl2 : ys.length ≤ 40) :
    Calls Try.prog 4 #[.slice a1 xs.length c1, .slice a2 ys.length c2, .int .i64 row] w fun e w' => e = .returned (.bool true) ∧ Below w.heap.size w w' := by
  have Hx0 : Hid (InP w (.slice a1 xs.length c1) xs) := h1
  have Hy0 : Hid (InP w (.slice a2 ys.length c2) ys) := h2
  have HB0 : Hid (Below w.heap.size w w) := Below.refl _ _
  clear h1 h2
  have d1 : decide ((40 : Int) < (xs.length : Int)) = false := by simp; omega
  have d2 : decide ((40 : Int) < (ys.length : Int)) = false := by simp; omega
  obtain ⟨ra, hra⟩ : ∃ b, rightL xs = b := ⟨_, rfl⟩
  obtain ⟨rb, hrb⟩ : ∃ b, rightL ys = b := ⟨_, rfl⟩
  have HRA : Hid (rightL xs = ra) := hra
  have HRB : Hid (rightL ys = rb) := hrb
  clear hra hrb
  go_enter Try.func4, Try.ntmps4
  go_wp2_with fail
  refine (posted_any _).mono ?_
  rintro _ w1 ⟨rfl, hb1⟩
  have Hx1 : Hid (InP w1 (.slice a1 xs.length c1) xs) := InP.below Hx0.out hb1
  have Hy1 : Hid (InP w1 (.slice a2 ys.length c2) ys) := InP.below Hy0.out hb1
  have HB1 : Hid (Below w.heap.size w w1) := HB0.out.trans (hb1.mono HB0.out.size)
  clear Hx0 Hy0 HB0 hb1
  go_wp2_with fail
  refine (right_in ra HRA.out Hx1.out).mono ?_
  rintro _ w2 ⟨rfl, hb2⟩
  have Hx2 : Hid (InP w2 (.slice a1 xs.length c1) xs) := InP.below Hx1.out hb2
  have Hy2 : Hid (InP w2 (.slice a2 ys.length c2) ys) := InP.below Hy1.out hb2
  have HB2 : Hid (Below w.heap.size w w2) := HB1.out.trans (hb2.mono HB1.out.size)
  clear Hx1 Hy1 HB1 hb2
  cases ra
  · go_wp2
    go_ret
    exact ⟨by simp, HB2.out⟩
  go_wp2_with fail
  refine (right_in rb HRB.out Hy2.out).mono ?_
  rintro _ w3 ⟨rfl, hb3⟩
  have Hx3 : Hid (InP w3 (.slice a1 xs.length c1) xs) := InP.below Hx2.out hb3
  have Hy3 : Hid (InP w3 (.slice a2 ys.length c2) ys) := InP.below Hy2.out hb3
  have HB3 : Hid (Below w.heap.size w w3) := HB2.out.trans (hb3.mono HB2.out.size)
  clear Hx2 Hy2 HB2 hb3
  cases rb
  · go_wp2
    go_ret
    exact ⟨by simp, HB3.out⟩
  obtain ⟨f1, f2, f3, f4, f5, f6, f7, f8⟩ := back_facts xs ys row HRA.out HRB.out
  obtain ⟨m, hm⟩ : ∃ m, mergeL xs ys = m := ⟨_, rfl⟩
  obtain ⟨fa, hfa⟩ : ∃ m, xs.filter (fun p => p.r != row) = m := ⟨_, rfl⟩
  obtain ⟨fb, hfb⟩ : ∃ m, ys.filter (fun p => p.r != row) = m := ⟨_, rfl⟩
  obtain ⟨fo, hfo⟩ : ∃ m, keepL stpF xs ys = m := ⟨_, rfl⟩
  obtain ⟨s, hs⟩ : ∃ s, encL xs = s := ⟨_, rfl⟩
  obtain ⟨S, hS⟩ : ∃ S : ByteArray, (⟨s.toArray⟩ : ByteArray) = S := ⟨_, rfl⟩
  have hSs : S.size = s.length := by rw [← hS]; show s.toArray.size = _; simp
  have hSl : S.data.toList = s := by rw [← hS]
  have l0 := enc_len xs ⟨0, 0⟩ ⟨by decide, by decide, by decide, by decide⟩ HRA.out
  rw [show encFrom ⟨0, 0⟩ xs = s from hs] at l0
  have l1 := merge_le _ xs ys (Nat.le_refl _)
  have l2 : fa.length ≤ xs.length := by rw [← hfa]; exact List.length_filter_le _ _
  have l3 : fb.length ≤ ys.length := by rw [← hfb]; exact List.length_filter_le _ _
  have l4 : fo.length ≤ ys.length := by rw [← hfo]; exact keep_le stpF ys xs
  have hrd := read_enc xs HRA.out
  rw [hs] at hrd
  rw [hm] at f1 f2 f3 f4 f5 l1
  rw [hfa, hfb] at f4
  rw [hfo] at f6 f8
  obtain ⟨fm, hfm⟩ : ∃ q, m.filter (fun p => p.r != row) = q := ⟨_, rfl⟩
  rw [hfm] at f4 f5
  have l5 : fm.length ≤ m.length := by rw [← hfm]; exact List.length_filter_le _ _
  obtain ⟨n0, hn0⟩ : ∃ n, (nearFrom 0 [] xs ys).length = n := ⟨_, rfl⟩
  obtain ⟨n5, hn5⟩ : ∃ n, (nearFrom 5 [] xs ys).length = n := ⟨_, rfl⟩
  obtain ⟨nr, hnr⟩ : ∃ n, (rowsFrom [] fo).length = n := ⟨_, rfl⟩
  rw [hn0, hn5] at f7
  rw [hnr] at f8
  have KA : Hid (∀ z ∈ xs, OkP z) := ((right_iff xs).1 HRA.out).1
  have KB : Hid (∀ z ∈ ys, OkP z) := ((right_iff ys).1 HRB.out).1
  have KF : Hid (∀ z ∈ fo, OkP z) := fun z hz => KB.out z ((keep_sub stpF ys xs).subset (by rw [hfo]; exact hz))
  have F1 : Hid (rightL m = true) := f1
  have F2 : Hid (mergeL ys xs = m) := f2
  have F3 : Hid (mergeL m xs = m) := f3
  have F4 : Hid (mergeL fa fb = fm) := f4
  have F5 : Hid (rightL fm = true) := f5
  have F6 : Hid (mergeL ys fo = ys) := f6
  have F8 : Hid ((nearFrom 0 [] fo ys).length = nr) := f8
  have G1 : Hid (mergeL xs ys = m) := hm
  have G2 : Hid (xs.filter (fun p => p.r != row) = fa) := hfa
  have G3 : Hid (ys.filter (fun p => p.r != row) = fb) := hfb
  have G4 : Hid (keepL stpF xs ys = fo) := hfo
  have G5 : Hid ((⟨(encL xs).toArray⟩ : ByteArray) = S) := by rw [hs]; exact hS
  have G6 : Hid (readL S.data.toList = some xs) := by rw [hSl]; exact hrd
  have G7 : Hid (m.filter (fun p => p.r != row) = fm) := hfm
  have G8 : Hid ((nearFrom 0 [] xs ys).length = n0) := hn0
  have G9 : Hid ((nearFrom 5 [] xs ys).length = n5) := hn5
  have G10 : Hid ((rowsFrom [] fo).length = nr) := hnr
  have HL0 : Hid (S.size ≤ 400 ∧ xs.length ≤ S.size) := ⟨by omega, by omega⟩
  clear f1 f2 f3 f4 f5 f6 f8 hm hfa hfb hfo hs hrd hfm hn0 hn5 hnr l0 hS hSs hSl
  have d3 : decide (S.size < xs.length) = false := by have := HL0.out; simp; omega
  have d3' : decide ((S.size : Int) < (xs.length : Int)) = false := by have := HL0.out; simp; omega
  have d4 : decide ((n0 : Int) ≤ (n5 : Int)) = true := by simp; omega
  have d4' : decide (n0 ≤ n5) = true := by simp; omega
  go_wp2_with fail
  refine (write_in Hx3.out HRA.out (by omega)).mono ?_
  rintro _ w4 ⟨rfl, hb4⟩
  have Hx4 : Hid (InP w4 (.slice a1 xs.length c1) xs) := InP.below Hx3.out hb4
  have Hy4 : Hid (InP w4 (.slice a2 ys.length c2) ys) := InP.below Hy3.out hb4
  have HB4 : Hid (Below w.heap.size w w4) := HB3.out.trans (hb4.mono HB3.out.size)
  clear Hx3 Hy3 HB3 hb4
  rw [G5.out]
  go_wp2_with fail
  refine (read_in S xs G6.out _ (by have := HL0.out; omega)).mono ?_
  rintro _ w5 ⟨v5, rfl, hi5, hb5⟩
  have Hx5 : Hid (InP w5 (.slice a1 xs.length c1) xs) := InP.below Hx4.out hb5
  have Hy5 : Hid (InP w5 (.slice a2 ys.length c2) ys) := InP.below Hy4.out hb5
  have HB5 : Hid (Below w.heap.size w w5) := HB4.out.trans (hb5.mono HB4.out.size)
  have Hl5 : Hid (InP w5 v5 xs) := hi5
  clear Hx4 Hy4 HB4 hb5 hi5
  obtain ⟨al, cl, hvl⟩ := Hl5.out.slice
  subst hvl
  go_wp2_with fail
  refine (same_in Hl5.out Hx5.out).mono ?_
  rintro _ w6 ⟨rfl, hb6⟩
  have Hx6 : Hid (InP w6 (.slice a1 xs.length c1) xs) := InP.below Hx5.out hb6
  have Hy6 : Hid (InP w6 (.slice a2 ys.length c2) ys) := InP.below Hy5.out hb6
  have Hl6 : Hid (InP w6 (.slice al xs.length cl) xs) := InP.below Hl5.out hb6
  have HB6 : Hid (Below w.heap.size w w6) := HB5.out.trans (hb6.mono HB5.out.size)
  clear Hx5 Hy5 Hl5 HB5 hb6
  clear Hl6
  go_wp2_with fail
  refine (merge_in Hx6.out Hy6.out (by omega) (by omega) m G1.out (by omega)).mono ?_
  rintro _ w7 ⟨am, cm, rfl, hi7, hb7⟩
  have Hx7 : Hid (InP w7 (.slice a1 xs.length c1) xs) := InP.below Hx6.out hb7
  have Hy7 : Hid (InP w7 (.slice a2 ys.length c2) ys) := InP.below Hy6.out hb7
  have HB7 : Hid (Below w.heap.size w w7) := HB6.out.trans (hb7.mono HB6.out.size)
  have Hm7 : Hid (InP w7 (.slice am m.length cm) m) := hi7
  clear Hx6 Hy6 HB6 hb7 hi7
  go_wp2_with fail
  refine (merge_in Hy7.out Hx7.out (by omega) (by omega) m F2.out (by omega)).mono ?_
  rintro _ w8 ⟨an, cn, rfl, hi8, hb8⟩
  have Hx8 : Hid (InP w8 (.slice a1 xs.length c1) xs) := InP.below Hx7.out hb8
  have Hy8 : Hid (InP w8 (.slice a2 ys.length c2) ys) := InP.below Hy7.out hb8
  have Hm8 : Hid (InP w8 (.slice am m.length cm) m) := InP.below Hm7.out hb8
  have HB8 : Hid (Below w.heap.size w w8) := HB7.out.trans (hb8.mono HB7.out.size)
  have Hn8 : Hid (InP w8 (.slice an m.length cn) m) := hi8
  clear Hx7 Hy7 Hm7 HB7 hb8 hi8
  go_wp2_with fail
  refine (right_in true F1.out Hm8.out).mono ?_
  rintro _ w9 ⟨rfl, hb9⟩
  have Hx9 : Hid (InP w9 (.slice a1 xs.length c1) xs) := InP.below Hx8.out hb9
  have Hy9 : Hid (InP w9 (.slice a2 ys.length c2) ys) := InP.below Hy8.out hb9
  have Hm9 : Hid (InP w9 (.slice am m.length cm) m) := InP.below Hm8.out hb9
  have Hn9 : Hid (InP w9 (.slice an m.length cn) m) := InP.below Hn8.out hb9
  have HB9 : Hid (Below w.heap.size w w9) := HB8.out.trans (hb9.mono HB8.out.size)
  clear Hx8 Hy8 Hm8 Hn8 HB8 hb9
  go_wp2_with fail
  refine (same_in Hm9.out Hn9.out).mono ?_
  rintro _ w10 ⟨rfl, hb10⟩
  have Hx10 : Hid (InP w10 (.slice a1 xs.length c1) xs) := InP.below Hx9.out hb10
  have Hy10 : Hid (InP w10 (.slice a2 ys.length c2) ys) := InP.below Hy9.out hb10
  have Hm10 : Hid (InP w10 (.slice am m.length cm) m) := InP.below Hm9.out hb10
  have Hn10 : Hid (InP w10 (.slice an m.length cn) m) := InP.below Hn9.out hb10
  have HB10 : Hid (Below w.heap.size w w10) := HB9.out.trans (hb10.mono HB9.out.size)
  clear Hx9 Hy9 Hm9 Hn9 HB9 hb10
  clear Hn10
  go_wp2_with fail
  refine (merge_in Hm10.out Hx10.out (by omega) (by omega) m F3.out (by omega)).mono ?_
  rintro _ w11 ⟨ao, co, rfl, hi11, hb11⟩
  have Hx11 : Hid (InP w11 (.slice a1 xs.length c1) xs) := InP.below Hx10.out hb11
  have Hy11 : Hid (InP w11 (.slice a2 ys.length c2) ys) := InP.below Hy10.out hb11
  have Hm11 : Hid (InP w11 (.slice am m.length cm) m) := InP.below Hm10.out hb11
  have HB11 : Hid (Below w.heap.size w w11) := HB10.out.trans (hb11.mono HB10.out.size)
  have Ho11 : Hid (InP w11 (.slice ao m.length co) m) := hi11
  clear Hx10 Hy10 Hm10 HB10 hb11 hi11
  go_wp2_with fail
  refine (same_in Ho11.out Hm11.out).mono ?_
  rintro _ w12 ⟨rfl, hb12⟩
  have Hx12 : Hid (InP w12 (.slice a1 xs.length c1) xs) := InP.below Hx11.out hb12
  have Hy12 : Hid (InP w12 (.slice a2 ys.length c2) ys) := InP.below Hy11.out hb12
  have Hm12 : Hid (InP w12 (.slice am m.length cm) m) := InP.below Hm11.out hb12
  have Ho12 : Hid (InP w12 (.slice ao m.length co) m) := InP.below Ho11.out hb12
  have HB12 : Hid (Below w.heap.size w w12) := HB11.out.trans (hb12.mono HB11.out.size)
  clear Hx11 Hy11 Hm11 Ho11 HB11 hb12
  clear Ho12
  go_wp2_with fail
  refine (merge_in Hx12.out (InP.nil _) (by omega) (by simp) xs (merge_nil_right xs) (by omega)).mono ?_
  rintro _ w13 ⟨ap, cp, rfl, hi13, hb13⟩
  have Hx13 : Hid (InP w13 (.slice a1 xs.length c1) xs) := InP.below Hx12.out hb13
  have Hy13 : Hid (InP w13 (.slice a2 ys.length c2) ys) := InP.below Hy12.out hb13
  have Hm13 : Hid (InP w13 (.slice am m.length cm) m) := InP.below Hm12.out hb13
  have HB13 : Hid (Below w.heap.size w w13) := HB12.out.trans (hb13.mono HB12.out.size)
  have Hp13 : Hid (InP w13 (.slice ap xs.length cp) xs) := hi13
  clear Hx12 Hy12 Hm12 HB12 hb13 hi13
  go_wp2_with fail
  refine (same_in Hp13.out Hx13.out).mono ?_
  rintro _ w14 ⟨rfl, hb14⟩
  have Hx14 : Hid (InP w14 (.slice a1 xs.length c1) xs) := InP.below Hx13.out hb14
  have Hy14 : Hid (InP w14 (.slice a2 ys.length c2) ys) := InP.below Hy13.out hb14
  have Hm14 : Hid (InP w14 (.slice am m.length cm) m) := InP.below Hm13.out hb14
  have Hp14 : Hid (InP w14 (.slice ap xs.length cp) xs) := InP.below Hp13.out hb14
  have HB14 : Hid (Below w.heap.size w w14) := HB13.out.trans (hb14.mono HB13.out.size)
  clear Hx13 Hy13 Hm13 Hp13 HB13 hb14
  clear Hp14
  go_wp2_with fail
  refine (without_in row Hm14.out (by omega) fm G7.out (by omega)).mono ?_
  rintro _ w15 ⟨aw, cw, rfl, hi15, hb15⟩
  have Hx15 : Hid (InP w15 (.slice a1 xs.length c1) xs) := InP.below Hx14.out hb15
  have Hy15 : Hid (InP w15 (.slice a2 ys.length c2) ys) := InP.below Hy14.out hb15
  have Hm15 : Hid (InP w15 (.slice am m.length cm) m) := InP.below Hm14.out hb15
  have HB15 : Hid (Below w.heap.size w w15) := HB14.out.trans (hb15.mono HB14.out.size)
  have Hw15 : Hid (InP w15 (.slice aw fm.length cw) fm) := hi15
  clear Hx14 Hy14 Hm14 HB14 hb15 hi15
  clear Hm15
  go_wp2_with fail
  refine (without_in row Hx15.out (by omega) fa G2.out (by omega)).mono ?_
  rintro _ w16 ⟨aq, cq, rfl, hi16, hb16⟩
  have Hx16 : Hid (InP w16 (.slice a1 xs.length c1) xs) := InP.below Hx15.out hb16
  have Hy16 : Hid (InP w16 (.slice a2 ys.length c2) ys) := InP.below Hy15.out hb16
  have Hw16 : Hid (InP w16 (.slice aw fm.length cw) fm) := InP.below Hw15.out hb16
  have HB16 : Hid (Below w.heap.size w w16) := HB15.out.trans (hb16.mono HB15.out.size)
  have Hq16 : Hid (InP w16 (.slice aq fa.length cq) fa) := hi16
  clear Hx15 Hy15 Hw15 HB15 hb16 hi16
  go_wp2_with fail
  refine (without_in row Hy16.out (by omega) fb G3.out (by omega)).mono ?_
  rintro _ w17 ⟨ar, cr, rfl, hi17, hb17⟩
  have Hx17 : Hid (InP w17 (.slice a1 xs.length c1) xs) := InP.below Hx16.out hb17
  have Hy17 : Hid (InP w17 (.slice a2 ys.length c2) ys) := InP.below Hy16.out hb17
  have Hw17 : Hid (InP w17 (.slice aw fm.length cw) fm) := InP.below Hw16.out hb17
  have Hq17 : Hid (InP w17 (.slice aq fa.length cq) fa) := InP.below Hq16.out hb17
  have HB17 : Hid (Below w.heap.size w w17) := HB16.out.trans (hb17.mono HB16.out.size)
  have Hr17 : Hid (InP w17 (.slice ar fb.length cr) fb) := hi17
  clear Hx16 Hy16 Hw16 Hq16 HB16 hb17 hi17
  go_wp2_with fail
  refine (merge_in Hq17.out Hr17.out (by omega) (by omega) fm F4.out (by omega)).mono ?_
  rintro _ w18 ⟨as', cs, rfl, hi18, hb18⟩
  have Hx18 : Hid (InP w18 (.slice a1 xs.length c1) xs) := InP.below Hx17.out hb18
  have Hy18 : Hid (InP w18 (.slice a2 ys.length c2) ys) := InP.below Hy17.out hb18
  have Hw18 : Hid (InP w18 (.slice aw fm.length cw) fm) := InP.below Hw17.out hb18
  have Hq18 : Hid (InP w18 (.slice aq fa.length cq) fa) := InP.below Hq17.out hb18
  have Hr18 : Hid (InP w18 (.slice ar fb.length cr) fb) := InP.below Hr17.out hb18
  have HB18 : Hid (Below w.heap.size w w18) := HB17.out.trans (hb18.mono HB17.out.size)
  have Hs18 : Hid (InP w18 (.slice as' fm.length cs) fm) := hi18
  clear Hx17 Hy17 Hw17 Hq17 Hr17 HB17 hb18 hi18
  clear Hq18
  clear Hr18
  go_wp2_with fail
  refine (same_in Hw18.out Hs18.out).mono ?_
  rintro _ w19 ⟨rfl, hb19⟩
  have Hx19 : Hid (InP w19 (.slice a1 xs.length c1) xs) := InP.below Hx18.out hb19
  have Hy19 : Hid (InP w19 (.slice a2 ys.length c2) ys) := InP.below Hy18.out hb19
  have Hw19 : Hid (InP w19 (.slice aw fm.length cw) fm) := InP.below Hw18.out hb19
  have Hs19 : Hid (InP w19 (.slice as' fm.length cs) fm) := InP.below Hs18.out hb19
  have HB19 : Hid (Below w.heap.size w w19) := HB18.out.trans (hb19.mono HB18.out.size)
  clear Hx18 Hy18 Hw18 Hs18 HB18 hb19
  clear Hs19
  go_wp2_with fail
  refine (right_in true F5.out Hw19.out).mono ?_
  rintro _ w20 ⟨rfl, hb20⟩
  have Hx20 : Hid (InP w20 (.slice a1 xs.length c1) xs) := InP.below Hx19.out hb20
  have Hy20 : Hid (InP w20 (.slice a2 ys.length c2) ys) := InP.below Hy19.out hb20
  have Hw20 : Hid (InP w20 (.slice aw fm.length cw) fm) := InP.below Hw19.out hb20
  have HB20 : Hid (Below w.heap.size w w20) := HB19.out.trans (hb20.mono HB19.out.size)
  clear Hx19 Hy19 Hw19 HB19 hb20
  clear Hw20
  go_wp2_with fail
  refine (follow_in Hx20.out Hy20.out KA.out (by omega) fo G4.out (by omega)).mono ?_
  rintro _ w21 ⟨af, cf, rfl, hi21, hb21⟩
  have Hx21 : Hid (InP w21 (.slice a1 xs.length c1) xs) := InP.below Hx20.out hb21
  have Hy21 : Hid (InP w21 (.slice a2 ys.length c2) ys) := InP.below Hy20.out hb21
  have HB21 : Hid (Below w.heap.size w w21) := HB20.out.trans (hb21.mono HB20.out.size)
  have Hf21 : Hid (InP w21 (.slice af fo.length cf) fo) := hi21
  clear Hx20 Hy20 HB20 hb21 hi21
  go_wp2_with fail
  refine (merge_in Hy21.out Hf21.out (by omega) (by omega) ys F6.out (by omega)).mono ?_
  rintro _ w22 ⟨ag, cg, rfl, hi22, hb22⟩
  have Hx22 : Hid (InP w22 (.slice a1 xs.length c1) xs) := InP.below Hx21.out hb22
  have Hy22 : Hid (InP w22 (.slice a2 ys.length c2) ys) := InP.below Hy21.out hb22
  have Hf22 : Hid (InP w22 (.slice af fo.length cf) fo) := InP.below Hf21.out hb22
  have HB22 : Hid (Below w.heap.size w w22) := HB21.out.trans (hb22.mono HB21.out.size)
  have Hg22 : Hid (InP w22 (.slice ag ys.length cg) ys) := hi22
  clear Hx21 Hy21 Hf21 HB21 hb22 hi22
  go_wp2_with fail
  refine (merge_in Hy22.out (InP.nil _) (by omega) (by simp) ys (merge_nil_right ys) (by omega)).mono ?_
  rintro _ w23 ⟨ah, ch, rfl, hi23, hb23⟩
  have Hx23 : Hid (InP w23 (.slice a1 xs.length c1) xs) := InP.below Hx22.out hb23
  have Hy23 : Hid (InP w23 (.slice a2 ys.length c2) ys) := InP.below Hy22.out hb23
  have Hf23 : Hid (InP w23 (.slice af fo.length cf) fo) := InP.below Hf22.out hb23
  have Hg23 : Hid (InP w23 (.slice ag ys.length cg) ys) := InP.below Hg22.out hb23
  have HB23 : Hid (Below w.heap.size w w23) := HB22.out.trans (hb23.mono HB22.out.size)
  have Hh23 : Hid (InP w23 (.slice ah ys.length ch) ys) := hi23
  clear Hx22 Hy22 Hf22 Hg22 HB22 hb23 hi23
  go_wp2_with fail
  refine (same_in Hg23.out Hh23.out).mono ?_
  rintro _ w24 ⟨rfl, hb24⟩
  have Hx24 : Hid (InP w24 (.slice a1 xs.length c1) xs) := InP.below Hx23.out hb24
  have Hy24 : Hid (InP w24 (.slice a2 ys.length c2) ys) := InP.below Hy23.out hb24
  have Hf24 : Hid (InP w24 (.slice af fo.length cf) fo) := InP.below Hf23.out hb24
  have Hg24 : Hid (InP w24 (.slice ag ys.length cg) ys) := InP.below Hg23.out hb24
  have Hh24 : Hid (InP w24 (.slice ah ys.length ch) ys) := InP.below Hh23.out hb24
  have HB24 : Hid (Below w.heap.size w w24) := HB23.out.trans (hb24.mono HB23.out.size)
  clear Hx23 Hy23 Hf23 Hg23 Hh23 HB23 hb24
  clear Hg24
  clear Hh24
  go_wp2_with fail
  refine (near_in 0 Hx24.out Hy24.out (by omega) (by omega) KA.out KB.out n0 G8.out).mono ?_
  rintro _ w25 ⟨ai, ci, rfl, hb25⟩
  have Hx25 : Hid (InP w25 (.slice a1 xs.length c1) xs) := InP.below Hx24.out hb25
  have Hy25 : Hid (InP w25 (.slice a2 ys.length c2) ys) := InP.below Hy24.out hb25
  have Hf25 : Hid (InP w25 (.slice af fo.length cf) fo) := InP.below Hf24.out hb25
  have HB25 : Hid (Below w.heap.size w w25) := HB24.out.trans (hb25.mono HB24.out.size)
  clear Hx24 Hy24 Hf24 HB24 hb25
  go_wp2_with fail
  refine (near_in 5 Hx25.out Hy25.out (by omega) (by omega) KA.out KB.out n5 G9.out).mono ?_
  rintro _ w26 ⟨aj, cj, rfl, hb26⟩
  have Hx26 : Hid (InP w26 (.slice a1 xs.length c1) xs) := InP.below Hx25.out hb26
  have Hy26 : Hid (InP w26 (.slice a2 ys.length c2) ys) := InP.below Hy25.out hb26
  have Hf26 : Hid (InP w26 (.slice af fo.length cf) fo) := InP.below Hf25.out hb26
  have HB26 : Hid (Below w.heap.size w w26) := HB25.out.trans (hb26.mono HB25.out.size)
  clear Hx25 Hy25 Hf25 HB25 hb26
  go_wp2_with fail
  refine (near_in 0 Hf26.out Hy26.out (by omega) (by omega) KF.out KB.out nr F8.out).mono ?_
  rintro _ w27 ⟨ak, ck, rfl, hb27⟩
  have Hx27 : Hid (InP w27 (.slice a1 xs.length c1) xs) := InP.below Hx26.out hb27
  have Hy27 : Hid (InP w27 (.slice a2 ys.length c2) ys) := InP.below Hy26.out hb27
  have Hf27 : Hid (InP w27 (.slice af fo.length cf) fo) := InP.below Hf26.out hb27
  have HB27 : Hid (Below w.heap.size w w27) := HB26.out.trans (hb27.mono HB26.out.size)
  clear Hx26 Hy26 Hf26 HB26 hb27
  go_wp2_with fail
  refine (rows_in Hf27.out (by omega) nr G10.out).mono ?_
  rintro _ w28 ⟨ae, ce, rfl, hb28⟩
  have Hx28 : Hid (InP w28 (.slice a1 xs.length c1) xs) := InP.below Hx27.out hb28
  have Hy28 : Hid (InP w28 (.slice a2 ys.length c2) ys) := InP.below Hy27.out hb28
  have Hf28 : Hid (InP w28 (.slice af fo.length cf) fo) := InP.below Hf27.out hb28
  have HB28 : Hid (Below w.heap.size w w28) := HB27.out.trans (hb28.mono HB27.out.size)
  clear Hx27 Hy27 Hf27 HB27 hb28
  go_wp2
  go_ret
  exact ⟨by simp, HB28.out⟩
end Go.Proofs.Ytalfjdpdecngoaa
