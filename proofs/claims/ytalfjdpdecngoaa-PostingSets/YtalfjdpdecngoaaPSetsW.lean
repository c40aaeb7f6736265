/- PostingSets, walked. -/
import Derived.Test.YtalfjdpdecngoaaPSetIn
namespace Go.Proofs.Ytalfjdpdecngoaa
open Go.RowKit

set_option maxRecDepth 100000 in
set_option maxHeartbeats 8000000 in
theorem sets_long (a1 a2 : Option Addr) (n1 c1 n2 c2 : Nat) (row far : Int) (w : World) (h1 : n1 ≤ maxLen) (h2 : n2 ≤ maxLen) (h : 40 < n1 ∨ 40 < n2) :
    Calls Try.prog 3 #[.slice a1 n1 c1, .slice a2 n2 c2, .int .i64 row, .int .i64 far] w fun e w' => e = .returned (.bool true) ∧ Below w.heap.size w w' := by
  unfold maxLen at h1 h2
  by_cases h3 : 40 < n1
  · have d1 : decide ((40 : Int) < (n1 : Int)) = true := by simp; omega
    go_enter Try.func3, Try.ntmps3
    go_wp2
    go_ret
    exact ⟨by simp, Below.refl _ _⟩
  · have d1 : decide ((40 : Int) < (n1 : Int)) = false := by simp; omega
    have d2 : decide ((40 : Int) < (n2 : Int)) = true := by simp; omega
    go_enter Try.func3, Try.ntmps3
    go_wp2
    go_ret
    exact ⟨by simp, Below.refl _ _⟩

/-- the three lists of the walk, and that nothing below has changed -/
def E3 (w0 : World) (vx vy vo : Value) (xs ys fa : List Pl) (w : World) : Prop := InP w vx xs ∧ InP w vy ys ∧ InP w vo fa ∧ Below w0.heap.size w0 w
theorem E3.step {w0 : World} {vx vy vo : Value} {xs ys fa : List Pl} {w w' : World} (h : E3 w0 vx vy vo xs ys fa w) (hb : Below w.heap.size w w') : E3 w0 vx vy vo xs ys fa w' :=
  ⟨h.1.below hb, h.2.1.below hb, h.2.2.1.below hb, h.2.2.2.trans (hb.mono h.2.2.2.size)⟩

set_option maxRecDepth 100000 in
set_option maxHeartbeats 8000000 in
theorem sets_short (hS : SortedSpec) (hR : RisingSpec) (a1 a2 : Option Addr) (c1 c2 : Nat) (xs ys : List Pl) (row far : Int) (w : World) (h1 : InP w (.slice a1 xs.length c1) xs) (h2 : InP w (.slice a2 ys.length c2) ys) (hl1 : xs.length ≤ 40) (hl2 : ys.length ≤ 40) :
    Calls Try.prog 3 #[.slice a1 xs.length c1, .slice a2 ys.length c2, .int .i64 row, .int .i64 far] w fun e w' => e = .returned (.bool true) ∧ Below w.heap.size w w' := by
  obtain ⟨i0, hi, hz0, hz1, hz2⟩ := pinfo_parts infoPl
  have HS : Hid SortedSpec := hS
  have HRs : Hid RisingSpec := hR
  have Hx0 : Hid (InP w (.slice a1 xs.length c1) xs) := h1
  have Hy0 : Hid (InP w (.slice a2 ys.length c2) ys) := h2
  clear h1 h2 hS hR
  have d1 : decide ((40 : Int) < (xs.length : Int)) = false := by simp; omega
  have d2 : decide ((40 : Int) < (ys.length : Int)) = false := by simp; omega
  obtain ⟨ra, hra⟩ : ∃ b, rightL xs = b := ⟨_, rfl⟩
  obtain ⟨rb, hrb⟩ : ∃ b, rightL ys = b := ⟨_, rfl⟩
  have HRA : Hid (rightL xs = ra) := hra
  have HRB : Hid (rightL ys = rb) := hrb
  clear hra hrb
  go_enter Try.func3, Try.ntmps3
  go_wp2_with fail
  refine (places_in ra HRA.out Hx0.out).mono ?_
  rintro _ w1 ⟨rfl, hb1⟩
  have Hy1 : Hid (InP w1 (.slice a2 ys.length c2) ys) := InP.below Hy0.out hb1
  have HB1 : Hid (Below w.heap.size w w1) := hb1
  clear hb1
  cases ra
  · go_wp2
    go_ret
    exact ⟨by simp, HB1.out⟩
  go_wp2_with fail
  refine (places_in rb HRB.out Hy1.out).mono ?_
  rintro _ w2 ⟨rfl, hb2⟩
  have HB2 : Hid (Below w.heap.size w w2) := HB1.out.trans (hb2.mono HB1.out.size)
  clear hb2 HB1 Hy1
  cases rb
  · go_wp2
    go_ret
    exact ⟨by simp, HB2.out⟩
  obtain ⟨kx, sx⟩ := (right_iff xs).1 HRA.out
  obtain ⟨ky, sy⟩ := (right_iff ys).1 HRB.out
  have KX : Hid ((∀ z ∈ xs, OkP z) ∧ xs.Pairwise LtP) := ⟨kx, sx⟩
  have KY : Hid ((∀ z ∈ ys, OkP z) ∧ ys.Pairwise LtP) := ⟨ky, sy⟩
  clear kx sx ky sy HRA HRB
  obtain ⟨fa, hfa⟩ : ∃ m, xs.filter (fun p => p.r != row) = m := ⟨_, rfl⟩
  have l2 : fa.length ≤ xs.length := by rw [← hfa]; exact List.length_filter_le _ _
  have GF : Hid (xs.filter (fun p => p.r != row) = fa) := hfa
  clear hfa
  go_wp2
  go_loopw [9, 10] (fun v i wr => ∃ (k : Nat) (l : List Pl), k ≤ xs.length ∧ i = .int .i64 k ∧ Hid (l ++ (xs.drop k).filter (fun p => p.r != row) = fa) ∧ Hid (wr.ownsRow w.heap.size 25 2 v l.length (plc l) ∧ Below w.heap.size w wr)) (fun _ i _ => xs.length - (intOf i).toNat)
  case atStart => exact ⟨0, [], Nat.zero_le _, rfl, GF, World.ownsRow_nil _ _ _ _, HB2.out⟩
  case round =>
    clear HB2
    obtain ⟨k, l, hk, rfl, hz, hown⟩ := hrel
    have hlF : l.length ≤ fa.length := by rw [← hz.out]; simp
    by_cases hlt : k < xs.length
    · obtain ⟨_, _, e0, _, ⟨_, _, hx⟩, _⟩ := Hx0.out
      cases e0
      rcases hx with hx | ⟨b, off, rfl, hb, hrow⟩
      · simp [hx] at hlt
      obtain ⟨g1, g2⟩ := hrow k hlt
      clear hrow
      rw [← hown.out.2.cell (p := ⟨b, _, none⟩) hb] at g1 g2
      have HY : Hid (xs[k].r ≠ row → (l ++ [xs[k]]) ++ (xs.drop (k + 1)).filter (fun p => p.r != row) = fa) := fun e => by
        have h := hz.out
        rw [List.drop_eq_getElem_cons hlt, List.filter_cons_of_pos (by simpa using e)] at h
        rw [← h, List.append_assoc]; rfl
      have HN : Hid (xs[k].r = row → l ++ (xs.drop (k + 1)).filter (fun p => p.r != row) = fa) := fun e => by
        have h := hz.out
        rw [List.drop_eq_getElem_cons hlt, List.filter_cons_of_neg (by simpa using e)] at h
        exact h
      have i1 : (k : Int) < (xs.length : Int) := by omega
      generalize xs[k] = q at *
      have HB : Hid (Below w.heap.size w wr) := hown.out.2
      have HO : Hid (wr.ownsRow w.heap.size 25 2 u9 l.length (plc l)) := hown.out.1
      have hsw := HB.out.size
      clear hown hz
      by_cases m1 : q.r = row
      · have j1 : (q.r == row) = true := by simpa using m1
        have HZ : Hid _ := HN.out m1
        clear HY HN m1
        go_wp2
        go_roundw
        case rel => exact ⟨k + 1, l, by omega, by go_num, HZ, HO.out, HB.out⟩
        case measure => simp [intOf]; omega
      · have j1 : (q.r == row) = false := by simpa using m1
        have HZ : Hid _ := HY.out m1
        clear HY HN m1
        go_wp2_with (at_builtin; refine wpList_append_own _ rfl _ _ 22 rfl w.heap.size 25 i0 (.agg #[.int .i64 0, .int .i64 0]) 2 16 Try.underlying22 hi hz0 hz1 hz2 rfl (by decide) _ _ _ rfl (HO.out.alloc _) ⟨wr.heap.size, 0, none⟩ 1 1 (plc [q]) rfl rfl (news_pl wr q 25) (one_pl q) (by simp [maxLen]; omega) (by omega) (by simp; omega) ?_)
        intro v3 w3 ho3 hg3 _
        have HB3 : Hid (Below w.heap.size w w3) := (HB.out.alloc (by omega) _).grown hg3 (by simp; omega) (fun g hg => (HO.out.lt g hg).1)
        have HO3 : Hid (w3.ownsRow w.heap.size 25 2 v3 (l ++ [q]).length (plc (l ++ [q]))) := own_eqP ho3 (by simp) (by rw [plc_append])
        clear ho3 hg3 HO HB
        go_wp2
        go_roundw
        case rel => exact ⟨k + 1, l ++ [q], by omega, by go_num, HZ, HO3.out, HB3.out⟩
        case measure => simp [intOf]; omega
    · have e : l = fa := by
        have h := hz.out
        rw [List.drop_eq_nil_of_le (by omega), List.filter_nil, List.append_nil] at h
        exact h
      subst e
      have HE : Hid (E3 w (.slice a1 xs.length c1) (.slice a2 ys.length c2) u9 xs ys l wr) := ⟨Hx0.out.below hown.out.2, Hy0.out.below hown.out.2, InP.of_own hown.out.1 (by omega), hown.out.2⟩
      clear hown hz Hx0 Hy0
      obtain ⟨M, hM⟩ : ∃ m, mergeL xs ys = m := ⟨_, rfl⟩
      have GM : Hid (mergeL xs ys = M) := hM
      have lM : M.length ≤ 2000 := by rw [← hM]; have := merge_le _ xs ys (Nat.le_refl _); omega
      obtain ⟨fo, hfo⟩ : ∃ m, keepL stpF xs ys = m := ⟨_, rfl⟩
      have GO : Hid (keepL stpF xs ys = fo) := hfo
      have lO : fo.length ≤ 2000 := by rw [← hfo]; have := keep_le stpF ys xs; omega
      obtain ⟨nr, hnr⟩ : ∃ m, nearFrom far [] xs ys = m := ⟨_, rfl⟩
      have GN : Hid (nearFrom far [] xs ys = nr) := hnr
      obtain ⟨rw', hrw⟩ : ∃ m, rowsFrom [] xs = m := ⟨_, rfl⟩
      have GR : Hid (rowsFrom [] xs = rw') := hrw
      have GF2 : Hid (xs.filter (fun p => p.r != row) = l) := GF.out
      clear hM hfo hnr hrw GF
      go_wp2_with fail
      refine (merge_in HE.out.1 HE.out.2.1 (by omega) (by omega) M GM.out lM).mono ?_
      rintro _ w4 ⟨am, cm, rfl, hi4, hb4⟩
      have HE : Hid _ := E3.step HE.out hb4
      have Hm : Hid (InP w4 (.slice am M.length cm) M) := hi4
      clear hi4 hb4
      go_wp2_with fail
      refine (refMerge_in HS.out HE.out.1 HE.out.2.1 (by omega) (by omega) KX.out.2 KY.out.2 M GM.out lM).mono ?_
      rintro _ w5 ⟨an, cn, rfl, hi5, hb5⟩
      have HE : Hid _ := E3.step HE.out hb5
      have Hm : Hid (InP w5 (.slice am M.length cm) M) := InP.below Hm.out hb5
      have Hn : Hid (InP w5 (.slice an M.length cn) M) := hi5
      clear hi5 hb5
      go_wp2_with fail
      refine (lawsame_in Hm.out Hn.out).mono ?_
      rintro _ w6 ⟨rfl, hb6⟩
      have HE : Hid _ := E3.step HE.out hb6
      clear hb6 Hm Hn GM
      go_wp2_with fail
      refine (without_in row HE.out.1 (by omega) l GF2.out (by omega)).mono ?_
      rintro _ w7 ⟨aw, cw, rfl, hi7, hb7⟩
      have HE : Hid _ := E3.step HE.out hb7
      have Hm : Hid (InP w7 (.slice aw l.length cw) l) := hi7
      clear hi7 hb7
      go_wp2_with fail
      refine (lawsame_in Hm.out HE.out.2.2.1).mono ?_
      rintro _ w8 ⟨rfl, hb8⟩
      have HE : Hid _ := E3.step HE.out hb8
      clear hb8 Hm GF2
      go_wp2_with fail
      refine (rows_row HE.out.1 (by omega) rw' GR.out).mono ?_
      rintro _ w9 ⟨ar, cr, rfl, hi9, hb9⟩
      have HE : Hid _ := E3.step HE.out hb9
      have Hm : Hid (InI w9 (.slice ar rw'.length cr) rw') := hi9
      clear hi9 hb9
      go_wp2_with fail
      refine (refRows_row HRs.out HE.out.1 (by omega) KX.out.2 rw' GR.out).mono ?_
      rintro _ w10 ⟨ar', cr', rfl, hi10, hb10⟩
      have HE : Hid _ := E3.step HE.out hb10
      have Hm : Hid (InI w10 (.slice ar rw'.length cr) rw') := InI.below Hm.out hb10
      have Hn : Hid (InI w10 (.slice ar' rw'.length cr') rw') := hi10
      clear hi10 hb10
      go_wp2_with fail
      refine (sameInts_in Hm.out Hn.out).mono ?_
      rintro _ w11 ⟨rfl, hb11⟩
      have HE : Hid _ := E3.step HE.out hb11
      clear hb11 Hm Hn GR
      go_wp2_with fail
      refine (follow_in HE.out.1 HE.out.2.1 KX.out.1 (by omega) fo GO.out lO).mono ?_
      rintro _ w12 ⟨af, cf, rfl, hi12, hb12⟩
      have HE : Hid _ := E3.step HE.out hb12
      have Hm : Hid (InP w12 (.slice af fo.length cf) fo) := hi12
      clear hi12 hb12
      go_wp2_with fail
      refine (refFollow_in HS.out HE.out.1 HE.out.2.1 (by omega) (by omega) KX.out.1 KX.out.2 KY.out.2 fo GO.out).mono ?_
      rintro _ w13 ⟨ag, cg, rfl, hi13, hb13⟩
      have HE : Hid _ := E3.step HE.out hb13
      have Hm : Hid (InP w13 (.slice af fo.length cf) fo) := InP.below Hm.out hb13
      have Hn : Hid (InP w13 (.slice ag fo.length cg) fo) := hi13
      clear hi13 hb13
      go_wp2_with fail
      refine (lawsame_in Hm.out Hn.out).mono ?_
      rintro _ w14 ⟨rfl, hb14⟩
      have HE : Hid _ := E3.step HE.out hb14
      clear hb14 Hm Hn GO
      by_cases f1 : far < 0
      · have j1 : decide (far < 0) = true := by simpa using f1
        go_wp2
        go_ret
        exact ⟨by simp, HE.out.2.2.2⟩
      · have j1 : decide (far < 0) = false := by simpa using f1
        by_cases f2 : 2147483648 < far
        · have j2 : decide ((2147483648 : Int) < far) = true := by simpa using f2
          go_wp2
          go_ret
          exact ⟨by simp, HE.out.2.2.2⟩
        · have j2 : decide ((2147483648 : Int) < far) = false := by simpa using f2
          clear f1 f2
          go_wp2_with fail
          refine (near_row far HE.out.1 HE.out.2.1 (by omega) (by omega) KX.out.1 KY.out.1 KX.out.2 KY.out.2 nr GN.out).mono ?_
          rintro _ w15 ⟨ah, ch, rfl, hi15, hb15⟩
          have HE : Hid _ := E3.step HE.out hb15
          have Hm : Hid (InI w15 (.slice ah nr.length ch) nr) := hi15
          clear hi15 hb15
          go_wp2_with fail
          refine (refNear_row HRs.out far HE.out.1 HE.out.2.1 (by omega) (by omega) KX.out.1 KY.out.1 KX.out.2 KY.out.2 nr GN.out).mono ?_
          rintro _ w16 ⟨ai, ci, rfl, hi16, hb16⟩
          have HE : Hid _ := E3.step HE.out hb16
          have Hm : Hid (InI w16 (.slice ah nr.length ch) nr) := InI.below Hm.out hb16
          have Hn : Hid (InI w16 (.slice ai nr.length ci) nr) := hi16
          clear hi16 hb16
          go_wp2_with fail
          refine (sameInts_in Hm.out Hn.out).mono ?_
          rintro _ w17 ⟨rfl, hb17⟩
          have HE : Hid _ := E3.step HE.out hb17
          clear hb17 Hm Hn
          go_wp2
          go_ret
          exact ⟨by simp, HE.out.2.2.2⟩
end Go.Proofs.Ytalfjdpdecngoaa
