/- Texts of the proof of MatchSets: HCn, Tmw, Tmt, Thp, Tfm, Tlm. -/
import Derived.Test.YtjgdnainhoipgaaGreatDoorM14
namespace Go.Proofs.YtjgdnainhoipgaaGreatDoor
open Go.RowKit

/-- what is known in a round of count -/
structure CE (w : World) (bp : Nat) (q : Pl) (v : Value) (l : List Ht) (wx : World) : Prop where
  c : wx.cell? ⟨bp, 0, none⟩ = some (.int .i64 q.r)
  lo : w.heap.size ≤ bp
  hi : bp < wx.heap.size
  b : Below w.heap.size w wx
  o : wx.ownsRow w.heap.size 61 2 v l.length (htc l)
theorem CE.step {w wx wy : World} {bp : Nat} {q : Pl} {v : Value} {l : List Ht} (h : CE w bp q v l wx) (hb : Below wx.heap.size wx wy) : CE w bp q v l wy :=
  ⟨by rw [hb.cell (p := ⟨bp, _, none⟩) h.hi]; exact h.c, h.lo, Nat.lt_of_lt_of_le h.hi hb.size, h.b.trans (hb.mono h.b.size), own_belowP h.o hb⟩
theorem own_last {w : World} {B g cap : Nat} {l : List Ht} {x : Ht} {n : Nat} (hn : l.length = n) (h : w.ownsRow B 61 2 (.slice (some ⟨g, 0, none⟩) (n + 1) cap) (n + 1) (htc (l ++ [x]))) :
    w.cell? ⟨g, n * 2, none⟩ = some (.int .i64 x.r) ∧ w.cell? ⟨g, n * 2 + 1, none⟩ = some (.int .i64 x.o) ∧ w.frozen? ⟨g, n * 2 + 1, none⟩ = false ∧
    (w.setCell ⟨g, n * 2 + 1, none⟩ (.int .i64 (x.o + 1))).ownsRow B 61 2 (.slice (some ⟨g, 0, none⟩) (n + 1) cap) (n + 1) (htc (l ++ [⟨x.r, x.o + 1⟩])) ∧ Below B w (w.setCell ⟨g, n * 2 + 1, none⟩ (.int .i64 (x.o + 1))) := by
  have hl : n < (l ++ [x]).length := by simp; omega
  have hx : (l ++ [x])[n]'hl = x := by subst hn; simp
  obtain ⟨c0, c1⟩ := htc_get (l ++ [x]) n hl
  rw [hx] at c0 c1
  have k0 := h.cells (g := g) rfl _ _ c0
  have k1 := h.cells (g := g) rfl _ _ c1
  rw [Go.WideShapes.add_plain, Nat.zero_add] at k0 k1
  obtain ⟨s1, s2⟩ := h.stored (n * 2 + 1) (.int .i64 (x.o + 1))
  have hs := htc_set (l ++ [x]) n hl ⟨x.r, x.o + 1⟩ (by rw [hx])
  rw [hs, show (l ++ [x]).set n ⟨x.r, x.o + 1⟩ = l ++ [⟨x.r, x.o + 1⟩] by subst hn; simp] at s1
  exact ⟨k0, k1, h.frozenAt _, s1, (Below.refl B w).setCell (h.lt g rfl).1 _⟩

set_option maxRecDepth 100000 in
set_option maxHeartbeats 4000000 in
theorem count2_any (v1 : Value) (xs : List Pl) (w : World) (h1 : InP w v1 xs) (hl : xs.length ≤ 100000) :
    Calls Tryz.prog 149 #[v1] w fun e w' => ∃ v', e = .returned v' ∧ w'.ownsRow w.heap.size 61 2 v' (cntL2 xs).length (htc (cntL2 xs)) ∧ Below w.heap.size w w' := by
  obtain ⟨i0, hi, hz0, hz1, hz2⟩ := pinfo_parts infoHt
  obtain ⟨a, cap, rfl, _, hr, _⟩ := h1
  obtain ⟨T, hT⟩ : ∃ T, cntL2 xs = T := ⟨_, rfl⟩
  have HT : Hid (cntF [] (xs.drop 0) = T) := hT
  rw [hT]
  clear hT
  obtain ⟨_, hm, hx⟩ := hr
  go_enter Tryz.func149, Tryz.ntmps149
  go_wp2
  go_loopw [3, 9] (fun v i wr => ∃ (k : Nat) (l : List Ht), k ≤ xs.length ∧ l.length ≤ k ∧ i = .int .i64 k ∧ Hid (cntF l (xs.drop k) = T ∧ ∀ x ∈ l, 0 ≤ x.o ∧ x.o ≤ k) ∧ Hid (wr.ownsRow w.heap.size 61 2 v l.length (htc l) ∧ Below w.heap.size w wr)) (fun _ i _ => xs.length - (intOf i).toNat)
  case atStart => exact ⟨0, [], Nat.zero_le _, by simp, rfl, ⟨HT.out, fun _ h => (by cases h)⟩, World.ownsRow_nil _ _ _ _, Below.refl _ _⟩
  case round =>
    clear HT
    obtain ⟨k, l, hk, hlk, rfl, hz, hown⟩ := hrel
    by_cases hlt : k < xs.length
    · rcases hx with hx | ⟨b, off, rfl, hb, hrow⟩
      · simp [hx] at hlt
      obtain ⟨g1, g2⟩ := hrow k hlt
      clear hrow
      rw [← hown.out.2.cell (p := ⟨b, _, none⟩) hb] at g1 g2
      have hz1' := hz.out.1
      rw [List.drop_eq_getElem_cons hlt, cntF_cons] at hz1'
      have i1 : (k : Int) < (xs.length : Int) := by omega
      generalize xs[k] = q at *
      have HZ : Hid (cntF (cntS l q.r) (xs.drop (k + 1)) = T) := hz1'
      have HLO : Hid (∀ x ∈ l, 0 ≤ x.o ∧ x.o ≤ k) := hz.out.2
      have HO : Hid (wr.ownsRow w.heap.size 61 2 u3 l.length (htc l)) := hown.out.1
      have HB : Hid (Below w.heap.size w wr) := hown.out.2
      have hsz := HB.out.size
      clear hz hz1' hown
      have HX : Hid (VarP wr.heap.size q (wr.alloc (.cells #[.int .i64 q.r, .int .i64 q.a] 117))) := VarP.box wr q
      have HO1 : Hid ((wr.alloc (.cells #[.int .i64 q.r, .int .i64 q.a] 117)).ownsRow w.heap.size 61 2 u3 l.length (htc l)) := HO.out.alloc _
      have HB1 : Hid (Below w.heap.size w (wr.alloc (.cells #[.int .i64 q.r, .int .i64 q.a] 117))) := HB.out.alloc hsz _
      have hzs : (wr.alloc (.cells #[.int .i64 q.r, .int .i64 q.a] 117)).heap.size = wr.heap.size + 1 := by simp
      obtain ⟨c1, c2, _, _, _⟩ := HX.out
      rcases List.eq_nil_or_concat l with hl0 | ⟨l', x, hl0⟩
      · subst hl0
        have hv : ∃ a c, u3 = .slice a 0 c := by
          rcases HO.out.2 with ⟨rfl, _⟩ | ⟨g, cap, cur, rfl, _⟩
          · exact ⟨none, 0, rfl⟩
          · exact ⟨_, cap, rfl⟩
        obtain ⟨va, vc, rfl⟩ := hv
        rw [cntS_nil] at HZ
        have HM : Hid (CE w wr.heap.size q (.slice va 0 vc) [] (wr.alloc (.cells #[.int .i64 q.r, .int .i64 q.a] 117))) := ⟨c1, hsz, by simp, HB1.out, HO1.out⟩
        clear HX hlk HO1 HB1 HO HB
        go_wp2_with fail
        go_quiet (fail)
        have HM : Hid _ := CE.step HM.out (below_drewN (Below.refl _ _) nq)
        clear c1 c2
        generalize ((wr.alloc (.cells #[.int .i64 q.r, .int .i64 q.a] 117)).drewN nq) = W1 at *
        have c1 := HM.out.c
        have hs3 := HM.out.b.size
        go_wp2_with (at_builtin; refine wpList_append_own _ rfl _ _ 57 rfl w.heap.size 61 i0 (.agg #[.int .i64 0, .int .i64 0]) 2 16 Tryz.underlying57 hi hz0 hz1 hz2 rfl (by decide) _ _ _ rfl (HM.out.o.alloc _) ⟨W1.heap.size, 0, none⟩ 1 1 (htc [⟨q.r, 1⟩]) rfl rfl (news_ht W1 ⟨q.r, 1⟩ 61) (one_ht _) (by simp [maxLen]) (by simp) (by simp; omega) ?_)
        intro v3 w3 ho3 hg3 _
        have HB3 : Hid (Below w.heap.size w w3) := (HM.out.b.alloc hs3 _).grown hg3 (by simp; omega) (fun g hg => (HM.out.o.lt g hg).1)
        have HO3 : Hid (w3.ownsRow w.heap.size 61 2 v3 ([⟨q.r, 1⟩] : List Ht).length (htc ([⟨q.r, 1⟩] : List Ht))) := own_eqP ho3 (by simp) (by simp [htc])
        clear ho3 hg3 HM c1 hs3
        go_wp2
        go_roundw
        case rel => exact ⟨k + 1, ([⟨q.r, 1⟩] : List Ht), by omega, by simp, by go_num, ⟨HZ.out, fun x hx => by rw [List.mem_singleton.1 hx]; show (0 : Int) ≤ 1 ∧ (1 : Int) ≤ _; omega⟩, HO3.out, HB3.out⟩
        case measure => simp [intOf]; omega
      · rw [List.concat_eq_append] at hl0
        subst hl0
        obtain ⟨n, hn⟩ : ∃ n, l'.length = n := ⟨_, rfl⟩
        have hln : (l' ++ [x]).length = n + 1 := by simp [hn]
        obtain ⟨xl, xh⟩ := HLO.out x (by simp)
        rw [hln] at HO HO1 hlk
        have hv : ∃ g c, u3 = .slice (some ⟨g, 0, none⟩) (n + 1) c := by
          rcases HO.out.2 with ⟨_, h0⟩ | ⟨g, cap, cur, rfl, _⟩
          · omega
          · exact ⟨g, cap, rfl⟩
        obtain ⟨vg, vc, rfl⟩ := hv
        have d1 : decide ((0 : Int) < (n : Int) + 1) = true := by simp
        obtain ⟨k0, k1, kf, ks, kb⟩ := own_last hn HO1.out
        have hvl := (HO1.out.lt vg rfl)
        have HM : Hid (CE w wr.heap.size q (.slice (some ⟨vg, 0, none⟩) (n + 1) vc) (l' ++ [x]) (wr.alloc (.cells #[.int .i64 q.r, .int .i64 q.a] 117))) := ⟨c1, hsz, by simp, HB1.out, by rw [hln]; exact HO1.out⟩
        have HLN : Hid _ := hln
        have HN : Hid _ := hn
        clear HX HO HB ks kb kf hln hn
        by_cases hxr : x.r = q.r
        · have j1 : (x.r == q.r) = true := by simpa using hxr
          have HXR : Hid (x.r = q.r) := hxr
          rw [← hxr, cntS_yes] at HZ
          clear hxr
          go_wp2_with fail
          go_quiet (fail)
          have HM : Hid _ := CE.step HM.out (below_drewN (Below.refl _ _) nq)
          clear c1 c2 k0 k1 HO1 HB1 hzs
          generalize ((wr.alloc (.cells #[.int .i64 q.r, .int .i64 q.a] 117)).drewN nq) = W1 at *
          have c1 := HM.out.c
          have hs3 := HM.out.b.size
          have ho1 := HM.out.o
          rw [HLN.out] at ho1
          obtain ⟨k0, k1, kf, ks, kb⟩ := own_last HN.out ho1
          have HKS : Hid _ := ks
          have HKB : Hid _ := kb
          have hw1 : IntKind.i64.wrap (x.o + 1) = x.o + 1 := wraps_i64 _ (by omega) (by omega)
          clear ks kb ho1
          go_wp2
          go_roundw
          case rel => exact ⟨k + 1, l' ++ [⟨x.r, x.o + 1⟩], by omega, by simp [HN.out]; omega, by go_num, ⟨HZ.out, fun y hy => by
            rcases List.mem_append.1 hy with hy | hy
            · have := HLO.out y (by simp [hy]); omega
            · rw [List.mem_singleton.1 hy]; show 0 ≤ x.o + 1 ∧ x.o + 1 ≤ _; omega⟩, by rw [show (l' ++ ([⟨x.r, x.o + 1⟩] : List Ht)).length = n + 1 by simp [HN.out]]; exact HKS.out, HM.out.b.trans HKB.out⟩
          case measure => simp [intOf]; omega
        · have j1 : (x.r == q.r) = false := by simpa using hxr
          rw [cntS_no hxr] at HZ
          clear hxr
          go_wp2_with fail
          go_quiet (fail)
          have HM : Hid _ := CE.step HM.out (below_drewN (Below.refl _ _) nq)
          clear c1 c2 k0 k1 HO1 HB1 hzs
          generalize ((wr.alloc (.cells #[.int .i64 q.r, .int .i64 q.a] 117)).drewN nq) = W1 at *
          have c1 := HM.out.c
          have hs3 := HM.out.b.size
          have HO2 : Hid (W1.ownsRow w.heap.size 61 2 (.slice (some ⟨vg, 0, none⟩) (n + 1) vc) (n + 1) (htc (l' ++ [x]))) := by
            have := HM.out.o
            rw [HLN.out] at this
            exact this
          go_wp2_with (at_builtin; refine wpList_append_own _ rfl _ _ 57 rfl w.heap.size 61 i0 (.agg #[.int .i64 0, .int .i64 0]) 2 16 Tryz.underlying57 hi hz0 hz1 hz2 rfl (by decide) _ _ _ rfl (HO2.out.alloc _) ⟨W1.heap.size, 0, none⟩ 1 1 (htc [⟨q.r, 1⟩]) rfl rfl (news_ht W1 ⟨q.r, 1⟩ 61) (one_ht _) (by simp [maxLen]; omega) (by omega) (by simp; omega) ?_)
          intro v3 w3 ho3 hg3 _
          have HB3 : Hid (Below w.heap.size w w3) := (HM.out.b.alloc hs3 _).grown hg3 (by simp; omega) (fun g hg => (HO2.out.lt g hg).1)
          have HO3 : Hid (w3.ownsRow w.heap.size 61 2 v3 (l' ++ [x] ++ ([⟨q.r, 1⟩] : List Ht)).length (htc (l' ++ [x] ++ ([⟨q.r, 1⟩] : List Ht)))) := own_eqP ho3 (by simp [HN.out]) (by rw [htc_append (l' ++ [x])])
          clear ho3 hg3 HM c1 hs3 HO2
          go_wp2
          go_roundw
          case rel => exact ⟨k + 1, l' ++ [x] ++ [⟨q.r, 1⟩], by omega, by simp [HN.out]; omega, by go_num, ⟨HZ.out, fun y hy => by
            rcases List.mem_append.1 hy with hy | hy
            · have := HLO.out y hy; omega
            · rw [List.mem_singleton.1 hy]; show (0 : Int) ≤ 1 ∧ (1 : Int) ≤ _; omega⟩, HO3.out, HB3.out⟩
          case measure => simp [intOf]; omega
    · have e : l = T := by
        have := hz.out.1
        rw [List.drop_eq_nil_of_le (by omega)] at this
        exact this
      subst e
      go_wp2
      go_ret
      exact ⟨_, rfl, hown.out⟩
end Go.Proofs.YtjgdnainhoipgaaGreatDoor
namespace Go.Proofs.YtjgdnainhoipgaaGreatDoor

/-- the leaf ahead of one, the leaf behind it -/
def ahead (Ls : List (List Pr)) (l : Nat) : List (List Pr) := (Ls.take l).drop (l - 1)
def behind (Ls : List (List Pr)) (l : Nat) : List (List Pr) := (Ls.drop (l + 1)).take 1
theorem ahead_all (Ls : List (List Pr)) (l : Nat) : Ls.take (l - 1) ++ ahead Ls l = Ls.take l := by
  unfold ahead
  have : Ls.take (l - 1) = (Ls.take l).take (l - 1) := by rw [List.take_take, Nat.min_eq_left (by omega)]
  rw [this, List.take_append_drop]
theorem behind_all (Ls : List (List Pr)) (l : Nat) : behind Ls l ++ Ls.drop (l + 2) = Ls.drop (l + 1) := by
  unfold behind
  have : Ls.drop (l + 2) = (Ls.drop (l + 1)).drop 1 := by rw [List.drop_drop]
  rw [this, List.take_append_drop]
theorem ahead_form {Ls : List (List Pr)} {l : Nat} (hl : l < Ls.length) : (ahead Ls l = [] ∧ Ls.take (l - 1) = []) ∨ ∃ p, ahead Ls l = [p] := by
  rcases Nat.eq_zero_or_pos l with rfl | h
  · exact .inl ⟨rfl, rfl⟩
  · refine .inr (List.length_eq_one_iff.1 ?_)
    unfold ahead
    rw [List.length_drop, List.length_take]
    omega
theorem behind_form (Ls : List (List Pr)) (l : Nat) : (behind Ls l = [] ∧ Ls.drop (l + 2) = []) ∨ ∃ q, behind Ls l = [q] := by
  unfold behind
  rcases Nat.lt_or_ge (l + 1) Ls.length with h | h
  · refine .inr (List.length_eq_one_iff.1 ?_)
    rw [List.length_take, List.length_drop]
    omega
  · rw [List.drop_eq_nil_of_le h, List.drop_eq_nil_of_le (by omega)]
    exact .inl ⟨rfl, rfl⟩
theorem window_all {Ls : List (List Pr)} {l : Nat} (hl : l < Ls.length) : Ls = Ls.take (l - 1) ++ (ahead Ls l ++ [Ls[l]] ++ behind Ls l) ++ Ls.drop (l + 2) := by
  have e : Ls.take (l - 1) ++ (ahead Ls l ++ [Ls[l]] ++ behind Ls l) ++ Ls.drop (l + 2) = (Ls.take (l - 1) ++ ahead Ls l) ++ ([Ls[l]] ++ (behind Ls l ++ Ls.drop (l + 2))) := by simp only [List.append_assoc]
  rw [e, ahead_all, behind_all, List.singleton_append, ← List.drop_eq_getElem_cons hl, List.take_append_drop]
/-- how many leaves the window has -/
theorem window_len {Ls : List (List Pr)} {l : Nat} (hl : l < Ls.length) : (ahead Ls l ++ [Ls[l]] ++ behind Ls l).length = min (l + 2) Ls.length - (l - 1) := by
  unfold ahead behind
  simp only [List.length_append, List.length_drop, List.length_take, List.length_singleton]
  omega
/-- the pairs behind a change at a spot -/
def chg (T : Tr) (l j k : Nat) (L nw : List Pr) : List Pr := (T.Ls.take l).flatten ++ (L.take j ++ nw ++ L.drop k) ++ (T.Ls.drop (l + 1)).flatten
/-- the leaves behind a change -/
def chgLs (T : Tr) (l : Nat) (parts : List (List Pr)) : List (List Pr) := T.Ls.take (l - 1) ++ mjoin (ahead T.Ls l ++ parts ++ behind T.Ls l) ++ T.Ls.drop (l + 2)
theorem Cut.changed {T : Tr} {key : ByteArray} {l a b j k : Nat} {L : List Pr} (h : Cut T key l a b L j k) (ok : LsOk T.Ls) {nw : List Pr} (hn : nw = [] ∨ ∃ x, nw = [x] ∧ x.k = key) (hnok : ∀ x ∈ nw, x.Ok)
    {parts : List (List Pr)} (hp : parts.flatten = L.take j ++ nw ++ L.drop k) (hfit : ∀ X ∈ parts, szL X ≤ 1024) (hsum : szL (chg T l j k L nw) ≤ 30000) (hne : chg T l j k L nw ≠ []) :
    LsOk (chgLs T l parts) ∧ (chgLs T l parts).flatten = chg T l j k L nw := by
  obtain ⟨hlt, hL⟩ := List.getElem?_eq_some_iff.1 h.at_
  have hs := h.sorted ok hn
  have e0 := window_all hlt
  rw [hL] at e0
  have okw : LsOk (T.Ls.take (l - 1) ++ (ahead T.Ls l ++ [L] ++ behind T.Ls l) ++ T.Ls.drop (l + 2)) := e0 ▸ ok
  have e1 := ahead_all T.Ls l
  have e2 := behind_all T.Ls l
  have hLm : L ∈ T.Ls := by rw [← hL]; exact List.getElem_mem hlt
  have hok : ∀ x ∈ L.take j ++ nw ++ L.drop k, x.Ok := by
    intro x hx
    rcases List.mem_append.1 hx with hx | hx
    · rcases List.mem_append.1 hx with hx | hx
      · exact ok.ok L hLm x (List.mem_of_mem_take hx)
      · exact hnok x hx
    · exact ok.ok L hLm x (List.mem_of_mem_drop hx)
  have := LsOk.changed okw (ahead_form hlt) (behind_form T.Ls l) hp hfit hok (by rw [e1, e2]; exact hs) (by rw [e1, e2]; exact hsum) (by rw [e1, e2]; exact hne)
  rw [e1, e2] at this
  exact this
end Go.Proofs.YtjgdnainhoipgaaGreatDoor
namespace Go.Proofs.YtjgdnainhoipgaaGreatDoor

theorem leafB_list (L : List Pr) : (leafB L).data.toList = encL L := by unfold leafB; simp
theorem leafB_front (L : List Pr) (j : Nat) : (leafB L).extract 0 (szL (L.take j)) = leafB (L.take j) := by
  apply ByteArray.ext
  apply Array.ext'
  rw [ByteArray.data_extract, Array.toList_extract, leafB_list, leafB_list, List.extract_eq_take_drop]
  have e : encL L = encL (L.take j) ++ encL (L.drop j) := by rw [← encL_append, List.take_append_drop]
  have hl : (encL (L.take j)).length = szL (L.take j) := by rw [← leafB_list, Array.length_toList]; exact leafB_size _
  rw [e, List.drop_zero, Nat.sub_zero, ← hl, List.take_left]
theorem leafB_rest (L : List Pr) (k : Nat) : (leafB L).extract (szL (L.take k)) (leafB L).size = leafB (L.drop k) := by
  apply ByteArray.ext
  apply Array.ext'
  have e : encL L = encL (L.take k) ++ encL (L.drop k) := by rw [← encL_append, List.take_append_drop]
  have hl : (encL (L.take k)).length = szL (L.take k) := by rw [← leafB_list, Array.length_toList]; exact leafB_size _
  have hl2 : (leafB L).size = (encL L).length := by rw [← leafB_list, Array.length_toList]; rfl
  rw [ByteArray.data_extract, Array.toList_extract, leafB_list, leafB_list, List.extract_eq_take_drop, hl2, e, ← hl, List.drop_left, List.length_append, Nat.add_sub_cancel_left, List.take_length]
/-- the text that a changed leaf has -/
theorem leafB_chg (L nw : List Pr) (j k : Nat) : (leafB L).extract 0 (szL (L.take j)) ++ leafB nw ++ (leafB L).extract (szL (L.take k)) (leafB L).size = leafB (L.take j ++ nw ++ L.drop k) := by
  rw [leafB_front, leafB_rest, leafB_append, leafB_append]
end Go.Proofs.YtjgdnainhoipgaaGreatDoor
namespace Go.Proofs.YtjgdnainhoipgaaGreatDoor
open Go.RowKit

theorem parts_any {L : List Pr} (hok : ∀ x ∈ L, x.Ok) (hs : szL L ≤ 1186) (w : World) :
    Calls Tryz.prog 107 #[.string (leafB L)] w fun e w' => ∃ (v : Value) (parts : List (List Pr)), e = .returned v ∧ SRow w.heap.size v (parts.map leafB) w' ∧ parts.flatten = L ∧ (∀ X ∈ parts, szL X ≤ 1024) ∧ 1 ≤ parts.length ∧ parts.length ≤ 2 ∧ Below w.heap.size w w' := by
  by_cases h : szL L ≤ 1024
  · refine (halves_one (leafB L) (by rw [leafB_size]; exact h) w).mono ?_
    rintro e w' ⟨v, rfl, h1, h2⟩
    exact ⟨v, [L], rfl, h1, by simp, fun X hX => by simp at hX; subst hX; exact h, Nat.le_refl _, by simp, h2⟩
  · refine (halves_two (leafB_leaf hok (by omega)) (by rw [leafB_size]; omega) (by rw [leafB_size]; exact hs) w).mono ?_
    rintro e w' ⟨v, j, rfl, hj, h1, h2⟩
    rw [leafB_front, leafB_rest] at h1
    refine ⟨v, [L.take j, L.drop j], rfl, h1, by simp, fun X hX => ?_, by simp, by simp, h2⟩
    simp at hX
    rcases hX with rfl | rfl
    · exact hj.left
    · exact hj.right
end Go.Proofs.YtjgdnainhoipgaaGreatDoor
namespace Go.Proofs.YtjgdnainhoipgaaGreatDoor

/-- from pages P to pages P' -/
structure FitR (V : Pst) (P : List Nat) (V' : Pst) (P' : List Nat) : Prop where
  used : ∀ k, V'.used k = true ↔ (V.used k = true ∧ k ∉ P) ∨ k ∈ P'
  new : ∀ k ∈ P', k ∈ P ∨ V.used k = false
  low : ∀ k ∈ P', 0 < k ∧ k < 2000
  nodup : P'.Nodup
  tx : ∀ k, V.used k = true → V'.tx k = V.tx k
  rp : V'.rp = V.rp
  rn : V'.rn = V.rn
  pre : P'.take P.length = P.take P'.length
section
variable {V V' V'' : Pst} {P P' : List Nat}
theorem FitR.refl (hl : ∀ k ∈ P, 0 < k ∧ k < 2000 ∧ V.used k = true) (hn : P.Nodup) : FitR V P V P := by
  refine ⟨fun k => ?_, fun k hk => .inl hk, fun k hk => ⟨(hl k hk).1, (hl k hk).2.1⟩, hn, fun _ _ => rfl, rfl, rfl, rfl⟩
  by_cases h : k ∈ P
  · simp [h, (hl k h).2.2]
  · simp [h]
theorem FitR.alloc (h : FitR V P V' P') (hle : P.length ≤ P'.length) {k : Nat} (h0 : 0 < k) (hk : k < 2000) (hu : V'.used k = false) : FitR V P (V'.alloc k) (P' ++ [k]) := by
  have hn : k ∉ P' := fun e => by
    have := (h.used k).2 (.inr e)
    rw [hu] at this; cases this
  have hf : k ∈ P ∨ V.used k = false := by
    by_cases e : k ∈ P
    · exact .inl e
    · refine .inr ?_
      cases hq : V.used k
      · rfl
      · have := (h.used k).2 (.inl ⟨hq, e⟩)
        rw [hu] at this; cases this
  have hpk : k ∉ P := by
    -- what was among P is among P' or was given back, and P' is no shorter
    intro e
    have hp := h.pre
    rw [List.take_of_length_le hle] at hp
    exact hn (List.mem_of_mem_take (by rw [hp]; exact e))
  refine ⟨fun j => ?_, fun j hj => ?_, fun j hj => ?_, ?_, fun j hj => ?_, h.rp, h.rn, ?_⟩
  · show (if j = k then true else V'.used j) = true ↔ _
    by_cases e : j = k
    · subst e; simp
    · rw [if_neg e, h.used j]; simp [e]
  · rcases List.mem_append.1 hj with hj | hj
    · exact h.new j hj
    · obtain rfl := List.mem_singleton.1 hj; exact hf
  · rcases List.mem_append.1 hj with hj | hj
    · exact h.low j hj
    · obtain rfl := List.mem_singleton.1 hj; exact ⟨h0, hk⟩
  · rw [List.nodup_append]
    exact ⟨h.nodup, by simp, fun a ha b hb => by obtain rfl := List.mem_singleton.1 hb; exact fun e => hn (e ▸ ha)⟩
  · show (if j = k then zeros else V'.tx j) = _
    by_cases e : j = k
    · subst e
      rcases hf with hf | hf
      · exact absurd hf hpk
      · rw [hj] at hf; cases hf
    · rw [if_neg e]; exact h.tx j hj
  · have hp := h.pre
    rw [List.take_append_of_le_length hle, hp, List.take_of_length_le hle, List.take_of_length_le (by simp; omega)]
/-- the pages that stand behind are given back -/
theorem FitR.cut (h : FitR V P V' P') (n : Nat) (hu : ∀ k, V''.used k = true ↔ V'.used k = true ∧ k ∉ P'.drop n) (ht : V''.tx = V'.tx) (hrp : V''.rp = V'.rp) (hrn : V''.rn = V'.rn) : FitR V P V'' (P'.take n) := by
  have hs : ∀ k, k ∈ P' ↔ k ∈ P'.take n ∨ k ∈ P'.drop n := fun k => by
    conv => lhs; rw [← List.take_append_drop n P']
    exact List.mem_append
  have hd : ∀ k, k ∈ P'.take n → k ∉ P'.drop n := fun k h1 h2 => by
    have := h.nodup
    rw [← List.take_append_drop n P', List.nodup_append] at this
    exact this.2.2 k h1 k h2 rfl
  refine ⟨fun k => ?_, fun k hk => h.new k (List.mem_of_mem_take hk), fun k hk => h.low k (List.mem_of_mem_take hk), h.nodup.sublist (List.take_sublist _ _), fun k hk => by rw [ht]; exact h.tx k hk, hrp.trans h.rp, hrn.trans h.rn, ?_⟩
  · rw [hu k, h.used k]
    constructor
    · rintro ⟨h1 | h1, h2⟩
      · exact .inl h1
      · rcases (hs k).1 h1 with h3 | h3
        · exact .inr h3
        · exact absurd h3 h2
    · rintro (h1 | h1)
      · refine ⟨.inl h1, fun e => ?_⟩
        rcases h.new k ((hs k).2 (.inr e)) with h3 | h3
        · exact h1.2 h3
        · rw [h1.1] at h3; cases h3
      · exact ⟨.inr ((hs k).2 (.inl h1)), hd k h1⟩
  · have hp := h.pre
    rw [List.take_take, Nat.min_comm, ← List.take_take, hp, List.length_take, List.take_take]
end
/-- there is a free page -/
theorem free_page {f : Nat → Bool} : ∀ n, countU f (n + 1) < n → ∃ k, 0 < k ∧ k < n + 1 ∧ f k = false ∧ ∀ j, 0 < j → j < k → f j = true := by
  intro n hn
  have : ∃ k, 0 < k ∧ k < n + 1 ∧ f k = false := by
    apply Classical.byContradiction
    intro hne
    have hall : ∀ k, 0 < k → k < n + 1 → f k = true := fun k h0 hk => by
      cases e : f k
      · exact absurd ⟨k, h0, hk, e⟩ hne
      · rfl
    have hc : ∀ m, m ≤ n → m ≤ countU f (m + 1) := by
      intro m
      induction m with
      | zero => intro _; exact Nat.zero_le _
      | succ m ih =>
        intro hm
        have h1 := ih (by omega)
        rw [countU, hall (m + 1) (by omega) (by omega)]
        simp only [if_true]
        omega
    have := hc n (Nat.le_refl _)
    omega
  obtain ⟨k, hk⟩ := this
  have hind : ∀ k, (0 < k ∧ k < n + 1 ∧ f k = false) → ∃ k, 0 < k ∧ k < n + 1 ∧ f k = false ∧ ∀ j, 0 < j → j < k → f j = true := by
    intro k
    induction k using Nat.strongRecOn with
    | ind k ih =>
      intro hk
      by_cases hj : ∃ j, 0 < j ∧ j < k ∧ f j = false
      · obtain ⟨j, h0, h1, h2⟩ := hj
        exact ih j h1 ⟨h0, by omega, h2⟩
      · refine ⟨k, hk.1, hk.2.1, hk.2.2, fun j h0 h1 => ?_⟩
        cases e : f j
        · exact absurd ⟨j, h0, h1, e⟩ hj
        · rfl
  exact hind k hk
theorem countU_put (f : Nat → Bool) (k : Nat) : ∀ n, countU (fun i => if i = k then true else f i) n ≤ countU f n + 1
  | 0 => Nat.zero_le _
  | n + 1 => by
    have ih := countU_put f k n
    rw [countU, countU]
    by_cases e : n = k
    · subst e
      have : countU (fun i => if i = n then true else f i) n = countU f n := countU_like n (fun j hj => if_neg (by omega))
      rw [this]
      simp only [if_true]
      omega
    · simp only [if_neg e]
      omega
theorem countU_nil : ∀ n, countU (fun _ => false) n = 0
  | 0 => rfl
  | n + 1 => by rw [countU, countU_nil n]; rfl
/-- as many pages are in use as a list has that lists them -/
theorem countU_list {f : Nat → Bool} {n : Nat} : ∀ {S : List Nat}, S.Nodup → (∀ k ∈ S, k < n) → (∀ k, k < n → (f k = true ↔ k ∈ S)) → countU f n = S.length := by
  intro S
  induction S generalizing f with
  | nil =>
    intro _ _ h
    rw [countU_like (g := fun _ => false) n (fun k hk => by cases e : f k; rfl; exact absurd ((h k hk).1 e) (by simp)), countU_nil]
    rfl
  | cons x S ih =>
    intro hn hl h
    have hx : x < n := hl x (by simp)
    have hxs : x ∉ S := (List.nodup_cons.1 hn).1
    have e1 := ih (f := fun k => if k = x then false else f k) (List.nodup_cons.1 hn).2 (fun k hk => hl k (by simp [hk])) (fun k hk => by
      show (if k = x then false else f k) = true ↔ _
      by_cases e : k = x
      · subst e; simp [hxs]
      · rw [if_neg e, h k hk]; simp [e])
    have hc : ∀ m, countU f m = countU (fun k => if k = x then false else f k) m + (if x < m then 1 else 0) := by
      intro m
      induction m with
      | zero => rfl
      | succ m ihm =>
        rw [countU, countU, ihm]
        by_cases e : m = x
        · subst e
          have : f m = true := (h m hx).2 (by simp)
          rw [this]
          simp
        · simp only [if_neg e]
          by_cases e2 : x < m
          · rw [show (if x < m then 1 else 0) = (1 : Nat) from if_pos e2, show (if x < m + 1 then 1 else 0) = (1 : Nat) from if_pos (by omega)]; omega
          · rw [show (if x < m then 1 else 0) = (0 : Nat) from if_neg e2, show (if x < m + 1 then 1 else 0) = (0 : Nat) from if_neg (by omega)]; omega
    rw [hc n, e1, if_pos hx, List.length_cons]
end Go.Proofs.YtjgdnainhoipgaaGreatDoor
namespace Go.Proofs.YtjgdnainhoipgaaGreatDoor

/-- a tree's pages -/
def Tr.pgL (T : Tr) : List Nat := (if T.top = 0 then [] else [T.top]) ++ T.ks
/-- texts that are written so far -/
structure WrR (V1 : Pst) (P : List Nat) (txs : List ByteArray) (i : Nat) (V2 : Pst) : Prop where
  used : V2.used = V1.used
  rp : V2.rp = V1.rp
  rn : V2.rn = V1.rn
  tx : ∀ j, j < i → ∀ (h1 : j < P.length) (h2 : j < txs.length), V2.tx P[j] = pad txs[j]
  keep : ∀ k, (∀ j, j < i → ∀ h : j < P.length, P[j] ≠ k) → V2.tx k = V1.tx k
theorem WrR.refl (V1 : Pst) (P : List Nat) (txs : List ByteArray) : WrR V1 P txs 0 V1 := ⟨rfl, rfl, rfl, fun _ hj => absurd hj (Nat.not_lt_zero _), fun _ _ => rfl⟩
theorem WrR.step {V1 V2 : Pst} {P : List Nat} {txs : List ByteArray} {i : Nat} (h : WrR V1 P txs i V2) (hn : P.Nodup) (h1 : i < P.length) (h2 : i < txs.length) : WrR V1 P txs (i + 1) (V2.write P[i] (pad txs[i])) := by
  refine ⟨h.used, h.rp, h.rn, fun j hj a b => ?_, fun k hk => ?_⟩
  · show (if P[j] = P[i] then pad txs[i] else V2.tx P[j]) = _
    by_cases e : j = i
    · subst e; rw [if_pos rfl]
    · have : P[j] ≠ P[i] := fun e2 => e ((List.getElem_inj hn).1 e2)
      rw [if_neg this]
      exact h.tx j (by omega) a b
  · show (if k = P[i] then pad txs[i] else V2.tx k) = _
    rw [if_neg (fun e => hk i (by omega) h1 e.symm)]
    exact h.keep k (fun j hj hl => hk j (by omega) hl)
/-- a tree in place of another -/
structure LayR (V V' : Pst) (r : Nat) (T T' : Tr) : Prop where
  at_ : TrAt V' r T'
  used : ∀ k, V'.used k = true ↔ (V.used k = true ∧ k ∉ T.pgL) ∨ k ∈ T'.pgL
  new : ∀ k ∈ T'.pgL, k ∈ T.pgL ∨ V.used k = false
  tx : ∀ k, V.used k = true → k ∉ T.pgL → V'.tx k = V.tx k
  rp : ∀ i, i ≠ r → V'.rp i = V.rp i
  rn : ∀ i, i ≠ r → V'.rn i = V.rn i
theorem TrAt.lay {V V1 V2 : Pst} {r f t : Nat} {T : Tr} {M : List (List Pr)} {P' : List Nat} (hA : TrAt V r T) (hft : f ≤ t) (ht : t ≤ T.ks.length) (hok : LsOk (T.Ls.take f ++ M ++ T.Ls.drop t)) (hm : M ≠ [] ∨ (f = 0 ∧ t = T.ks.length))
    {tops : Nat} (htops : tops = if 1 < T.ks.length - (t - f) + M.length then 1 else 0)
    (hF : FitR V ((if T.top = 0 then [] else [T.top]) ++ (T.ks.drop f).take (t - f)) V1 P') (hlen : P'.length = tops + M.length)
    (hW : WrR V1 P' ((if tops = 1 then [topB (T.ks.take f ++ P'.drop tops ++ T.ks.drop t)] else []) ++ M.map leafB) P'.length V2) :
    LayR V (V2.setRoot r (P'.headD 0 : Nat) (szL (T.Ls.take f ++ M ++ T.Ls.drop t).flatten : Nat)) r T ⟨if tops = 1 then P'.headD 0 else 0, T.ks.take f ++ P'.drop tops ++ T.ks.drop t, T.Ls.take f ++ M ++ T.Ls.drop t⟩ := by
  have hl := hA.len
  have hsplit : T.ks = T.ks.take f ++ ((T.ks.drop f).take (t - f) ++ T.ks.drop t) := by
    have e : T.ks.drop t = (T.ks.drop f).drop (t - f) := by rw [List.drop_drop]; congr 1; omega
    rw [e, List.take_append_drop, List.take_append_drop]
  have hnd := hA.nodup
  rw [hsplit, List.nodup_append] at hnd
  obtain ⟨nd1, nd2, nd3⟩ := hnd
  rw [List.nodup_append] at nd2
  obtain ⟨nd4, nd5, nd6⟩ := nd2
  -- what is laid anew is apart from the other leaves
  have hap : ∀ k ∈ P', k ∉ T.ks.take f ∧ k ∉ T.ks.drop t := by
    intro k hk
    rcases hF.new k hk with h | h
    · rcases List.mem_append.1 h with h | h
      · by_cases h0 : T.top = 0
        · rw [if_pos h0] at h; simp at h
        · rw [if_neg h0] at h
          obtain rfl := List.mem_singleton.1 h
          have := (hA.ltop h0).2.2.2
          exact ⟨fun e => this (List.mem_of_mem_take e), fun e => this (List.mem_of_mem_drop e)⟩
      · exact ⟨fun e => nd3 k e k (List.mem_append.2 (.inl h)) rfl, fun e => nd6 k h k e rfl⟩
    · refine ⟨fun e => ?_, fun e => ?_⟩
      · have := (hA.low k (List.mem_of_mem_take e)).2.2; rw [h] at this; cases this
      · have := (hA.low k (List.mem_of_mem_drop e)).2.2; rw [h] at this; cases this
  have hPnot : ∀ k, k ∈ T.ks.take f ∨ k ∈ T.ks.drop t → k ∉ (if T.top = 0 then [] else [T.top]) ++ (T.ks.drop f).take (t - f) := by
    intro k hk h
    rcases List.mem_append.1 h with h | h
    · by_cases h0 : T.top = 0
      · rw [if_pos h0] at h; simp at h
      · rw [if_neg h0] at h
        obtain rfl := List.mem_singleton.1 h
        have := (hA.ltop h0).2.2.2
        rcases hk with e | e
        · exact this (List.mem_of_mem_take e)
        · exact this (List.mem_of_mem_drop e)
    · rcases hk with e | e
      · exact nd3 k e k (List.mem_append.2 (.inl h)) rfl
      · exact nd6 k h k e rfl
  have hmem : ∀ k, k ∈ T.ks.take f ∨ k ∈ T.ks.drop t → k ∈ T.ks := fun k hk => by
    rcases hk with e | e
    · exact List.mem_of_mem_take e
    · exact List.mem_of_mem_drop e
  have hkeep : ∀ k, k ∉ P' → V.used k = true → V2.tx k = V.tx k := fun k hk hu => by
    rw [hW.keep k (fun j _ h e => hk (e ▸ List.getElem_mem h)), hF.tx k hu]
  have hus : ∀ k, V2.used k = true ↔ (V.used k = true ∧ k ∉ (if T.top = 0 then [] else [T.top]) ++ (T.ks.drop f).take (t - f)) ∨ k ∈ P' := fun k => by rw [hW.used]; exact hF.used k
  have hP'pos : ∀ k ∈ P', 0 < k ∧ k < 2000 := hF.low
  have ht01 : tops = 0 ∨ tops = 1 := by rw [htops]; split <;> simp
  have hdl : (P'.drop tops).length = M.length := by rw [List.length_drop]; omega
  have hLlen : (T.Ls.take f ++ M ++ T.Ls.drop t).length = f + M.length + (T.ks.length - t) := by
    rw [List.length_append, List.length_append, List.length_take, List.length_drop]; omega
  have htopne : tops = 1 → P' ≠ [] := fun e h => by rw [h] at hlen; simp at hlen; omega
  have hhead : ∀ h : P' ≠ [], P'.headD 0 = P'[0]'(List.length_pos_iff.2 h) := fun h => by
    cases P' with
    | nil => exact absurd rfl h
    | cons a b => rfl
  have hdropm : ∀ k, k ∈ P'.drop tops → k ∈ P' := fun k h => List.mem_of_mem_drop h
  refine ⟨⟨?_, hok, ?_, ?_, ?_, ?_, ?_, ?_, ?_⟩, ?_, ?_, ?_, ?_, ?_⟩
  · -- len
    show (T.ks.take f ++ P'.drop tops ++ T.ks.drop t).length = _
    rw [hLlen, List.length_append, List.length_append, hdl, List.length_take, List.length_drop]; omega
  · -- rn
    show (if r = r then _ else _) = _
    rw [if_pos rfl]; rfl
  · -- rp
    show (if r = r then _ else _) = _
    rw [if_pos rfl]
    rcases ht01 with e | e
    · simp only [e, Nat.zero_ne_one, if_false, if_true, List.drop_zero]
      have hsmall : ¬ 1 < T.ks.length - (t - f) + M.length := fun h => by rw [if_pos h] at htops; omega
      rw [e] at hlen
      rcases hm with h | ⟨rfl, rfl⟩
      · have hmp := List.length_pos_iff.2 h
        have hf0 : f = 0 := by omega
        have htl : t = T.ks.length := by omega
        subst hf0 htl
        simp
      · simp
    · have h1 := htopne e
      simp only [e, if_true]
      have := hP'pos (P'.headD 0) (by rw [hhead h1]; exact List.getElem_mem _)
      rw [if_neg (by omega)]
  · -- top0
    show (if tops = 1 then P'.headD 0 else 0) = 0 ↔ _
    rw [hLlen]
    rcases ht01 with e | e
    · rw [if_neg (by omega)]
      have hsmall : ¬ 1 < T.ks.length - (t - f) + M.length := fun h => by rw [if_pos h] at htops; omega
      exact ⟨fun _ => by omega, fun _ => rfl⟩
    · have h1 := htopne e
      have := hP'pos (P'.headD 0) (by rw [hhead h1]; exact List.getElem_mem _)
      have hbig : 1 < T.ks.length - (t - f) + M.length := by
        apply Classical.byContradiction
        intro h
        rw [if_neg h] at htops; omega
      rw [if_pos e]
      exact ⟨fun h => by omega, fun h => by omega⟩
  · -- ltop
    show (if tops = 1 then P'.headD 0 else 0) ≠ 0 → _
    intro h
    have e : tops = 1 := by
      rcases ht01 with e | e
      · rw [if_neg (by omega)] at h; exact absurd rfl h
      · exact e
    have h1 := htopne e
    have hin : P'.headD 0 ∈ P' := by rw [hhead h1]; exact List.getElem_mem _
    simp only [if_pos e]
    refine ⟨(hP'pos _ hin).2, (hus _).2 (.inr hin), ?_, ?_⟩
    · show V2.tx (P'.headD 0) = _
      rw [hhead h1]
      have := hW.tx 0 (List.length_pos_iff.2 h1) (List.length_pos_iff.2 h1) (by rw [if_pos e]; simp)
      rw [this]
      congr 1
      simp only [if_pos e, List.singleton_append, List.getElem_cons_zero]
    · have hx := hap _ hin
      simp only [List.mem_append, not_or]
      refine ⟨⟨hx.1, fun h2 => ?_⟩, hx.2⟩
      rw [hhead h1, e] at h2
      obtain ⟨j, hj, he⟩ := List.getElem_of_mem h2
      rw [List.getElem_drop] at he
      have := (List.getElem_inj hF.nodup).1 he
      omega
  · -- low
    show ∀ k ∈ T.ks.take f ++ P'.drop tops ++ T.ks.drop t, _
    intro k hk
    simp only [List.mem_append] at hk
    rcases hk with (hk | hk) | hk
    · have h1 := hA.low k (hmem k (.inl hk))
      exact ⟨h1.1, h1.2.1, (hus k).2 (.inl ⟨h1.2.2, hPnot k (.inl hk)⟩)⟩
    · have h1 := hP'pos k (hdropm k hk)
      exact ⟨h1.1, h1.2, (hus k).2 (.inr (hdropm k hk))⟩
    · have h1 := hA.low k (hmem k (.inr hk))
      exact ⟨h1.1, h1.2.1, (hus k).2 (.inl ⟨h1.2.2, hPnot k (.inr hk)⟩)⟩
  · -- page
    show ∀ i (hi : i < (T.ks.take f ++ P'.drop tops ++ T.ks.drop t).length) (hl : i < (T.Ls.take f ++ M ++ T.Ls.drop t).length), V2.tx (T.ks.take f ++ P'.drop tops ++ T.ks.drop t)[i] = pad (leafB (T.Ls.take f ++ M ++ T.Ls.drop t)[i])
    intro i hi hl2
    have lf : (T.ks.take f).length = f := by rw [List.length_take]; omega
    have lf2 : (T.Ls.take f).length = f := by rw [List.length_take]; omega
    rcases Nat.lt_or_ge i f with h1 | h1
    · rw [List.getElem_append_left (by rw [List.length_append, lf]; omega), List.getElem_append_left (by rw [lf]; exact h1), List.getElem_append_left (by rw [List.length_append, lf2]; omega), List.getElem_append_left (by rw [lf2]; exact h1)]
      have hk : (T.ks.take f)[i]'(by rw [lf]; exact h1) ∈ T.ks.take f := List.getElem_mem _
      rw [hkeep _ (fun e => (hap _ e).1 hk) (hA.low _ (hmem _ (.inl hk))).2.2]
      rw [List.getElem_take, List.getElem_take]
      exact hA.page i (by omega) (by omega)
    · rcases Nat.lt_or_ge i (f + M.length) with h2 | h2
      · rw [List.getElem_append_left (by rw [List.length_append, lf, hdl]; exact h2), List.getElem_append_right (by rw [lf]; exact h1), List.getElem_append_left (by rw [List.length_append, lf2]; exact h2), List.getElem_append_right (by rw [lf2]; exact h1)]
        simp only [lf, lf2, List.getElem_drop]
        have hj : tops + (i - f) < P'.length := by omega
        have hj2 : tops + (i - f) < ((if tops = 1 then [topB (T.ks.take f ++ P'.drop tops ++ T.ks.drop t)] else []) ++ M.map leafB).length := by
          rw [List.length_append, List.length_map]
          rcases ht01 with e | e
          · rw [if_neg (by omega)]; simp; omega
          · rw [if_pos e]; simp; omega
        rw [hW.tx _ hj hj hj2]
        congr 1
        rcases ht01 with e | e
        · simp [e]
        · simp only [e, if_true]
          rw [List.getElem_append_right (by simp)]
          simp
      · rw [List.getElem_append_right (by rw [List.length_append, lf, hdl]; exact h2), List.getElem_append_right (by rw [List.length_append, lf2]; exact h2)]
        have hk : (T.ks.drop t)[i - (T.ks.take f ++ P'.drop tops).length]'(by rw [List.length_append, lf, hdl, List.length_drop]; rw [List.length_append, List.length_append, lf, hdl, List.length_drop] at hi; omega) ∈ T.ks.drop t := List.getElem_mem _
        rw [hkeep _ (fun e => (hap _ e).2 hk) (hA.low _ (hmem _ (.inr hk))).2.2]
        simp only [List.getElem_drop, List.length_append, lf, lf2, hdl]
        exact hA.page _ (by rw [List.length_append, List.length_append, lf, hdl, List.length_drop] at hi; omega) (by rw [List.length_append, List.length_append, lf, hdl, List.length_drop] at hi; omega)
  · -- nodup
    show (T.ks.take f ++ P'.drop tops ++ T.ks.drop t).Nodup
    rw [List.nodup_append, List.nodup_append]
    refine ⟨⟨nd1, hF.nodup.sublist (List.drop_sublist _ _), fun a ha b hb e => (hap b (hdropm b hb)).1 (e ▸ ha)⟩, nd5, fun a ha b hb e => ?_⟩
    subst e
    rcases List.mem_append.1 ha with ha | ha
    · exact nd3 a ha a (List.mem_append.2 (.inr hb)) rfl
    · exact (hap a (hdropm a ha)).2 hb
  · -- used
    intro k
    show V2.used k = true ↔ _
    rw [hus k]
    have hT : k ∈ T.pgL ↔ (k ∈ (if T.top = 0 then [] else [T.top]) ++ (T.ks.drop f).take (t - f)) ∨ k ∈ T.ks.take f ∨ k ∈ T.ks.drop t := by
      unfold Tr.pgL
      conv => lhs; rw [hsplit]
      simp only [List.mem_append]
      constructor
      · rintro (h | h | h | h)
        · exact .inl (.inl h)
        · exact .inr (.inl h)
        · exact .inl (.inr h)
        · exact .inr (.inr h)
      · rintro ((h | h) | h | h)
        · exact .inl h
        · exact .inr (.inr (.inl h))
        · exact .inr (.inl h)
        · exact .inr (.inr (.inr h))
    have hT' : k ∈ Tr.pgL ⟨if tops = 1 then P'.headD 0 else 0, T.ks.take f ++ P'.drop tops ++ T.ks.drop t, T.Ls.take f ++ M ++ T.Ls.drop t⟩ ↔ k ∈ P' ∨ k ∈ T.ks.take f ∨ k ∈ T.ks.drop t := by
      unfold Tr.pgL
      rcases ht01 with e | e
      · simp only [e, Nat.zero_ne_one, if_false, if_true, List.nil_append, List.drop_zero, List.mem_append]
        constructor
        · rintro ((h | h) | h)
          · exact .inr (.inl h)
          · exact .inl h
          · exact .inr (.inr h)
        · rintro (h | h | h)
          · exact .inl (.inr h)
          · exact .inl (.inl h)
          · exact .inr h
      · have h1 := htopne e
        have hin : P'.headD 0 ∈ P' := by rw [hhead h1]; exact List.getElem_mem _
        have hpos := (hP'pos _ hin).1
        simp only [e, if_true]
        rw [if_neg (by omega)]
        have hc : k ∈ P' ↔ k = P'.headD 0 ∨ k ∈ P'.drop 1 := by
          cases P' with
          | nil => exact absurd rfl h1
          | cons a b => simp
        rw [hc]
        simp only [List.mem_append, List.mem_singleton]
        constructor
        · rintro (h | (h | h) | h)
          · exact .inl (.inl h)
          · exact .inr (.inl h)
          · exact .inl (.inr h)
          · exact .inr (.inr h)
        · rintro ((h | h) | h | h)
          · exact .inl h
          · exact .inr (.inl (.inr h))
          · exact .inr (.inl (.inl h))
          · exact .inr (.inr h)
    rw [hT, hT']
    constructor
    · rintro (⟨h1, h2⟩ | h)
      · by_cases h3 : k ∈ T.ks.take f ∨ k ∈ T.ks.drop t
        · exact .inr (.inr h3)
        · exact .inl ⟨h1, fun h => h.elim h2 h3⟩
      · exact .inr (.inl h)
    · rintro (⟨h1, h2⟩ | h | h)
      · exact .inl ⟨h1, fun h => h2 (.inl h)⟩
      · exact .inr h
      · exact .inl ⟨(hA.low k (hmem k h)).2.2, hPnot k h⟩
  · -- new
    intro k hk
    have hk2 : k ∈ P' ∨ k ∈ T.ks.take f ∨ k ∈ T.ks.drop t := by
      unfold Tr.pgL at hk
      rcases ht01 with e | e
      · simp only [e, Nat.zero_ne_one, if_false, if_true, List.nil_append, List.drop_zero, List.mem_append] at hk
        rcases hk with (h | h) | h
        · exact .inr (.inl h)
        · exact .inl h
        · exact .inr (.inr h)
      · have h1 := htopne e
        have hin : P'.headD 0 ∈ P' := by rw [hhead h1]; exact List.getElem_mem _
        have hpos := (hP'pos _ hin).1
        simp only [e, if_true] at hk
        rw [if_neg (by omega)] at hk
        simp only [List.mem_append, List.mem_singleton] at hk
        rcases hk with h | (h | h) | h
        · exact .inl (h ▸ hin)
        · exact .inr (.inl h)
        · exact .inl (List.mem_of_mem_drop h)
        · exact .inr (.inr h)
    rcases hk2 with h | h
    · rcases hF.new k h with h | h
      · refine .inl ?_
        unfold Tr.pgL
        rcases List.mem_append.1 h with h | h
        · exact List.mem_append.2 (.inl h)
        · exact List.mem_append.2 (.inr (List.mem_of_mem_drop (List.mem_of_mem_take h)))
      · exact .inr h
    · exact .inl (List.mem_append.2 (.inr (hmem k h)))
  · -- tx
    intro k hu hk
    show V2.tx k = V.tx k
    refine hkeep k (fun e => ?_) hu
    rcases hF.new k e with h | h
    · refine hk ?_
      unfold Tr.pgL
      rcases List.mem_append.1 h with h | h
      · exact List.mem_append.2 (.inl h)
      · exact List.mem_append.2 (.inr (List.mem_of_mem_drop (List.mem_of_mem_take h)))
    · rw [hu] at h; cases h
  · intro i hi
    show (if i = r then _ else V2.rp i) = _
    rw [if_neg hi, hW.rp, hF.rp]
  · intro i hi
    show (if i = r then _ else V2.rn i) = _
    rw [if_neg hi, hW.rn, hF.rn]
end Go.Proofs.YtjgdnainhoipgaaGreatDoor
