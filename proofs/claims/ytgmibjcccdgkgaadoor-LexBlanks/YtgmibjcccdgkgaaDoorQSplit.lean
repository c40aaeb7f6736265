/- The program's Split. -/
import Derived.Test.YtgmibjcccdgkgaaDoorQShelf
import Derived.Test.YtgmibjcccdgkgaaDoorLLaw
import Derived.Deep.CutBlock
import Derived.Deep.AppendLies
import Derived.Deep.DeepCutAuto
namespace Go.Proofs.YtgmibjcccdgkgaaDoor
open Go.RowKit

theorem infoLTok : (Tryd.prog.info? 35).map (fun i => (i.zero, i.size, i.bytes)) = some (some (.agg #[.int .i64 0, .string ⟨#[]⟩, .int .i64 0]), 3, 32) := by kernel_rfl
theorem VarsAt.below {w w' : World} (h : VarsAt w) (hb : Below w.heap.size w w') : VarsAt w' := ⟨h.1.below hb, h.2.below hb⟩
theorem err_at {w w1 : World} (e : Int) (p : Nat) (hb : Below w.heap.size w w1) : ErrIs (.iface 59 (.pointer (some ⟨w1.heap.size, 0, none⟩))) e (p : Int) (w1.alloc (.cells #[.int .i64 e, .int .i64 (p : Int)] 60)) ∧ Below w.heap.size w (w1.alloc (.cells #[.int .i64 e, .int .i64 (p : Int)] 60)) :=
  ⟨.inr (.inl ⟨_, rfl, by simp [go_sem], by simp [go_sem]⟩), hb.alloc hb.size _⟩

set_option maxRecDepth 100000 in
set_option maxHeartbeats 16000000 in
theorem split_any : LSplitSpec := by
  intro s w hs hv
  obtain ⟨i0, hi, hz0, hz1, hz2⟩ := info_parts infoLTok
  have HV : Hid (VarsAt w) := hv
  obtain ⟨R, hR⟩ : ∃ R, lexS s = R := ⟨_, rfl⟩
  obtain ⟨f0, hf0⟩ := lx_skip s.size (by omega) (by rw [← hR]; exact lx_start s : Lx s R 0 s.size [])
  obtain ⟨E0, hE0⟩ : ∃ E0, endW blankC s 0 = E0 := ⟨_, rfl⟩
  have HN : Hid (∀ h : E0 < s.size, blankC s[E0] = false) := by
    show ∀ h : E0 < s.size, blankC s[E0] = false
    subst hE0
    exact fun h => endW_not s.size (by omega) h
  have hE0l : E0 ≤ s.size := by rw [← hE0]; exact endW_le (Nat.zero_le _)
  rw [hE0] at hf0
  have HR : Hid (Lx s R E0 f0 []) := hf0
  have HE0 : Hid (endW blankC s 0 = E0) := hE0
  show Calls _ _ _ _ fun e w' => SplitTo s w e w'
  unfold SplitTo
  rw [hR]
  clear hR hv hf0 hE0
  go_enter Tryd.func6, Tryd.ntmps6
  go_wp2_with fail
  refine (blanks_any s E0 HE0.out _ (by omega)).mono ?_
  rintro _ wq ⟨rfl, rfl⟩
  clear HE0
  go_wp2
  go_loopw [4, 5] (fun v iv wr => ∃ (i f : Nat) (L : List Tok), i ≤ s.size ∧ L.length ≤ 200 ∧ iv = .int .i64 i ∧ Hid (Lx s R i f L ∧ ∀ h : i < s.size, blankC s[i] = false) ∧ Hid (wr.ownsRow wq.heap.size 35 3 v L.length (tc L)) ∧ Hid (Below wq.heap.size wq wr)) (fun _ iv _ => s.size - (intOf iv).toNat)
  case atStart => exact ⟨E0, f0, [], hE0l, Nat.zero_le _, rfl, ⟨HR.out, HN.out⟩, World.ownsRow_nil _ _ _ _, Below.refl _ _⟩
  case round =>
    clear HR HN hE0l
    obtain ⟨i, f, L, hi1, hLi, rfl, HX, HO, HB⟩ := hrel
    obtain ⟨wo, rfl⟩ : ∃ wo, wo = wr := ⟨_, rfl⟩
    obtain ⟨vo, rfl⟩ : ∃ vo, vo = u4 := ⟨_, rfl⟩
    obtain ⟨a4, n4, c4, rfl⟩ : ∃ a n c, vo = .slice a n c := by
      rcases HO.out.2 with ⟨rfl, _⟩ | ⟨g, cap, cur, rfl, _⟩
      · exact ⟨none, 0, 0, rfl⟩
      · exact ⟨_, _, cap, rfl⟩
    have hn4 : n4 = L.length := by
      rcases HO.out.2 with ⟨e, h0⟩ | ⟨g, cap, cur, e, _⟩
      · cases e; exact h0.symm
      · cases e; rfl
    subst hn4
    have hsw := HB.out.size
    by_cases hlt : i < s.size
    · obtain ⟨f', rfl⟩ := lx_more HX.out.1 hlt
      have hlt' : (i : Int) < (s.size : Int) := by omega
      have hbl := HX.out.2 hlt
      have hdr : (s.extract i s.size).data.toList = s[i] :: s.data.toList.drop (i + 1) := by rw [drop_all, drop_at s i hlt]
      have hexs : 0 < (s.extract i s.size).size := by simp; omega
      have HVo : Hid (VarsAt wo) := HV.out.below HB.out
      cases hnx : nextT (s[i] :: s.data.toList.drop (i + 1)) with
      | none =>
        skip
        as_aux_lemma =>
          obtain ⟨K, hK⟩ : ∃ K, (firstT (s.extract i s.size).data.toList).1 = K := ⟨_, rfl⟩
          have HF : Hid (firstT (s.extract i s.size).data.toList = (K, 0)) := by
            show _ = _
            rw [← hK]
            have := first_none hnx
            rw [← hdr] at this
            exact Prod.ext rfl this
          have HE : Hid (R = .error (3, i)) := lx_none HX.out.1 hlt hbl hnx
          clear HX HO hbl hdr hnx hK
          go_wp2_with fail
          refine (first_any _ K 0 HF.out _ hexs (by simp; omega) HVo.out.1).mono ?_
          rintro _ w1 ⟨rfl, rfl⟩
          go_wp2_with fail
          refine (wrong_any K 0 L.length _).mono ?_
          rintro _ w2 ⟨rfl, rfl⟩
          rw [if_pos rfl]
          go_wp2
          go_ret2
          have he := err_at 3 i HB.out
          exact ⟨none, 0, 0, _, rfl, .inl ⟨3, i, HE.out, rfl, he.1⟩, he.2⟩
      | some y =>
        obtain ⟨K, t, m⟩ := y
        have hfs := first_some hnx
        have hp := nextT_pos hnx
        rw [List.length_cons, List.length_drop, ba_len] at hp
        have HF : Hid (firstT (s.extract i s.size).data.toList = (K, m)) := by show _ = _; rw [hdr]; exact hfs.1
        by_cases hlim : (K = 2 ∧ 19 < m) ∨ L.length = 200
        · skip
          as_aux_lemma =>
            have HE : Hid (R = .error (4, i)) := lx_lim HX.out.1 hlt hbl hnx hlim
            have hif : (if m = 0 then (3 : Int) else if (K = 2 ∧ 19 < m) ∨ 200 ≤ L.length then 4 else 0) = 4 := by rw [if_neg (by omega), if_pos (by omega)]
            have HIf : Hid ((if m = 0 then (3 : Int) else if (K = 2 ∧ 19 < m) ∨ 200 ≤ L.length then 4 else 0) = 4) := hif
            clear HX HO hbl hdr hnx hfs hlim hif
            go_wp2_with fail
            refine (first_any _ K m HF.out _ hexs (by simp; omega) HVo.out.1).mono ?_
            rintro _ w1 ⟨rfl, rfl⟩
            go_wp2_with fail
            refine (wrong_any K m L.length _).mono ?_
            rintro _ w2 ⟨rfl, rfl⟩
            rw [HIf.out]
            go_wp2
            go_ret2
            have he := err_at 4 i HB.out
            exact ⟨none, 0, 0, _, rfl, .inl ⟨4, i, HE.out, rfl, he.1⟩, he.2⟩
        · skip
          as_aux_lemma =>
            have hlk := lx_tok HX.out.1 hlt hbl hnx hlim
            have hif : (if m = 0 then (3 : Int) else if (K = 2 ∧ 19 < m) ∨ 200 ≤ L.length then 4 else 0) = 0 := by rw [if_neg (by omega), if_neg (by omega)]
            have HIf : Hid ((if m = 0 then (3 : Int) else if (K = 2 ∧ 19 < m) ∨ 200 ≤ L.length then 4 else 0) = 0) := hif
            have hL2 : L.length < 200 := by omega
            obtain ⟨b, hb⟩ : ∃ b, s.extract i (i + m) = b := ⟨_, rfl⟩
            have HBx : Hid (s.extract i (i + m) = b) := hb
            have hbs : b.size = m := by rw [← hb]; simp; omega
            have hbd : b.data.toList = (s[i] :: s.data.toList.drop (i + 1)).take m := by
              rw [← hb, ba_extract, List.drop_take, drop_at s i hlt, show i + m - i = m by omega]
            obtain ⟨tb, htb⟩ : ∃ tb, (⟨t.toArray⟩ : ByteArray) = tb := ⟨_, rfl⟩
            have HTx : Hid ((⟨(textT K b.data.toList).toArray⟩ : ByteArray) = tb) := by show _ = _; rw [hbd, hfs.2.1]; exact htb
            have HK3 : Hid (K = 3 → 2 ≤ b.size) := by
              show K = 3 → 2 ≤ b.size
              rw [hbs]; exact hfs.2.2.1
            rw [htb] at hlk
            obtain ⟨g0, hg0⟩ := lx_skip (s.size - (i + m)) rfl hlk.1
            obtain ⟨j, hj⟩ : ∃ j, endW blankC s (i + m) = j := ⟨_, rfl⟩
            have hji : i + m ≤ j := by rw [← hj]; exact endW_ge _ _ _
            have hjs : j ≤ s.size := by rw [← hj]; exact endW_le hlk.2.1
            have HX2 : Hid (Lx s R j g0 (L ++ [⟨K, tb, i⟩]) ∧ ∀ h : j < s.size, blankC s[j] = false) := by
              show _ ∧ _
              subst hj
              exact ⟨hg0, fun h => endW_not _ rfl h⟩
            have HEn : Hid (endW blankC (s.extract (i + m) s.size) 0 = j - (i + m)) := by
              show _ = _
              have := endW_tail blankC s (i + m)
              omega
            have hm1 : 0 < m := hp.1
            have him : i + m ≤ s.size := hlk.2.1
            clear HX hbl hdr hnx hfs hlim hif hlk hp hbd hb htb hg0 hj
            go_wp2_with fail
            refine (first_any _ K m HF.out _ hexs (by simp; omega) HVo.out.1).mono ?_
            rintro _ w1 ⟨rfl, rfl⟩
            go_wp2_with fail
            refine (wrong_any K m L.length _).mono ?_
            rintro _ w2 ⟨rfl, rfl⟩
            rw [HIf.out]
            have hin : ((i : Int) + (m : Int)).toNat = i + m := by omega
            go_wp2_with fail
            rw [HBx.out]
            refine (text_any clone_ok rep_ok K b _ HK3.out (by omega) HVo.out.2).mono ?_
            rintro _ w3 ⟨rfl, hb3⟩
            rw [HTx.out]
            have HB3 : Hid (Below wq.heap.size wq w3) := HB.out.trans (hb3.mono hsw)
            have HO3 : Hid (w3.ownsRow wq.heap.size 35 3 (.slice a4 L.length c4) L.length (tc L)) := own_below HO.out hb3
            have hsw3 := HB3.out.size
            clear hb3 HB HO
            go_wp2_with (at_builtin; refine wpList_append_own _ rfl _ _ 28 rfl wq.heap.size 35 i0 (.agg #[.int .i64 0, .string ⟨#[]⟩, .int .i64 0]) 3 32 Tryd.underlying28 hi hz0 hz1 hz2 rfl (by decide) _ _ _ rfl (HO3.out.alloc _) ⟨w3.heap.size, 0, none⟩ 1 1 (tc [⟨K, tb, i⟩]) rfl rfl (news_tok w3 ⟨K, tb, i⟩ 35) (one_tok _) (by simp [maxLen]; omega) (by omega) (by simp; omega) ?_)
            intro v4 w4 ho4 hg4 _
            have HB4 : Hid (Below wq.heap.size wq w4) := (HB3.out.alloc hsw3 _).grown hg4 (by simp; omega) (fun g hg => (HO3.out.lt g hg).1)
            have HO4 : Hid (w4.ownsRow wq.heap.size 35 3 v4 (L ++ [(⟨K, tb, i⟩ : Tok)]).length (tc (L ++ [(⟨K, tb, i⟩ : Tok)]))) := own_eq ho4 (by simp) (by rw [tc_append])
            clear ho4 hg4 HB3 HO3
            go_wp2_with fail
            refine (blanks_any _ (j - (i + m)) HEn.out _ (by simp; omega)).mono ?_
            rintro _ w5 ⟨rfl, rfl⟩
            go_wp2
            go_roundw
            case rel => exact ⟨j, g0, L ++ [⟨K, tb, i⟩], hjs, by simp; omega, by go_num, HX2, HO4, HB4⟩
            case measure => simp [intOf]; omega
    · skip
      as_aux_lemma =>
        obtain rfl : i = s.size := by omega
        have hlt' : ¬ ((s.size : Int) < (s.size : Int)) := by omega
        have HF : Hid (R = .ok (L ++ [⟨5, ⟨#[]⟩, s.size⟩])) := lx_end HX.out.1
        clear HX
        go_wp2_with (at_builtin; refine wpList_append_own _ rfl _ _ 28 rfl wq.heap.size 35 i0 (.agg #[.int .i64 0, .string ⟨#[]⟩, .int .i64 0]) 3 32 Tryd.underlying28 hi hz0 hz1 hz2 rfl (by decide) _ _ _ rfl (HO.out.alloc _) ⟨wo.heap.size, 0, none⟩ 1 1 (tc [⟨5, ⟨#[]⟩, s.size⟩]) rfl rfl (news_tok wo ⟨5, ⟨#[]⟩, s.size⟩ 35) (one_tok _) (by simp [maxLen]; omega) (by omega) (by simp; omega) ?_)
        intro v3 w3 ho3 hg3 _
        have HB3 : Hid (Below wq.heap.size wq w3) := (HB.out.alloc hsw _).grown hg3 (by simp; omega) (fun g hg => (HO.out.lt g hg).1)
        have HO3 : Hid (w3.ownsRow wq.heap.size 35 3 v3 (L ++ [(⟨5, ⟨#[]⟩, s.size⟩ : Tok)]).length (tc (L ++ [(⟨5, ⟨#[]⟩, s.size⟩ : Tok)]))) := own_eq ho3 (by simp) (by rw [tc_append])
        clear ho3 hg3
        go_wp2
        go_ret2
        obtain ⟨a, c, e, hrow⟩ := rowT_of_own HO3.out (by simp; omega)
        subst e
        exact ⟨a, _, c, _, rfl, .inr ⟨_, HF.out, rfl, hrow, rfl⟩, HB3.out⟩
end Go.Proofs.YtgmibjcccdgkgaaDoor
