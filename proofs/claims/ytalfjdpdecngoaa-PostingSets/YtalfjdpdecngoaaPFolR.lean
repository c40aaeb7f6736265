/- The contract of the document's Follow. -/
import Derived.Test.YtalfjdpdecngoaaPSpec
namespace Go.Proofs.Ytalfjdpdecngoaa
open Go.RowKit

theorem news_pl2 (w : World) (o : Obj) (q : Pl) : ∀ j u, (plc [q])[j]? = some u → ((w.alloc o).alloc (.cells #[.int .i64 q.r, .int .i64 q.a] 25)).cell? ((⟨w.heap.size + 1, 0, none⟩ : Addr).add j) = some u := by
  have h := news_pl (w.alloc o) q 25
  rw [show (w.alloc o).heap.size = w.heap.size + 1 by simp] at h
  exact h

set_option maxRecDepth 100000 in
set_option maxHeartbeats 4000000 in
theorem refFollow_any (hS : SortedSpec) (v1 v2 : Value) (xs ys : List Pl) (w : World) (h1 : InP w v1 xs) (h2 : InP w v2 ys) (hl1 : xs.length ≤ 100) (hl2 : ys.length ≤ 100) (hk1 : ∀ z ∈ xs, OkP z) :
    Calls Try.prog 14 #[v1, v2] w fun e w' => ∃ v' T, e = .returned v' ∧ w'.ownsRow w.heap.size 25 2 v' T.length (plc T) ∧ (T.Pairwise LtP ∧ (∀ x, x ∈ T ↔ x ∈ crossL folO ys xs) ∧ T.length ≤ 10000) ∧ Below w.heap.size w w' := by
  obtain ⟨i0, hi, hz0, hz1, hz2⟩ := pinfo_parts infoPl
  obtain ⟨a1, c1, rfl, _, ⟨_, _, hx⟩, _⟩ := h1
  obtain ⟨a2, c2, rfl, _, ⟨_, _, hy⟩, _⟩ := h2
  have HS : Hid SortedSpec := hS
  have HK : Hid (∀ z ∈ xs, OkP z) := hk1
  obtain ⟨F, hF⟩ : ∃ F, crossL folO ys xs = F := ⟨_, rfl⟩
  have hFl : F.length ≤ 10000 := by
    rw [← hF]
    refine Nat.le_trans (crossL_le folO ys xs) (Nat.le_trans (Nat.mul_le_mul hl2 hl1) ?_)
    decide
  have HF : Hid (crossL folO (ys.drop 0) xs = F) := hF
  rw [hF]
  clear hS hk1 hF
  go_enter Try.func14, Try.ntmps14
  go_wp2
  go_loopw [5, 12] (fun v i wr => ∃ (k : Nat) (l : List Pl), k ≤ ys.length ∧ i = .int .i64 k ∧ Hid (l ++ crossL folO (ys.drop k) xs = F) ∧ Hid (wr.ownsRow w.heap.size 25 2 v l.length (plc l) ∧ Below w.heap.size w wr)) (fun _ i _ => ys.length - (intOf i).toNat)
  case atStart => exact ⟨0, [], Nat.zero_le _, rfl, HF, World.ownsRow_nil _ _ _ _, Below.refl _ _⟩
  case round =>
    clear HF
    obtain ⟨k, l, hk, rfl, hz, hown⟩ := hrel
    by_cases hkl : k < ys.length
    · rcases hy with hy | ⟨b2, o2, rfl, hb2, hrow2⟩
      · simp [hy] at hkl
      obtain ⟨g1, g2⟩ := hrow2 k hkl
      clear hrow2
      rw [← hown.out.2.cell (p := ⟨b2, _, none⟩) hb2] at g1 g2
      have HZ : Hid (l ++ ((xs.drop 0).filterMap (folO ys[k]) ++ crossL folO (ys.drop (k + 1)) xs) = F) := by
        show _ = _
        rw [← hz.out, cross_outer folO xs hkl]
      have i1 : (k : Int) < (ys.length : Int) := by omega
      generalize ys[k] = q at *
      obtain ⟨R, hR⟩ : ∃ R, crossL folO (ys.drop (k + 1)) xs = R := ⟨_, rfl⟩
      rw [hR] at HZ
      have HR : Hid (crossL folO (ys.drop (k + 1)) xs = R) := hR
      have HB : Hid (Below w.heap.size w wr) := hown.out.2
      have HO : Hid (wr.ownsRow w.heap.size 25 2 u5 l.length (plc l)) := hown.out.1
      have HA : Hid (Below wr.heap.size wr (wr.alloc (.cells #[.int .i64 q.r, .int .i64 q.a] 25))) := (Below.refl _ _).alloc (Nat.le_refl _) _
      have HV : Hid (VarP wr.heap.size q (wr.alloc (.cells #[.int .i64 q.r, .int .i64 q.a] 25))) := VarP.box wr q
      clear hown hz hR
      have hsw := HB.out.size
      go_wp2
      obtain ⟨wo, rfl⟩ : ∃ wo, wo = wr := ⟨_, rfl⟩
      obtain ⟨vo, rfl⟩ : ∃ vo, vo = u5 := ⟨_, rfl⟩
      go_loopw [5, 18] (fun v i wi => ∃ (j : Nat) (m : List Pl), j ≤ xs.length ∧ i = .int .i64 j ∧ Hid (m ++ ((xs.drop j).filterMap (folO q) ++ R) = F) ∧ Hid (wi.ownsRow w.heap.size 25 2 v m.length (plc m) ∧ Gr (wo.alloc (.cells #[.int .i64 q.r, .int .i64 q.a] 25)) wi vo v)) (fun _ i _ => xs.length - (intOf i).toNat)
      case atStart => exact ⟨0, l, Nat.zero_le _, rfl, HZ, own_belowP HO.out HA.out, Gr.refl _ _⟩
      case round =>
        clear HZ
        obtain ⟨j, m, hj, rfl, hz, hown⟩ := hrel
        have hmF : m.length ≤ F.length := by rw [← hz.out]; simp
        have hv := VarP.gr HV.out hown.out.2 (own_ne HO.out _ (.inr (Nat.le_refl _)))
        obtain ⟨q1, q2, _, _, hvl⟩ := hv
        have HBi : Hid (Below w.heap.size w wr) := (HB.out.trans (HA.out.mono HB.out.size)).trans (Gr.below hown.out.2 (fun k e => (HO.out.lt k e).1) (by simp; omega))
        have hsi := HBi.out.size
        have HOi : Hid (wr.ownsRow w.heap.size 25 2 u5 m.length (plc m)) := hown.out.1
        have HG : Hid (Gr (wo.alloc (.cells #[.int .i64 q.r, .int .i64 q.a] 25)) wr vo u5) := hown.out.2
        clear hown
        by_cases hjl : j < xs.length
        · rcases hx with hx | ⟨b1, o1, rfl, hb1, hrow1⟩
          · simp [hx] at hjl
          obtain ⟨g3, g4⟩ := hrow1 j hjl
          clear hrow1
          rw [← HBi.out.cell (p := ⟨b1, _, none⟩) hb1] at g3 g4
          have i2 : (j : Int) < (xs.length : Int) := by omega
          obtain ⟨ok1, ok2, ok3, ok4⟩ := HK.out xs[j] (List.getElem_mem hjl)
          have HY : Hid (∀ x, folO q xs[j] = some x → m ++ ([x] ++ ((xs.drop (j + 1)).filterMap (folO q) ++ R)) = F) := fun x e => by
            rw [← hz.out, cross_yes hjl e, List.append_assoc]
          have HN : Hid (folO q xs[j] = none → m ++ ((xs.drop (j + 1)).filterMap (folO q) ++ R) = F) := fun e => by
            rw [← hz.out, cross_no hjl e]
          clear hz
          generalize xs[j] = p at *
          have k1 : (wr.alloc (.cells #[.int .i64 p.r, .int .i64 p.a] 25)).cell? ⟨wo.heap.size, 0, none⟩ = some (.int .i64 q.r) := by rw [World.cell?_alloc_lt _ _ _ (by exact hvl)]; exact q1
          have k2 : (wr.alloc (.cells #[.int .i64 p.r, .int .i64 p.a] 25)).cell? ⟨wo.heap.size, 1, none⟩ = some (.int .i64 q.a) := by rw [World.cell?_alloc_lt _ _ _ (by exact hvl)]; exact q2
          clear q1 q2
          by_cases m1 : p.r = q.r
          · have j1 : (p.r == q.r) = true := by simpa using m1
            by_cases m2 : q.a = p.a + 1
            · have j2 : (q.a == p.a + 1) = true := by simpa using m2
              have HY2 : Hid ((m ++ [q]) ++ ((xs.drop (j + 1)).filterMap (folO q) ++ R) = F) := by
                show _ = _
                rw [List.append_assoc]
                exact HY.out q (by rw [folO, if_pos ⟨m1, m2⟩])
              clear HY HN m1 m2
              go_wp2_with (at_builtin; refine wpList_append_lies _ rfl _ _ 22 rfl w.heap.size 25 i0 (.agg #[.int .i64 0, .int .i64 0]) 2 16 Try.underlying22 hi hz0 hz1 hz2 rfl (by decide) _ _ _ rfl ((HOi.out.alloc _).alloc _) ⟨wr.heap.size + 1, 0, none⟩ 1 1 (plc [q]) rfl rfl (news_pl2 wr _ q) (one_pl q) (by decide) (by simp [maxLen]; omega) (by omega) (by simp; omega) _ rfl ?_)
              intro g cap w1 hown' hgrow hg _
              have HG1 : Hid (Gr (wo.alloc (.cells #[.int .i64 q.r, .int .i64 q.a] 25)) w1 vo (.slice (some ⟨g, 0, none⟩) (m.length + 1) cap)) := HG.out.trans (Gr.alloc _ (Gr.alloc _ ⟨hgrow, fun k hk => by
                have e : g = k := by simpa [own_slice] using hk
                subst e
                rcases hg with h | h
                · exact .inl h
                · exact .inr (by rw [h]; simp)⟩))
              have HO1 : Hid (w1.ownsRow w.heap.size 25 2 (.slice (some ⟨g, 0, none⟩) (m.length + 1) cap) (m ++ [q]).length (plc (m ++ [q]))) := own_eqP hown' (by simp) (by rw [plc_append])
              clear hown' hgrow hg k1 k2 HOi HG
              go_wp2
              go_roundw
              case rel => exact ⟨j + 1, m ++ [q], by omega, by go_num, HY2, HO1.out, HG1.out⟩
              case measure => simp [intOf]; omega
            · have j2 : (q.a == p.a + 1) = false := by simpa using m2
              have HN2 : Hid _ := HN.out (by rw [folO, if_neg (fun h => m2 h.2)])
              clear HY HN m1 m2
              go_wp2
              go_roundw
              case rel => exact ⟨j + 1, m, by omega, by go_num, HN2, HOi.out.alloc _, Gr.more HG.out _⟩
              case measure => simp [intOf]; omega
          · have j1 : (p.r == q.r) = false := by simpa using m1
            have HN2 : Hid _ := HN.out (by rw [folO, if_neg (fun h => m1 h.1)])
            clear HY HN m1
            go_wp2
            go_roundw
            case rel => exact ⟨j + 1, m, by omega, by go_num, HN2, HOi.out.alloc _, Gr.more HG.out _⟩
            case measure => simp [intOf]; omega
        · have HE : Hid (m ++ R = F) := by
            show _ = _
            have h := hz.out
            rw [List.drop_eq_nil_of_le (by omega)] at h
            exact h
          clear hz q1 q2
          go_wp2
          go_roundw
          case rel => exact ⟨k + 1, m, by omega, by go_num, by rw [HR.out]; exact HE, HOi.out, HBi.out⟩
          case measure => simp [intOf]; omega
    · have e : l = F := by
        have h := hz.out
        rw [List.drop_eq_nil_of_le (by omega), crossL_nil, List.append_nil] at h
        exact h
      subst e
      have HO : Hid (wr.ownsRow w.heap.size 25 2 u5 l.length (plc l)) := hown.out.1
      have HB : Hid (Below w.heap.size w wr) := hown.out.2
      clear hown hz
      go_wp2_with fail
      refine (HS.out w.heap.size u5 l _ HO.out HB.out.size (by omega)).mono ?_
      rintro _ w6 ⟨v6, T, rfl, ho6, ⟨t1, t2, t3⟩, hb6⟩
      have HO6 : Hid (w6.ownsRow w.heap.size 25 2 v6 T.length (plc T) ∧ (T.Pairwise LtP ∧ (∀ x, x ∈ T ↔ x ∈ l) ∧ T.length ≤ 10000)) := ⟨ho6, t1, t2, by omega⟩
      have HB6 : Hid (Below w.heap.size w w6) := HB.out.trans hb6
      clear ho6 t1 t2 t3 hb6 HO HB
      go_wp2
      go_ret
      exact ⟨_, T, rfl, HO6.out.1, HO6.out.2, HB6.out⟩
end Go.Proofs.Ytalfjdpdecngoaa
