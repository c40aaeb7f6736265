/- The contract of the document's sorted. -/
import Derived.Test.YtalfjdpdecngoaaPSetM
namespace Go.Proofs.Ytalfjdpdecngoaa
open Go.RowKit

set_option maxRecDepth 100000 in
set_option maxHeartbeats 4000000 in
theorem sorted_any (B0 : Nat) (v : Value) (xs : List Pl) (w : World) (hown : w.ownsRow B0 25 2 v xs.length (plc xs)) (hB : B0 ≤ w.heap.size) (hl : xs.length ≤ 100000) :
    Calls Try.prog 25 #[v] w fun e w' => ∃ v' T, e = .returned v' ∧ w'.ownsRow B0 25 2 v' T.length (plc T) ∧ (T.Pairwise LtP ∧ (∀ x, x ∈ T ↔ x ∈ xs) ∧ T.length ≤ xs.length) ∧ Below B0 w w' := by
  have st := stoodPl
  have gd := guardPl
  obtain ⟨i0, hi, hz0, hz1, hz2⟩ := pinfo_parts infoPl
  obtain ⟨p, c, rfl, _, _⟩ := rowP_of_own hown (by omega)
  have hc := sort_call B0 p c xs w hown hB hl
  clear hown
  go_enter Try.func25, Try.ntmps25
  go_wp2_with fail
  refine hc.mono ?_
  rintro e w2 ⟨rfl, ys, ⟨y1, y2, y3⟩, hr, hcell, hsz, hb2⟩
  go_wp2
  clear hc
  have HT : Hid ((onceP none ys).Pairwise LtP ∧ (∀ x, x ∈ onceP none ys ↔ x ∈ xs) ∧ (onceP none ys).length ≤ xs.length) := by
    obtain ⟨t1, t2⟩ := onceP_all y2
    exact ⟨t1, fun x => by rw [t2, y3], by rw [← y1]; exact onceP_le ys none⟩
  obtain ⟨T, hT⟩ : ∃ T, onceP none ys = T := ⟨_, rfl⟩
  have HS : Hid (onceP (prevP ys 0) (ys.drop 0) = T) := hT
  rw [hT] at HT
  have HB2 : Hid (Below B0 w w2) := hb2
  clear hT y2 y3 hb2
  obtain ⟨_, hm, hx⟩ := hr
  rw [← y1]
  rw [← y1] at hcell
  have hs2 : B0 ≤ w2.heap.size := by omega
  rw [← y1] at hl
  clear y1
  go_loopw [3, 12] (fun v i wr => ∃ (k : Nat) (l : List Pl), k ≤ ys.length ∧ l.length ≤ k ∧ i = .int .i64 k ∧ Hid (l ++ onceP (prevP ys k) (ys.drop k) = T) ∧ Hid (wr.ownsRow w2.heap.size 25 2 v l.length (plc l) ∧ Below w2.heap.size w2 wr)) (fun _ i _ => ys.length - (intOf i).toNat)
  case atStart => exact ⟨0, [], Nat.zero_le _, by simp, rfl, HS, World.ownsRow_nil _ _ _ _, Below.refl _ _⟩
  case round =>
    clear HS
    obtain ⟨k, l, hk, hlk, rfl, hz, hown⟩ := hrel
    by_cases hlt : k < ys.length
    · rcases hx with hx | ⟨b, off, rfl, hb, hrow⟩
      · simp [hx] at hlt
      obtain ⟨g1, g2⟩ := hrow k hlt
      have hcr := hcell
      rw [← hown.out.2.cell (p := ⟨b, _, none⟩) hb] at g1 g2
      rw [← hown.out.2.cell (p := ⟨w.heap.size, _, none⟩) hsz] at hcr
      have i1 : (k : Int) < (ys.length : Int) := by omega
      have HZ : Hid (l ++ ((if prevP ys k = some ys[k] then [] else [ys[k]]) ++ onceP (prevP ys (k + 1)) (ys.drop (k + 1))) = T) := by
        show _ = _
        rw [← hz.out, onceP_step hlt]
      have HB : Hid (Below w2.heap.size w2 wr) := hown.out.2
      have HO : Hid (wr.ownsRow w2.heap.size 25 2 u3 l.length (plc l)) := hown.out.1
      have HLK : Hid (l.length ≤ k) := hlk
      clear hown hz
      by_cases hk0 : k = 0
      · subst hk0
        have HZ2 : Hid ((l ++ [ys[0]]) ++ onceP (prevP ys (0 + 1)) (ys.drop (0 + 1)) = T) := by
          show _ = _
          rw [← HZ.out, if_neg (by simp [prevP]), List.append_assoc]
        clear HZ hrow
        simp only [Nat.zero_mul, Nat.add_zero] at g1 g2
        generalize ys[0] = q at *
        have HA : Hid (Below wr.heap.size wr (wr.alloc (.cells #[.int .i64 q.r, .int .i64 q.a] 25))) := (Below.refl _ _).alloc (Nat.le_refl _) _
        go_wp2
        go_quiet (fail)
        have HBq : Hid (Below w2.heap.size w2 ((wr.alloc (.cells #[.int .i64 q.r, .int .i64 q.a] 25)).drewN nq)) := below_drewN (HB.out.trans (HA.out.mono HB.out.size)) _
        have HOq : Hid (((wr.alloc (.cells #[.int .i64 q.r, .int .i64 q.a] 25)).drewN nq).ownsRow w2.heap.size 25 2 u3 l.length (plc l)) := own_belowP HO.out (below_drewN HA.out _)
        obtain ⟨k1, k2, _, _, _⟩ := VarP.below (VarP.box wr q) (below_drewN (Below.refl _ _) nq)
        clear HA HO HB
        generalize (wr.alloc (.cells #[.int .i64 q.r, .int .i64 q.a] 25)).drewN nq = wq at *
        have hsq := HBq.out.size
        go_wp2_with (at_builtin; refine wpList_append_own _ rfl _ _ 22 rfl w2.heap.size 25 i0 (.agg #[.int .i64 0, .int .i64 0]) 2 16 Try.underlying22 hi hz0 hz1 hz2 rfl (by decide) _ _ _ rfl (HOq.out.alloc _) ⟨wq.heap.size, 0, none⟩ 1 1 (plc [q]) rfl rfl (news_pl wq q 25) (one_pl q) (by simp [maxLen]; omega) (by omega) (by simp; omega) ?_)
        intro v3 w3 ho3 hg3 _
        have HB3 : Hid (Below w2.heap.size w2 w3) := (HBq.out.alloc (by omega) _).grown hg3 (by simp; omega) (fun g hg => (HOq.out.lt g hg).1)
        have HO3 : Hid (w3.ownsRow w2.heap.size 25 2 v3 (l ++ [q]).length (plc (l ++ [q]))) := own_eqP ho3 (by simp) (by rw [plc_append])
        clear ho3 hg3 HOq HBq k1 k2
        go_wp2
        go_roundw
        case rel => exact ⟨0 + 1, l ++ [q], by omega, by have := HLK.out; simp only [List.length_append, List.length_cons, List.length_nil]; omega, by go_num, HZ2, HO3.out, HB3.out⟩
        case measure => simp [intOf]; omega
      · obtain ⟨j, rfl⟩ : ∃ j, k = j + 1 := ⟨k - 1, by omega⟩
        obtain ⟨g3, g4⟩ := hrow j (by omega)
        clear hrow
        rw [← HB.out.cell (p := ⟨b, _, none⟩) hb] at g3 g4
        have HZ2 : Hid (l ++ ((if ys[j] = ys[j + 1] then [] else [ys[j + 1]]) ++ onceP (prevP ys (j + 1 + 1)) (ys.drop (j + 1 + 1))) = T) := by
          show _ = _
          rw [← HZ.out, prevP_succ (by omega : j < ys.length)]
          simp only [Option.some.injEq]
        clear HZ
        generalize ys[j + 1] = q at *
        generalize ys[j] = p at *
        have HA : Hid (Below wr.heap.size wr (wr.alloc (.cells #[.int .i64 q.r, .int .i64 q.a] 25))) := (Below.refl _ _).alloc (Nat.le_refl _) _
        have q3 : (wr.alloc (.cells #[.int .i64 q.r, .int .i64 q.a] 25)).cell? ⟨b, off + j * 2, none⟩ = some (.int .i64 p.r) := by rw [HA.out.cell (p := ⟨b, _, none⟩) (Nat.lt_of_lt_of_le hb HB.out.size)]; exact g3
        have q4 : (wr.alloc (.cells #[.int .i64 q.r, .int .i64 q.a] 25)).cell? ⟨b, off + j * 2 + 1, none⟩ = some (.int .i64 p.a) := by rw [HA.out.cell (p := ⟨b, _, none⟩) (Nat.lt_of_lt_of_le hb HB.out.size)]; exact g4
        have q5 : (wr.alloc (.cells #[.int .i64 q.r, .int .i64 q.a] 25)).cell? ⟨w.heap.size, 0, none⟩ = some (.slice (some ⟨b, off, none⟩) ys.length c) := by rw [HA.out.cell (p := ⟨w.heap.size, _, none⟩) (Nat.lt_of_lt_of_le hsz HB.out.size)]; exact hcr
        have i2 : (j : Int) < (ys.length : Int) := by omega
        have i3 : ((j : Int) + 1 == 0) = false := by simp; omega
        clear g3 g4 hcr
        by_cases hpq : p = q
        · subst hpq
          have HZ3 : Hid (l ++ onceP (prevP ys (j + 1 + 1)) (ys.drop (j + 1 + 1)) = T) := by
            have h := HZ2.out
            rw [if_pos rfl] at h
            exact h
          clear HZ2
          go_wp2
          go_quiet (fail)
          have HBq : Hid (Below w2.heap.size w2 ((wr.alloc (.cells #[.int .i64 p.r, .int .i64 p.a] 25)).drewN nq)) := below_drewN (HB.out.trans (HA.out.mono HB.out.size)) _
          have HOq : Hid (((wr.alloc (.cells #[.int .i64 p.r, .int .i64 p.a] 25)).drewN nq).ownsRow w2.heap.size 25 2 u3 l.length (plc l)) := own_belowP HO.out (below_drewN HA.out _)
          clear HA HO HB q3 q4 q5
          go_wp2
          go_roundw
          case rel => exact ⟨j + 1 + 1, l, by omega, by have := HLK.out; omega, by go_num, HZ3, HOq.out, HBq.out⟩
          case measure => simp [intOf]; omega
        · have HZ3 : Hid ((l ++ [q]) ++ onceP (prevP ys (j + 1 + 1)) (ys.drop (j + 1 + 1)) = T) := by
            have h := HZ2.out
            rw [if_neg hpq] at h
            show _ = _
            rw [List.append_assoc]; exact h
          clear HZ2
          have hd : ((p.r == q.r) = false ∧ True) ∨ ((p.r == q.r) = true ∧ (p.a == q.a) = false) := by
            by_cases e1 : p.r = q.r
            · refine .inr ⟨by simpa using e1, ?_⟩
              have e2 : p.a ≠ q.a := fun e2 => hpq (by obtain ⟨_, _⟩ := p; obtain ⟨_, _⟩ := q; simp at e1 e2; simp [e1, e2])
              simpa using e2
            · exact .inl ⟨by simpa using e1, trivial⟩
          clear hpq
          rcases hd with ⟨m1, _⟩ | ⟨m1, m2⟩
          · go_wp2
            go_quiet (fail)
            have HBq : Hid (Below w2.heap.size w2 ((wr.alloc (.cells #[.int .i64 q.r, .int .i64 q.a] 25)).drewN nq)) := below_drewN (HB.out.trans (HA.out.mono HB.out.size)) _
            have HOq : Hid (((wr.alloc (.cells #[.int .i64 q.r, .int .i64 q.a] 25)).drewN nq).ownsRow w2.heap.size 25 2 u3 l.length (plc l)) := own_belowP HO.out (below_drewN HA.out _)
            obtain ⟨k1, k2, _, _, _⟩ := VarP.below (VarP.box wr q) (below_drewN (Below.refl _ _) nq)
            clear HA HO HB
            generalize (wr.alloc (.cells #[.int .i64 q.r, .int .i64 q.a] 25)).drewN nq = wq at *
            have hsq := HBq.out.size
            go_wp2_with (at_builtin; refine wpList_append_own _ rfl _ _ 22 rfl w2.heap.size 25 i0 (.agg #[.int .i64 0, .int .i64 0]) 2 16 Try.underlying22 hi hz0 hz1 hz2 rfl (by decide) _ _ _ rfl (HOq.out.alloc _) ⟨wq.heap.size, 0, none⟩ 1 1 (plc [q]) rfl rfl (news_pl wq q 25) (one_pl q) (by simp [maxLen]; omega) (by omega) (by simp; omega) ?_)
            intro v3 w3 ho3 hg3 _
            have HB3 : Hid (Below w2.heap.size w2 w3) := (HBq.out.alloc (by omega) _).grown hg3 (by simp; omega) (fun g hg => (HOq.out.lt g hg).1)
            have HO3 : Hid (w3.ownsRow w2.heap.size 25 2 v3 (l ++ [q]).length (plc (l ++ [q]))) := own_eqP ho3 (by simp) (by rw [plc_append])
            clear ho3 hg3 HOq HBq k1 k2
            go_wp2
            go_roundw
            case rel => exact ⟨j + 1 + 1, l ++ [q], by omega, by have := HLK.out; simp only [List.length_append, List.length_cons, List.length_nil]; omega, by go_num, HZ3, HO3.out, HB3.out⟩
            case measure => simp [intOf]; omega
          · go_wp2
            go_quiet (fail)
            have HBq : Hid (Below w2.heap.size w2 ((wr.alloc (.cells #[.int .i64 q.r, .int .i64 q.a] 25)).drewN nq)) := below_drewN (HB.out.trans (HA.out.mono HB.out.size)) _
            have HOq : Hid (((wr.alloc (.cells #[.int .i64 q.r, .int .i64 q.a] 25)).drewN nq).ownsRow w2.heap.size 25 2 u3 l.length (plc l)) := own_belowP HO.out (below_drewN HA.out _)
            obtain ⟨k1, k2, _, _, _⟩ := VarP.below (VarP.box wr q) (below_drewN (Below.refl _ _) nq)
            clear HA HO HB
            generalize (wr.alloc (.cells #[.int .i64 q.r, .int .i64 q.a] 25)).drewN nq = wq at *
            have hsq := HBq.out.size
            go_wp2_with (at_builtin; refine wpList_append_own _ rfl _ _ 22 rfl w2.heap.size 25 i0 (.agg #[.int .i64 0, .int .i64 0]) 2 16 Try.underlying22 hi hz0 hz1 hz2 rfl (by decide) _ _ _ rfl (HOq.out.alloc _) ⟨wq.heap.size, 0, none⟩ 1 1 (plc [q]) rfl rfl (news_pl wq q 25) (one_pl q) (by simp [maxLen]; omega) (by omega) (by simp; omega) ?_)
            intro v3 w3 ho3 hg3 _
            have HB3 : Hid (Below w2.heap.size w2 w3) := (HBq.out.alloc (by omega) _).grown hg3 (by simp; omega) (fun g hg => (HOq.out.lt g hg).1)
            have HO3 : Hid (w3.ownsRow w2.heap.size 25 2 v3 (l ++ [q]).length (plc (l ++ [q]))) := own_eqP ho3 (by simp) (by rw [plc_append])
            clear ho3 hg3 HOq HBq k1 k2
            go_wp2
            go_roundw
            case rel => exact ⟨j + 1 + 1, l ++ [q], by omega, by have := HLK.out; simp only [List.length_append, List.length_cons, List.length_nil]; omega, by go_num, HZ3, HO3.out, HB3.out⟩
            case measure => simp [intOf]; omega
    · have e : l = T := by
        have h := hz.out
        rw [List.drop_eq_nil_of_le (by omega)] at h
        simpa [onceP] using h
      subst e
      go_wp2
      go_ret
      exact ⟨_, rfl, l, own_monoP hown.out.1 (by omega), HT.out, HB2.out.trans (hown.out.2.mono (by omega))⟩
end Go.Proofs.Ytalfjdpdecngoaa
