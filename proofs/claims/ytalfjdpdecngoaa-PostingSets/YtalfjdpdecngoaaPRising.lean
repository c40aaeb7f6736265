/- The contract of the document's rising. -/
import Derived.Test.YtalfjdpdecngoaaPSorted3
namespace Go.Proofs.Ytalfjdpdecngoaa
open Go.RowKit

theorem news_int (w : World) (x : Int) : ∀ j u, [Value.int .i64 x][j]? = some u → (w.alloc (.cells #[.int .i64 x] 3)).cell? ((⟨w.heap.size, 0, none⟩ : Addr).add j) = some u := cell_one_new w (.int .i64 x) 3

set_option maxRecDepth 100000 in
set_option maxHeartbeats 4000000 in
theorem rising_any (B0 : Nat) (v : Value) (xs : List Int) (w : World) (hown : w.ownsRow B0 3 1 v xs.length (icc xs)) (hB : B0 ≤ w.heap.size) (hl : xs.length ≤ 100000) :
    Calls Try.prog 29 #[v] w fun e w' => ∃ v' T, e = .returned v' ∧ w'.ownsRow B0 3 1 v' T.length (icc T) ∧ (T.Pairwise (· < ·) ∧ (∀ x, x ∈ T ↔ x ∈ xs) ∧ T.length ≤ xs.length) ∧ Below B0 w w' := by
  obtain ⟨i0, hi, hz0, hz1, hz2⟩ := pinfo_parts infoInt
  obtain ⟨p, c, rfl, _⟩ := rowI_of_own hown (by omega)
  have hc := ints_call B0 p c xs w hown hB hl
  clear hown
  go_enter Try.func29, Try.ntmps29
  go_wp2_with fail
  refine hc.mono ?_
  rintro e w2 ⟨rfl, ys, ⟨y1, y2, y3⟩, hr, hb2⟩
  go_wp2
  clear hc
  have HT : Hid ((onceI none ys).Pairwise (· < ·) ∧ (∀ x, x ∈ onceI none ys ↔ x ∈ xs) ∧ (onceI none ys).length ≤ xs.length) := by
    obtain ⟨t1, t2⟩ := onceI_all y2
    exact ⟨t1, fun x => by rw [t2, y3], by rw [← y1]; exact onceI_le ys none⟩
  obtain ⟨T, hT⟩ : ∃ T, onceI none ys = T := ⟨_, rfl⟩
  have HS : Hid (onceI (prevI ys 0) (ys.drop 0) = T) := hT
  rw [hT] at HT
  have HB2 : Hid (Below B0 w w2) := hb2
  have hs2 : B0 ≤ w2.heap.size := Nat.le_trans hB hb2.size
  clear hT y2 y3 hb2
  obtain ⟨_, hm, hx⟩ := hr
  rw [← y1]
  rw [← y1] at hl
  clear y1
  go_loopw [3, 10] (fun v i wr => ∃ (k : Nat) (l : List Int), k ≤ ys.length ∧ l.length ≤ k ∧ i = .int .i64 k ∧ Hid (l ++ onceI (prevI ys k) (ys.drop k) = T) ∧ Hid (wr.ownsRow w2.heap.size 3 1 v l.length (icc l) ∧ Below w2.heap.size w2 wr)) (fun _ i _ => ys.length - (intOf i).toNat)
  case atStart => exact ⟨0, [], Nat.zero_le _, by simp, rfl, HS, World.ownsRow_nil _ _ _ _, Below.refl _ _⟩
  case round =>
    clear HS
    obtain ⟨k, l, hk, hlk, rfl, hz, hown⟩ := hrel
    by_cases hlt : k < ys.length
    · rcases hx with hx | ⟨b, off, rfl, hb, hrow⟩
      · simp [hx] at hlt
      have g1 := hrow k hlt
      rw [← hown.out.2.cell (p := ⟨b, _, none⟩) hb] at g1
      have i1 : (k : Int) < (ys.length : Int) := by omega
      have HZ : Hid (l ++ ((if prevI ys k = some ys[k] then [] else [ys[k]]) ++ onceI (prevI ys (k + 1)) (ys.drop (k + 1))) = T) := by
        show _ = _
        rw [← hz.out, onceI_step hlt]
      have HB : Hid (Below w2.heap.size w2 wr) := hown.out.2
      have HO : Hid (wr.ownsRow w2.heap.size 3 1 u3 l.length (icc l)) := hown.out.1
      have HLK : Hid (l.length ≤ k) := hlk
      have hsw := HB.out.size
      clear hown hz
      by_cases hk0 : k = 0
      · subst hk0
        have HZ3 : Hid ((l ++ [ys[0]]) ++ onceI (prevI ys (0 + 1)) (ys.drop (0 + 1)) = T) := by
          show _ = _
          rw [← HZ.out, if_neg (by simp [prevI]), List.append_assoc]
        clear HZ hrow
        simp only [Nat.add_zero] at g1
        generalize ys[0] = q at *
        go_wp2_with (at_builtin; refine wpList_append_own _ rfl _ _ 30 rfl w2.heap.size 3 i0 (.int .i64 0) 1 8 Try.underlying30 hi hz0 hz1 hz2 rfl (by decide) _ _ _ rfl (HO.out.alloc _) ⟨wr.heap.size, 0, none⟩ 1 1 [.int .i64 q] rfl rfl (news_int wr q) (one_int _) (by simp [maxLen]; omega) (by omega) (by simp; omega) ?_)
        intro v3 w3 ho3 hg3 _
        have HB3 : Hid (Below w2.heap.size w2 w3) := (HB.out.alloc (by omega) _).grown hg3 (by simp; omega) (fun g hg => (HO.out.lt g hg).1)
        have HO3 : Hid (w3.ownsRow w2.heap.size 3 1 v3 (l ++ [q]).length (icc (l ++ [q]))) := own_eqP ho3 (by simp) (by rw [icc_append]; rfl)
        clear ho3 hg3 HO HB
        go_wp2
        go_roundw
        case rel => exact ⟨0 + 1, l ++ [q], by omega, by have := HLK.out; simp only [List.length_append, List.length_cons, List.length_nil]; omega, by go_num, HZ3, HO3.out, HB3.out⟩
        case measure => simp [intOf]; omega
      · obtain ⟨j, rfl⟩ : ∃ j, k = j + 1 := ⟨k - 1, by omega⟩
        have g3 := hrow j (by omega)
        clear hrow
        rw [← HB.out.cell (p := ⟨b, _, none⟩) hb] at g3
        have HZ2 : Hid (l ++ ((if ys[j] = ys[j + 1] then [] else [ys[j + 1]]) ++ onceI (prevI ys (j + 1 + 1)) (ys.drop (j + 1 + 1))) = T) := by
          show _ = _
          rw [← HZ.out, prevI_succ (by omega : j < ys.length)]
          simp only [Option.some.injEq]
        clear HZ
        generalize ys[j + 1] = q at *
        generalize ys[j] = p at *
        have i2 : (j : Int) < (ys.length : Int) := by omega
        have i3 : ((j : Int) + 1 == 0) = false := by simp; omega
        by_cases hpq : p = q
        · subst hpq
          have HZ3 : Hid (l ++ onceI (prevI ys (j + 1 + 1)) (ys.drop (j + 1 + 1)) = T) := by
            have h := HZ2.out
            rw [if_pos rfl] at h
            exact h
          clear HZ2
          go_wp2
          go_roundw
          case rel => exact ⟨j + 1 + 1, l, by omega, by have := HLK.out; omega, by go_num, HZ3, HO.out, HB.out⟩
          case measure => simp [intOf]; omega
        · have HZ3 : Hid ((l ++ [q]) ++ onceI (prevI ys (j + 1 + 1)) (ys.drop (j + 1 + 1)) = T) := by
            have h := HZ2.out
            rw [if_neg hpq] at h
            show _ = _
            rw [List.append_assoc]; exact h
          clear HZ2
          have m1 : (p == q) = false := by simpa using hpq
          clear hpq
          go_wp2_with (at_builtin; refine wpList_append_own _ rfl _ _ 30 rfl w2.heap.size 3 i0 (.int .i64 0) 1 8 Try.underlying30 hi hz0 hz1 hz2 rfl (by decide) _ _ _ rfl (HO.out.alloc _) ⟨wr.heap.size, 0, none⟩ 1 1 [.int .i64 q] rfl rfl (news_int wr q) (one_int _) (by simp [maxLen]; omega) (by omega) (by simp; omega) ?_)
          intro v3 w3 ho3 hg3 _
          have HB3 : Hid (Below w2.heap.size w2 w3) := (HB.out.alloc (by omega) _).grown hg3 (by simp; omega) (fun g hg => (HO.out.lt g hg).1)
          have HO3 : Hid (w3.ownsRow w2.heap.size 3 1 v3 (l ++ [q]).length (icc (l ++ [q]))) := own_eqP ho3 (by simp) (by rw [icc_append]; rfl)
          clear ho3 hg3 HO HB
          go_wp2
          go_roundw
          case rel => exact ⟨j + 1 + 1, l ++ [q], by omega, by have := HLK.out; simp only [List.length_append, List.length_cons, List.length_nil]; omega, by go_num, HZ3, HO3.out, HB3.out⟩
          case measure => simp [intOf]; omega
    · have e : l = T := by
        have h := hz.out
        rw [List.drop_eq_nil_of_le (by omega)] at h
        simpa [onceI] using h
      subst e
      go_wp2
      go_ret
      exact ⟨_, rfl, l, own_monoP hown.out.1 (by omega), HT.out, HB2.out.trans (hown.out.2.mono (by omega))⟩
end Go.Proofs.Ytalfjdpdecngoaa
