/- How the document cuts what is looked for. -/
import Derived.Test.YtleegplecdknlaaDoorAOne7
import Derived.Test.YtleegplecdknlaaDoorAPcs
namespace Go.Proofs.YtleegplecdknlaaDoor
open Go.RowKit

theorem cut_ix : ∀ n : Fin 256, decide (Lib.indexByte [32, 40, 41, 42, 34] n.val.toUInt8 < 0) = notC n.val.toUInt8 := by decide +kernel
theorem ix5_any (x : Nat) (hx : x < 256) (b : Bool) (hb : notC x.toUInt8 = b) (w : World) : Calls Tryd.prog 17 #[.string ⟨#[32, 40, 41, 42, 34]⟩, .int .u8 (x : Int)] w fun e w' => ∃ n : Int, e = .returned (.int .i64 n) ∧ decide (n < 0) = b ∧ w' = w := by
  refine (strings_ix ⟨#[32, 40, 41, 42, 34]⟩ (x : Int) w).mono ?_
  rintro e w' ⟨rfl, rfl⟩
  exact ⟨_, rfl, by rw [← hb]; exact cut_ix ⟨x, hx⟩, rfl⟩
theorem one_str (x : ByteArray) : ∀ u ∈ [Value.string x], u.oneCell' = true := by intro y hy; simp at hy; subst hy; rfl
/-- what pieces tells -/
def Told (w : World) (R : Option (List ByteArray)) (e : Ending) (w' : World) : Prop :=
  (R = none ∧ e = .returned (.tuple #[.slice none 0 0, .bool false]) ∨ ∃ L v, R = some L ∧ e = .returned (.tuple #[v, .bool true]) ∧ w'.ownsRow w.heap.size 9 1 v L.length (sc L)) ∧ Below w.heap.size w w'

set_option maxRecDepth 100000 in
set_option maxHeartbeats 4000000 in
theorem pieces_any (s : ByteArray) (w : World) (hs : s.size ≤ 1000) : Calls Tryd.prog 8 #[.string s] w fun e w' => Told w (piecesM s s.size 0) e w' := by
  obtain ⟨i0, hi, hz0, hz1, hz2⟩ := info_parts info9
  obtain ⟨R, hR⟩ : ∃ R, piecesM s s.size 0 = R := ⟨_, rfl⟩
  have HR : Hid ((piecesM s s.size 0).map ([] ++ ·) = R) := by show _ = _; rw [← hR]; cases piecesM s s.size 0 <;> rfl
  rw [hR]
  clear hR
  go_enter Tryd.func8, Tryd.ntmps8
  go_wp2
  go_loopw [4, 5] (fun v i wr => ∃ (k f : Nat) (l : List ByteArray), k ≤ s.size ∧ l.length ≤ k ∧ i = .int .i64 k ∧ Hid ((piecesM s f k).map (l ++ ·) = R ∧ s.size - k ≤ f) ∧ Hid (wr.ownsRow w.heap.size 9 1 v l.length (sc l) ∧ Below w.heap.size w wr)) (fun _ i _ => s.size - (intOf i).toNat)
  case atStart => exact ⟨0, s.size, [], Nat.zero_le _, Nat.zero_le _, rfl, ⟨HR.out, by omega⟩, World.ownsRow_nil _ _ _ _, Below.refl _ _⟩
  case round =>
    clear HR
    obtain ⟨k, f, l, hk, hlk, rfl, hz, hown⟩ := hrel
    by_cases hlt : k < s.size
    · obtain ⟨f', rfl⟩ : ∃ f', f = f' + 1 := by
        cases f with
        | zero => have := hz.out.2; omega
        | succ f => exact ⟨f, rfl⟩
      have hz1' := hz.out.1
      have hz2' := hz.out.2
      rw [piecesM, dif_pos hlt] at hz1'
      have HO : Hid (wr.ownsRow w.heap.size 9 1 u4 l.length (sc l)) := hown.out.1
      have HB : Hid (Below w.heap.size w wr) := hown.out.2
      have hsw := HB.out.size
      have hlt' : (k : Int) < (s.size : Int) := by omega
      obtain ⟨x, hx⟩ : ∃ x, s[k].toNat = x := ⟨_, rfl⟩
      rw [hx] at hz1'
      have HX : Hid (∀ p : UInt8 → Bool, p x.toUInt8 = true → endW p s k = endW p s (k + 1)) := fun p hp => endW_step hlt (by rw [show s[k] = x.toUInt8 by rw [← hx]; simp]; exact hp)
      have hx256 : x < 256 := by rw [← hx]; exact UInt8.toNat_lt _
      clear hown hz
      by_cases x32 : x = 32
      · rw [if_pos x32] at hz1'
        have HZ : Hid ((piecesM s f' (k + 1)).map (l ++ ·) = R) := hz1'
        have j1 : ((x : Int) == 32) = true := by simp; omega
        clear hz1' x32
        go_wp2
        go_roundw
        case rel => exact ⟨k + 1, f', l, by omega, by omega, by go_num, ⟨HZ.out, by omega⟩, HO.out, HB.out⟩
        case measure => simp [intOf]; omega
      · rw [if_neg x32] at hz1'
        have j1 : ((x : Int) == 32) = false := by simp; omega
        by_cases xs : x = 40 ∨ x = 41 ∨ x = 42
        · rw [if_pos xs] at hz1'
          have HZ : Hid ((piecesM s f' (k + 1)).map ((l ++ [s.extract k (k + 1)]) ++ ·) = R) := by
            show _ = _; rw [← hz1', Option.map_map]; congr 1; funext z; simp
          have key : (((x : Int) == 40) = true ∧ True) ∨ ((((x : Int) == 40) = false ∧ ((x : Int) == 41) = true) ∧ True) ∨ ((((x : Int) == 40) = false ∧ ((x : Int) == 41) = false ∧ ((x : Int) == 42) = true) ∧ True) := by
            rcases xs with rfl | rfl | rfl
            · exact .inl ⟨rfl, trivial⟩
            · exact .inr (.inl ⟨⟨rfl, rfl⟩, trivial⟩)
            · exact .inr (.inr ⟨⟨rfl, rfl, rfl⟩, trivial⟩)
          clear hz1' x32 xs
          rcases key with ⟨j2, _⟩ | ⟨⟨j2, j3⟩, _⟩ | ⟨⟨j2, j3, j4⟩, _⟩
          all_goals
            go_wp2_with (at_builtin; refine wpList_append_own _ rfl _ _ 34 rfl w.heap.size 9 i0 (.string ⟨#[]⟩) 1 16 Tryd.underlying34 hi hz0 hz1 hz2 rfl (by decide) _ _ _ rfl (HO.out.alloc _) ⟨wr.heap.size, 0, none⟩ 1 1 [.string (s.extract k (k + 1))] rfl rfl (cell_one_new _ _ _) (one_str _) (by simp [maxLen]; omega) (by omega) (by simp; omega) ?_)
            intro v3 w3 ho3 hg3 _
            have HB3 : Hid (Below w.heap.size w w3) := (HB.out.alloc (by omega) _).grown hg3 (by simp; omega) (fun g hg => (HO.out.lt g hg).1)
            have HO3 : Hid (w3.ownsRow w.heap.size 9 1 v3 (l ++ [s.extract k (k + 1)]).length (sc (l ++ [s.extract k (k + 1)]))) := own_eq ho3 (by simp) (by simp [sc])
            clear ho3 hg3 HO HB
            go_wp2
            go_roundw
            case rel => exact ⟨k + 1, f', l ++ [s.extract k (k + 1)], by omega, by simp; omega, by go_num, ⟨HZ.out, by omega⟩, HO3.out, HB3.out⟩
            case measure => simp [intOf]; omega
        · rw [if_neg xs] at hz1'
          have j2 : ((x : Int) == 40) = false := by simp; omega
          have j3 : ((x : Int) == 41) = false := by simp; omega
          have j4 : ((x : Int) == 42) = false := by simp; omega
          by_cases x34 : x = 34
          · rw [if_pos x34] at hz1'
            have j5 : ((x : Int) == 34) = true := by simp; omega
            have HZ : Hid ((if endW notQ s (k + 1) = s.size then none else (piecesM s f' (endW notQ s (k + 1) + 1)).map (s.extract k (endW notQ s (k + 1)) :: ·)).map (l ++ ·) = R) := hz1'
            obtain ⟨E, hE⟩ : ∃ E, endW notQ s (k + 1) = E := ⟨_, rfl⟩
            have hE1 : k + 1 ≤ E := by rw [← hE]; exact endW_ge _ _ _
            have hE2 : E ≤ s.size := by rw [← hE]; exact endW_le (by omega)
            have HE : Hid (endW notQ s (k + 1) = E) := hE
            rw [hE] at HZ
            clear hz1' x32 xs x34 hE
            go_wp2
            obtain ⟨wo, rfl⟩ : ∃ wo, wo = wr := ⟨_, rfl⟩
            obtain ⟨vo, rfl⟩ : ∃ vo, vo = u4 := ⟨_, rfl⟩
            go_loopw [7] (fun i wr => ∃ j : Nat, j ≤ E ∧ i = .int .i64 j ∧ Hid (endW notQ s j = E) ∧ wr = wo) (fun i _ => s.size - (intOf i).toNat)
            case atStart => exact ⟨k + 1, hE1, by go_num, HE, rfl⟩
            case round =>
              clear HE
              obtain ⟨j, hj, rfl, hej, rfl⟩ := hrel
              by_cases hjs : j < s.size
              · have hjs' : (j : Int) < (s.size : Int) := by omega
                obtain ⟨y, hy⟩ : ∃ y, s[j].toNat = y := ⟨_, rfl⟩
                by_cases y34 : y = 34
                · have e : j = E := by rw [← hej.out, endW_stop hjs (by rw [notQ, hy, y34]; rfl)]
                  subst e
                  have HZ2 : Hid ((piecesM s f' (j + 1)).map ((l ++ [s.extract k j]) ++ ·) = R) := by
                    have h := HZ.out
                    rw [if_neg (by omega), Option.map_map] at h
                    show _ = _; rw [← h]; congr 1; funext z; simp
                  have j6 : ((y : Int) == 34) = true := by simp; omega
                  have j7 : ((j : Int) == (s.size : Int)) = false := by simp; omega
                  clear HZ y34 hej
                  go_wp2_with (at_builtin; refine wpList_append_own _ rfl _ _ 34 rfl w.heap.size 9 i0 (.string ⟨#[]⟩) 1 16 Tryd.underlying34 hi hz0 hz1 hz2 rfl (by decide) _ _ _ rfl (HO.out.alloc _) ⟨wr.heap.size, 0, none⟩ 1 1 [.string (s.extract k j)] rfl rfl (cell_one_new _ _ _) (one_str _) (by simp [maxLen]; omega) (by omega) (by simp; omega) ?_)
                  intro v3 w3 ho3 hg3 _
                  have HB3 : Hid (Below w.heap.size w w3) := (HB.out.alloc (by omega) _).grown hg3 (by simp; omega) (fun g hg => (HO.out.lt g hg).1)
                  have HO3 : Hid (w3.ownsRow w.heap.size 9 1 v3 (l ++ [s.extract k j]).length (sc (l ++ [s.extract k j]))) := own_eq ho3 (by simp) (by simp [sc])
                  clear ho3 hg3 HO HB
                  go_wp2
                  go_roundw
                  case rel => exact ⟨j + 1, f', l ++ [s.extract k j], by omega, by simp; omega, by go_num, ⟨HZ2.out, by omega⟩, HO3.out, HB3.out⟩
                  case measure => simp [intOf]; omega
                · have j6 : ((y : Int) == 34) = false := by simp; omega
                  have hq : notQ s[j] = true := by rw [notQ, hy]; simpa using y34
                  have HE2 : Hid (endW notQ s (j + 1) = E) := by show _ = _; rw [← endW_step hjs hq]; exact hej.out
                  have hle : j + 1 ≤ E := by rw [← HE2.out]; exact endW_ge _ _ _
                  clear hej y34 hq
                  go_wp2
                  go_roundw
                  case rel => exact ⟨j + 1, hle, by go_num, HE2, trivial⟩
                  case measure => simp [intOf]; omega
              · obtain rfl : j = s.size := by omega
                have e : s.size = E := by rw [← hej.out, endW_end (Nat.le_refl _)]
                have hn : R = none := by
                  have h := HZ.out
                  rw [← e, if_pos rfl] at h
                  exact h.symm
                subst hn
                clear HZ hej
                go_wp2
                go_ret2
                exact ⟨.inl ⟨rfl, rfl⟩, HB.out⟩
          · rw [if_neg x34] at hz1'
            have j5 : ((x : Int) == 34) = false := by simp; omega
            obtain ⟨E, hE⟩ : ∃ E, endW notC s k = E := ⟨_, rfl⟩
            have hxc : notC x.toUInt8 = true := by
              have h0 : x.toUInt8.toNat = x := by simp; omega
              have : ∀ c : UInt8, c.toNat ≠ 32 → c.toNat ≠ 40 → c.toNat ≠ 41 → c.toNat ≠ 42 → c.toNat ≠ 34 → notC c = true := by
                intro c h1 h2 h3 h4 h5
                have e : ∀ n : UInt8, c.toNat ≠ n.toNat → (c == n) = false := fun n hn => by
                  rw [beq_eq_false_iff_ne]; exact fun e => hn (by rw [e])
                simp only [notC, isCut, e 32 h1, e 40 h2, e 41 h3, e 42 h4, e 34 h5]; rfl
              exact this _ (by omega) (by omega) (by omega) (by omega) (by omega)
            have hE1 : k + 1 ≤ E := by rw [← hE, HX.out notC hxc]; exact endW_ge _ _ _
            have hE2 : E ≤ s.size := by rw [← hE]; exact endW_le (by omega)
            have HZ : Hid ((piecesM s f' E).map ((l ++ [s.extract k E]) ++ ·) = R) := by
              rw [hE, Option.map_map] at hz1'
              show _ = _; rw [← hz1']; congr 1; funext z; simp
            have HE : Hid (endW notC s k = E) := hE
            clear hz1' x32 xs x34 hE hxc
            go_wp2
            obtain ⟨wo, rfl⟩ : ∃ wo, wo = wr := ⟨_, rfl⟩
            obtain ⟨vo, rfl⟩ : ∃ vo, vo = u4 := ⟨_, rfl⟩
            go_loopw [8] (fun i wr => ∃ j : Nat, j ≤ E ∧ i = .int .i64 j ∧ Hid (endW notC s j = E) ∧ wr = wo) (fun i _ => s.size - (intOf i).toNat)
            case atStart => exact ⟨k, by omega, rfl, HE, rfl⟩
            case round =>
              clear HE
              obtain ⟨j, hj, rfl, hej, rfl⟩ := hrel
              by_cases hjs : j < s.size
              · have hjs' : (j : Int) < (s.size : Int) := by omega
                obtain ⟨y, hy⟩ : ∃ y, s[j].toNat = y := ⟨_, rfl⟩
                have hyc : s[j] = y.toUInt8 := by rw [← hy]; simp
                obtain ⟨b, hb⟩ : ∃ b, notC y.toUInt8 = b := ⟨_, rfl⟩
                have HIx : Hid (y < 256 ∧ notC y.toUInt8 = b) := ⟨by rw [← hy]; exact UInt8.toNat_lt _, hb⟩
                cases b
                · have e : j = E := by rw [← hej.out, endW_stop hjs (by rw [hyc]; exact hb)]
                  subst e
                  clear hej hb hyc
                  go_wp2_with fail
                  refine (ix5_any y HIx.out.1 _ HIx.out.2 _).mono ?_
                  rintro _ w8 ⟨n8, rfl, hn8, hw8⟩
                  subst hw8
                  go_wp2_with (at_builtin; refine wpList_append_own _ rfl _ _ 34 rfl w.heap.size 9 i0 (.string ⟨#[]⟩) 1 16 Tryd.underlying34 hi hz0 hz1 hz2 rfl (by decide) _ _ _ rfl (HO.out.alloc _) ⟨w8.heap.size, 0, none⟩ 1 1 [.string (s.extract k j)] rfl rfl (cell_one_new _ _ _) (one_str _) (by simp [maxLen]; omega) (by omega) (by simp; omega) ?_)
                  intro v3 w3 ho3 hg3 _
                  have HB3 : Hid (Below w.heap.size w w3) := (HB.out.alloc (by omega) _).grown hg3 (by simp; omega) (fun g hg => (HO.out.lt g hg).1)
                  have HO3 : Hid (w3.ownsRow w.heap.size 9 1 v3 (l ++ [s.extract k j]).length (sc (l ++ [s.extract k j]))) := own_eq ho3 (by simp) (by simp [sc])
                  clear ho3 hg3 HO HB
                  go_wp2
                  go_roundw
                  case rel => exact ⟨j, f', l ++ [s.extract k j], by omega, by simp; omega, by go_num, ⟨HZ.out, by omega⟩, HO3.out, HB3.out⟩
                  case measure => simp [intOf]; omega
                · have HE2 : Hid (endW notC s (j + 1) = E) := by show _ = _; rw [← endW_step hjs (by rw [hyc]; exact hb)]; exact hej.out
                  have hle : j + 1 ≤ E := by rw [← HE2.out]; exact endW_ge _ _ _
                  clear hej hb hyc
                  go_wp2_with fail
                  refine (ix5_any y HIx.out.1 _ HIx.out.2 _).mono ?_
                  rintro _ w8 ⟨n8, rfl, hn8, hw8⟩
                  subst hw8
                  go_wp2
                  go_roundw
                  case rel => exact ⟨j + 1, hle, by go_num, HE2, trivial⟩
                  case measure => simp [intOf]; omega
              · have hjs' : ¬ (j : Int) < (s.size : Int) := by omega
                have e : j = E := by rw [← hej.out, endW_end (by omega)]
                subst e
                clear hej
                go_wp2_with (at_builtin; refine wpList_append_own _ rfl _ _ 34 rfl w.heap.size 9 i0 (.string ⟨#[]⟩) 1 16 Tryd.underlying34 hi hz0 hz1 hz2 rfl (by decide) _ _ _ rfl (HO.out.alloc _) ⟨wr.heap.size, 0, none⟩ 1 1 [.string (s.extract k j)] rfl rfl (cell_one_new _ _ _) (one_str _) (by simp [maxLen]; omega) (by omega) (by simp; omega) ?_)
                intro v3 w3 ho3 hg3 _
                have HB3 : Hid (Below w.heap.size w w3) := (HB.out.alloc (by omega) _).grown hg3 (by simp; omega) (fun g hg => (HO.out.lt g hg).1)
                have HO3 : Hid (w3.ownsRow w.heap.size 9 1 v3 (l ++ [s.extract k j]).length (sc (l ++ [s.extract k j]))) := own_eq ho3 (by simp) (by simp [sc])
                clear ho3 hg3 HO HB
                go_wp2
                go_roundw
                case rel => exact ⟨j, f', l ++ [s.extract k j], by omega, by simp; omega, by go_num, ⟨HZ.out, by omega⟩, HO3.out, HB3.out⟩
                case measure => simp [intOf]; omega
    · obtain rfl : k = s.size := by omega
      have e : R = some l := by
        have h := hz.out.1
        rw [piecesM_end (Nat.le_refl _)] at h
        rw [← h]; simp
      subst e
      have HO : Hid (wr.ownsRow w.heap.size 9 1 u4 l.length (sc l)) := hown.out.1
      have HB : Hid (Below w.heap.size w wr) := hown.out.2
      clear hown hz
      go_wp2
      go_ret2
      exact ⟨.inr ⟨l, _, rfl, rfl, HO.out⟩, HB.out⟩
end Go.Proofs.YtleegplecdknlaaDoor
