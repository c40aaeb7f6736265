/- The contract of the document's Words. -/
import Derived.Test.YtalfjdpdecngoaaDoorSplit
import Derived.Deep.DeepCutAuto
namespace Go.Proofs.YtalfjdpdecngoaaDoor
open Go.RowKit

theorem isLn_128 (x : Nat) : isLn x = (decide (97 ≤ x) && decide (x ≤ 122) || decide (65 ≤ x) && decide (x ≤ 90) || decide (48 ≤ x) && decide (x ≤ 57) || decide (128 ≤ x)) := by
  rw [Bool.eq_iff_iff]
  simp [isLn]
  omega

theorem drop_at (s : ByteArray) (k : Nat) (h : k < s.size) : s.data.toList.drop k = s[k] :: s.data.toList.drop (k + 1) := by
  rw [List.drop_eq_getElem_cons (by simpa using h)]
  simp
  rfl

set_option maxRecDepth 100000 in
set_option maxHeartbeats 4000000 in
theorem words_any (s : ByteArray) (w : World) (hs : s.size ≤ 900000) :
    Calls Tryd.prog 12 #[.string s] w fun e w' => ∃ v, e = .returned v ∧ w'.ownsRow w.heap.size 9 1 v (wordsL s.data.toList).length (sc (wordsL s.data.toList)) ∧ Below w.heap.size w w' := by
  obtain ⟨i0, hi, hz0, hz1, hz2⟩ := info_parts info9
  have HW : Hid ((wordsL s.data.toList).length ≤ 900001) := by show _ ≤ _; have := words_length s.data.toList; rw [ba_len] at this; omega
  generalize hWs : wordsL s.data.toList = W at *
  have HS : Hid (wordsL s.data.toList = W) := hWs
  clear hWs
  go_enter Tryd.func12, Tryd.ntmps12
  go_wp2
  go_loopw [3, 4, 5] (fun v r i wr => ∃ (k : Nat) (run : ByteArray) (ws : List ByteArray), k ≤ s.size + 1 ∧ run.size ≤ k ∧ r = .string run ∧ i = .int .i64 k ∧ Hid (k ≤ s.size → ws ++ (runs run.data.toList (s.data.toList.drop k)).map wordOf = W) ∧ Hid (k = s.size + 1 → ws = W) ∧ Hid (ws.length ≤ 900001) ∧ Hid (wr.ownsRow w.heap.size 9 1 v ws.length (sc ws) ∧ Below w.heap.size w wr)) (fun _ _ i _ => s.size + 1 - (intOf i).toNat)
  case atStart => exact ⟨0, ⟨#[]⟩, [], by omega, by decide, rfl, rfl, fun _ => HS.out, fun h => by omega, by show _ ≤ _; simp, World.ownsRow_nil w _ 9 1, Below.refl _ _⟩
  case round =>
    clear HS
    obtain ⟨k, run, ws, hk, hrun, rfl, rfl, hws, hwe, HL, hown⟩ := hrel
    by_cases hle : k ≤ s.size
    · have hle' : (k : Int) ≤ (s.size : Int) := by omega
      go_upto_if 18 with fail
      go_cut [6] (fun b wx => ∃ q : Bool, b = .bool q ∧ Hid ((q = true → ∃ h : k < s.size, isL s[k] = true) ∧ (q = false → k = s.size ∨ ∃ h : k < s.size, isL s[k] = false)) ∧ wr = wx)
      case first =>
        by_cases hlt : k < s.size
        · have hlt' : (k : Int) < (s.size : Int) := by omega
          obtain ⟨x, hx⟩ : ∃ x, s[k].toNat = x := ⟨_, rfl⟩
          have HX : Hid (∀ q, isLn x = q → (q = true → ∃ h : k < s.size, isL s[k] = true) ∧ (q = false → k = s.size ∨ ∃ h : k < s.size, isL s[k] = false)) := by
            intro q hq
            have e : isL s[k] = q := by rw [isL, hx]; exact hq
            exact ⟨fun h => ⟨hlt, e.trans h⟩, fun h => .inr ⟨hlt, e.trans h⟩⟩
          obtain ⟨a1, e1⟩ : ∃ b, decide ((65 : Int) ≤ (x : Int)) = b := ⟨_, rfl⟩
          obtain ⟨a2, e2⟩ : ∃ b, decide ((x : Int) ≤ 90) = b := ⟨_, rfl⟩
          obtain ⟨a3, e3⟩ : ∃ b, decide ((97 : Int) ≤ (x : Int)) = b := ⟨_, rfl⟩
          obtain ⟨a4, e4⟩ : ∃ b, decide ((x : Int) ≤ 122) = b := ⟨_, rfl⟩
          obtain ⟨a5, e5⟩ : ∃ b, decide ((48 : Int) ≤ (x : Int)) = b := ⟨_, rfl⟩
          obtain ⟨a6, e6⟩ : ∃ b, decide ((x : Int) ≤ 57) = b := ⟨_, rfl⟩
          obtain ⟨a7, e7⟩ : ∃ b, decide ((128 : Int) ≤ (x : Int)) = b := ⟨_, rfl⟩
          have HR : Hid (isLn x = (a3 && a4 || a1 && a2 || a5 && a6 || a7)) := by
            show _ = _
            rw [isLn_128, ← e1, ← e2, ← e3, ← e4, ← e5, ← e6, ← e7, Bool.eq_iff_iff]
            simp
            omega
          cases a1 <;> cases a2 <;> cases a3 <;> cases a4 <;> cases a5 <;> cases a6 <;> cases a7 <;> first
            | (exfalso; simp only [decide_eq_true_eq, decide_eq_false_iff_not] at e1 e2 e3 e4 e5 e6 e7; clear HR HX; omega)
            | (go_wp2
               go_meet
               case rel => exact ⟨_, rfl, HX.out _ HR.out, rfl⟩)
        · have hlt' : ¬ (k : Int) < (s.size : Int) := by omega
          go_wp2
          go_meet
          case rel => exact ⟨false, rfl, ⟨fun h => by simp at h, fun _ => .inl (by omega)⟩, rfl⟩
      case rest =>
        obtain ⟨q, rfl, hq, hwc⟩ := hcut
        subst hwc
        cases q
        · have HF : Hid (∀ ws', ws' = ws ++ (if run.data.toList.isEmpty then [] else [wordOf run.data.toList]) → (k + 1 ≤ s.size → ws' ++ (runs (⟨#[]⟩ : ByteArray).data.toList (s.data.toList.drop (k + 1))).map wordOf = W) ∧ (k + 1 = s.size + 1 → ws' = W) ∧ ws'.length ≤ 900001) := by
            intro ws' e
            subst e
            have h0 := hws.out hle
            rcases hq.out.2 rfl with hk2 | ⟨hlt, hL⟩
            · rw [List.drop_eq_nil_of_le (by rw [ba_len]; omega), runs] at h0
              have h1 : ws ++ (if run.data.toList.isEmpty then [] else [wordOf run.data.toList]) = W := by
                rw [← h0]; split <;> simp
              exact ⟨fun h => by omega, fun _ => h1, by rw [h1]; exact HW.out⟩
            · rw [drop_at s k hlt, runs, hL] at h0
              have h1 : ws ++ (if run.data.toList.isEmpty then [] else [wordOf run.data.toList]) ++ (runs [] (s.data.toList.drop (k + 1))).map wordOf = W := by
                rw [← h0]; simp; split <;> simp
              refine ⟨fun _ => h1, fun h => by omega, ?_⟩
              have h2 := HW.out
              rw [← h1] at h2
              simp only [List.length_append] at h2 ⊢
              omega
          clear hq hws hwe
          by_cases hr : run.size = 0
          · obtain rfl : run = ⟨#[]⟩ := by
              cases run with
              | mk d =>
                have : d.size = 0 := hr
                simp [Array.size_eq_zero_iff.1 this]
            obtain ⟨f1, f2, f3⟩ := HF.out ws (by simp)
            have F1 : Hid _ := f1
            have F2 : Hid _ := f2
            clear HF f1 f2 f3
            go_wp2
            go_roundw
            case rel => exact ⟨k + 1, ⟨#[]⟩, ws, by omega, by omega, rfl, by go_num, F1, F2, HL, hown⟩
            case measure => simp [intOf]; omega
          · have HB : Hid (Below w.heap.size w wr) := hown.out.2
            have HO : Hid (wr.ownsRow w.heap.size 9 1 u3 ws.length (sc ws)) := hown.out.1
            clear hown
            have hne : (run.toList == []) = false := by
              cases hx : (run.toList == []) with
              | false => rfl
              | true =>
                have e : run.toList = [] := by simpa using hx
                rw [ByteArray.toList_eq] at e
                have := congrArg List.length e
                rw [ba_len] at this
                exact absurd this hr
            go_wp2_with fail
            refine (refSmall_any _ _ (by omega)).mono ?_
            rintro _ w1 ⟨rfl, hb1⟩
            have HB1 : Hid (Below w.heap.size w w1) := HB.out.trans (hb1.mono HB.out.size)
            have HO1 : Hid (w1.ownsRow w.heap.size 9 1 u3 ws.length (sc ws)) := own_below HO.out hb1
            clear HB HO hb1
            have hsm := smallS_size run
            by_cases h12 : run.size ≤ 12
            · have h12' : ¬ (12 : Int) < (run.size : Int) := by omega
              have HQ : Hid (stemS (smallS run) = wordOf run.data.toList) := word_doc_short run h12
              go_wp2_with fail
              refine (refStem_any _ _ (by omega)).mono ?_
              rintro _ w2 ⟨rfl, hb2⟩
              rw [HQ.out]
              have HB2 : Hid (Below w.heap.size w w2) := HB1.out.trans (hb2.mono HB1.out.size)
              have HO2 : Hid (w2.ownsRow w.heap.size 9 1 u3 ws.length (sc ws)) := own_below HO1.out hb2
              clear HB1 HO1 hb2 HQ h12' hsm
              obtain ⟨x, hx⟩ : ∃ x, wordOf run.data.toList = x := ⟨_, rfl⟩
              rw [hx]
              have hemp : run.data.toList.isEmpty = false := by
                cases hy : run.data.toList with
                | nil => exact absurd (by rw [← ba_len, hy]; rfl) hr
                | cons _ _ => rfl
              obtain ⟨f1, f2, f3⟩ := HF.out (ws ++ [x]) (by rw [hemp, hx]; simp)
              have F1 : Hid _ := f1
              have F2 : Hid _ := f2
              have F3 : Hid _ := f3
              clear hx HF f1 f2 f3 hemp hne
              go_wp2_with (at_builtin; refine wpList_append_own _ rfl _ _ 24 rfl w.heap.size 9 i0 (.string ⟨#[]⟩) 1 16 Tryd.underlying24 hi hz0 hz1 hz2 rfl (by decide) _ _ _ rfl (HO2.out.alloc _) ⟨w2.heap.size, 0, none⟩ 1 1 [.string x] rfl rfl ?c1 ?c2 ?c3 ?c4 ?c5 ?_)
              case c1 => exact cell_one_new _ _ _
              case c2 => intro y hy; simp at hy; subst hy; rfl
              case c3 => have := HL.out; simp [maxLen]; omega
              case c4 => have := HL.out; omega
              case c5 => have := HB2.out.size; simp; omega
              · intro v' w3 hown' hgrow _
                have hbl' := HB2.out.size
                have HB3 : Hid (Below w.heap.size w w3) := (HB2.out.alloc (by omega) _).grown hgrow (by simp; omega) (fun g hg => (HO2.out.lt g hg).1)
                have HO3 : Hid (w3.ownsRow w.heap.size 9 1 v' (ws ++ [x]).length (sc (ws ++ [x]))) := own_eq hown' (by simp) (by simp [sc])
                clear HB2 HO2 hown' hgrow hbl' HL
                go_wp2
                go_roundw
                case rel => exact ⟨k + 1, ⟨#[]⟩, ws ++ [x], by omega, Nat.zero_le _, rfl, by go_num, F1, F2, F3, HO3.out, HB3.out⟩
                case measure => simp [intOf]; omega
            · have h12' : (12 : Int) < (run.size : Int) := by omega
              have HQ : Hid (stemS ((smallS run).extract 0 12) = wordOf run.data.toList) := word_doc_long run
              go_wp2_with fail
              refine (refStem_any _ _ (by simp; omega)).mono ?_
              rintro _ w2 ⟨rfl, hb2⟩
              rw [HQ.out]
              have HB2 : Hid (Below w.heap.size w w2) := HB1.out.trans (hb2.mono HB1.out.size)
              have HO2 : Hid (w2.ownsRow w.heap.size 9 1 u3 ws.length (sc ws)) := own_below HO1.out hb2
              clear HB1 HO1 hb2 HQ h12' hsm
              obtain ⟨x, hx⟩ : ∃ x, wordOf run.data.toList = x := ⟨_, rfl⟩
              rw [hx]
              have hemp : run.data.toList.isEmpty = false := by
                cases hy : run.data.toList with
                | nil => exact absurd (by rw [← ba_len, hy]; rfl) hr
                | cons _ _ => rfl
              obtain ⟨f1, f2, f3⟩ := HF.out (ws ++ [x]) (by rw [hemp, hx]; simp)
              have F1 : Hid _ := f1
              have F2 : Hid _ := f2
              have F3 : Hid _ := f3
              clear hx HF f1 f2 f3 hemp hne
              go_wp2_with (at_builtin; refine wpList_append_own _ rfl _ _ 24 rfl w.heap.size 9 i0 (.string ⟨#[]⟩) 1 16 Tryd.underlying24 hi hz0 hz1 hz2 rfl (by decide) _ _ _ rfl (HO2.out.alloc _) ⟨w2.heap.size, 0, none⟩ 1 1 [.string x] rfl rfl ?c1 ?c2 ?c3 ?c4 ?c5 ?_)
              case c1 => exact cell_one_new _ _ _
              case c2 => intro y hy; simp at hy; subst hy; rfl
              case c3 => have := HL.out; simp [maxLen]; omega
              case c4 => have := HL.out; omega
              case c5 => have := HB2.out.size; simp; omega
              · intro v' w3 hown' hgrow _
                have hbl' := HB2.out.size
                have HB3 : Hid (Below w.heap.size w w3) := (HB2.out.alloc (by omega) _).grown hgrow (by simp; omega) (fun g hg => (HO2.out.lt g hg).1)
                have HO3 : Hid (w3.ownsRow w.heap.size 9 1 v' (ws ++ [x]).length (sc (ws ++ [x]))) := own_eq hown' (by simp) (by simp [sc])
                clear HB2 HO2 hown' hgrow hbl' HL
                go_wp2
                go_roundw
                case rel => exact ⟨k + 1, ⟨#[]⟩, ws ++ [x], by omega, Nat.zero_le _, rfl, by go_num, F1, F2, F3, HO3.out, HB3.out⟩
                case measure => simp [intOf]; omega
        · obtain ⟨hlt, hL⟩ := hq.out.1 rfl
          have HF : Hid (k + 1 ≤ s.size → ws ++ (runs (run ++ s.extract k (k + 1)).data.toList (s.data.toList.drop (k + 1))).map wordOf = W) := by
            intro _
            have h0 := hws.out hle
            rw [drop_at s k hlt, runs, if_pos hL] at h0
            have e : (run ++ s.extract k (k + 1)).data.toList = run.data.toList ++ [s[k]] := by
              rw [ByteArray.data_append, Array.toList_append, ba_extract]
              congr 1
              rw [List.drop_take, drop_at s k hlt]
              simp
            rw [e]
            exact h0
          clear hq hws hwe hL
          go_wp2
          go_roundw
          case rel => exact ⟨k + 1, _, ws, by omega, by simp [ByteArray.size_append, ByteArray.size_extract]; omega, rfl, by go_num, HF, fun h => by omega, HL, hown⟩
          case measure => simp [intOf]; omega
    · go_wp2
      go_ret
      have e : ws = W := hwe.out (by omega)
      subst e
      exact ⟨_, rfl, hown.out.1, hown.out.2⟩
end Go.Proofs.YtalfjdpdecngoaaDoor
