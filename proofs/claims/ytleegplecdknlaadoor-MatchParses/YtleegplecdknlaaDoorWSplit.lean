/- The contract of the program's Split. -/
import Derived.Test.YtleegplecdknlaaDoorWStem
namespace Go.Proofs.YtleegplecdknlaaDoor
open Go.RowKit

theorem letters_as (s : ByteArray) (n : Nat) (hn : lead s.data.toList = n) (w : World) (hs : s.size ≤ 1000000) :
    Calls Tryd.prog 67 #[.string s] w fun e w' => e = .returned (.int .i64 n) ∧ w' = w := by
  rw [← hn]; exact letters_any s w hs
set_option maxRecDepth 100000 in
set_option maxHeartbeats 4000000 in
theorem split_any (s : ByteArray) (w : World) (hs : s.size ≤ 900000) (he : EndsAt w) :
    Calls Tryd.prog 55 #[.string s] w fun e w' => ∃ v, e = .returned v ∧ w'.ownsRow w.heap.size 9 1 v (wordsL s.data.toList).length (sc (wordsL s.data.toList)) ∧ Below w.heap.size w w' := by
  obtain ⟨i0, hi, hz0, hz1, hz2⟩ := info_parts info9
  have HW : Hid ((wordsL s.data.toList).length ≤ 900001 ∧ EndsAt w) := ⟨by have := words_length s.data.toList; rw [ba_len] at this; omega, he⟩
  clear he
  generalize hWs : wordsL s.data.toList = W at *
  have HS : Hid (wordsL s.data.toList = W) := hWs
  clear hWs
  go_enter Tryd.func55, Tryd.ntmps55
  go_wp2
  go_loopw [0, 3] (fun x v wr => ∃ (t : ByteArray) (ws : List ByteArray), t.size ≤ s.size ∧ x = .string t ∧ Hid (ws ++ wordsL t.data.toList = W) ∧ Hid (wr.ownsRow w.heap.size 9 1 v ws.length (sc ws) ∧ Below w.heap.size w wr)) (fun x _ _ => strLen x)
  case atStart => exact ⟨s, [], Nat.le_refl _, rfl, HS.out, World.ownsRow_nil w _ 9 1, Below.refl _ _⟩
  case round =>
    clear HS
    obtain ⟨t, ws, hts, rfl, hws, hown⟩ := hrel
    by_cases h0 : 0 < t.size
    · obtain ⟨n, hn⟩ : ∃ n, lead t.data.toList = n := ⟨_, rfl⟩
      have hle := lead_le t.data.toList
      rw [hn, ba_len] at hle
      have HN : Hid (lead t.data.toList = n) := hn
      have HD : Hid (wordsL (t.extract (min (n + 1) t.size) t.size).data.toList = wordsL (t.data.toList.drop (n + 1))) := by
        show _ = _
        rw [ba_extract, List.take_of_length_le (by rw [ba_len]; exact Nat.le_refl _)]
        have := drop_min t.data.toList (n + 1)
        rw [ba_len] at this
        rw [this]
      clear hn
      by_cases hn0 : n = 0
      · subst hn0
        have HX : Hid (ws ++ wordsL (t.extract (min (0 + 1) t.size) t.size).data.toList = W) := by
          show _ = _
          rw [HD.out, ← hws.out, words_step t.data.toList, HN.out]
          simp
        clear HD
        go_wp2_with (go_at_call 67; refine (letters_as _ 0 HN.out _ (by omega)).mono ?_; rintro e w' ⟨rfl, rfl⟩)
        go_roundw
        case rel =>
          have e : (min (1 : Int) (t.size : Int)).toNat = min (0 + 1) t.size := by omega
          exact ⟨_, ws, by simp; omega, rfl, by rw [e]; exact HX.out, hown.out⟩
        case measure => simp [strLen]; omega
      · have HX : Hid ((ws ++ [wordOf (t.data.toList.take n)]) ++ wordsL (t.extract (min (n + 1) t.size) t.size).data.toList = W) := by
          show _ = _
          rw [HD.out, ← hws.out, words_step t.data.toList, HN.out, if_neg hn0]
          simp
        have HL : Hid (ws.length ≤ 900001) := by
          show _ ≤ _
          have h1 := HW.out.1
          rw [← hws.out] at h1
          simp at h1
          omega
        clear HD
        have hn1 : (0 : Int) < (n : Int) := by omega
        have HQ : Hid (stemS (smallS (t.extract 0 (min (n : Int) 12).toNat)) = wordOf (t.data.toList.take n)) := by
          show _ = _
          rw [show (min (n : Int) 12).toNat = min n 12 by omega]
          exact word_prog t n
        have HB : Hid (Below w.heap.size w wr) := hown.out.2
        have HO : Hid (wr.ownsRow w.heap.size 9 1 u3 ws.length (sc ws)) := hown.out.1
        clear hown
        go_wp2_with fail
        refine (letters_as _ n HN.out _ (by omega)).mono ?_
        rintro _ wr ⟨rfl, rfl⟩
        go_wp2_with fail
        refine (small_any _ _ (by simp; omega)).mono ?_
        rintro _ w1 ⟨rfl, hb1⟩
        have HE : Hid (EndsAt w1) := (HW.out.2.below HB.out).below hb1
        go_wp2_with fail
        refine (stem_any _ _ (by rw [smallS_size]; simp; omega) HE.out).mono ?_
        rintro _ w2 ⟨rfl, hb2⟩
        rw [HQ.out]
        have HB2 : Hid (Below w.heap.size w w2) := (HB.out.trans (hb1.mono HB.out.size)).trans (hb2.mono (Nat.le_trans HB.out.size hb1.size))
        have HO2 : Hid (w2.ownsRow w.heap.size 9 1 u3 ws.length (sc ws)) := own_below (own_below HO.out hb1) hb2
        clear HB HO hb1 hb2 HE HQ
        obtain ⟨x, hx⟩ : ∃ x, wordOf (t.data.toList.take n) = x := ⟨_, rfl⟩
        rw [hx]
        have HX : Hid _ := HX.out
        rw [hx] at HX
        clear hx
        go_wp2_with (at_builtin; refine wpList_append_own _ rfl _ _ 34 rfl w.heap.size 9 i0 (.string ⟨#[]⟩) 1 16 Tryd.underlying34 hi hz0 hz1 hz2 rfl (by decide) _ _ _ rfl (HO2.out.alloc _) ⟨w2.heap.size, 0, none⟩ 1 1 [.string x] rfl rfl ?c1 ?c2 ?c3 ?c4 ?c5 ?_)
        case c1 => exact cell_one_new _ _ _
        case c2 => intro y hy; simp at hy; subst hy; rfl
        case c3 => have := HL.out; simp [maxLen]; omega
        case c4 => have := HL.out; omega
        case c5 => have := HB2.out.size; simp; omega
        · intro v' w3 hown' hgrow _
          have hbl' := HB2.out.size
          have HB3 : Hid (Below w.heap.size w w3) := (HB2.out.alloc (by omega) _).grown hgrow (by simp; omega) (fun g hg => (HO2.out.lt g hg).1)
          have HO3 : Hid (w3.ownsRow w.heap.size 9 1 v' (ws ++ [x]).length (sc (ws ++ [x]))) := own_eq hown' (by simp) (by simp [sc])
          clear HB2 HO2 hown' hgrow hbl'
          go_wp2
          go_roundw
          case rel =>
            have e : (min ((n : Int) + 1) (t.size : Int)).toNat = min (n + 1) t.size := by omega
            exact ⟨_, ws ++ [x], by simp; omega, rfl, by rw [e]; exact HX.out, HO3.out, HB3.out⟩
          case measure => simp [strLen]; omega
    · go_wp2
      go_ret
      obtain rfl : t = ⟨#[]⟩ := by
        cases t with
        | mk d =>
          have : d.size = 0 := Nat.eq_zero_of_not_pos h0
          simp [Array.size_eq_zero_iff.1 this]
      have e : ws = W := by have := hws.out; simpa [wordsL, runs] using this
      subst e
      exact ⟨_, rfl, hown.out.1, hown.out.2⟩

end Go.Proofs.YtleegplecdknlaaDoor
