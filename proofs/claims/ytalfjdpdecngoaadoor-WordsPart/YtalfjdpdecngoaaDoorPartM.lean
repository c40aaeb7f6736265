/- Words stand alone: as plain lists. -/
import Derived.Test.YtalfjdpdecngoaaDoorSame
namespace Go.Proofs.YtalfjdpdecngoaaDoor
open Go.RowKit

theorem runs_sep (c : UInt8) (hc : isL c = false) (l a : List UInt8) : ∀ cur, runs cur (a ++ c :: l) = runs cur a ++ runs [] l := by
  induction a with
  | nil => intro cur; simp [runs, hc]
  | cons x a ih =>
    intro cur
    cases hx : isL x
    · simp [runs, hx, ih]
    · simp [runs, hx, ih]

theorem words_sep1 (c : UInt8) (hc : isL c = false) (a b : List UInt8) : wordsL (a ++ [c] ++ b) = wordsL a ++ wordsL b := by
  unfold wordsL
  rw [List.append_assoc, List.singleton_append, runs_sep c hc, List.map_append]
theorem words_sep2 (c d : UInt8) (hc : isL c = false) (hd : isL d = false) (a b : List UInt8) : wordsL (a ++ [c, d] ++ b) = wordsL a ++ wordsL b := by
  unfold wordsL
  have e : a ++ [c, d] ++ b = a ++ c :: ([] ++ d :: b) := by simp
  rw [e, runs_sep c hc, runs_sep d hd, List.map_append]
  simp [runs]

theorem low_fin : ∀ n : Fin 256, isL (low (UInt8.ofNat n.val)) = isL (UInt8.ofNat n.val) ∧ low (low (UInt8.ofNat n.val)) = low (UInt8.ofNat n.val) := by decide +kernel
theorem low_u8 (c : UInt8) : isL (low c) = isL c ∧ low (low c) = low c := by
  have h := low_fin ⟨c.toNat, c.toNat_lt⟩
  simpa using h

theorem runs_small (l : List UInt8) : ∀ cur, runs (smallL cur) (smallL l) = (runs cur l).map smallL := by
  induction l with
  | nil => intro cur; cases cur <;> simp [runs, smallL]
  | cons x l ih =>
    intro cur
    have e : smallL (x :: l) = low x :: smallL l := rfl
    have e2 : smallL cur ++ [low x] = smallL (cur ++ [x]) := by simp [smallL]
    rw [e]
    cases hx : isL x
    · have i0 := ih []
      have e3 : smallL [] = [] := rfl
      rw [e3] at i0
      simp [runs, (low_u8 x).1, hx, i0]
      cases cur <;> simp [smallL]
    · simp [runs, (low_u8 x).1, hx, e2, ih]

theorem small_small (l : List UInt8) : smallL (smallL l) = smallL l := by
  simp [smallL]
  intro x _
  exact (low_u8 x).2
theorem words_small (l : List UInt8) : wordsL (smallL l) = wordsL l := by
  have e3 : smallL [] = [] := rfl
  have := runs_small l []
  rw [e3] at this
  unfold wordsL
  rw [this, List.map_map]
  apply List.map_congr_left
  intro r _
  simp only [Function.comp, wordOf, small_small]

/-- small letters -/
def Good (l : List UInt8) : Prop := ∀ c ∈ l, isL c = true ∧ low c = c

theorem good_stemFrom (t : List (ByteArray × ByteArray)) (s : ByteArray) (hs : Good s.data.toList) (h0 : s.size ≠ 0) (h : ∀ x ∈ t, x.2.data.toList.all (fun c => isL c && low c == c) = true) : Good (stemFrom t s).data.toList ∧ (stemFrom t s).size ≠ 0 := by
  induction t with
  | nil => exact ⟨hs, h0⟩
  | cons x t ih =>
    obtain ⟨e, r⟩ := x
    have hx := h (e, r) (by simp)
    unfold stemFrom
    split
    · split
      · rename_i h3
        refine ⟨?_, ?_⟩
        · intro c hc
          rw [ByteArray.data_append, Array.toList_append, ba_extract] at hc
          rcases List.mem_append.1 hc with hc | hc
          · exact hs c (List.mem_of_mem_take (List.mem_of_mem_drop hc))
          · have := List.all_eq_true.1 hx c hc
            simpa using this
        · simp only [ByteArray.size_append, ByteArray.size_extract]; omega
      · exact ⟨hs, h0⟩
    · exact ih fun y hy => h y (by simp [hy])

theorem good_word (r : List UInt8) (hr : r ≠ []) (hl : ∀ c ∈ r, isL c = true) : Good (wordOf r).data.toList ∧ (wordOf r).size ≠ 0 := by
  unfold wordOf stemS
  refine good_stemFrom endsT _ ?_ ?_ (by decide +kernel)
  · intro c hc
    have hc' : c ∈ smallL r := List.mem_of_mem_take (by simpa using hc)
    obtain ⟨d, hd, rfl⟩ := List.mem_map.1 hc'
    exact ⟨by rw [(low_u8 d).1]; exact hl d hd, (low_u8 d).2⟩
  · show ((smallL r).take 12).toArray.size ≠ 0
    cases r with
    | nil => exact absurd rfl hr
    | cons c r => simp [smallL]

theorem runs_letters (l : List UInt8) : ∀ cur, (∀ c ∈ cur, isL c = true) → ∀ r ∈ runs cur l, r ≠ [] ∧ ∀ c ∈ r, isL c = true := by
  induction l with
  | nil =>
    intro cur hc r hr
    unfold runs at hr
    split at hr
    · cases hr
    · rename_i h
      obtain rfl := List.mem_singleton.1 hr
      exact ⟨by simpa using h, hc⟩
  | cons x l ih =>
    intro cur hc r hr
    cases hx : isL x
    · simp only [runs, hx] at hr
      rcases List.mem_append.1 hr with hr | hr
      · split at hr
        · cases hr
        · rename_i h
          obtain rfl := List.mem_singleton.1 hr
          exact ⟨by simpa using h, hc⟩
      · exact ih [] (fun c h => by cases h) r hr
    · simp only [runs, hx, if_true] at hr
      refine ih (cur ++ [x]) (fun c h => ?_) r hr
      rcases List.mem_append.1 h with h | h
      · exact hc c h
      · obtain rfl := List.mem_singleton.1 h
        exact hx

theorem good_words (l : List UInt8) : ∀ x ∈ wordsL l, Good x.data.toList ∧ x.size ≠ 0 ∧ x.size ≤ 12 := by
  intro x hx
  obtain ⟨r, hr, rfl⟩ := List.mem_map.1 hx
  obtain ⟨h1, h2⟩ := runs_letters l [] (fun c h => by cases h) r hr
  obtain ⟨g1, g2⟩ := good_word r h1 h2
  exact ⟨g1, g2, wordOf_le r⟩

theorem good_small (x : ByteArray) (h : Good x.data.toList) : smallS x = x := by
  apply ba_ext
  show (smallL x.data.toList).toArray.toList = _
  simp only [smallL]
  have : x.data.toList.map low = x.data.toList.map id := List.map_congr_left fun c hc => (h c hc).2
  simpa using this

theorem runs_all (l : List UInt8) : ∀ cur, (∀ c ∈ l, isL c = true) → runs cur l = if (cur ++ l).isEmpty then [] else [cur ++ l] := by
  induction l with
  | nil => intro cur _; simp [runs]
  | cons x l ih =>
    intro cur h
    have hx := h x (by simp)
    rw [runs, if_pos hx, ih (cur ++ [x]) (fun c hc => h c (by simp [hc]))]
    simp

theorem good_one (x : ByteArray) (h : Good x.data.toList) (h0 : x.size ≠ 0) : (wordsL x.data.toList).length = 1 := by
  unfold wordsL
  rw [runs_all x.data.toList [] (fun c hc => (h c hc).1)]
  have : x.data ≠ #[] := fun e => h0 (by rw [← ba_len, e]; rfl)
  simp [this]

theorem fact_words : wordsL (⟨#[74, 117, 109, 112, 105, 110, 103, 45, 102, 111, 120, 101, 115, 33]⟩ : ByteArray).data.toList = [⟨#[106, 117, 109, 112]⟩, ⟨#[102, 111, 120, 101]⟩] := by decide +kernel
theorem fact_ties : stemS ⟨#[116, 105, 101, 115]⟩ = ⟨#[116, 105, 101, 115]⟩ := by decide +kernel
theorem fact_party : stemS ⟨#[112, 97, 114, 116, 105, 101, 115]⟩ = ⟨#[112, 97, 114, 116, 121]⟩ := by decide +kernel
end Go.Proofs.YtalfjdpdecngoaaDoor
