/- PostingBack, walked. -/
import Derived.Test.YtalfjdpdecngoaaPBackM
import Derived.Test.YtalfjdpdecngoaaPMath
import Derived.Test.YtalfjdpdecngoaaPMerge
import Derived.Test.YtalfjdpdecngoaaPSameK
namespace Go.Proofs.Ytalfjdpdecngoaa
open Go.RowKit

set_option maxRecDepth 100000 in
set_option maxHeartbeats 2000000 in
theorem posted_any (w : World) : Calls Try.prog 17 #[] w fun e w' => e = .returned (.bool true) ∧ Below w.heap.size w w' := by
  go_enter Try.func17, Try.ntmps17
  go_wp2_with fail
  have HA : Hid (Below w.heap.size w (w.alloc (.cells #[.int .i64 1, .int .i64 0, .int .i64 1, .int .i64 2, .int .i64 3, .int .i64 1] 25))) := (Below.refl _ _).alloc (Nat.le_refl _) _
  refine (write_yes (some ⟨w.heap.size, 0, none⟩) 3 3 [⟨1, 0⟩, ⟨1, 2⟩, ⟨3, 1⟩] _ ?h1 fact_right (by decide)).mono ?_
  case h1 =>
    refine ⟨rfl, by decide, .inr ⟨w.heap.size, 0, rfl, by simp, fun i hi => ?_⟩⟩
    have : i = 0 ∨ i = 1 ∨ i = 2 := by simp at hi; omega
    rcases this with rfl | rfl | rfl <;> simp
  rintro _ w2 ⟨rfl, hb2⟩
  rw [fact_enc]
  have HB2 : Hid (Below w.heap.size w w2) := HA.out.trans (hb2.mono HA.out.size)
  clear hb2 HA
  go_wp2
  go_ret
  exact ⟨by simp, HB2.out⟩

theorem InP.slice {w : World} {v : Value} {xs : List Pl} (h : InP w v xs) : ∃ a c, v = .slice a xs.length c := by
  obtain ⟨a, c, h1, _⟩ := h
  exact ⟨a, c, h1⟩
theorem same_in {v v' : Value} {xs : List Pl} {w : World} (h : InP w v xs) (h' : InP w v' xs) : Calls Try.prog 21 #[v, v'] w fun e w' => e = .returned (.bool true) ∧ Below w.heap.size w w' := by
  obtain ⟨a, c, rfl, _, r, _⟩ := h
  obtain ⟨a', c', rfl, _, r', _⟩ := h'
  exact same_keep a a' _ _ c c' xs w r r'
theorem right_in {v : Value} {xs : List Pl} {w : World} (b : Bool) (hb : rightL xs = b) (h : InP w v xs) : Calls Try.prog 18 #[v] w fun e w' => e = .returned (.bool b) ∧ Below w.heap.size w w' := by
  obtain ⟨a, c, rfl, _, r, _⟩ := h
  exact right_as b a _ c xs hb w r
theorem write_in {v : Value} {xs : List Pl} {w : World} (h : InP w v xs) (hn : rightL xs = true) (hl : xs.length ≤ 1000) : Calls Try.prog 19 #[v] w fun e w' => e = .returned (.tuple #[.string ⟨(encL xs).toArray⟩, .nilIface]) ∧ Below w.heap.size w w' := by
  obtain ⟨a, c, rfl, _, r, _⟩ := h
  exact write_yes a _ c xs w r hn hl
theorem read_in (s : ByteArray) (ps : List Pl) (h : readL s.data.toList = some ps) (w : World) (hs : s.size ≤ 900000) :
    Calls Try.prog 20 #[.string s] w fun e w' => ∃ v, e = .returned (.tuple #[v, .nilIface]) ∧ InP w' v ps ∧ Below w.heap.size w w' := by
  refine (read_any s w hs).mono ?_
  rintro e w' ⟨h1 | ⟨h1, _⟩, hb⟩
  · obtain ⟨qs, v, h2, rfl, h3, h4⟩ := h1
    rw [h] at h2
    cases h2
    exact ⟨v, rfl, InP.of_own h4 (by omega), hb⟩
  · rw [h] at h1; cases h1
theorem merge_in {va vb : Value} {xs ys : List Pl} {w : World} (h1 : InP w va xs) (h2 : InP w vb ys) (hl1 : xs.length ≤ 1000) (hl2 : ys.length ≤ 1000) (T : List Pl) (hT : mergeL xs ys = T) (hl : T.length ≤ 2000) :
    Calls Try.prog 7 #[va, vb] w fun e w' => ∃ a c, e = .returned (.slice a T.length c) ∧ InP w' (.slice a T.length c) T ∧ Below w.heap.size w w' := by
  refine (merge_any va vb xs ys w h1 h2 (by omega) (by omega)).mono ?_
  rintro e w' ⟨v, rfl, ho, hb⟩
  rw [hT] at ho
  have hi := InP.of_own ho (by omega)
  obtain ⟨a, c, rfl⟩ := hi.slice
  exact ⟨a, c, rfl, hi, hb⟩
theorem without_in {va : Value} {xs : List Pl} {w : World} (row : Int) (h1 : InP w va xs) (hl1 : xs.length ≤ 1000) (T : List Pl) (hT : xs.filter (fun p => p.r != row) = T) (hl : T.length ≤ 2000) :
    Calls Try.prog 9 #[va, .int .i64 row] w fun e w' => ∃ a c, e = .returned (.slice a T.length c) ∧ InP w' (.slice a T.length c) T ∧ Below w.heap.size w w' := by
  refine (without_any va xs row w h1 (by omega)).mono ?_
  rintro e w' ⟨v, rfl, ho, hb⟩
  rw [hT] at ho
  have hi := InP.of_own ho (by omega)
  obtain ⟨a, c, rfl⟩ := hi.slice
  exact ⟨a, c, rfl, hi, hb⟩
theorem follow_in {va vb : Value} {xs ys : List Pl} {w : World} (h1 : InP w va xs) (h2 : InP w vb ys) (hok : ∀ z ∈ xs, OkP z) (hl2 : ys.length ≤ 1000) (T : List Pl) (hT : keepL stpF xs ys = T) (hl : T.length ≤ 2000) :
    Calls Try.prog 13 #[va, vb] w fun e w' => ∃ a c, e = .returned (.slice a T.length c) ∧ InP w' (.slice a T.length c) T ∧ Below w.heap.size w w' := by
  refine (follow_any va vb xs ys w h1 h2 hok (by omega)).mono ?_
  rintro e w' ⟨v, rfl, ho, hb⟩
  rw [hT] at ho
  have hi := InP.of_own ho (by omega)
  obtain ⟨a, c, rfl⟩ := hi.slice
  exact ⟨a, c, rfl, hi, hb⟩
theorem ints_slice {w : World} {B : Nat} {v : Value} {l : List Int} (h : w.ownsRow B 3 1 v l.length (icc l)) : ∃ a c, v = .slice a l.length c := by
  rcases h.2 with ⟨rfl, h0⟩ | ⟨g, cap, cur, rfl, _⟩
  · exact ⟨none, 0, by rw [h0]⟩
  · exact ⟨_, cap, rfl⟩
theorem near_in {va vb : Value} {xs ys : List Pl} {w : World} (far : Int) (h1 : InP w va xs) (h2 : InP w vb ys) (hl1 : xs.length ≤ 1000) (hl2 : ys.length ≤ 1000) (hk1 : ∀ z ∈ xs, OkP z) (hk2 : ∀ z ∈ ys, OkP z) (n : Nat) (hn : (nearFrom far [] xs ys).length = n) :
    Calls Try.prog 15 #[va, vb, .int .i64 far] w fun e w' => ∃ a c, e = .returned (.slice a n c) ∧ Below w.heap.size w w' := by
  refine (near_any va vb far xs ys w h1 h2 (by omega) (by omega) hk1 hk2).mono ?_
  rintro e w' ⟨v, rfl, ho, hb⟩
  obtain ⟨a, c, rfl⟩ := ints_slice ho
  exact ⟨a, c, by rw [hn], hb⟩
theorem rows_in {va : Value} {xs : List Pl} {w : World} (h1 : InP w va xs) (hl1 : xs.length ≤ 1000) (n : Nat) (hn : (rowsFrom [] xs).length = n) :
    Calls Try.prog 11 #[va] w fun e w' => ∃ a c, e = .returned (.slice a n c) ∧ Below w.heap.size w w' := by
  refine (rows_any va xs w h1 (by omega)).mono ?_
  rintro e w' ⟨v, rfl, ho, hb⟩
  obtain ⟨a, c, rfl⟩ := ints_slice ho
  exact ⟨a, c, by rw [hn], hb⟩

/-- all that the statement asks of two lists that may be -/
theorem back_facts (a b : List Pl) (row : Int) (ha : rightL a = true) (hb : rightL b = true) :
    rightL (mergeL a b) = true ∧ mergeL b a = mergeL a b ∧ mergeL (mergeL a b) a = mergeL a b ∧
    mergeL (a.filter (fun p => p.r != row)) (b.filter (fun p => p.r != row)) = (mergeL a b).filter (fun p => p.r != row) ∧ rightL ((mergeL a b).filter (fun p => p.r != row)) = true ∧
    mergeL b (keepL stpF a b) = b ∧ (nearFrom 0 [] a b).length ≤ (nearFrom 5 [] a b).length ∧ (nearFrom 0 [] (keepL stpF a b) b).length = (rowsFrom [] (keepL stpF a b)).length := by
  obtain ⟨a1, a2⟩ := (right_iff a).1 ha
  obtain ⟨b1, b2⟩ := (right_iff b).1 hb
  have hm := mergeL_sorted a2 b2
  have hmk : ∀ q ∈ mergeL a b, OkP q := fun q hq => by rcases (mem_mergeL _ _ _).1 hq with h | h; exact a1 q h; exact b1 q h
  have hsub := keep_sub stpF b a
  have hf := b2.sublist hsub
  refine ⟨(right_iff _).2 ⟨hmk, hm⟩, merge_comm _ b a (Nat.le_refl _), ?_, ?_, ?_, ?_, ?_, ?_⟩
  · refine place_ext (mergeL_sorted hm a2) hm (fun x => ?_)
    rw [mem_mergeL, mem_mergeL]
    exact ⟨fun h => by rcases h with h | h; exact h; exact .inl h, fun h => .inl h⟩
  · refine place_ext (mergeL_sorted (a2.filter _) (b2.filter _)) (hm.filter _) (fun x => ?_)
    rw [mem_mergeL, List.mem_filter, List.mem_filter, List.mem_filter, mem_mergeL]
    exact ⟨fun h => by rcases h with h | h; exact ⟨.inl h.1, h.2⟩; exact ⟨.inr h.1, h.2⟩, fun ⟨h, k⟩ => by rcases h with h | h; exact .inl ⟨h, k⟩; exact .inr ⟨h, k⟩⟩
  · exact (right_iff _).2 ⟨fun q hq => hmk q (List.mem_filter.1 hq).1, hm.filter _⟩
  · refine place_ext (mergeL_sorted b2 hf) b2 (fun x => ?_)
    rw [mem_mergeL]
    exact ⟨fun h => by rcases h with h | h; exact h; exact hsub.subset h, fun h => .inl h⟩
  · obtain ⟨n1, n2⟩ := near_list 0 a2 b2
    obtain ⟨m1, m2⟩ := near_list 5 a2 b2
    refine rising_le _ _ n1 m1 (fun r hr => ?_)
    obtain ⟨p, hp, q, hq, h1, h2, h3, h4⟩ := (n2 r).1 hr
    exact (m2 r).2 ⟨p, hp, q, hq, h1, h2, by omega, by omega⟩
  · obtain ⟨n1, n2⟩ := near_list 0 hf b2
    obtain ⟨m1, m2⟩ := rows_list hf
    refine congrArg List.length (rising_ext (R := fun x y : Int => x < y) (fun a => by omega) (fun a b h => by omega) _ _ n1 m1 (fun r => ?_))
    rw [n2, m2]
    exact ⟨fun ⟨p, hp, _, _, h1, _⟩ => ⟨p, hp, h1⟩, fun ⟨p, hp, h1⟩ => ⟨p, hp, p, hsub.subset hp, h1, h1, by omega, by omega⟩⟩
theorem merge_le (n : Nat) : ∀ a b : List Pl, a.length + b.length ≤ n → (mergeL a b).length ≤ a.length + b.length := by
  induction n with
  | zero =>
    intro a b h
    have ha : a = [] := List.length_eq_zero_iff.1 (by omega)
    subst ha
    simp [mergeL]
  | succ n ih =>
    intro a b h
    cases a with
    | nil => simp [mergeL]
    | cons x a =>
      cases b with
      | nil => simp [mergeL]
      | cons y b =>
        simp only [List.length_cons] at h ⊢
        rcases cmpP_cases x y with ⟨e, _⟩ | ⟨e, _⟩ | ⟨e, _⟩
        · rw [merge_lt e]; have := ih a (y :: b) (by simp only [List.length_cons]; omega); simp only [List.length_cons] at this ⊢; omega
        · rw [merge_eq e]; have := ih a b (by omega); simp only [List.length_cons]; omega
        · rw [merge_gt e]; have := ih (x :: a) b (by simp only [List.length_cons]; omega); simp only [List.length_cons] at this ⊢; omega
end Go.Proofs.Ytalfjdpdecngoaa
