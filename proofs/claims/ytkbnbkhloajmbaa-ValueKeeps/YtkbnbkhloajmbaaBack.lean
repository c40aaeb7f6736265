/- Plain facts of values: what is written is read back, and stands in its order. -/
import Derived.Test.YtkbnbkhloajmbaaMath
namespace Go.Proofs.Ytkbnbkhloajmbaa
open Go.RowKit Go.Lib

theorem lets_all (l : List UInt8) (h : lets l = l.length) : ∀ c ∈ l, c ≠ 0 := by
  unfold lets at h
  rw [List.findIdx_eq_length] at h
  intro c hc
  have := h c hc
  simpa using this

theorem textB_parts {s : ByteArray} (h : textB s = true) : s.data.toList.length ≤ 40 ∧ ∀ c ∈ s.data.toList, c ≠ 0 := by
  unfold textB at h
  simp at h
  refine ⟨by rw [← size_list]; exact h.1, lets_all _ (by rw [← size_list]; exact h.2)⟩

theorem empty_of {s : ByteArray} (h : s.toList.isEmpty = true) : s = ⟨#[]⟩ := by
  rw [ByteArray.toList_eq] at h
  apply bytes_ext
  simpa using h

/-- the three kinds of values that may be -/
theorem right_cases {x : Vl} (h : rightW x = true) : x = ⟨0, 0, ⟨#[]⟩⟩ ∨ (∃ n, x = ⟨1, n, ⟨#[]⟩⟩) ∨ ∃ s, x = ⟨2, 0, s⟩ ∧ textB s = true := by
  obtain ⟨k, n, s⟩ := x
  unfold rightW rightB at h
  simp only at h
  by_cases h0 : k = 0
  · subst h0
    simp at h
    obtain ⟨rfl, h2⟩ := h
    obtain rfl := empty_of (s := s) (by simpa using h2)
    exact .inl rfl
  · by_cases h1 : k = 1
    · subst h1
      simp at h
      obtain rfl := empty_of (s := s) (by simpa using h)
      exact .inr (.inl ⟨n, rfl⟩)
    · by_cases h2 : k = 2
      · subst h2
        simp at h
        obtain ⟨rfl, h2⟩ := h
        exact .inr (.inr ⟨s, rfl, h2⟩)
      · simp [h0, h1, h2] at h

theorem shifted_lt {n : Int} (h1 : -9223372036854775808 ≤ n) (h2 : n ≤ 9223372036854775807) : shifted n < 18446744073709551616 ∧ (shifted n : Int) = n + 9223372036854775808 := by
  unfold shifted; omega

theorem lets_text (a p : List UInt8) (hl : a.length ≤ 40) (ha : ∀ c ∈ a, c ≠ 0) : lets ((a ++ 0 :: p).take 41) = a.length := by
  have e : (a ++ 0 :: p).take 41 = a ++ 0 :: p.take (40 - a.length) := by
    rw [List.take_append, List.take_of_length_le (by omega)]
    congr 1
    rw [show 41 - a.length = (40 - a.length) + 1 by omega, List.take_succ_cons]
  rw [e]
  unfold lets
  rw [List.findIdx_append]
  have hn : a.findIdx (fun c => c == 0) = a.length := by
    rw [List.findIdx_eq_length]
    intro c hc
    simpa using ha c hc
  rw [hn, if_neg (by omega), List.findIdx_cons]
  simp

theorem strOf_data (s : ByteArray) : strOf s.data.toList = s := by
  apply bytes_ext
  simp [strOf]

theorem enc_0 : encW ⟨0, 0, ⟨#[]⟩⟩ = [1] := by simp [encW, enc1]
theorem enc_1 (n : Int) : encW ⟨1, n, ⟨#[]⟩⟩ = 2 :: numK (shifted n) 8 := by simp [encW, enc1]
theorem enc_2 (s : ByteArray) : encW ⟨2, 0, s⟩ = 3 :: (s.data.toList ++ [0]) := by simp [encW, enc1]
theorem dec_1 (r : List UInt8) : decV (1 :: r) = (⟨0, 0, ⟨#[]⟩⟩, 1) := by simp [decV, dec1]
theorem dec_2 (r : List UInt8) (h : 8 ≤ r.length) : decV (2 :: r) = (⟨1, (numOf (r.take 8) : Int) - 9223372036854775808, ⟨#[]⟩⟩, 9) := by simp [decV, dec1, h]
theorem dec_3 (r : List UInt8) (h : ¬ lets (r.take 41) = (r.take 41).length) : decV (3 :: r) = (⟨2, 0, strOf (r.take (lets (r.take 41)))⟩, 1 + lets (r.take 41) + 1) := by
  have e : dec1 (3 :: r) = if lets (r.take 41) = (r.take 41).length then none else some (⟨2, 0, strOf (r.take (lets (r.take 41)))⟩, 1 + lets (r.take 41) + 1) := rfl
  unfold decV
  rw [e, if_neg h]
  rfl

theorem dec_enc (x : Vl) (p : List UInt8) (hr : rightW x = true) (hf : Fits x) : decV (encW x ++ p) = (x, (encW x).length) := by
  have hlow := hf.low
  rcases right_cases hr with rfl | ⟨n, rfl⟩ | ⟨s, rfl, hs⟩
  · rw [enc_0]; exact dec_1 p
  · have hsh := shifted_lt hlow.1 hlow.2
    simp only at hsh
    have ht : (numK (shifted n) 8 ++ p).take 8 = numK (shifted n) 8 := by
      rw [List.take_append, List.take_of_length_le (by rw [numK_length]; omega)]
      simp [numK_length]
    have h8 : 8 ≤ (numK (shifted n) 8 ++ p).length := by simp [numK_length]
    have e : ((numOf (numK (shifted n) 8) : Nat) : Int) - 9223372036854775808 = n := by rw [numOf_8 _ hsh.1, hsh.2]; omega
    rw [enc_1, List.cons_append, dec_2 _ h8, ht, e]
    simp [numK_length]
  · obtain ⟨h1, h2⟩ := textB_parts hs
    have ht := lets_text s.data.toList p h1 h2
    have hne : ¬ lets ((s.data.toList ++ 0 :: p).take 41) = ((s.data.toList ++ 0 :: p).take 41).length := by
      rw [ht, List.length_take, List.length_append, List.length_cons]; omega
    have e : s.data.toList ++ [0] ++ p = s.data.toList ++ 0 :: p := by simp
    rw [enc_2, List.cons_append, e, dec_3 _ hne, ht]
    simp [strOf_data]
    omega

theorem encW_ne (x : Vl) : ∃ c r, encW x = c :: r := by
  unfold encW enc1
  split
  · exact ⟨_, _, rfl⟩
  · split
    · exact ⟨_, _, rfl⟩
    · exact ⟨_, _, rfl⟩

theorem keyL_cons (x : Vl) (xs : List Vl) : keyL (x :: xs) = encW x ++ keyL xs := by simp [keyL]
theorem keyL_app (xs ys : List Vl) : keyL (xs ++ ys) = keyL xs ++ keyL ys := by simp [keyL]

/-- what is written is read back -/
theorem read_key (xs : List Vl) (hr : ∀ x ∈ xs, rightW x = true) (hf : ∀ x ∈ xs, Fits x) : ∀ f, (keyL xs).length ≤ f → readF f (keyL xs) = some xs := by
  induction xs with
  | nil => intro f _; exact readF_nil f _ rfl
  | cons x xs ih =>
    intro f hfu
    have hd := dec_enc x (keyL xs) (hr x (by simp)) (hf x (by simp))
    rw [← keyL_cons] at hd
    obtain ⟨c, r, he⟩ := encW_ne x
    have hne : keyL (x :: xs) ≠ [] := by rw [keyL_cons, he]; simp
    obtain ⟨f', h1, h2⟩ := readF_step f _ hfu hne x _ hd (by rw [he]; simp)
    have hdrop : (keyL (x :: xs)).drop (encW x).length = keyL xs := by rw [keyL_cons]; simp
    rw [hdrop] at h1 h2
    rw [h2, ih (fun y hy => hr y (by simp [hy])) (fun y hy => hf y (by simp [hy])) f' h1]
    rfl

/-! ### the order -/
theorem cmpI_zero {a b : Int} : cmpI a b = 0 ↔ a = b := by
  unfold cmpI
  by_cases h1 : a < b
  · simp [h1]; omega
  · by_cases h2 : b < a
    · simp [h1, h2]; omega
    · simp [h1, h2]; omega

theorem cmp_first (c d : UInt8) (p q : List UInt8) (h : c < d) : compareBytes (c :: p) (d :: q) = -1 ∧ compareBytes (d :: q) (c :: p) = 1 := by
  have h' : ¬ d < c := fun e => UInt8.lt_irrefl _ (UInt8.lt_trans h e)
  simp [compareBytes, h, h']

theorem cmpS_zero {a b : ByteArray} : cmpS a b = 0 ↔ a = b := by
  unfold cmpS
  constructor
  · intro h
    by_cases h1 : Op.bytesLess a.toList b.toList = true
    · simp [h1] at h
    · by_cases h2 : (a.toList == b.toList) = true
      · have e : a.toList = b.toList := by simpa using h2
        rw [ByteArray.toList_eq, ByteArray.toList_eq] at e
        exact bytes_ext e
      · simp [h1, h2] at h
  · rintro rfl
    have : Op.bytesLess a.toList a.toList = false := by
      generalize a.toList = l
      induction l with
      | nil => rfl
      | cons x l ih => simp [Op.bytesLess, UInt8.lt_irrefl, ih]
    simp [this]

theorem enc_cmp (x y : Vl) (p q : List UInt8) (hx : rightW x = true) (hy : rightW y = true) (fx : Fits x) (fy : Fits y) :
    compareBytes (encW x ++ p) (encW y ++ q) = if cmpW x y = 0 then compareBytes p q else cmpW x y := by
  have lx := fx.low
  have ly := fy.low
  have c12 : (1 : UInt8) < 2 := by decide
  have c13 : (1 : UInt8) < 3 := by decide
  have c23 : (2 : UInt8) < 3 := by decide
  rcases right_cases hx with rfl | ⟨n, rfl⟩ | ⟨s, rfl, hs⟩ <;> rcases right_cases hy with rfl | ⟨n', rfl⟩ | ⟨s', rfl, hs'⟩
  · have : cmpW ⟨0, 0, ⟨#[]⟩⟩ ⟨0, 0, ⟨#[]⟩⟩ = 0 := by unfold cmpW; rw [cmpV_s, cmpS_zero]
    rw [this, if_pos rfl]
    exact cmp_refl_app [1] p q
  · have : cmpW ⟨0, 0, ⟨#[]⟩⟩ ⟨1, n', ⟨#[]⟩⟩ = -1 := cmpV_k1 (by simp)
    rw [this, if_neg (by decide)]
    exact (cmp_first 1 2 _ _ c12).1
  · have : cmpW ⟨0, 0, ⟨#[]⟩⟩ ⟨2, 0, s'⟩ = -1 := cmpV_k1 (by simp)
    rw [this, if_neg (by decide)]
    exact (cmp_first 1 3 _ _ c13).1
  · have : cmpW ⟨1, n, ⟨#[]⟩⟩ ⟨0, 0, ⟨#[]⟩⟩ = 1 := cmpV_k2 (by simp)
    rw [this, if_neg (by decide)]
    exact (cmp_first 1 2 _ _ c12).2
  · have e : cmpW ⟨1, n, ⟨#[]⟩⟩ ⟨1, n', ⟨#[]⟩⟩ = cmpI n n' := by
      unfold cmpW cmpV
      simp only [if_true]
      by_cases h : n = n'
      · rw [if_pos h, cmpS_zero.2 rfl, cmpI_zero.2 h]
      · rw [if_neg h]
    have s1 := shifted_lt lx.1 lx.2
    have s2 := shifted_lt ly.1 ly.2
    simp only at s1 s2
    rw [e]
    rw [enc_1, enc_1, List.cons_append, List.cons_append]
    have hc : ∀ a b : List UInt8, compareBytes (2 :: a) (2 :: b) = compareBytes a b := fun a b => by simp [compareBytes]
    rw [hc]
    by_cases h : n = n'
    · subst h
      rw [cmpI_zero.2 rfl, if_pos rfl]
      exact cmp_refl_app _ p q
    · rw [if_neg (fun e => h (cmpI_zero.1 e))]
      have hne : numK (shifted n) 8 ≠ numK (shifted n') 8 := fun e => by
        have := congrArg numOf e
        rw [numOf_8 _ s1.1, numOf_8 _ s2.1] at this
        omega
      rw [cmp_app _ _ p q (by simp [numK_length]) hne, cmp_same_len _ _ (by simp [numK_length]), numOf_8 _ s1.1, numOf_8 _ s2.1, s1.2, s2.2]
      unfold cmpI
      by_cases h1 : n < n'
      · rw [if_pos h1, if_pos (by omega)]
      · by_cases h2 : n' < n
        · rw [if_neg h1, if_pos h2, if_neg (by omega), if_pos (by omega)]
        · omega
  · have : cmpW ⟨1, n, ⟨#[]⟩⟩ ⟨2, 0, s'⟩ = -1 := cmpV_k1 (by simp)
    rw [this, if_neg (by decide)]
    exact (cmp_first 2 3 _ _ c23).1
  · have : cmpW ⟨2, 0, s⟩ ⟨0, 0, ⟨#[]⟩⟩ = 1 := cmpV_k2 (by simp)
    rw [this, if_neg (by decide)]
    exact (cmp_first 1 3 _ _ c13).2
  · have : cmpW ⟨2, 0, s⟩ ⟨1, n', ⟨#[]⟩⟩ = 1 := cmpV_k2 (by simp)
    rw [this, if_neg (by decide)]
    exact (cmp_first 2 3 _ _ c23).2
  · have e : cmpW ⟨2, 0, s⟩ ⟨2, 0, s'⟩ = cmpS s s' := cmpV_s
    obtain ⟨_, h1⟩ := textB_parts hs
    obtain ⟨_, h2⟩ := textB_parts hs'
    rw [e]
    rw [enc_2, enc_2]
    simp only [List.cons_append, List.append_assoc, List.nil_append]
    have hc : ∀ a b : List UInt8, compareBytes (3 :: a) (3 :: b) = compareBytes a b := fun a b => by simp [compareBytes]
    rw [hc, cmp_text _ _ p q h1 h2]
    by_cases h : s = s'
    · subst h
      rw [cmpS_zero.2 rfl]; simp
    · rw [if_neg (fun e => h (bytes_ext e)), if_neg (fun e => h (cmpS_zero.1 e)), cmpS_eq]

/-- bytes have the order -/
theorem key_order (xs ys : List Vl) (rx : ∀ x ∈ xs, rightW x = true) (ry : ∀ y ∈ ys, rightW y = true) (fx : ∀ x ∈ xs, Fits x) (fy : ∀ y ∈ ys, Fits y) :
    compareBytes (keyL xs) (keyL ys) = ordL xs ys := by
  induction xs generalizing ys with
  | nil =>
    cases ys with
    | nil => rfl
    | cons y ys =>
      obtain ⟨c, r, e⟩ := encW_ne y
      rw [keyL_cons, e]
      rfl
  | cons x xs ih =>
    cases ys with
    | nil =>
      obtain ⟨c, r, e⟩ := encW_ne x
      rw [keyL_cons, e]
      rfl
    | cons y ys =>
      rw [keyL_cons, keyL_cons, enc_cmp x y _ _ (rx x (by simp)) (ry y (by simp)) (fx x (by simp)) (fy y (by simp)),
        ih ys (fun z hz => rx z (by simp [hz])) (fun z hz => ry z (by simp [hz])) (fun z hz => fx z (by simp [hz])) (fun z hz => fy z (by simp [hz]))]
      rfl
end Go.Proofs.Ytkbnbkhloajmbaa
