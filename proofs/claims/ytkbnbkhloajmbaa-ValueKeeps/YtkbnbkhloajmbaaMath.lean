/- Plain facts: bytes have the order of the lists that they are, and are read as these lists. -/
import Derived.Test.YtkbnbkhloajmbaaRead
import Derived.Test.YtkbnbkhloajmbaaOrd
import Derived.Lib.Bytealg
namespace Go.Proofs.Ytkbnbkhloajmbaa
open Go.RowKit Go.Lib

/-! ### numbers -/
theorem numOf_snoc (l : List UInt8) (c : UInt8) : numOf (l ++ [c]) = numOf l * 256 + c.toNat := by simp [numOf, List.foldl_append]

theorem div_step (u d : Nat) : u / (d * 256) * 256 + u / d % 256 = u / d := by
  rw [← Nat.div_div_eq_div_mul]
  have := Nat.div_add_mod (u / d) 256
  omega

theorem numOf_numK (u k : Nat) (hk : k ≤ 8) (hu : u < 18446744073709551616) : numOf (numK u k) = u / 256 ^ (8 - k) := by
  induction k with
  | zero =>
    have e : (256 : Nat) ^ (8 - 0) = 18446744073709551616 := by decide
    rw [e, Nat.div_eq_of_lt hu]; rfl
  | succ k ih =>
    rw [numK_succ, numOf_snoc, ih (by omega)]
    have e : 8 - k = (7 - k) + 1 := by omega
    have e2 : 8 - (k + 1) = 7 - k := by omega
    rw [e, e2, Nat.pow_succ]
    have hc : (UInt8.ofNat (u / 256 ^ (7 - k))).toNat = u / 256 ^ (7 - k) % 256 := by simp
    rw [hc]
    exact div_step u _

theorem numOf_8 (u : Nat) (hu : u < 18446744073709551616) : numOf (numK u 8) = u := by
  rw [numOf_numK u 8 (Nat.le_refl _) hu]; simp

theorem numOf_from (l : List UInt8) (a : Nat) : l.foldl (fun u b => u * 256 + b.toNat) a = a * 256 ^ l.length + numOf l := by
  induction l generalizing a with
  | nil => simp [numOf]
  | cons c l ih =>
    simp only [numOf, List.foldl_cons, List.length_cons]
    rw [ih, ih (0 * 256 + c.toNat)]
    rw [Nat.pow_succ, Nat.add_mul]
    have : a * 256 * 256 ^ l.length = a * (256 ^ l.length * 256) := by rw [Nat.mul_assoc, Nat.mul_comm 256]
    simp only [Nat.zero_mul, Nat.zero_add]
    omega

theorem numOf_cons (c : UInt8) (l : List UInt8) : numOf (c :: l) = c.toNat * 256 ^ l.length + numOf l := by
  have := numOf_from l (0 * 256 + c.toNat)
  simp only [Nat.zero_mul, Nat.zero_add] at this
  simp only [numOf, List.foldl_cons, Nat.zero_mul, Nat.zero_add] at this ⊢
  exact this

theorem numOf_lt (l : List UInt8) : numOf l < 256 ^ l.length := by
  induction l with
  | nil => simp [numOf]
  | cons c l ih =>
    rw [numOf_cons, List.length_cons, Nat.pow_succ]
    have hc : c.toNat ≤ 255 := by have := c.toNat_lt; omega
    have := Nat.mul_le_mul_right (256 ^ l.length) hc
    omega

theorem cmp_same_len (a b : List UInt8) (h : a.length = b.length) : compareBytes a b = cmpI (numOf a) (numOf b) := by
  induction a generalizing b with
  | nil =>
    cases b with
    | nil => simp [compareBytes, cmpI]
    | cons c b => simp at h
  | cons x a ih =>
    cases b with
    | nil => simp at h
    | cons y b =>
      simp at h
      have ih := ih b h
      rw [numOf_cons, numOf_cons, ← h]
      have l1 := numOf_lt a
      have l2 := numOf_lt b
      rw [← h] at l2
      unfold compareBytes
      by_cases h1 : x < y
      · have : x.toNat + 1 ≤ y.toNat := UInt8.lt_iff_toNat_lt.1 h1
        have hm := Nat.mul_le_mul_right (256 ^ a.length) this
        rw [Nat.add_mul] at hm
        simp only [if_pos h1, cmpI]
        rw [if_pos (by omega)]
      · by_cases h2 : y < x
        · have : y.toNat + 1 ≤ x.toNat := UInt8.lt_iff_toNat_lt.1 h2
          have hm := Nat.mul_le_mul_right (256 ^ a.length) this
          rw [Nat.add_mul] at hm
          simp only [if_neg h1, if_pos h2, cmpI]
          rw [if_neg (by omega), if_pos (by omega)]
        · have e : x = y := UInt8.le_antisymm (UInt8.not_lt.1 h2) (UInt8.not_lt.1 h1)
          subst e
          rw [if_neg h1, if_neg h2, ih]
          unfold cmpI
          by_cases c1 : (numOf a : Int) < numOf b
          · rw [if_pos c1, if_pos (by omega)]
          · by_cases c2 : (numOf b : Int) < numOf a
            · rw [if_neg c1, if_pos c2, if_neg (by omega), if_pos (by omega)]
            · rw [if_neg c1, if_neg c2, if_neg (by omega), if_neg (by omega)]

theorem cmp_refl_app (a p q : List UInt8) : compareBytes (a ++ p) (a ++ q) = compareBytes p q := by
  induction a with
  | nil => rfl
  | cons x a ih => simp [compareBytes, UInt8.lt_irrefl, ih]

theorem cmp_app (a b p q : List UInt8) (h : a.length = b.length) (hne : a ≠ b) : compareBytes (a ++ p) (b ++ q) = compareBytes a b := by
  induction a generalizing b with
  | nil =>
    cases b with
    | nil => exact absurd rfl hne
    | cons c b => simp at h
  | cons x a ih =>
    cases b with
    | nil => simp at h
    | cons y b =>
      simp at h
      simp only [List.cons_append, compareBytes]
      by_cases h1 : x < y
      · simp [h1]
      · by_cases h2 : y < x
        · simp [h1, h2]
        · have e : x = y := UInt8.le_antisymm (UInt8.not_lt.1 h2) (UInt8.not_lt.1 h1)
          subst e
          rw [if_neg h1, if_neg h2, if_neg h1, if_neg h2]
          exact ih b h (fun e => hne (by rw [e]))

/-! ### texts -/
theorem cmp_less (a b : List UInt8) : compareBytes a b = if Op.bytesLess a b then -1 else if a == b then 0 else 1 := by
  induction a generalizing b with
  | nil => cases b <;> simp [compareBytes, Op.bytesLess]
  | cons x a ih =>
    cases b with
    | nil => simp [compareBytes, Op.bytesLess]
    | cons y b =>
      simp only [compareBytes, Op.bytesLess]
      by_cases h1 : x < y
      · simp [h1]
      · by_cases h2 : y < x
        · have : x ≠ y := fun e => by subst e; exact h1 h2
          simp [h1, h2, this]
        · have e : x = y := UInt8.le_antisymm (UInt8.not_lt.1 h2) (UInt8.not_lt.1 h1)
          subst e
          simp [UInt8.lt_irrefl, ih]

theorem cmpS_eq (a b : ByteArray) : cmpS a b = compareBytes a.data.toList b.data.toList := by
  rw [cmp_less, cmpS, ByteArray.toList_eq, ByteArray.toList_eq]

theorem cmp_text (a b p q : List UInt8) (ha : ∀ c ∈ a, c ≠ 0) (hb : ∀ c ∈ b, c ≠ 0) :
    compareBytes (a ++ 0 :: p) (b ++ 0 :: q) = if a = b then compareBytes p q else compareBytes a b := by
  induction a generalizing b with
  | nil =>
    cases b with
    | nil => simp [compareBytes, UInt8.lt_irrefl]
    | cons y b =>
      have hy : (0 : UInt8) < y := UInt8.lt_of_le_of_ne (UInt8.zero_le) (Ne.symm (hb y (by simp)))
      simp [compareBytes, hy]
  | cons x a ih =>
    cases b with
    | nil =>
      have hx : (0 : UInt8) < x := UInt8.lt_of_le_of_ne (UInt8.zero_le) (Ne.symm (ha x (by simp)))
      have hx' : ¬ x < 0 := UInt8.not_lt.2 UInt8.zero_le
      simp [compareBytes, hx, hx']
    | cons y b =>
      have ih := ih b (fun c hc => ha c (by simp [hc])) (fun c hc => hb c (by simp [hc]))
      simp only [List.cons_append, compareBytes]
      by_cases h1 : x < y
      · have : x ≠ y := fun e => by subst e; exact UInt8.lt_irrefl _ h1
        simp [h1, this]
      · by_cases h2 : y < x
        · have : x ≠ y := fun e => by subst e; exact h1 h2
          simp [h1, h2, this]
        · have e : x = y := UInt8.le_antisymm (UInt8.not_lt.1 h2) (UInt8.not_lt.1 h1)
          subst e
          simp [UInt8.lt_irrefl, ih]
end Go.Proofs.Ytkbnbkhloajmbaa
