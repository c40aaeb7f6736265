/- A statement's words and marks, as plain data. -/
import Derived.Test.YtgmibjcccdgkgaaDoorWPure
import Derived.Lib.Bytealg
namespace Go.Proofs.YtgmibjcccdgkgaaDoor
open Go.RowKit

/-- a token: its kind, what it says, where it stands -/
structure Tok where
  k : Int
  t : ByteArray
  p : Nat
def alphaN (x : Nat) : Bool := decide (97 ≤ x) && decide (x ≤ 122) || decide (65 ≤ x) && decide (x ≤ 90) || decide (x = 95)
def digN (x : Nat) : Bool := decide (48 ≤ x) && decide (x ≤ 57)
def isAl (c : UInt8) : Bool := alphaN c.toNat
def isDg (c : UInt8) : Bool := digN c.toNat
def wordC (c : UInt8) : Bool := isAl c || isDg c
def blankC (c : UInt8) : Bool := decide (c.toNat = 32) || decide (c.toNat = 9) || decide (c.toNat = 13) || decide (c.toNat = 10)
def markC (c : UInt8) : Bool := decide (0 ≤ Lib.indexByte [60, 62, 61, 43, 45, 42, 40, 41, 44, 46, 59] c)
/-- two marks that are one -/
def twoC (c d : UInt8) : Bool := decide (c.toNat = 60 ∧ d.toNat = 62) || decide (c.toNat = 60 ∧ d.toNat = 61) || decide (c.toNat = 62 ∧ d.toNat = 61)
/-- what stands behind a quote: what it says, and how long it is, with the quote that ends it -/
def strL : List UInt8 → Option (List UInt8 × Nat)
  | [] => none
  | [c] => if c.toNat = 39 then some ([], 1) else none
  | c :: d :: r => if c.toNat = 39 then (if d.toNat = 39 then (strL r).map (fun x => (d :: x.1, x.2 + 2)) else some ([], 1)) else (strL (d :: r)).map (fun x => (c :: x.1, x.2 + 1))
def markT (c : UInt8) : List UInt8 → Int × List UInt8 × Nat
  | d :: _ => if twoC c d then (4, [c, d], 2) else (4, [c], 1)
  | [] => (4, [c], 1)
/-- the token that stands there: its kind, what it says, how long it is -/
def nextT : List UInt8 → Option (Int × List UInt8 × Nat)
  | [] => none
  | c :: l =>
    if isAl c then some (1, smallL (c :: l.takeWhile wordC), (l.takeWhile wordC).length + 1)
    else if isDg c then some (2, c :: l.takeWhile isDg, (l.takeWhile isDg).length + 1)
    else if c.toNat = 39 then (strL l).map fun x => (3, x.1, x.2 + 1)
    else if markC c then some (markT c l)
    else none
def lexL : Nat → Nat → Nat → List UInt8 → Except (Int × Nat) (List Tok)
  | 0, i, _, _ => .ok [⟨5, ⟨#[]⟩, i⟩]
  | _ + 1, i, _, [] => .ok [⟨5, ⟨#[]⟩, i⟩]
  | f + 1, i, n, c :: l =>
    if blankC c then lexL f (i + 1) n l
    else match nextT (c :: l) with
      | none => .error (3, i)
      | some (k, t, m) => if (k = 2 ∧ 19 < m) ∨ n = 200 then .error (4, i) else (lexL f (i + m) (n + 1) ((c :: l).drop m)).map (⟨k, ⟨t.toArray⟩, i⟩ :: ·)

theorem strL_pos (l : List UInt8) : ∀ x, strL l = some x → 0 < x.2 ∧ x.2 ≤ l.length ∧ x.1.length ≤ l.length := by
  induction l using strL.induct with
  | case1 => intro x h; cases h
  | case2 c h => intro x hx; rw [strL, if_pos h] at hx; cases hx; exact ⟨by decide, by simp, by simp⟩
  | case3 c h => intro x hx; rw [strL, if_neg h] at hx; cases hx
  | case4 c d r h1 h2 ih =>
    intro x hx
    rw [strL, if_pos h1, if_pos h2, Option.map_eq_some_iff] at hx
    obtain ⟨y, hy, rfl⟩ := hx
    have := ih y hy
    simp only [List.length_cons]
    omega
  | case5 c d r h1 h2 => intro x hx; rw [strL, if_pos h1, if_neg h2] at hx; cases hx; exact ⟨by decide, by simp, by simp⟩
  | case6 c d r h1 ih =>
    intro x hx
    rw [strL, if_neg h1, Option.map_eq_some_iff] at hx
    obtain ⟨y, hy, rfl⟩ := hx
    have := ih y hy
    simp only [List.length_cons] at this ⊢
    omega
theorem nextT_pos {l : List UInt8} {k : Int} {t : List UInt8} {m : Nat} (h : nextT l = some (k, t, m)) : 0 < m ∧ m ≤ l.length ∧ t.length ≤ l.length := by
  cases l with
  | nil => cases h
  | cons c l =>
    rw [nextT] at h
    split at h
    · cases h
      have := (List.takeWhile_sublist wordC (l := l)).length_le
      refine ⟨by omega, by simp only [List.length_cons]; omega, ?_⟩
      simp only [smallL, List.length_map, List.length_cons]
      omega
    · split at h
      · cases h
        have := (List.takeWhile_sublist isDg (l := l)).length_le
        refine ⟨by omega, by simp only [List.length_cons]; omega, by simp only [List.length_cons]; omega⟩
      · split at h
        · rw [Option.map_eq_some_iff] at h
          obtain ⟨x, hx, e⟩ := h
          cases e
          have := strL_pos l x hx
          simp only [List.length_cons]
          omega
        · split at h
          · have e := Option.some.inj h
            cases l with
            | nil => rw [markT] at e; cases e; simp
            | cons d r =>
              rw [markT] at e
              split at e
              · cases e; simp
              · cases e; simp
          · cases h
theorem lexL_fuel (f : Nat) : ∀ g i n l, l.length ≤ f → l.length ≤ g → lexL f i n l = lexL g i n l := by
  induction f with
  | zero =>
    intro g i n l h1 h2
    obtain rfl : l = [] := List.length_eq_zero_iff.1 (by omega)
    cases g <;> rfl
  | succ f ih =>
    intro g i n l h1 h2
    cases l with
    | nil => cases g <;> rfl
    | cons c l =>
      cases g with
      | zero => simp at h2
      | succ g =>
        simp only [List.length_cons] at h1 h2
        rw [lexL, lexL]
        split
        · exact ih g _ _ _ (by omega) (by omega)
        · split
          · rfl
          · rename_i k t m hm
            have := nextT_pos hm
            rw [ih g (i + m) (n + 1) ((c :: l).drop m) (by rw [List.length_drop, List.length_cons]; omega) (by rw [List.length_drop, List.length_cons]; omega)]
/-- the tokens of a text -/
def lexS (s : ByteArray) : Except (Int × Nat) (List Tok) := lexL s.size 0 0 s.data.toList
/-- tokens, as cells -/
def tc (l : List Tok) : List Value := l.flatMap fun x => [.int .i64 x.k, .string x.t, .int .i64 x.p]
theorem tc_append (a b : List Tok) : tc (a ++ b) = tc a ++ tc b := by simp [tc]
theorem tc_length (l : List Tok) : (tc l).length = l.length * 3 := by
  induction l with
  | nil => rfl
  | cons x l ih => rw [tc, List.flatMap_cons, List.length_append]; rw [tc] at ih; rw [ih, List.length_cons]; simp; omega
end Go.Proofs.YtgmibjcccdgkgaaDoor
