/- How the document cuts what is looked for, as plain data. -/
import Derived.Test.YtleegplecdknlaaDoorAPure
namespace Go.Proofs.YtleegplecdknlaaDoor
open Go.RowKit

/-- where a run of such bytes ends -/
def endW (p : UInt8 → Bool) (s : ByteArray) (k : Nat) : Nat := k + ((s.data.toList.drop k).takeWhile p).length
theorem endW_step {p : UInt8 → Bool} {s : ByteArray} {k : Nat} (h : k < s.size) (hp : p s[k] = true) : endW p s k = endW p s (k + 1) := by
  unfold endW
  rw [drop_at s k h, List.takeWhile_cons_of_pos hp, List.length_cons]
  omega
theorem endW_stop {p : UInt8 → Bool} {s : ByteArray} {k : Nat} (h : k < s.size) (hp : p s[k] = false) : endW p s k = k := by
  unfold endW
  rw [drop_at s k h, List.takeWhile_cons_of_neg (by rw [hp]; decide)]
  rfl
theorem endW_end {p : UInt8 → Bool} {s : ByteArray} {k : Nat} (h : s.size ≤ k) : endW p s k = k := by
  unfold endW
  rw [List.drop_eq_nil_of_le (by rw [ba_len]; exact h)]
  rfl
theorem endW_ge (p : UInt8 → Bool) (s : ByteArray) (k : Nat) : k ≤ endW p s k := by unfold endW; omega
theorem endW_le {p : UInt8 → Bool} {s : ByteArray} {k : Nat} (h : k ≤ s.size) : endW p s k ≤ s.size := by
  unfold endW
  have h1 := (List.takeWhile_sublist p (l := s.data.toList.drop k)).length_le
  rw [List.length_drop, ba_len] at h1
  omega
def notQ (c : UInt8) : Bool := !decide (c.toNat = 34)
def isCut (c : UInt8) : Bool := c == 32 || c == 40 || c == 41 || c == 42 || c == 34
def notC (c : UInt8) : Bool := !isCut c
def piecesM (s : ByteArray) : Nat → Nat → Option (List ByteArray)
  | 0, _ => some []
  | f + 1, i =>
    if h : i < s.size then
      if s[i].toNat = 32 then piecesM s f (i + 1)
      else if s[i].toNat = 40 ∨ s[i].toNat = 41 ∨ s[i].toNat = 42 then (piecesM s f (i + 1)).map (s.extract i (i + 1) :: ·)
      else if s[i].toNat = 34 then
        if endW notQ s (i + 1) = s.size then none else (piecesM s f (endW notQ s (i + 1) + 1)).map (s.extract i (endW notQ s (i + 1)) :: ·)
      else (piecesM s f (endW notC s i)).map (s.extract i (endW notC s i) :: ·)
    else some []
theorem piecesM_end {s : ByteArray} {f i : Nat} (h : s.size ≤ i) : piecesM s f i = some [] := by
  cases f with
  | zero => rfl
  | succ f => rw [piecesM, dif_neg (by omega)]
theorem extract_le (s : ByteArray) (i k : Nat) (h : k ≤ s.size) : (s.extract i k).size ≤ s.size := by simp; omega
theorem pieces_spec (s : ByteArray) (f : Nat) : ∀ i L, piecesM s f i = some L → L.length ≤ f ∧ ∀ x ∈ L, x.size ≤ s.size := by
  induction f with
  | zero => intro i L h; cases h; exact ⟨Nat.le_refl _, fun x h => by cases h⟩
  | succ f ih =>
    have key : ∀ (x : ByteArray) (j : Nat) (L : List ByteArray), x.size ≤ s.size → (piecesM s f j).map (x :: ·) = some L → L.length ≤ f + 1 ∧ ∀ y ∈ L, y.size ≤ s.size := by
      intro x j L hx h
      cases hm : piecesM s f j with
      | none => rw [hm] at h; cases h
      | some M =>
        rw [hm] at h
        cases h
        obtain ⟨h1, h2⟩ := ih j M hm
        refine ⟨by simp; omega, fun y hy => ?_⟩
        rcases List.mem_cons.1 hy with rfl | hy
        · exact hx
        · exact h2 y hy
    intro i L h
    rw [piecesM] at h
    split at h
    · rename_i hi
      split at h
      · obtain ⟨h1, h2⟩ := ih _ _ h; exact ⟨by omega, h2⟩
      · split at h
        · exact key _ _ _ (extract_le _ _ _ (by omega)) h
        · split at h
          · split at h
            · cases h
            · exact key _ _ _ (extract_le _ _ _ (endW_le (by omega))) h
          · exact key _ _ _ (extract_le _ _ _ (endW_le (by omega))) h
    · cases h; exact ⟨by simp, fun x h => by cases h⟩
end Go.Proofs.YtleegplecdknlaaDoor
