/- Blanks between tokens are nothing, as plain data: the whole text. -/
import Derived.Test.YtgmibjcccdgkgaaDoorLBlank
namespace Go.Proofs.YtgmibjcccdgkgaaDoor
open Go.RowKit

/-- tokens, written with such blanks ahead of each -/
def outL (gs : Nat → List UInt8) (ups : Nat → Bool) : Nat → List Tok → List UInt8
  | _, [] => []
  | j, x :: L => gs j ++ (wr (ups j) x ++ outL gs ups (j + 1) L)
/-- .. where they stand there -/
def movL (gs : Nat → List UInt8) (ups : Nat → Bool) : Nat → Nat → List Tok → List Tok
  | _, _, [] => []
  | j, i, x :: L => ⟨x.k, x.t, i + (gs j).length⟩ :: movL gs ups (j + 1) (i + (gs j).length + (wr (ups j) x).length) L
theorem lex_out (gs : Nat → List UInt8) (ups : Nat → Bool) (hg : ∀ j, gs j ≠ [] ∧ ∀ c ∈ gs j, blankC c = true) (C : List Tok) : ∀ (j i n p : Nat), (∀ x ∈ C, Canon x) → n + C.length ≤ 200 →
    lexF i n (outL gs ups j (C ++ [⟨5, ⟨#[]⟩, p⟩])) = .ok (movL gs ups j i (C ++ [⟨5, ⟨#[]⟩, p⟩])) := by
  induction C with
  | nil =>
    intro j i n p _ _
    have e : wr (ups j) ⟨5, ⟨#[]⟩, p⟩ = [] := by simp [wr]
    show lexF i n (gs j ++ (wr (ups j) ⟨5, ⟨#[]⟩, p⟩ ++ [])) = _
    rw [e, lexF_gap _ _ _ _ (hg j).2]
    rfl
  | cons x C ih =>
    intro j i n p hC hn
    simp only [List.length_cons] at hn
    have hx := hC x (by simp)
    obtain ⟨rest, hrest⟩ : ∃ r, outL gs ups (j + 1) (C ++ [⟨5, ⟨#[]⟩, p⟩]) = r := ⟨_, rfl⟩
    have hhead : ∀ c ∈ rest.head?, blankC c = true := by
      intro c hc
      have hne := (hg (j + 1)).1
      have hb := (hg (j + 1)).2
      have e : ∃ y r', rest = gs (j + 1) ++ (y ++ r') := by
        rw [← hrest]
        cases C with
        | nil => exact ⟨_, _, rfl⟩
        | cons z C => exact ⟨_, _, rfl⟩
      obtain ⟨y, r', e⟩ := e
      rw [e] at hc
      cases hgs : gs (j + 1) with
      | nil => exact absurd hgs hne
      | cons d g' =>
        rw [hgs] at hc hb
        simp at hc
        subst hc
        exact hb _ (by simp)
    obtain ⟨c, l, hw, hcb, hnx⟩ := hx.2 (ups j) rest hhead
    show lexF i n (gs j ++ (wr (ups j) x ++ outL gs ups (j + 1) (C ++ [⟨5, ⟨#[]⟩, p⟩]))) = _
    rw [hrest, lexF_gap _ _ _ _ (hg j).2]
    have hlim : ¬ ((x.k = 2 ∧ 19 < (wr (ups j) x).length) ∨ n = 200) := by
      rintro (⟨h1, h2⟩ | h1)
      · have e : wr (ups j) x = x.t.data.toList := by simp [wr, h1]
        rw [e, ba_len] at h2
        have := hx.1 h1
        omega
      · omega
    have e1 : c :: (l ++ rest) = wr (ups j) x ++ rest := by rw [hw]; rfl
    have hnx' : nextT (c :: (l ++ rest)) = some (x.k, x.t.data.toList, (wr (ups j) x).length) := by rw [e1]; exact hnx
    have step := lexF_tok (i := i + (gs j).length) hcb hnx' hlim
    rw [e1, List.drop_left, ← hrest, ih (j + 1) _ (n + 1) p (fun y hy => hC y (by simp [hy])) (by omega)] at step
    rw [← hrest, step]
    have e2 : (⟨x.t.data.toList.toArray⟩ : ByteArray) = x.t := ba_ext (by simp)
    rw [e2]
    rfl
theorem lex_canon (f : Nat) : ∀ i n l L, lexL f i n l = .ok L → n ≤ 200 → ∃ C p, L = C ++ [⟨5, ⟨#[]⟩, p⟩] ∧ (∀ x ∈ C, Canon x) ∧ n + C.length ≤ 200 := by
  induction f with
  | zero => intro i n l L h hn; cases h; exact ⟨[], i, rfl, fun x hx => (by cases hx), hn⟩
  | succ f ih =>
    intro i n l L h hn
    cases l with
    | nil => cases h; exact ⟨[], i, rfl, fun x hx => (by cases hx), hn⟩
    | cons c l =>
      rw [lexL] at h
      split at h
      · exact ih _ _ _ _ h hn
      · split at h
        · cases h
        · rename_i k t m hm
          split at h
          · cases h
          · rename_i hlim
            cases ho : lexL f (i + m) (n + 1) ((c :: l).drop m) with
            | error e => rw [ho] at h; cases h
            | ok M =>
              rw [ho] at h
              have e : L = ⟨k, ⟨t.toArray⟩, i⟩ :: M := by
                have : Except.ok (ε := Int × Nat) (⟨k, ⟨t.toArray⟩, i⟩ :: M) = .ok L := h
                exact (Except.ok.inj this).symm
              obtain ⟨C, p, hC, hc, hl⟩ := ih _ _ _ _ ho (by omega)
              refine ⟨⟨k, ⟨t.toArray⟩, i⟩ :: C, p, by rw [e, hC]; rfl, ?_, by simp only [List.length_cons]; omega⟩
              intro x hx
              rcases List.mem_cons.1 hx with rfl | hx
              · exact canon_of hm (fun hk => by omega)
              · exact hc x hx
/-- BLANKS ARE NOTHING -/
theorem lex_blanks {s : ByteArray} {L : List Tok} (h : lexS s = .ok L) (gs : Nat → List UInt8) (ups : Nat → Bool) (hg : ∀ j, gs j ≠ [] ∧ ∀ c ∈ gs j, blankC c = true) (s' : ByteArray) (hs : s'.data.toList = outL gs ups 0 L) : lexS s' = .ok (movL gs ups 0 0 L) := by
  obtain ⟨C, p, rfl, hC, hl⟩ := lex_canon _ _ _ _ _ h (by omega)
  have := lex_out gs ups hg C 0 0 0 p hC hl
  unfold lexS
  rw [← ba_len, hs]
  exact this
end Go.Proofs.YtgmibjcccdgkgaaDoor
