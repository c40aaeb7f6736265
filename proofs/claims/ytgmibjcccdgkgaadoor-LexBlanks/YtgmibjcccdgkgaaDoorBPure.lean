/- What LexBlanks writes, as plain data: token by token, and how long it is. -/
import Derived.Test.YtgmibjcccdgkgaaDoorQPure
import Derived.Test.YtgmibjcccdgkgaaDoorLBlank2
import Derived.Test.YtgmibjcccdgkgaaDoorQText
namespace Go.Proofs.YtgmibjcccdgkgaaDoor
open Go.RowKit

/-- which of four a number picks -/
def pk (a : Int) (n : Nat) : Nat := (a % 18446744073709551616 % (n : Int)).toNat
theorem pk_lt (a : Int) (n : Nat) (hn : 0 < n) : pk a n < n := by
  unfold pk
  have h1 := Int.emod_nonneg (a % 18446744073709551616) (show (n : Int) ≠ 0 by omega)
  have h2 := Int.emod_lt_of_pos (a % 18446744073709551616) (show (0 : Int) < n by omega)
  omega
def kf (xs : List Int) (j : Nat) : Nat := if xs.length = 0 then 0 else pk (xs.getD (j % xs.length) 0) 4
theorem kf_lt (xs : List Int) (j : Nat) : kf xs j < 4 := by
  unfold kf
  split
  · omega
  · exact pk_lt _ _ (by omega)
def gapN : Nat → List UInt8
  | 0 => [32]
  | 1 => [10]
  | 2 => [9, 32, 13]
  | _ => [32, 32, 32, 32]
theorem gapN_ok (k : Nat) : gapN k ≠ [] ∧ (∀ c ∈ gapN k, blankC c = true) ∧ (gapN k).length ≤ 4 := by
  match k with
  | 0 => decide
  | 1 => decide
  | 2 => decide
  | _ + 3 => show [32, 32, 32, 32] ≠ [] ∧ (∀ c ∈ [32, 32, 32, 32], blankC c = true) ∧ [32, 32, 32, 32].length ≤ 4; decide
def gsN (xs : List Int) (j : Nat) : List UInt8 := gapN (kf xs j)
def upN1 (xs : List Int) (j : Nat) : Bool := decide (kf xs j = 1)
theorem gs_ok (xs : List Int) (j : Nat) : gsN xs j ≠ [] ∧ ∀ c ∈ gsN xs j, blankC c = true := ⟨(gapN_ok _).1, (gapN_ok _).2.1⟩
theorem out_snoc (gs : Nat → List UInt8) (ups : Nat → Bool) (A : List Tok) (x : Tok) : ∀ j, outL gs ups j (A ++ [x]) = outL gs ups j A ++ (gs (j + A.length) ++ wr (ups (j + A.length)) x) := by
  induction A with
  | nil => intro j; simp [outL]
  | cons y A ih =>
    intro j
    rw [List.cons_append, outL, outL, ih, List.length_cons, show j + 1 + A.length = j + (A.length + 1) by omega]
    simp
theorem mov_snoc (gs : Nat → List UInt8) (ups : Nat → Bool) (A : List Tok) (x : Tok) : ∀ j p, movL gs ups j p (A ++ [x]) = movL gs ups j p A ++ [⟨x.k, x.t, p + (outL gs ups j A).length + (gs (j + A.length)).length⟩] := by
  induction A with
  | nil => intro j p; simp [outL, movL]
  | cons y A ih =>
    intro j p
    rw [List.cons_append, movL, movL, ih, List.length_cons, show j + 1 + A.length = j + (A.length + 1) by omega, outL, List.cons_append]
    congr 4
    simp only [List.length_append]
    omega
theorem mov_len (gs : Nat → List UInt8) (ups : Nat → Bool) (A : List Tok) : ∀ j p, (movL gs ups j p A).length = A.length := by
  induction A with
  | nil => intro j p; rfl
  | cons y A ih => intro j p; rw [movL, List.length_cons, ih, List.length_cons]
theorem mov_at (gs : Nat → List UInt8) (ups : Nat → Bool) (A : List Tok) : ∀ j p i (h : i < (movL gs ups j p A).length) (h' : i < A.length), (movL gs ups j p A)[i].k = A[i].k ∧ (movL gs ups j p A)[i].t = A[i].t := by
  induction A with
  | nil => intro j p i h h'; cases h'
  | cons y A ih =>
    intro j p i h h'
    cases i with
    | zero => exact ⟨rfl, rfl⟩
    | succ i => exact ih (j + 1) _ i (by simpa [movL] using h) (by simpa using h')
/-- where the tokens stand that are written -/
def atsN (gs : Nat → List UInt8) (ups : Nat → Bool) (A : List Tok) : List Nat := (movL gs ups 0 0 A).map (·.p)
def ic (l : List Nat) : List Value := l.map fun (n : Nat) => Value.int .i64 (n : Int)
theorem ats_snoc (gs : Nat → List UInt8) (ups : Nat → Bool) (A : List Tok) (x : Tok) : atsN gs ups (A ++ [x]) = atsN gs ups A ++ [(outL gs ups 0 A).length + (gs A.length).length] := by
  unfold atsN
  rw [mov_snoc, List.map_append]
  simp
theorem ats_len (gs : Nat → List UInt8) (ups : Nat → Bool) (A : List Tok) : (atsN gs ups A).length = A.length := by unfold atsN; rw [List.length_map, mov_len]
/-- how many bytes all tokens say -/
def sumT : List Tok → Nat
  | [] => 0
  | x :: L => x.t.size + sumT L
theorem text_le (k : Int) (b : List UInt8) : (textT k b).length ≤ b.length := by
  unfold textT
  split
  · simp [smallL]
  · split
    · refine Nat.le_trans (rep_le _ _ (Nat.le_refl _)) ?_
      simp
      omega
    · exact Nat.le_refl _
theorem sum_lex (f : Nat) : ∀ i n l L, lexL f i n l = .ok L → sumT L ≤ l.length := by
  induction f with
  | zero => intro i n l L h; cases h; exact Nat.zero_le _
  | succ f ih =>
    intro i n l L h
    cases l with
    | nil => cases h; exact Nat.zero_le _
    | cons c l =>
      rw [lexL] at h
      split at h
      · have := ih _ _ _ _ h; simp only [List.length_cons]; omega
      · split at h
        · cases h
        · rename_i k t m hm
          have hp := nextT_pos hm
          have hf := first_some hm
          have ht : t.length ≤ m := by
            rw [← hf.2.1]
            refine Nat.le_trans (text_le _ _) ?_
            rw [List.length_take]
            omega
          split at h
          · cases h
          · cases ho : lexL f (i + m) (n + 1) ((c :: l).drop m) with
            | error e => rw [ho] at h; cases h
            | ok M =>
              rw [ho] at h
              have e : L = ⟨k, ⟨t.toArray⟩, i⟩ :: M := by
                have : Except.ok (ε := Int × Nat) (⟨k, ⟨t.toArray⟩, i⟩ :: M) = .ok L := h
                exact (Except.ok.inj this).symm
              have := ih _ _ _ _ ho
              rw [List.length_drop] at this
              have ht2 : (⟨t.toArray⟩ : ByteArray).size = t.length := by rw [← ba_len]
              rw [e, sumT, ht2]
              omega
theorem esc_len (t : List UInt8) : (esc t).length ≤ 2 * t.length := by
  induction t with
  | nil => exact Nat.zero_le _
  | cons c t ih =>
    rw [esc]
    split
    · simp only [List.length_cons]; omega
    · simp only [List.length_cons]; omega
theorem wr_len (up : Bool) (x : Tok) : (wr up x).length ≤ 2 * x.t.size + 2 := by
  unfold wr
  have h := esc_len x.t.data.toList
  rw [ba_len] at h
  split
  · simp only [List.length_cons, List.length_append, List.length_nil]; omega
  · split
    · rw [upL, List.length_map, ba_len]; omega
    · rw [ba_len]; omega
theorem out_len (xs : List Int) (ups : Nat → Bool) (L : List Tok) : ∀ j, (outL (gsN xs) ups j L).length ≤ 6 * L.length + 2 * sumT L := by
  induction L with
  | nil => intro j; exact Nat.zero_le _
  | cons x L ih =>
    intro j
    have h1 := ih (j + 1)
    have h2 := (gapN_ok (kf xs j)).2.2
    have h3 := wr_len (ups j) x
    rw [outL, sumT]
    simp only [List.length_append, List.length_cons, gsN] at *
    omega
theorem sum_app (A B : List Tok) : sumT (A ++ B) = sumT A + sumT B := by
  induction A with
  | nil => simp [sumT]
  | cons x A ih => rw [List.cons_append, sumT, sumT, ih]; omega
theorem sum_take (L : List Tok) (i : Nat) : sumT (L.take i) ≤ sumT L := by
  conv => rhs; rw [← List.take_append_drop i L]
  rw [sum_app]
  omega
/-- a token's bytes are few -/
theorem sum_at (L : List Tok) (i : Nat) (h : i < L.length) : L[i].t.size ≤ sumT L := by
  have e := List.take_append_drop i L
  have h2 := sum_app (L.take i) (L.drop i)
  rw [e, List.drop_eq_getElem_cons h, sumT] at h2
  omega
theorem lex_bounds {s : ByteArray} {L : List Tok} (h : lexS s = .ok L) : L.length ≤ 201 ∧ sumT L ≤ s.size := by
  obtain ⟨C, p, hC, _, hl⟩ := lex_canon _ _ _ _ _ h (by omega)
  have := sum_lex _ _ _ _ _ h
  rw [ba_len] at this
  refine ⟨?_, this⟩
  rw [hC, List.length_append, List.length_singleton]
  omega
theorem low_facts : ∀ n : Fin 256, wordC n.val.toUInt8 = true → (low n.val.toUInt8).toNat < 128 := by decide +kernel
theorem low_small (c : UInt8) (h : wordC c = true) : (low c).toNat < 128 := by
  have h1 := low_facts ⟨c.toNat, UInt8.toNat_lt c⟩
  rw [show c.toNat.toUInt8 = c by simp] at h1
  exact h1 h
/-- names are letters -/
theorem lex_names (f : Nat) : ∀ i n l L, lexL f i n l = .ok L → ∀ x ∈ L, x.k = 1 → ∀ c ∈ x.t.data.toList, c.toNat < 128 := by
  induction f with
  | zero => intro i n l L h x hx hk; cases h; simp at hx; subst hx; simp at hk
  | succ f ih =>
    intro i n l L h
    cases l with
    | nil => intro x hx hk; cases h; simp at hx; subst hx; simp at hk
    | cons c l =>
      rw [lexL] at h
      split at h
      · exact ih _ _ _ _ h
      · split at h
        · cases h
        · rename_i k t m hm
          split at h
          · cases h
          · cases ho : lexL f (i + m) (n + 1) ((c :: l).drop m) with
            | error e => rw [ho] at h; cases h
            | ok M =>
              rw [ho] at h
              have e : L = ⟨k, ⟨t.toArray⟩, i⟩ :: M := by
                have : Except.ok (ε := Int × Nat) (⟨k, ⟨t.toArray⟩, i⟩ :: M) = .ok L := h
                exact (Except.ok.inj this).symm
              intro x hx hk
              rw [e] at hx
              rcases List.mem_cons.1 hx with rfl | hx
              · intro d hd
                have hk1 : k = 1 := hk
                subst hk1
                have hd' : d ∈ t := by simpa using hd
                rw [nextT] at hm
                split at hm
                · rename_i hal
                  cases hm
                  obtain ⟨y, hy, rfl⟩ := List.mem_map.1 hd'
                  have hw : wordC y = true := by
                    rcases List.mem_cons.1 hy with rfl | hy
                    · rw [wordC, hal]; rfl
                    · have := List.all_takeWhile (p := wordC) (l := l)
                      rw [List.all_eq_true] at this
                      exact this y hy
                  exact low_small y hw
                · split at hm
                  · cases hm
                  · split at hm
                    · rw [Option.map_eq_some_iff] at hm
                      obtain ⟨_, _, e⟩ := hm
                      simp at e
                    · split at hm
                      · have e1 := Option.some.inj hm
                        cases l with
                        | nil => rw [markT] at e1; simp at e1
                        | cons d' r =>
                          rw [markT] at e1
                          split at e1 <;> simp at e1
                      · cases hm
              · exact ih _ _ _ _ ho x hx hk
end Go.Proofs.YtgmibjcccdgkgaaDoor
