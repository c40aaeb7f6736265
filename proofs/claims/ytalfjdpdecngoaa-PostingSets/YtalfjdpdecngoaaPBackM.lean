/- What places are written as is read as these places. -/
import Derived.Test.YtalfjdpdecngoaaPRead3
namespace Go.Proofs.Ytalfjdpdecngoaa
open Go.RowKit

theorem ofNat_toNat {n : Nat} (h : n < 256) : (UInt8.ofNat n).toNat = n := by simp; omega

theorem rn_num (n : Nat) : ∀ (f i acc : Nat) (rest : List UInt8), (numL n).length ≤ f → (n ≠ 0 ∨ i = 0) → rnF f i acc (numL n ++ rest) = (acc + n * 128 ^ i, i + (numL n).length) := by
  induction n using Nat.strongRecOn with
  | ind n ih =>
    intro f i acc rest hf h0
    by_cases hn : n < 128
    · rw [numL_small hn] at hf ⊢
      cases f with
      | zero => simp at hf
      | succ f =>
        simp only [List.singleton_append, rnF, ofNat_toNat (show n < 256 by omega), if_pos hn, List.length_singleton]
        rw [if_neg (by omega)]
    · rw [numL_big hn] at hf ⊢
      cases f with
      | zero => simp at hf
      | succ f =>
        simp only [List.length_cons] at hf
        simp only [List.cons_append, rnF, ofNat_toNat (show n % 128 + 128 < 256 by omega), List.length_cons]
        rw [if_neg (by omega), show (n % 128 + 128) % 128 = n % 128 by omega]
        rw [ih (n / 128) (by omega) f (i + 1) _ rest (by omega) (.inl (by omega))]
        have e : n = n % 128 + 128 * (n / 128) := by omega
        have e2 : n * 128 ^ i = n % 128 * 128 ^ i + n / 128 * 128 ^ (i + 1) := by
          conv => lhs; rw [e]
          rw [Nat.add_mul, Nat.pow_succ, Nat.mul_comm 128 (n / 128), Nat.mul_assoc, Nat.mul_comm 128 (128 ^ i)]
        rw [e2, Nat.add_assoc]
        congr 1
        omega
theorem rnL_num (n : Nat) (hn : n < 34359738368) (rest : List UInt8) : rnL (numL n ++ rest) = (n, (numL n).length) := by
  have := rn_num n 5 0 0 rest (numL_len 4 n (by omega)) (.inr rfl)
  simpa [rnL] using this

theorem rp_enc {p q : Pl} (hp : Ahead p) (h : follB p q = true) (rest : List UInt8) : rpL (encP p q ++ rest) p = some (q, (encP p q).length) := by
  obtain ⟨⟨a1, a2⟩, ⟨a3, a4⟩, h5⟩ := foll_facts h
  obtain ⟨b1, b2, b3, b4⟩ := hp
  unfold encP
  by_cases e : q.r = p.r
  · have hlt : p.a < q.a := by rcases h5 with ⟨_, h⟩ | ⟨h, _⟩; exact h; exact absurd e h
    obtain ⟨N, hN⟩ : ∃ N, (2 * (q.a - p.a)).toNat = N := ⟨_, rfl⟩
    rw [if_pos e, hN]
    have hr := rnL_num N (by omega) rest
    have hl := numL_pos N
    have hq : (⟨p.r, p.a + ((N / 2 : Nat) : Int)⟩ : Pl) = q := by
      obtain ⟨qr, qa⟩ := q
      simp only [Pl.mk.injEq] at *
      omega
    unfold rpL
    rw [hr]
    simp only
    rw [if_neg (by omega), if_neg (by omega), hq, if_pos h]
  · have hlt : p.r < q.r := by rcases h5 with ⟨h, _⟩ | ⟨_, h⟩; exact absurd h e; exact h
    obtain ⟨N, hN⟩ : ∃ N, (2 * (q.r - p.r) + 1).toNat = N := ⟨_, rfl⟩
    obtain ⟨M, hM⟩ : ∃ M, q.a.toNat = M := ⟨_, rfl⟩
    rw [if_neg e, hN, hM, List.append_assoc]
    have hr := rnL_num N (by omega) (numL M ++ rest)
    have hr2 := rnL_num M (by omega) rest
    have hl := numL_pos N
    have hl2 := numL_pos M
    have hq : (⟨p.r + ((N / 2 : Nat) : Int), (M : Int)⟩ : Pl) = q := by
      obtain ⟨qr, qa⟩ := q
      simp only [Pl.mk.injEq] at *
      omega
    unfold rpL
    rw [hr]
    simp only [List.drop_left]
    rw [hr2]
    simp only
    rw [if_neg (by omega), if_pos (by omega), if_neg (by omega), hq, if_pos h, List.length_append]

theorem rd_enc (l : List Pl) : ∀ (p : Pl) (f : Nat), Ahead p → rightFrom p l = true → (encFrom p l).length ≤ f → rdF f p (encFrom p l) = some l := by
  induction l with
  | nil => intro p f _ _ _; cases f <;> rfl
  | cons q l ih =>
    intro p f hp h hf
    simp only [rightFrom, Bool.and_eq_true] at h
    obtain ⟨⟨a1, a2⟩, ⟨a3, a4⟩, _⟩ := foll_facts h.1
    have hr := rp_enc hp h.1 (encFrom q l)
    have hpos := (rpL_pos hr).1
    simp only [encFrom] at hf ⊢
    rw [List.length_append] at hf
    cases f with
    | zero => omega
    | succ f =>
      cases hc : encP p q ++ encFrom q l with
      | nil =>
        have := congrArg List.length hc
        rw [List.length_append] at this
        simp at this
        rw [this.1] at hpos
        simp at hpos
      | cons c t =>
        rw [rdF, ← hc, hr]
        simp only [List.drop_left]
        rw [ih q f ⟨by omega, by omega, by omega, by omega⟩ h.2 (by omega)]
        rfl
theorem read_enc (l : List Pl) (h : rightL l = true) : readL (encL l) = some l := rd_enc l ⟨0, 0⟩ _ ⟨by decide, by decide, by decide, by decide⟩ h (Nat.le_refl _)

theorem fact_right : rightL [⟨1, 0⟩, ⟨1, 2⟩, ⟨3, 1⟩] = true := by decide
theorem fact_enc : encL [⟨1, 0⟩, ⟨1, 2⟩, ⟨3, 1⟩] = [3, 0, 4, 5, 1] := by
  simp only [encL, encFrom, encP]
  simp [numL_small]
end Go.Proofs.Ytalfjdpdecngoaa
