/- Which places any bytes are: the document's way comes to the same. -/
import Derived.Test.YtalfjdpdecngoaaDoorPBackM
namespace Go.Proofs.YtalfjdpdecngoaaDoor
open Go.RowKit

theorem toNat_ofNat (c : UInt8) : UInt8.ofNat c.toNat = c := by simp

theorem rn_inv (f : Nat) : ∀ (i acc : Nat) (l : List UInt8) (v k : Nat), rnF f i acc l = (v, k) → k ≠ 0 → ∃ m, v = acc + m * 128 ^ i ∧ i < k ∧ l.take (k - i) = numL m ∧ k - i ≤ l.length ∧ (0 < i → m ≠ 0) := by
  induction f with
  | zero => intro i acc l v k h hk; simp only [rnF, Prod.mk.injEq] at h; omega
  | succ f ih =>
    intro i acc l v k h hk
    cases l with
    | nil => simp only [rnF, Prod.mk.injEq] at h; omega
    | cons c l =>
      have hc := UInt8.toNat_lt c
      unfold rnF at h
      split at h
      · rename_i h1
        split at h
        · simp only [Prod.mk.injEq] at h; omega
        · rename_i h2
          simp only [Prod.mk.injEq] at h
          obtain ⟨h3, h4⟩ := h
          subst h3 h4
          refine ⟨c.toNat, rfl, by omega, ?_, by simp, fun hi e => h2 ⟨hi, e⟩⟩
          rw [show i + 1 - i = 1 by omega, numL_small h1, toNat_ofNat]
          rfl
      · rename_i h1
        obtain ⟨m, e1, e2, e3, e4, e5⟩ := ih (i + 1) _ l v k h hk
        have hm := e5 (by omega)
        refine ⟨c.toNat % 128 + 128 * m, ?_, by omega, ?_, by simp only [List.length_cons]; omega, fun _ => by omega⟩
        · rw [e1, Nat.add_mul, Nat.pow_succ, Nat.add_assoc, Nat.mul_comm 128 m, Nat.mul_assoc, Nat.mul_comm (128 ^ i) 128]
        · rw [show k - i = (k - (i + 1)) + 1 by omega, List.take_succ_cons, e3, numL_big (n := c.toNat % 128 + 128 * m) (by omega), show (c.toNat % 128 + 128 * m) / 128 = m by omega, show (c.toNat % 128 + 128 * m) % 128 + 128 = c.toNat by omega, toNat_ofNat]
theorem rnL_inv {l : List UInt8} (h : (rnL l).2 ≠ 0) : l.take (rnL l).2 = numL (rnL l).1 ∧ (rnL l).2 ≤ l.length := by
  obtain ⟨m, e1, _, e3, e4, _⟩ := rn_inv 5 0 0 l (rnL l).1 (rnL l).2 rfl h
  simp only [Nat.pow_zero, Nat.mul_one, Nat.zero_add, Nat.sub_zero] at e1 e3 e4
  rw [e1]
  exact ⟨e3, e4⟩

theorem rp_inv {l : List UInt8} {p q : Pl} {n : Nat} (h : rpL l p = some (q, n)) : l.take n = encP p q := by
  unfold rpL at h
  split at h
  · cases h
  · rename_i h0
    obtain ⟨t1, t2⟩ := rnL_inv h0
    split at h
    · rename_i ho
      split at h
      · cases h
      · rename_i h1
        obtain ⟨s1, s2⟩ := rnL_inv (l := l.drop (rnL l).2) (fun e => h1 (.inl e))
        split at h
        · cases h
          unfold encP
          rw [if_neg (by simp only; omega)]
          simp only
          rw [List.take_add, t1, s1]
          congr 2
          omega
        · cases h
    · split at h
      · cases h
        unfold encP
        rw [if_pos rfl, t1]
        congr 1
        simp only
        omega
      · cases h

theorem rd_inv (f : Nat) : ∀ (p : Pl) (l : List UInt8) (ps : List Pl), rdF f p l = some ps → encFrom p ps = l ∧ rightFrom p ps = true := by
  induction f with
  | zero =>
    intro p l ps h
    cases l with
    | nil => simp only [rdF, Option.some.injEq] at h; subst h; exact ⟨rfl, rfl⟩
    | cons c l => simp [rdF] at h
  | succ f ih =>
    intro p l ps h
    cases l with
    | nil => simp only [rdF, Option.some.injEq] at h; subst h; exact ⟨rfl, rfl⟩
    | cons c l =>
      rw [rdF] at h
      cases hr : rpL (c :: l) p with
      | none => rw [hr] at h; cases h
      | some y =>
        obtain ⟨q, n⟩ := y
        rw [hr] at h
        simp only at h
        cases hd : rdF f q ((c :: l).drop n) with
        | none => rw [hd] at h; cases h
        | some qs =>
          rw [hd] at h
          simp only [Option.map_some, Option.some.injEq] at h
          subst h
          obtain ⟨i1, i2⟩ := ih q _ qs hd
          refine ⟨?_, ?_⟩
          · rw [encFrom, i1, ← rp_inv hr, List.take_append_drop]
          · rw [rightFrom, i2, (rpL_pos hr).2.2]; rfl
theorem read_inv {s : List UInt8} {l : List Pl} (h : readL s = some l) : encL l = s ∧ rightL l = true := rd_inv _ _ _ _ h

/-- the document's way: one number -/
def lnL : Nat → Nat → List UInt8 → Option (Nat × List UInt8)
  | _, _, [] => none
  | k, n, c :: l => if 128 ≤ c.toNat ∧ k < 5 then lnL (k + 1) (n + (c.toNat - 128) * 128 ^ k) l else if k = 5 then none else some (n + c.toNat * 128 ^ k, l)
theorem lnL_len (l : List UInt8) : ∀ (k n m : Nat) (r : List UInt8), lnL k n l = some (m, r) → r.length < l.length := by
  induction l with
  | nil => intro k n m r h; simp [lnL] at h
  | cons c l ih =>
    intro k n m r h
    unfold lnL at h
    split at h
    · have := ih _ _ _ _ h; simp only [List.length_cons]; omega
    · split at h
      · cases h
      · cases h; simp
/-- all numbers -/
def numsF : Nat → List UInt8 → Option (List Nat)
  | _, [] => some []
  | 0, _ :: _ => none
  | f + 1, c :: l => match lnL 0 0 (c :: l) with
    | none => none
    | some (n, r) => (numsF f r).map (n :: ·)
/-- and the places of them -/
def plsL : Pl → List Nat → Option (List Pl)
  | _, [] => some []
  | p, [n] => if n % 2 = 0 then some [⟨p.r, p.a + (n / 2 : Nat)⟩] else none
  | p, n :: m :: ns => if n % 2 = 0 then (plsL ⟨p.r, p.a + (n / 2 : Nat)⟩ (m :: ns)).map (⟨p.r, p.a + (n / 2 : Nat)⟩ :: ·) else (plsL ⟨p.r + (n / 2 : Nat), (m : Nat)⟩ ns).map (⟨p.r + (n / 2 : Nat), (m : Nat)⟩ :: ·)
def refR (s : List UInt8) : Option (List Pl) := match numsF s.length s with
  | none => none
  | some ns => match plsL ⟨0, 0⟩ ns with
    | none => none
    | some l => if rightL l = true ∧ encL l = s then some l else none

theorem ln_num (n : Nat) : ∀ (k acc : Nat) (rest : List UInt8), (numL n).length + k ≤ 5 → lnL k acc (numL n ++ rest) = some (acc + n * 128 ^ k, rest) := by
  induction n using Nat.strongRecOn with
  | ind n ih =>
    intro k acc rest hk
    by_cases hn : n < 128
    · rw [numL_small hn] at hk ⊢
      simp only [List.length_singleton] at hk
      simp only [List.singleton_append, lnL, ofNat_toNat (show n < 256 by omega)]
      rw [if_neg (by omega), if_neg (by omega)]
    · rw [numL_big hn] at hk ⊢
      simp only [List.length_cons] at hk
      simp only [List.cons_append, lnL, ofNat_toNat (show n % 128 + 128 < 256 by omega)]
      have := numL_pos (n / 128)
      rw [if_pos (by omega), ih (n / 128) (by omega) (k + 1) _ rest (by omega)]
      have e : n = n % 128 + 128 * (n / 128) := by omega
      have e2 : n * 128 ^ k = n % 128 * 128 ^ k + n / 128 * 128 ^ (k + 1) := by
        conv => lhs; rw [e]
        rw [Nat.add_mul, Nat.pow_succ, Nat.mul_comm 128 (n / 128), Nat.mul_assoc, Nat.mul_comm 128 (128 ^ k)]
      rw [e2, show n % 128 + 128 - 128 = n % 128 by omega, Nat.add_assoc]

theorem nums_flat (ns : List Nat) : ∀ f, (∀ n ∈ ns, n < 34359738368) → (ns.flatMap numL).length ≤ f → numsF f (ns.flatMap numL) = some ns := by
  induction ns with
  | nil => intro f _ _; cases f <;> rfl
  | cons n ns ih =>
    intro f h hf
    rw [List.flatMap_cons] at hf ⊢
    rw [List.length_append] at hf
    have hl := ln_num n 0 0 (ns.flatMap numL) (by have := numL_len 4 n (by have := h n (by simp); omega); omega)
    have hp := numL_pos n
    cases f with
    | zero => omega
    | succ f =>
      cases hc : numL n ++ ns.flatMap numL with
      | nil =>
        have := congrArg List.length hc
        rw [List.length_append, List.length_nil] at this
        omega
      | cons c t =>
        rw [numsF, ← hc, hl]
        simp only
        rw [ih f (fun m hm => h m (by simp [hm])) (by omega)]
        simp

def numP (p q : Pl) : List Nat := if q.r = p.r then [(2 * (q.a - p.a)).toNat] else [(2 * (q.r - p.r) + 1).toNat, q.a.toNat]
def numsOf : Pl → List Pl → List Nat
  | _, [] => []
  | p, q :: l => numP p q ++ numsOf q l
theorem enc_flat (l : List Pl) : ∀ p, encFrom p l = (numsOf p l).flatMap numL := by
  induction l with
  | nil => intro p; rfl
  | cons q l ih =>
    intro p
    rw [encFrom, numsOf, List.flatMap_append, ih]
    congr 1
    unfold encP numP
    split <;> simp
theorem nums_small (l : List Pl) : ∀ p, Ahead p → rightFrom p l = true → ∀ n ∈ numsOf p l, n < 34359738368 := by
  induction l with
  | nil => intro p _ _ n hn; cases hn
  | cons q l ih =>
    intro p hp h n hn
    simp only [rightFrom, Bool.and_eq_true] at h
    obtain ⟨⟨a1, a2⟩, ⟨a3, a4⟩, _⟩ := foll_facts h.1
    obtain ⟨b1, b2, b3, b4⟩ := hp
    rcases List.mem_append.1 hn with hn | hn
    · unfold numP at hn
      split at hn
      · simp only [List.mem_cons, List.not_mem_nil, or_false] at hn; omega
      · simp only [List.mem_cons, List.not_mem_nil, or_false] at hn; omega
    · exact ih q ⟨by omega, by omega, by omega, by omega⟩ h.2 n hn
theorem pls_nums (l : List Pl) : ∀ p, Ahead p → rightFrom p l = true → plsL p (numsOf p l) = some l := by
  induction l with
  | nil => intro p _ _; rfl
  | cons q l ih =>
    intro p hp h
    simp only [rightFrom, Bool.and_eq_true] at h
    obtain ⟨⟨a1, a2⟩, ⟨a3, a4⟩, h5⟩ := foll_facts h.1
    obtain ⟨b1, b2, b3, b4⟩ := hp
    have hi := ih q ⟨by omega, by omega, by omega, by omega⟩ h.2
    rw [numsOf]
    unfold numP
    by_cases e : q.r = p.r
    · rw [if_pos e]
      have hlt : p.a < q.a := by rcases h5 with ⟨_, h⟩ | ⟨h, _⟩; exact h; exact absurd e h
      obtain ⟨N, hN⟩ : ∃ N, (2 * (q.a - p.a)).toNat = N := ⟨_, rfl⟩
      have hq : (⟨p.r, p.a + ((N / 2 : Nat) : Int)⟩ : Pl) = q := by
        obtain ⟨qr, qa⟩ := q
        simp only [Pl.mk.injEq] at *
        omega
      rw [hN]
      cases hr : numsOf q l with
      | nil =>
        rw [hr] at hi
        simp only [plsL, Option.some.injEq] at hi
        rw [List.append_nil, plsL, if_pos (by omega), hq, hi]
      | cons m ns =>
        rw [List.singleton_append, plsL, if_pos (by omega), hq, ← hr, hi]
        rfl
    · rw [if_neg e]
      have hlt : p.r < q.r := by rcases h5 with ⟨h, _⟩ | ⟨_, h⟩; exact absurd h e; exact h
      obtain ⟨N, hN⟩ : ∃ N, (2 * (q.r - p.r) + 1).toNat = N := ⟨_, rfl⟩
      obtain ⟨M, hM⟩ : ∃ M, q.a.toNat = M := ⟨_, rfl⟩
      have hq : (⟨p.r + ((N / 2 : Nat) : Int), (M : Int)⟩ : Pl) = q := by
        obtain ⟨qr, qa⟩ := q
        simp only [Pl.mk.injEq] at *
        omega
      rw [hN, hM]
      show plsL p (N :: M :: numsOf q l) = _
      rw [plsL, if_neg (by omega), hq, hi]
      rfl

/-- both ways come to the same -/
theorem refR_eq (s : List UInt8) : refR s = readL s := by
  unfold refR
  cases hr : readL s with
  | some l =>
    obtain ⟨h1, h2⟩ := read_inv hr
    have hA : Ahead ⟨0, 0⟩ := ⟨by decide, by decide, by decide, by decide⟩
    have h3 : numsF s.length s = some (numsOf ⟨0, 0⟩ l) := by
      have e := enc_flat l ⟨0, 0⟩
      have h1' : encFrom ⟨0, 0⟩ l = s := h1
      rw [h1'] at e
      have := nums_flat (numsOf ⟨0, 0⟩ l) s.length (nums_small l _ hA h2) (by rw [← e]; exact Nat.le_refl _)
      rw [← e] at this
      exact this
    rw [h3]
    simp only
    rw [pls_nums l _ hA h2]
    simp only
    rw [if_pos ⟨h2, h1⟩]
  | none =>
    split
    · rfl
    · split
      · rfl
      · rename_i l _
        split
        · rename_i h
          have := read_enc l h.1
          rw [h.2, hr] at this
          cases this
        · rfl
end Go.Proofs.YtalfjdpdecngoaaDoor
