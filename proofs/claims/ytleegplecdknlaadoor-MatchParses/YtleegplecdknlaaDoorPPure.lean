/- What a text is cut into, from its bytes on; the pieces as the program has them. -/
import Derived.Test.YtleegplecdknlaaDoorAPcs
namespace Go.Proofs.YtleegplecdknlaaDoor
open Go.RowKit

def pcs : Nat → List UInt8 → Option (List ByteArray)
  | 0, _ => some []
  | _ + 1, [] => some []
  | f + 1, c :: l =>
    if c.toNat = 32 then pcs f l
    else if c.toNat = 40 ∨ c.toNat = 41 ∨ c.toNat = 42 then (pcs f l).map (⟨#[c]⟩ :: ·)
    else if c.toNat = 34 then
      if (l.takeWhile notQ).length = l.length then none else (pcs f (l.drop ((l.takeWhile notQ).length + 1))).map (⟨(c :: l.takeWhile notQ).toArray⟩ :: ·)
    else (pcs f (l.drop (l.takeWhile notC).length)).map (⟨(c :: l.takeWhile notC).toArray⟩ :: ·)

theorem take_while {α : Type} (p : α → Bool) (l : List α) : l.take (l.takeWhile p).length = l.takeWhile p := by
  have h := List.takeWhile_prefix p (l := l)
  exact (List.prefix_iff_eq_take.1 h).symm
theorem ext_take (s : ByteArray) (i n : Nat) (h : i < s.size) (L : List UInt8) (hL : (s.data.toList.drop (i + 1)).take n = L) : s.extract i (i + 1 + n) = ⟨(s[i] :: L).toArray⟩ := by
  apply ba_ext
  rw [ba_extract, List.drop_take, drop_at s i h, show i + 1 + n - i = n + 1 by omega, List.take_succ_cons, hL]
theorem notC_of {c : UInt8} (h1 : c.toNat ≠ 32) (h2 : ¬ (c.toNat = 40 ∨ c.toNat = 41 ∨ c.toNat = 42)) (h3 : c.toNat ≠ 34) : notC c = true := by
  have e : ∀ n : UInt8, c.toNat ≠ n.toNat → (c == n) = false := fun n hn => by
    rw [beq_eq_false_iff_ne]; exact fun e => hn (by rw [e])
  simp only [notC, isCut, e 32 h1, e 40 (fun h => h2 (.inl h)), e 41 (fun h => h2 (.inr (.inl h))), e 42 (fun h => h2 (.inr (.inr h))), e 34 h3]; rfl
theorem notC_ne {c : UInt8} (h : notC c = true) : c.toNat ≠ 32 ∧ ¬ (c.toNat = 40 ∨ c.toNat = 41 ∨ c.toNat = 42) ∧ c.toNat ≠ 34 := by
  have key : ∀ n : UInt8, c.toNat = n.toNat → c = n := fun n hn => UInt8.toNat_inj.1 hn
  refine ⟨fun e => ?_, fun e => ?_, fun e => ?_⟩
  · rw [key 32 e] at h; exact absurd h (by decide)
  · rcases e with e | e | e
    · rw [key 40 e] at h; exact absurd h (by decide)
    · rw [key 41 e] at h; exact absurd h (by decide)
    · rw [key 42 e] at h; exact absurd h (by decide)
  · rw [key 34 e] at h; exact absurd h (by decide)

theorem pcs_at (s : ByteArray) (f : Nat) : ∀ i, piecesM s f i = pcs f (s.data.toList.drop i) := by
  induction f with
  | zero => intro i; rfl
  | succ f ih =>
    intro i
    rw [piecesM]
    by_cases h : i < s.size
    · rw [dif_pos h, drop_at s i h, pcs]
      by_cases h1 : s[i].toNat = 32
      · rw [if_pos h1, if_pos h1, ih]
      · rw [if_neg h1, if_neg h1]
        by_cases h2 : s[i].toNat = 40 ∨ s[i].toNat = 41 ∨ s[i].toNat = 42
        · rw [if_pos h2, if_pos h2, ih]
          have e := ext_take s i 0 h [] (List.take_zero)
          simp only [Nat.add_zero] at e
          rw [e]
        · rw [if_neg h2, if_neg h2]
          by_cases h3 : s[i].toNat = 34
          · rw [if_pos h3, if_pos h3]
            have hl : (s.data.toList.drop (i + 1)).length = s.size - (i + 1) := by rw [List.length_drop, ba_len]
            have he : endW notQ s (i + 1) = i + 1 + ((s.data.toList.drop (i + 1)).takeWhile notQ).length := rfl
            by_cases h4 : endW notQ s (i + 1) = s.size
            · rw [if_pos h4, if_pos (by omega)]
            · rw [if_neg h4, if_neg (by omega), ih, he, List.drop_drop, show i + 1 + ((s.data.toList.drop (i + 1)).takeWhile notQ).length + 1 = i + 1 + (((s.data.toList.drop (i + 1)).takeWhile notQ).length + 1) by omega]
              rw [ext_take s i _ h _ (take_while _ _)]
          · rw [if_neg h3, if_neg h3, endW_step h (notC_of h1 h2 h3), ih]
            have he : endW notC s (i + 1) = i + 1 + ((s.data.toList.drop (i + 1)).takeWhile notC).length := rfl
            rw [he, List.drop_drop, ext_take s i _ h _ (take_while _ _)]
    · rw [dif_neg h, List.drop_eq_nil_of_le (by rw [ba_len]; omega)]
      rfl
theorem pcs_fuel (f : Nat) : ∀ g l, l.length ≤ f → l.length ≤ g → pcs f l = pcs g l := by
  induction f with
  | zero =>
    intro g l h1 h2
    obtain rfl : l = [] := List.length_eq_zero_iff.1 (by omega)
    cases g <;> rfl
  | succ f ih =>
    intro g l h1 h2
    cases l with
    | nil => cases g <;> rfl
    | cons c l =>
      cases g with
      | zero => simp at h2
      | succ g =>
        simp only [List.length_cons] at h1 h2
        have key : ∀ n, pcs f (l.drop n) = pcs g (l.drop n) := fun n => ih g _ (by simp; omega) (by simp; omega)
        have k0 := key 0
        rw [List.drop_zero] at k0
        rw [pcs, pcs, k0, key, key]

/-- a text is cut into these -/
def Cuts (l : List UInt8) (L : List ByteArray) : Prop := pcs l.length l = some L
theorem Cuts.of {f : Nat} {l : List UInt8} {L : List ByteArray} (hl : l.length ≤ f) (h : pcs f l = some L) : Cuts l L := by
  unfold Cuts; rw [pcs_fuel _ f l (Nat.le_refl _) hl]; exact h
theorem cuts_nil {L : List ByteArray} (h : Cuts [] L) : L = [] := (Option.some.inj h).symm
theorem cuts_nil_mk : Cuts [] [] := rfl
theorem cuts_blank {c : UInt8} {l : List UInt8} {L : List ByteArray} (hc : c.toNat = 32) (h : Cuts (c :: l) L) : Cuts l L := by
  unfold Cuts at h
  rw [List.length_cons, pcs, if_pos hc] at h
  exact h
theorem map_cons {x : ByteArray} {o : Option (List ByteArray)} {L : List ByteArray} (h : o.map (x :: ·) = some L) : ∃ L', L = x :: L' ∧ o = some L' := by
  cases o with
  | none => cases h
  | some M => exact ⟨M, (Option.some.inj h).symm, rfl⟩
theorem cuts_sign {c : UInt8} {l : List UInt8} {L : List ByteArray} (hc : c.toNat = 40 ∨ c.toNat = 41 ∨ c.toNat = 42) (h : Cuts (c :: l) L) : ∃ L', L = ⟨#[c]⟩ :: L' ∧ Cuts l L' := by
  unfold Cuts at h
  rw [List.length_cons, pcs, if_neg (by omega), if_pos hc] at h
  exact map_cons h
theorem cuts_quote {c : UInt8} {l : List UInt8} {L : List ByteArray} (hc : c.toNat = 34) (h : Cuts (c :: l) L) : (l.takeWhile notQ).length < l.length ∧ ∃ L', L = ⟨(c :: l.takeWhile notQ).toArray⟩ :: L' ∧ Cuts (l.drop ((l.takeWhile notQ).length + 1)) L' := by
  unfold Cuts at h
  rw [List.length_cons, pcs, if_neg (by omega), if_neg (by omega), if_pos hc] at h
  have hle := (List.takeWhile_sublist notQ (l := l)).length_le
  by_cases h4 : (l.takeWhile notQ).length = l.length
  · rw [if_pos h4] at h; cases h
  · rw [if_neg h4] at h
    obtain ⟨L', e, h'⟩ := map_cons h
    exact ⟨by omega, L', e, Cuts.of (by rw [List.length_drop]; omega) h'⟩
theorem cuts_run {c : UInt8} {l : List UInt8} {L : List ByteArray} (hc : notC c = true) (h : Cuts (c :: l) L) : ∃ L', L = ⟨(c :: l.takeWhile notC).toArray⟩ :: L' ∧ Cuts (l.drop (l.takeWhile notC).length) L' := by
  obtain ⟨h1, h2, h3⟩ := notC_ne hc
  unfold Cuts at h
  rw [List.length_cons, pcs, if_neg h1, if_neg h2, if_neg h3] at h
  obtain ⟨L', e, h'⟩ := map_cons h
  exact ⟨L', e, Cuts.of (by rw [List.length_drop]; omega) h'⟩
theorem cuts_trim {l : List UInt8} {L : List ByteArray} (h : Cuts l L) : Cuts (l.dropWhile (· == 32)) L := by
  induction l with
  | nil => exact h
  | cons c l ih =>
    rw [List.dropWhile_cons]
    by_cases hc : (c == 32) = true
    · rw [if_pos hc]
      exact ih (cuts_blank (by rw [beq_iff_eq.1 hc]; rfl) h)
    · rw [if_neg hc]; exact h

/-- quotes that do not end -/
theorem count_none {p : UInt8 → Bool} (hp : p 34 = false) (l : List UInt8) : (l.takeWhile p).count 34 = 0 := by
  rw [List.count_eq_zero]
  intro hm
  have h := List.all_takeWhile (p := p) (l := l)
  rw [List.all_eq_true] at h
  exact absurd (h 34 hm) (by rw [hp]; decide)
theorem count_drop {p : UInt8 → Bool} (hp : p 34 = false) (l : List UInt8) : l.count 34 = (l.drop (l.takeWhile p).length).count 34 := by
  have h := List.take_append_drop (l.takeWhile p).length l
  rw [take_while] at h
  conv => lhs; rw [← h]
  rw [List.count_append, count_none hp, Nat.zero_add]
theorem count_ne {c : UInt8} (l : List UInt8) (h : c.toNat ≠ 34) : (c :: l).count 34 = l.count 34 := by
  rw [List.count_cons, if_neg (by rw [beq_iff_eq]; intro e; exact h (by rw [e]; rfl))]; rfl
theorem while_stop {p : UInt8 → Bool} (l : List UInt8) (h : (l.takeWhile p).length < l.length) : ∃ d, p d = false ∧ l.drop (l.takeWhile p).length = d :: l.drop ((l.takeWhile p).length + 1) := by
  induction l with
  | nil => simp at h
  | cons c l ih =>
    by_cases hc : p c = true
    · rw [List.takeWhile_cons_of_pos hc] at h ⊢
      simp only [List.length_cons] at h ⊢
      obtain ⟨d, h1, h2⟩ := ih (by omega)
      exact ⟨d, h1, by simpa using h2⟩
    · rw [List.takeWhile_cons_of_neg hc]
      exact ⟨c, by simpa using hc, by simp⟩
theorem pcs_odd (f : Nat) : ∀ l, l.length ≤ f → (pcs f l = none ↔ l.count 34 % 2 = 1) := by
  induction f with
  | zero =>
    intro l h
    obtain rfl : l = [] := List.length_eq_zero_iff.1 (by omega)
    simp [pcs]
  | succ f ih =>
    intro l h
    cases l with
    | nil => simp [pcs]
    | cons c l =>
      simp only [List.length_cons] at h
      rw [pcs]
      by_cases h1 : c.toNat = 32
      · rw [if_pos h1, ih l (by omega), count_ne l (by omega)]
      · rw [if_neg h1]
        by_cases h2 : c.toNat = 40 ∨ c.toNat = 41 ∨ c.toNat = 42
        · rw [if_pos h2, Option.map_eq_none_iff, ih l (by omega), count_ne l (by omega)]
        · rw [if_neg h2]
          by_cases h3 : c.toNat = 34
          · rw [if_pos h3]
            obtain rfl : c = 34 := UInt8.toNat_inj.1 h3
            have hq : notQ 34 = false := by decide
            have e := count_drop hq l
            rw [List.count_cons_self, e]
            by_cases h4 : (l.takeWhile notQ).length = l.length
            · rw [if_pos h4, h4, List.drop_length]
              simp
            · have hle := (List.takeWhile_sublist notQ (l := l)).length_le
              obtain ⟨d, hd, hdr⟩ := while_stop (p := notQ) l (by omega)
              rw [if_neg h4, Option.map_eq_none_iff, ih _ (by simp; omega), hdr]
              obtain rfl : d = 34 := by
                have : d.toNat = 34 := by simpa [notQ] using hd
                exact UInt8.toNat_inj.1 this
              rw [List.count_cons_self]
              omega
          · rw [if_neg h3, Option.map_eq_none_iff, ih _ (by simp; omega), count_ne l h3, ← count_drop (p := notC) (by decide) l]
/-- one byte of a kind of its own, quotes, or a run -/
def kindT (x : ByteArray) : Int × ByteArray :=
  if x = tOpen then (1, ⟨#[]⟩) else if x = tShut then (2, ⟨#[]⟩) else if x = tStar then (3, ⟨#[]⟩)
  else if firstB x = 34 then (4, ⟨(x.data.toList.drop 1).toArray⟩) else (5, x)
def headP : List ByteArray → Int × ByteArray
  | [] => (0, ⟨#[]⟩)
  | x :: _ => kindT x
/-- a piece that may be -/
inductive Good : ByteArray → Prop
  | opens : Good tOpen
  | shuts : Good tShut
  | star : Good tStar
  | quoted (r : List UInt8) : r.length ≤ 400 → Good ⟨(34 :: r).toArray⟩
  | run (c : UInt8) (r : List UInt8) : r.length < 400 → (∀ d ∈ c :: r, notC d = true) → Good ⟨(c :: r).toArray⟩
theorem first_mk (c : UInt8) (r : List UInt8) : firstB ⟨(c :: r).toArray⟩ = c := by simp [firstB]
theorem mk_ne {c d : UInt8} {r : List UInt8} (h : c ≠ d) : (⟨(c :: r).toArray⟩ : ByteArray) ≠ ⟨#[d]⟩ := by
  intro e
  have := congrArg firstB e
  rw [first_mk] at this
  exact h this
theorem kind_quoted (r : List UInt8) : kindT ⟨(34 :: r).toArray⟩ = (4, ⟨r.toArray⟩) := by
  unfold kindT tOpen tShut tStar
  rw [if_neg (mk_ne (by decide)), if_neg (mk_ne (by decide)), if_neg (mk_ne (by decide)), if_pos (first_mk _ _)]
  simp
theorem kind_run {c : UInt8} {r : List UInt8} (h : notC c = true) : kindT ⟨(c :: r).toArray⟩ = (5, ⟨(c :: r).toArray⟩) := by
  have key : ∀ d : UInt8, notC d = false → c ≠ d := fun d hd e => by rw [e, hd] at h; cases h
  unfold kindT tOpen tShut tStar
  rw [if_neg (mk_ne (key 40 (by decide))), if_neg (mk_ne (key 41 (by decide))), if_neg (mk_ne (key 42 (by decide))), if_neg (by rw [first_mk]; exact key 34 (by decide))]
theorem mk_none (c : UInt8) (r : List UInt8) : (⟨(c :: r).toArray⟩ : ByteArray) ≠ tNone := by
  intro e
  have := congrArg (fun x : ByteArray => x.data.toList.length) e
  simp [tNone] at this
end Go.Proofs.YtleegplecdknlaaDoor
