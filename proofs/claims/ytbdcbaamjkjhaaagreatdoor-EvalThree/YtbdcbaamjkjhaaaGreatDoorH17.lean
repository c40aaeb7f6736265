/- Part 17 of 35. -/
import Derived.Test.YtbdcbaamjkjhaaaGreatDoorH16
namespace Go.Proofs.YtbdcbaamjkjhaaaGreatDoor
open Go.RowKit

/-- what tokens weigh -/
def wt (μ : KT → Nat) (l : List KT) : Nat := (l.map μ).sum
theorem wt_nil (μ : KT → Nat) : wt μ [] = 0 := rfl
theorem wt_cons (μ : KT → Nat) (x : KT) (l : List KT) : wt μ (x :: l) = μ x + wt μ l := by simp [wt]
theorem wt_append (μ : KT → Nat) (a b : List KT) : wt μ (a ++ b) = wt μ a + wt μ b := by simp [wt]
/-- a measure by which a number weighs no more as it is printed -/
structure MuOk (μ : KT → Nat) : Prop where
  same : ∀ s, μ (1, s) = μ (4, s)
  num : ∀ t n, digsB t = true → Lib.parseIntB 64 t.data.toList = .ok n → μ (2, ⟨(Lib.decDigits n.toNat).toArray⟩) ≤ μ (2, t)
/-- tokens as a text has them -/
def Src (l : List KT) : Prop := ∀ x ∈ l, (x.1 = 1 → wordB x.2) ∧ (x.1 = 2 → digsB x.2 = true)
theorem Src.tail {l : List KT} (h : Src l) : Src l.tail := fun x hx => h x (List.mem_of_mem_tail hx)
/-- a token that is taken -/
theorem isT_cons' {s : ByteArray} {l : List KT} (h : isT s l = true) : ∃ k, (k = 1 ∨ k = 4) ∧ l = (k, s) :: l.tail := by
  have hk := isT_k h
  cases l with
  | nil => exact absurd hk.1 (by show ¬ ((5 : Int) = 1 ∨ (5 : Int) = 4); decide)
  | cons x l =>
    obtain ⟨k, t⟩ := x
    exact ⟨k, hk.1, by rw [← (show t = s from hk.2)]; rfl⟩
theorem isT_wt {s : ByteArray} {l : List KT} (h : isT s l = true) {μ : KT → Nat} (hμ : MuOk μ) : wt μ l = μ (1, s) + wt μ l.tail := by
  obtain ⟨k, hk, e⟩ := isT_cons' h
  rw [e, wt_cons, List.tail_cons]
  rcases hk with rfl | rfl
  · rfl
  · rw [hμ.same]
theorem isT_wt4 {s : ByteArray} {l : List KT} (h : isT s l = true) {μ : KT → Nat} (hμ : MuOk μ) : wt μ l = μ (4, s) + wt μ l.tail := by rw [isT_wt h hμ, hμ.same]
theorem need_wt {s : ByteArray} {l l2 : List KT} (h : needF s l = some l2) : isT s l = true ∧ l2 = l.tail := by
  rw [needF] at h
  split at h
  · rename_i hs; exact ⟨hs, (Option.some.inj h).symm⟩
  · cases h

theorem lvl_pos (c : Int) : 1 ≤ lvlC c := by
  unfold lvlC
  split
  · decide
  · split
    · decide
    · split
      · decide
      · split
        · rename_i h
          unfold pairR at h ⊢
          split at h
          · rename_i p hp
            have := List.mem_of_find?_eq_some hp
            revert this
            have key : ∀ p ∈ pairL, (1 : Int) ≤ p.2.2 := by decide +kernel
            exact fun hm => by simp only; exact key p hm
          · cases h
        · decide
theorem lvl_cmp : ∀ s ∈ cmpS, lvlC s.2 = 4 := by decide +kernel
theorem lvl_sum : ∀ s ∈ sumS, lvlC s.2 = 5 := by decide +kernel
theorem lvl_mul : ∀ s ∈ mulS, lvlC s.2 = 6 := by decide +kernel
theorem lvl_and : ∀ s ∈ andS, lvlC s.2 = 2 := by decide +kernel
theorem lvl_or : ∀ s ∈ orS, lvlC s.2 = 1 := by decide +kernel

theorem Ft.mono {d : Nat} {n : Int} {e : Ex} {ts : List KT} (h : Ft d n e ts) : Ft (d + 1) n e ts := by
  induction h with
  | par a _ ih => exact .par a ih
  | lit a b => exact .lit a b
  | col a b => exact .col a b
  | neg a _ ih => exact .neg a ih
  | not a b _ ih => exact .not a b ih
  | nnul a _ ih => exact .nnul a ih
  | nul a _ ih => exact .nul a ih
  | mat a b c => exact .mat a b c
  | ask a b _ _ i j => exact .ask a b i j
  | sum a b _ _ i j => exact .sum a b i j
  | mul a b _ _ i j => exact .mul a b i j
  | and a b _ _ i j => exact .and a b i j
  | or a b _ _ i j => exact .or a b i j
/-- where one of a higher level stands, if it is of one -/
theorem Ft.up {d : Nat} {e : Ex} {ts : List KT} (h : Ft d 1 e ts) {n : Int} (hn : n ≤ lvlC e.code) : Ft d n e ts := by
  cases h with
  | par a _ => have := lvl_pos e.code; omega
  | lit _ b => exact .lit hn b
  | col _ b => exact .col hn b
  | neg _ b => exact .neg hn b
  | not _ b c => exact .not hn b c
  | nnul _ b => exact .nnul hn b
  | nul _ b => exact .nul hn b
  | mat _ b c => exact .mat hn b c
  | ask _ b x y => exact .ask (by have := lvl_cmp _ b; simp only [Ex.two, Ex.code] at hn; omega) b x y
  | sum _ b x y => exact .sum (by have := lvl_sum _ b; simp only [Ex.two, Ex.code] at hn; omega) b x y
  | mul _ b x y => exact .mul (by have := lvl_mul _ b; simp only [Ex.two, Ex.code] at hn; omega) b x y
  | and _ b x y => exact .and (by have := lvl_and _ b; simp only [Ex.two, Ex.code] at hn; omega) b x y
  | or _ b x y => exact .or (by have := lvl_or _ b; simp only [Ex.two, Ex.code] at hn; omega) b x y
theorem Ft.isCol {d : Nat} {n : Int} {x : Ex} {ts : List KT} (h : Ft d n x ts) (hx : x.code = 2) : ∃ nm us, x = .node 2 .none nm .nil .nil ∧ ColN nm us ∧ ∀ μ, MuOk μ → wt μ us ≤ wt μ ts := by
  have kc : ∀ s ∈ cmpS, s.2 ≠ 2 := by decide +kernel
  have ks : ∀ s ∈ sumS, s.2 ≠ 2 := by decide +kernel
  have km : ∀ s ∈ mulS, s.2 ≠ 2 := by decide +kernel
  have ka : ∀ s ∈ andS, s.2 ≠ 2 := by decide +kernel
  have ko : ∀ s ∈ orS, s.2 ≠ 2 := by decide +kernel
  induction h with
  | par _ _ ih =>
    obtain ⟨nm, us, e, hc, hw⟩ := ih hx
    exact ⟨nm, us, e, hc, fun μ hμ => by have := hw μ hμ; rw [wt_cons, wt_append]; omega⟩
  | col _ hc => exact ⟨_, _, rfl, hc, fun μ _ => Nat.le_refl _⟩
  | lit _ _ => simp [Ex.code] at hx
  | neg _ _ _ => simp [Ex.code, Ex.two] at hx
  | not _ _ _ _ => simp [Ex.code, Ex.two] at hx
  | nnul _ _ _ => simp [Ex.code, Ex.two] at hx
  | nul _ _ _ => simp [Ex.code, Ex.two] at hx
  | mat _ _ _ => simp [Ex.code] at hx
  | ask _ hs _ _ _ _ => exact absurd hx (kc _ hs)
  | sum _ hs _ _ _ _ => exact absurd hx (ks _ hs)
  | mul _ hs _ _ _ _ => exact absurd hx (km _ hs)
  | and _ hs _ _ _ _ => exact absurd hx (ka _ hs)
  | or _ hs _ _ _ _ => exact absurd hx (ko _ hs)
theorem Ft.isNul {d : Nat} {n : Int} {x : Ex} {ts : List KT} (h : Ft d n x ts) (hn : n ≤ 4) (hx : x.code = 5) : ∃ z us, x = .two 5 z .nil ∧ Ft d 5 z us ∧ ∀ μ, MuOk μ → wt μ us + μ (1, ⟨#[105, 115]⟩) + μ (1, ⟨#[110, 117, 108, 108]⟩) ≤ wt μ ts := by
  have kc : ∀ s ∈ cmpS, s.2 ≠ 5 := by decide +kernel
  have ks : ∀ s ∈ sumS, s.2 ≠ 5 := by decide +kernel
  have km : ∀ s ∈ mulS, s.2 ≠ 5 := by decide +kernel
  have ka : ∀ s ∈ andS, s.2 ≠ 5 := by decide +kernel
  have ko : ∀ s ∈ orS, s.2 ≠ 5 := by decide +kernel
  cases h with
  | par a _ => rw [hx, show lvlC 5 = 4 by decide +kernel] at a; omega
  | nul _ b => exact ⟨_, _, rfl, b, fun μ _ => by simp only [wt_append, wt_cons, wt_nil]; omega⟩
  | col _ _ => simp [Ex.code] at hx
  | lit _ _ => simp [Ex.code] at hx
  | neg _ _ => simp [Ex.code, Ex.two] at hx
  | not _ _ _ => simp [Ex.code, Ex.two] at hx
  | nnul _ _ => simp [Ex.code, Ex.two] at hx
  | mat _ _ _ => simp [Ex.code] at hx
  | ask _ hs _ _ => exact absurd hx (kc _ hs)
  | sum _ hs _ _ => exact absurd hx (ks _ hs)
  | mul _ hs _ _ => exact absurd hx (km _ hs)
  | and _ hs _ _ => exact absurd hx (ka _ hs)
  | or _ hs _ _ => exact absurd hx (ko _ hs)
/-- what is read of tokens l, so that l' are left: it can be printed, in no more -/
def Rdy (d : Nat) (n : Int) (e : Ex) (l l' : List KT) : Prop := Src l' ∧ ∃ ts, Ft d n e ts ∧ ∀ μ, MuOk μ → wt μ ts + wt μ l' ≤ wt μ l
theorem Rdy.low {d : Nat} {n m : Int} {e : Ex} {l l' : List KT} (h : Rdy d n e l l') (hm : m ≤ n) : Rdy d m e l l' := by
  obtain ⟨hs, ts, hf, hw⟩ := h
  cases hf with
  | @par d _ _ us a b =>
    by_cases c : lvlC e.code < m
    · exact ⟨hs, _, .par c b, hw⟩
    · refine ⟨hs, us, (b.up (by omega)).mono, fun μ hμ => ?_⟩
      have := hw μ hμ
      rw [wt_cons, wt_append] at this
      omega
  | lit a b => exact ⟨hs, _, .lit (by omega) b, hw⟩
  | col a b => exact ⟨hs, _, .col (by omega) b, hw⟩
  | neg a b => exact ⟨hs, _, .neg (by omega) b, hw⟩
  | not a b c => exact ⟨hs, _, .not (by omega) b c, hw⟩
  | nnul a b => exact ⟨hs, _, .nnul (by omega) b, hw⟩
  | nul a b => exact ⟨hs, _, .nul (by omega) b, hw⟩
  | mat a b c => exact ⟨hs, _, .mat (by omega) b c, hw⟩
  | ask a b x y => exact ⟨hs, _, .ask (by omega) b x y, hw⟩
  | sum a b x y => exact ⟨hs, _, .sum (by omega) b x y, hw⟩
  | mul a b x y => exact ⟨hs, _, .mul (by omega) b x y, hw⟩
  | and a b x y => exact ⟨hs, _, .and (by omega) b x y, hw⟩
  | or a b x y => exact ⟨hs, _, .or (by omega) b x y, hw⟩
/-- what reads, reads what can be printed -/
def Rds (F : Rf Ex) (d : Nat) (n : Int) : Prop := ∀ l, Src l → ∀ e l', F l = some (e, l') → Rdy d n e l l'
/-- a chain -/
theorem rds_chainL {B : Rf Ex} {sg : List (ByteArray × Int)} {d : Nat} {n k : Int} (hk : k = 1 ∨ k = 4) (hB : Rds B d (n + 1))
    (hC : ∀ s ∈ sg, ∀ x y ts us, Ft d n x ts → Ft d (n + 1) y us → Ft d n (.two s.2 x y) (ts ++ ((k, s.1) :: us))) (f : Nat) :
    ∀ e l e' l', Src l → chainL B sg f e l = some (e', l') → ∀ ts, Ft d n e ts → Src l' ∧ ∃ us, Ft d n e' us ∧ ∀ μ, MuOk μ → wt μ us + wt μ l' ≤ wt μ ts + wt μ l := by
  induction f with
  | zero => intro e l e' l' hs h ts ht; cases h; exact ⟨hs, ts, ht, fun μ _ => Nat.le_refl _⟩
  | succ f ih =>
    intro e l e' l' hs h ts ht
    rw [chainL] at h
    split at h
    · cases h; exact ⟨hs, ts, ht, fun μ _ => Nat.le_refl _⟩
    · rename_i s hf
      obtain ⟨⟨y, l2⟩, hy, h⟩ := Option.bind_eq_some_iff.1 h
      obtain ⟨hs2, us, hu, hw⟩ := hB _ hs.tail y l2 hy
      obtain ⟨hs3, vs, hv, hw2⟩ := ih _ _ _ _ hs2 h _ (hC s (List.mem_of_find?_eq_some hf) e y ts us ht hu)
      refine ⟨hs3, vs, hv, fun μ hμ => ?_⟩
      have a := hw μ hμ
      have b := hw2 μ hμ
      rw [wt_append, wt_cons] at b
      have c := isT_wt (find_is hf) hμ
      have c2 : μ (k, s.1) = μ (1, s.1) := by
        rcases hk with rfl | rfl
        · rfl
        · exact (hμ.same _).symm
      omega
theorem rds_chain {B : Rf Ex} {sg : List (ByteArray × Int)} {d : Nat} {n k : Int} (hk : k = 1 ∨ k = 4) (hB : Rds B d (n + 1))
    (hC : ∀ s ∈ sg, ∀ x y ts us, Ft d n x ts → Ft d (n + 1) y us → Ft d n (.two s.2 x y) (ts ++ ((k, s.1) :: us))) : Rds (chainF B sg) d n := by
  intro l hs e l' h
  obtain ⟨⟨y, l2⟩, hy, h⟩ := Option.bind_eq_some_iff.1 h
  obtain ⟨hs2, ts, ht, hw⟩ := (hB l hs y l2 hy).low (m := n) (by omega)
  obtain ⟨hs3, us, hu, hw2⟩ := rds_chainL hk hB hC _ _ _ _ _ hs2 h ts ht
  refine ⟨hs3, us, hu, fun μ hμ => ?_⟩
  have := hw μ hμ
  have := hw2 μ hμ
  dsimp only at *
  omega
theorem name_rd {l : List KT} (hs : Src l) {a : ByteArray} {l' : List KT} (h : nameF l = some (a, l')) : NameW a ∧ l = (1, a) :: l' := by
  rw [nameF] at h
  split at h
  · rename_i hn
    cases h
    have hn1 := hn.1
    simp only [nameB, Bool.and_eq_true, decide_eq_true_eq, Bool.not_eq_true'] at hn1
    cases l with
    | nil => exact absurd hn1.1 (by show ¬ (5 : Int) = 1; decide)
    | cons x l =>
      obtain ⟨k, t⟩ := x
      have hk : k = 1 := hn1.1
      subst hk
      exact ⟨⟨(hs _ (List.mem_cons_self)).1 rfl, hn1.2, hn.2⟩, rfl⟩
  · cases h
theorem col_rd {l : List KT} (hs : Src l) {e : Ex} {l' : List KT} (h : colF l = some (e, l')) : Src l' ∧ ∃ nm ts, e = .node 2 .none nm .nil .nil ∧ ColN nm ts ∧ ∀ μ, MuOk μ → wt μ ts + wt μ l' ≤ wt μ l := by
  obtain ⟨⟨a, l1⟩, h1, h⟩ := Option.bind_eq_some_iff.1 h
  obtain ⟨na, el⟩ := name_rd hs h1
  have hs1 : Src l1 := by have := hs.tail; rw [el] at this; exact this
  split at h
  · rename_i hd
    obtain ⟨⟨b, l2⟩, h2, h⟩ := Option.map_eq_some_iff.1 h
    cases h
    obtain ⟨nb, el2⟩ := name_rd hs1.tail h2
    have hs2 : Src l2 := by have := hs1.tail.tail; rw [el2] at this; exact this
    refine ⟨hs2, _, _, rfl, .two na nb, fun μ hμ => ?_⟩
    have c := isT_wt4 hd hμ
    rw [el, wt_cons]
    simp only [wt_cons, wt_nil] at c ⊢
    rw [c, el2, wt_cons]
    omega
  · cases h
    exact ⟨hs1, _, _, rfl, .one na, fun μ hμ => by rw [el]; simp [wt_cons, wt_nil]⟩
theorem num_rd {t : ByteArray} (h : digsB t = true) {n : Int} (hp : Lib.parseIntB 64 t.data.toList = .ok n) : 0 ≤ n ∧ n ≤ 9223372036854775807 := by
  cases e : t.data.toList with
  | nil => rw [e] at hp; cases hp
  | cons c l =>
    simp only [digsB, Bool.and_eq_true, decide_eq_true_eq, List.all_eq_true] at h
    have hc := h.2 c (by rw [e]; simp)
    simp only [isDg, digN, Bool.and_eq_true, decide_eq_true_eq] at hc
    rw [e] at hp
    unfold Lib.parseIntB at hp
    simp only at hp
    split at hp
    · cases hp
    · cases hp
    · rename_i u hu
      rw [if_neg (show ¬ c.toNat = 45 by omega)] at hp
      split at hp
      · cases hp
      · rename_i h1
        split at hp
        · cases hp
        · have := Lib.NumEnd.ok.inj hp
          omega
theorem rds_one {E : Rf Ex} {d : Nat} (hE : ∀ l, Src l → ∀ e l', E l = some (e, l') → ∃ c, d = c + 1 ∧ Rdy c 1 e l l') : Rds (oneF E) d 8 := by
  intro l hs e l' h
  rw [oneF] at h
  split at h
  · rename_i hk
    obtain ⟨⟨v, l2⟩, h1, h2⟩ := Option.map_eq_some_iff.1 h
    cases h2
    cases l with
    | nil => exact absurd hk (by show ¬ (5 : Int) = 2; decide)
    | cons x l =>
      obtain ⟨k, t⟩ := x
      have hk2 : k = 2 := hk
      subst hk2
      have hd := (hs _ (List.mem_cons_self)).2 rfl
      rw [numF, hdT_cons] at h1
      split at h1
      · rename_i n hp
        cases h1
        have := num_rd hd hp
        refine ⟨hs.tail, _, .lit (by decide) (.num this.1 this.2), fun μ hμ => ?_⟩
        have := hμ.num t n hd hp
        simp only [wt_cons, wt_nil, List.tail_cons]
        omega
      · cases h1
  · split at h
    · rename_i hk
      obtain ⟨⟨v, l2⟩, h1, h2⟩ := Option.map_eq_some_iff.1 h
      cases h2
      rw [textF] at h1
      split at h1
      · rename_i hr
        cases h1
        cases l with
        | nil => exact absurd hk (by show ¬ (5 : Int) = 3; decide)
        | cons x l =>
          obtain ⟨k, t⟩ := x
          have hk2 : k = 3 := hk
          subst hk2
          exact ⟨hs.tail, _, .lit (by decide) (.txt hr.2), fun μ hμ => by simp only [wt_cons, wt_nil]; exact Nat.le_refl _⟩
      · cases h1
    · split at h
      · rename_i hn
        cases h
        exact ⟨hs.tail, _, .lit (by decide) .null, fun μ hμ => by rw [isT_wt hn hμ]; simp [wt_cons, wt_nil]⟩
      · split at h
        · rename_i hp
          obtain ⟨⟨y, l2⟩, h1, h⟩ := Option.bind_eq_some_iff.1 h
          obtain ⟨l3, h2, h3⟩ := Option.map_eq_some_iff.1 h
          cases h3
          obtain ⟨c, rfl, hs2, ts, hf, hw⟩ := hE _ hs.tail _ _ h1
          obtain ⟨hq, rfl⟩ := need_wt h2
          refine ⟨hs2.tail, ?_⟩
          by_cases hlv : lvlC y.code < 8
          · refine ⟨_, .par hlv hf, fun μ hμ => ?_⟩
            have a := hw μ hμ
            have b := isT_wt4 hp hμ
            have c := isT_wt4 hq hμ
            simp only [wt_cons, wt_append, wt_nil]
            simp only at a c
            omega
          · refine ⟨ts, (hf.up (by omega)).mono, fun μ hμ => ?_⟩
            have a := hw μ hμ
            have b := isT_wt4 hp hμ
            have c := isT_wt4 hq hμ
            simp only at a c ⊢
            omega
        · obtain ⟨hs2, nm, ts, rfl, hc, hw⟩ := col_rd hs h
          exact ⟨hs2, ts, .col (by decide) hc, hw⟩
theorem rds_minus {M : Rf Ex} {O : Rf Ex} {d : Nat} (hM : ∀ l, Src l → ∀ e l', M l = some (e, l') → ∃ c, d = c + 1 ∧ Rdy c 7 e l l') (hO : Rds O d 8) : Rds (minusF M O) d 7 := by
  intro l hs e l' h
  rw [minusF] at h
  split at h
  · rename_i hm
    obtain ⟨⟨y, l2⟩, h1, h2⟩ := Option.map_eq_some_iff.1 h
    cases h2
    obtain ⟨c, rfl, hs2, ts, hf, hw⟩ := hM _ hs.tail _ _ h1
    refine ⟨hs2, _, .neg (by decide) hf, fun μ hμ => ?_⟩
    have a := hw μ hμ
    have b := isT_wt4 hm hμ
    rw [wt_cons]
    simp only at a ⊢
    omega
  · exact (hO l hs e l' h).low (by decide)
theorem rds_null {d : Nat} {x : Ex} {ts : List KT} (hx : Ft d 5 x ts) {l : List KT} (hs : Src l) {e : Ex} {l' : List KT} (h : nullF x l = some (e, l')) : Src l' ∧ ∃ us, Ft d 3 e us ∧ (Ft d 4 e us ∨ ∃ z, e = .two 4 z .nil) ∧ ∀ μ, MuOk μ → wt μ us + wt μ l' ≤ wt μ ts + μ (1, ⟨#[105, 115]⟩) + wt μ l := by
  rw [nullF] at h
  split at h
  · rename_i hn
    obtain ⟨l2, h1, h2⟩ := Option.map_eq_some_iff.1 h
    cases h2
    obtain ⟨hq, rfl⟩ := need_wt h1
    refine ⟨hs.tail.tail, _, .nnul (by decide) hx, Or.inr ⟨_, rfl⟩, fun μ hμ => ?_⟩
    rw [isT_wt hn hμ, isT_wt hq hμ]
    simp only [wt_cons, wt_append, wt_nil]
    omega
  · obtain ⟨l2, h1, h2⟩ := Option.map_eq_some_iff.1 h
    cases h2
    obtain ⟨hq, rfl⟩ := need_wt h1
    refine ⟨hs.tail, _, .nul (by decide) hx, Or.inl (.nul (by decide) hx), fun μ hμ => ?_⟩
    rw [isT_wt hq hμ]
    simp only [wt_cons, wt_append, wt_nil]
    omega
/-- a question may be a Not of IsNull: it is read where a Not may stand -/
theorem rds_ask {S : Rf Ex} {d : Nat} (hS : Rds S d 5) : Rds (askF S) d 3 := by
  intro l hs e l' h
  obtain ⟨⟨x, l2⟩, h1, h⟩ := Option.bind_eq_some_iff.1 h
  obtain ⟨hs2, ts, hf, hw⟩ := hS _ hs _ _ h1
  rw [askR] at h
  split at h
  · rename_i s hm
    obtain ⟨⟨y, l3⟩, h2, h3⟩ := Option.map_eq_some_iff.1 h
    cases h3
    obtain ⟨hs3, us, hu, hw2⟩ := hS _ hs2.tail _ _ h2
    refine ⟨hs3, _, .ask (by decide) (List.mem_of_find?_eq_some hm) hf hu, fun μ hμ => ?_⟩
    have a := hw μ hμ
    have b := hw2 μ hμ
    have c := isT_wt4 (find_is hm) hμ
    rw [wt_append, wt_cons]
    dsimp only at *
    omega
  · split at h
    · rename_i hi
      obtain ⟨hs3, us, hu, _, hw2⟩ := rds_null hf hs2.tail h
      refine ⟨hs3, us, hu, fun μ hμ => ?_⟩
      have a := hw μ hμ
      have b := hw2 μ hμ
      have c := isT_wt hi hμ
      dsimp only at *
      omega
    · split at h
      · rename_i hi
        obtain ⟨⟨v, l3⟩, h2, h3⟩ := Option.map_eq_some_iff.1 h
        cases h3
        obtain ⟨nm, us, rfl, hc, hwc⟩ := hf.isCol hi.1
        rw [textF] at h2
        split at h2
        · rename_i hr
          cases h2
          refine ⟨hs2.tail.tail, _, .mat (by decide) hc hr.2, fun μ hμ => ?_⟩
          have a := hw μ hμ
          have b := hwc μ hμ
          have c := isT_wt hi.2 hμ
          simp only [wt_append, wt_cons, wt_nil]
          have e3 : wt μ l2.tail = μ (3, (hdT l2.tail).2) + wt μ l2.tail.tail := by
            cases e : l2.tail with
            | nil => rw [e] at hr; exact absurd hr.1 (by show ¬ (5 : Int) = 3; decide)
            | cons q r =>
              rw [e] at hr
              obtain ⟨k, t⟩ := q
              obtain rfl : k = 3 := hr.1
              rw [wt_cons]; rfl
          dsimp only at *
          omega
        · cases h2
      · cases h
        exact Rdy.low ⟨hs2, ts, hf, hw⟩ (by decide)
theorem rds_not {N A : Rf Ex} {d : Nat} (hN : ∀ l, Src l → ∀ e l', N l = some (e, l') → ∃ c, d = c + 1 ∧ Rdy c 3 e l l') (hA : Rds A d 3) : Rds (notF N A) d 3 := by
  intro l hs e l' h
  rw [notF] at h
  split at h
  · rename_i hm
    obtain ⟨⟨y, l2⟩, h1, h2⟩ := Option.map_eq_some_iff.1 h
    cases h2
    obtain ⟨c, rfl, hs2, ts, hf, hw⟩ := hN _ hs.tail _ _ h1
    by_cases hy : y.code = 5
    · obtain ⟨z, us, rfl, hz, hwz⟩ := hf.isNul (by decide) hy
      refine ⟨hs2, _, .nnul (by decide) hz.mono, fun μ hμ => ?_⟩
      have a := hw μ hμ
      have b := isT_wt hm hμ
      have c := hwz μ hμ
      simp only [wt_append, wt_cons, wt_nil]
      dsimp only at *
      omega
    · refine ⟨hs2, _, .not (by decide) hy hf, fun μ hμ => ?_⟩
      have a := hw μ hμ
      have b := isT_wt hm hμ
      rw [wt_cons]
      simp only at a ⊢
      omega
  · exact hA l hs e l' h
theorem lev_rds (d : Nat) : (∀ l, Src l → ∀ e l', (lev d).E l = some (e, l') → ∃ c, d = c + 1 ∧ Rdy c 1 e l l') ∧ (∀ l, Src l → ∀ e l', (lev d).N l = some (e, l') → ∃ c, d = c + 1 ∧ Rdy c 3 e l l') ∧ (∀ l, Src l → ∀ e l', (lev d).M l = some (e, l') → ∃ c, d = c + 1 ∧ Rdy c 7 e l l') := by
  induction d with
  | zero => exact ⟨(fun _ _ _ _ h => by cases h), (fun _ _ _ _ h => by cases h), (fun _ _ _ _ h => by cases h)⟩
  | succ d ih =>
    have h8 : Rds (Rr d 8) d 8 := rds_one ih.1
    have h7 : Rds (Rr d 7) d 7 := rds_minus ih.2.2 h8
    have h6 : Rds (Rr d 6) d 6 := rds_chain (k := 4) (Or.inr rfl) h7 (fun s hs x y ts us hx hy => .mul (by decide) hs hx hy)
    have h5 : Rds (Rr d 5) d 5 := rds_chain (k := 4) (Or.inr rfl) h6 (fun s hs x y ts us hx hy => .sum (by decide) hs hx hy)
    have h3 : Rds (Rr d 3) d 3 := rds_not ih.2.1 (rds_ask h5)
    have h2 : Rds (Rr d 2) d 2 := rds_chain (k := 1) (Or.inl rfl) h3 (fun s hs x y ts us hx hy => .and (by decide) hs hx hy)
    have h1 : Rds (Rr d 1) d 1 := rds_chain (k := 1) (Or.inl rfl) h2 (fun s hs x y ts us hx hy => .or (by decide) hs hx hy)
    exact ⟨fun l hs e l' h => ⟨d, rfl, h1 l hs e l' h⟩, fun l hs e l' h => ⟨d, rfl, h3 l hs e l' h⟩, fun l hs e l' h => ⟨d, rfl, h7 l hs e l' h⟩⟩
theorem Ef_rds : Rds Ef 12 1 := fun l hs e l' h => by
  obtain ⟨c, hc, hr⟩ := (lev_rds 13).1 l hs e l' h
  obtain rfl : c = 12 := by omega
  exact hr
end Go.Proofs.YtbdcbaamjkjhaaaGreatDoor
namespace Go.Proofs.YtbdcbaamjkjhaaaGreatDoor
open Go.RowKit

/-- the tokens of bytes, without their places -/
def kts : Except (Int × Nat) (List Tok) → Option (List KT)
  | .ok L => some (L.map Tok.kt)
  | .error _ => none
theorem kts_at (f : Nat) : ∀ i j n l, kts (lexL f i n l) = kts (lexL f j n l) := by
  induction f with
  | zero => intro i j n l; rfl
  | succ f ih =>
    intro i j n l
    cases l with
    | nil => rfl
    | cons c l =>
      rw [lexL, lexL]
      split
      · exact ih _ _ _ _
      · split
        · rfl
        · rename_i k t m hm
          split
          · rfl
          · have := ih (i + m) (j + m) (n + 1) ((c :: l).drop m)
            generalize lexL f (i + m) (n + 1) ((c :: l).drop m) = a at *
            generalize lexL f (j + m) (n + 1) ((c :: l).drop m) = b at *
            cases a with
            | error a =>
              cases b with
              | error b => rfl
              | ok b => cases this
            | ok a =>
              cases b with
              | error b => cases this
              | ok b =>
                have := Option.some.inj this
                show some (_ :: _) = some (_ :: _)
                rw [this]
                rfl
def LK (n : Nat) (l : List UInt8) : Option (List KT) := kts (lexF 0 n l)
theorem LK_at (i n : Nat) (l : List UInt8) : kts (lexF i n l) = LK n l := kts_at _ _ _ _ _
theorem LK_nil (n : Nat) : LK n [] = some [(5, ⟨#[]⟩)] := rfl
theorem LK_blank {c : UInt8} (h : blankC c = true) (n : Nat) (l : List UInt8) : LK n (c :: l) = LK n l := by
  rw [LK, lexF_blank h, LK_at]
theorem LK_tok {c : UInt8} {l : List UInt8} {k : Int} {t : List UInt8} {m : Nat} (hb : blankC c = false) (h : nextT (c :: l) = some (k, t, m)) {n : Nat} (hn : ¬ ((k = 2 ∧ 19 < m) ∨ n = 200)) :
    LK n (c :: l) = (LK (n + 1) ((c :: l).drop m)).map ((k, ⟨t.toArray⟩) :: ·) := by
  rw [LK, lexF_tok hb h hn, ← LK_at (0 + m)]
  cases lexF (0 + m) (n + 1) ((c :: l).drop m) <;> rfl
/-- bytes behind which a word, a number, a text or a sign has ended -/
def cloC (c : UInt8) : Prop := wordC c = false ∧ c.toNat ≠ 39 ∧ c.toNat ≠ 62 ∧ c.toNat ≠ 61
def clo (r : List UInt8) : Prop := ∀ c ∈ r.head?, cloC c
def cloS (b : List UInt8) : Prop := ∃ c l, b = c :: l ∧ cloC c
theorem cloS.app {b : List UInt8} (h : cloS b) (r : List UInt8) : clo (b ++ r) := by
  obtain ⟨c, l, rfl, hc⟩ := h
  intro d hd
  simp only [List.cons_append, List.head?_cons, Option.mem_def, Option.some.injEq] at hd
  subst hd; exact hc
theorem cloS.more {b : List UInt8} (h : cloS b) (r : List UInt8) : cloS (b ++ r) := by
  obtain ⟨c, l, rfl, hc⟩ := h
  exact ⟨c, l ++ r, rfl, hc⟩
theorem clo_blank (l : List UInt8) : cloS (32 :: l) := ⟨32, l, rfl, by unfold cloC; decide⟩
theorem clo_close (l : List UInt8) : cloS (41 :: l) := ⟨41, l, rfl, by unfold cloC; decide⟩
theorem clo_open (l : List UInt8) : cloS (40 :: l) := ⟨40, l, rfl, by unfold cloC; decide⟩
theorem clo_comma (l : List UInt8) : cloS (44 :: l) := ⟨44, l, rfl, by unfold cloC; decide⟩
theorem clo_dot (l : List UInt8) : cloS (46 :: l) := ⟨46, l, rfl, by unfold cloC; decide⟩
/-- how long a token is, as it is written -/
def wr1 (x : KT) : Nat := if x.1 = 3 then (esc x.2.data.toList).length + 2 else x.2.size
/-- these bytes are cut into these tokens, whatever stands behind them (a: anything; else: what ends them) -/
structure LxP (a : Bool) (k : Nat) (bs : List UInt8) (ts : List KT) : Prop where
  run : ∀ r n, (a = false → clo r) → n + ts.length ≤ 200 → LK n (bs ++ r) = (LK (n + ts.length) r).map (ts ++ ·)
  len : bs.length ≤ wt wr1 ts + k
theorem LxP.weak {a : Bool} {k j : Nat} {bs : List UInt8} {ts : List KT} (h : LxP a k bs ts) (hj : k ≤ j) : LxP a j bs ts := ⟨h.run, by have := h.len; omega⟩
theorem LxP.less {a : Bool} {k : Nat} {bs : List UInt8} {ts : List KT} (h : LxP a k bs ts) : LxP false k bs ts := ⟨fun r n hr hn => h.run r n (fun _ => hr rfl) hn, h.len⟩
theorem LxP.join {a b : Bool} {k j : Nat} {ab bs : List UInt8} {ss ts : List KT} (h : LxP a k ab ss) (g : LxP b j bs ts) (hc : a = false → cloS bs) : LxP b (k + j) (ab ++ bs) (ss ++ ts) := by
  refine ⟨fun r n hr hn => ?_, ?_⟩
  · rw [List.length_append] at hn
    rw [List.append_assoc, h.run (bs ++ r) n (fun e => (hc e).app r) (by omega), g.run r (n + ss.length) hr (by omega), List.length_append, Option.map_map, show n + (ss.length + ts.length) = n + ss.length + ts.length by omega]
    congr 1
    funext x
    simp
  · rw [List.length_append, wt_append]
    have := h.len
    have := g.len
    omega
theorem LxP.app {b : Bool} {k j : Nat} {ab bs : List UInt8} {ss ts : List KT} (h : LxP true k ab ss) (g : LxP b j bs ts) : LxP b (k + j) (ab ++ bs) (ss ++ ts) := h.join g (fun e => by cases e)
theorem LxP.blank : LxP true 1 [32] [] := by
  refine ⟨fun r n _ _ => ?_, by decide⟩
  rw [List.singleton_append, LK_blank (by decide)]
  show LK n r = (LK (n + 0) r).map _
  simp
theorem LxP.none : LxP true 0 [] [] := ⟨fun r n _ _ => by simp, by decide⟩
theorem LxP.tok {a : Bool} {c : UInt8} {l : List UInt8} {k : Int} {t : ByteArray} (hb : blankC c = false) (hx : ∀ r, (a = false → clo r) → nextT (c :: l ++ r) = some (k, t.data.toList, l.length + 1)) (h2 : k = 2 → l.length + 1 ≤ 19) (hw : l.length + 1 ≤ wr1 (k, t)) : LxP a 0 (c :: l) [(k, t)] := by
  refine ⟨fun r n hr hn => ?_, by rw [wt_cons, wt_nil, List.length_cons]; omega⟩
  have h := hx r hr
  simp only [List.length_cons, List.length_nil] at hn
  rw [List.cons_append] at h ⊢
  rw [LK_tok hb h (by rintro (⟨e, h3⟩ | e); (have := h2 e; omega); omega)]
  have e : (c :: (l ++ r)).drop (l.length + 1) = r := by simp
  rw [e]
  simp
theorem LxP.word {t : ByteArray} (h : wordB t) : LxP false 0 t.data.toList [(1, t)] := by
  obtain ⟨c, l, e, hc, hl, hs⟩ := h
  rw [e]
  have hcw : wordC c = true := by rw [wordC, hc]; rfl
  refine LxP.tok ((byte_at c).2.1 hcw).1 (fun r hr => ?_) (fun h => absurd h (by decide)) ?_
  · have hrw : ∀ d ∈ r.head?, wordC d = false := fun d hd => (hr rfl d hd).1
    rw [List.cons_append, nextT, if_pos hc, while_all _ _ hl hrw, hs, e]
  · show _ ≤ t.size
    rw [← ba_len, e]; exact Nat.le_refl _
theorem wordC_dg {c : UInt8} (h : wordC c = false) : isDg c = false := by
  rw [wordC, Bool.or_eq_false_iff] at h
  exact h.2
theorem dg_not_al (c : UInt8) (h : isDg c = true) : isAl c = false := by
  simp only [isDg, digN, Bool.and_eq_true, decide_eq_true_eq] at h
  simp only [isAl, alphaN, Bool.or_eq_false_iff, Bool.and_eq_false_iff, decide_eq_false_iff_not]
  omega
theorem LxP.num {u : Nat} (h : Lib.nDigits u ≤ 19) : LxP false 0 (Lib.decDigits u) [(2, ⟨(Lib.decDigits u).toArray⟩)] := by
  obtain ⟨c, l, e⟩ := dec_cons u
  have hd := dec_all u
  have hn := Lib.decDigits_length u
  rw [e] at hd hn ⊢
  have hc := hd c (by simp)
  rw [List.length_cons] at hn
  refine LxP.tok ((byte_at c).2.1 (by rw [wordC, hc]; simp)).1 (fun r hr => ?_) (fun _ => by omega) ?_
  · rw [List.cons_append, nextT, if_neg (by rw [dg_not_al c hc]; decide), if_pos hc, while_all _ _ (fun d hm => hd d (by simp [hm])) (fun d hm => wordC_dg (hr rfl d hm).1)]
  · show _ ≤ ByteArray.size _
    rw [← ba_len]; simp
theorem strL_esc' (t : List UInt8) (r : List UInt8) (hr : ∀ c ∈ r.head?, c.toNat ≠ 39) : strL (esc t ++ 39 :: r) = some (t, (esc t).length + 1) := by
  induction t with
  | nil =>
    cases r with
    | nil => rfl
    | cons d r =>
      have h := hr d rfl
      show strL (39 :: d :: r) = _
      rw [strL, if_pos (show UInt8.toNat 39 = 39 from rfl), if_neg h]; rfl
  | cons c t ih =>
    rw [esc]
    by_cases hc : c.toNat = 39
    · rw [if_pos hc, List.cons_append, List.cons_append, strL, if_pos hc, if_pos hc, ih]
      rfl
    · rw [if_neg hc, List.cons_append]
      have key : ∀ l : List UInt8, l ≠ [] → strL (c :: l) = (strL l).map (fun x => (c :: x.1, x.2 + 1)) := by
        intro l hl
        cases l with
        | nil => exact absurd rfl hl
        | cons d l => rw [strL, if_neg hc]
      rw [key _ (by simp), ih]
      rfl
theorem LxP.str (t : ByteArray) : LxP false 0 (39 :: (esc t.data.toList ++ [39])) [(3, t)] := by
  refine LxP.tok (by decide) (fun r hr => ?_) (fun h => absurd h (by decide)) ?_
  · rw [List.cons_append, nextT, if_neg (by decide), if_neg (by decide), if_pos (show UInt8.toNat 39 = 39 from rfl), List.append_assoc, List.singleton_append, strL_esc' _ _ (fun c hc => (hr rfl c hc).2.1)]
    simp
  · show _ ≤ (esc t.data.toList).length + 2
    simp
theorem LxP.mark {c : UInt8} (h1 : isAl c = false) (h2 : isDg c = false) (h3 : ¬ c.toNat = 39) (h4 : markC c = true) (h5 : c.toNat ≠ 60 ∧ c.toNat ≠ 62) : LxP true 0 [c] [(4, ⟨#[c]⟩)] := by
  refine LxP.tok ((byte_at c).2.2.2 h4) (fun r _ => ?_) (fun h => absurd h (by decide)) (Nat.le_refl _)
  rw [List.singleton_append, nextT, if_neg (by rw [h1]; decide), if_neg (by rw [h2]; decide), if_neg h3, if_pos h4]
  cases r with
  | nil => rfl
  | cons d r => rw [markT, if_neg (by simp [twoC, h5.1, h5.2])]; rfl
theorem LxP.mark' {c : UInt8} (h1 : isAl c = false) (h2 : isDg c = false) (h3 : ¬ c.toNat = 39) (h4 : markC c = true) : LxP false 0 [c] [(4, ⟨#[c]⟩)] := by
  refine LxP.tok ((byte_at c).2.2.2 h4) (fun r hr => ?_) (fun h => absurd h (by decide)) (Nat.le_refl _)
  rw [List.singleton_append, nextT, if_neg (by rw [h1]; decide), if_neg (by rw [h2]; decide), if_neg h3, if_pos h4]
  cases r with
  | nil => rfl
  | cons d r =>
    have := (hr rfl d rfl).2
    rw [markT, if_neg (by simp [twoC, this.2.1, this.2.2])]; rfl
theorem LxP.mark2 {c d : UInt8} (h1 : isAl c = false) (h2 : isDg c = false) (h3 : ¬ c.toNat = 39) (h4 : markC c = true) (h5 : twoC c d = true) : LxP true 0 [c, d] [(4, ⟨#[c, d]⟩)] := by
  refine LxP.tok ((byte_at c).2.2.2 h4) (fun r _ => ?_) (fun h => absurd h (by decide)) (Nat.le_refl _)
  rw [List.cons_append, nextT, if_neg (by rw [h1]; decide), if_neg (by rw [h2]; decide), if_neg h3, if_pos h4, List.singleton_append, markT, if_pos h5]
  rfl
/-- a blank behind -/
theorem LxP.then {a : Bool} {k : Nat} {bs : List UInt8} {ts : List KT} (h : LxP a k bs ts) : LxP true (k + 1) (bs ++ [32]) ts := by
  have := h.join LxP.blank (fun _ => clo_blank [])
  rw [List.append_nil] at this
  exact this
/-- a blank ahead -/
theorem LxP.ahead {a : Bool} {k : Nat} {bs : List UInt8} {ts : List KT} (h : LxP a k bs ts) : LxP a (k + 1) (32 :: bs) ts := by
  have := LxP.blank.app h
  rw [List.nil_append] at this
  exact this.weak (by omega)
/-- a word, by its bytes -/
def wdB (l : List UInt8) : Bool := match l with
  | c :: r => isAl c && r.all wordC && decide (smallL (c :: r) = c :: r)
  | [] => false
theorem wordB_of {l : List UInt8} (h : wdB l = true) : wordB ⟨l.toArray⟩ := by
  cases l with
  | nil => cases h
  | cons c r =>
    simp only [wdB, Bool.and_eq_true, decide_eq_true_eq, List.all_eq_true] at h
    exact ⟨c, r, rfl, h.1.1, h.1.2, h.2⟩
theorem LxP.wd (l : List UInt8) (h : wdB l = true) : LxP false 0 l [(1, ⟨l.toArray⟩)] := LxP.word (wordB_of h)
end Go.Proofs.YtbdcbaamjkjhaaaGreatDoor
namespace Go.Proofs.YtbdcbaamjkjhaaaGreatDoor
open Go.RowKit

theorem Ft.node {d : Nat} {n : Int} {e : Ex} {ts : List KT} (h : Ft d n e ts) : ∃ c v nm l r, e = .node c v nm l r := by
  induction h with
  | par _ _ ih => exact ih
  | lit _ _ => exact ⟨_, _, _, _, _, rfl⟩
  | col _ _ => exact ⟨_, _, _, _, _, rfl⟩
  | neg _ _ _ => exact ⟨_, _, _, _, _, rfl⟩
  | not _ _ _ _ => exact ⟨_, _, _, _, _, rfl⟩
  | nnul _ _ _ => exact ⟨_, _, _, _, _, rfl⟩
  | nul _ _ _ => exact ⟨_, _, _, _, _, rfl⟩
  | mat _ _ _ => exact ⟨_, _, _, _, _, rfl⟩
  | ask _ _ _ _ _ _ => exact ⟨_, _, _, _, _, rfl⟩
  | sum _ _ _ _ _ _ => exact ⟨_, _, _, _, _, rfl⟩
  | mul _ _ _ _ _ _ => exact ⟨_, _, _, _, _, rfl⟩
  | and _ _ _ _ _ _ => exact ⟨_, _, _, _, _, rfl⟩
  | or _ _ _ _ _ _ => exact ⟨_, _, _, _, _, rfl⟩
theorem prN_bare {n c : Int} {v : Vl} {nm : ByteArray} {l r : Ex} (h : n ≤ lvlC c) : prN n (.node c v nm l r) = (prX (.node c v nm l r)).1 := by
  rw [prN, parW, if_neg (by omega)]
theorem prN_par {n c : Int} {v : Vl} {nm : ByteArray} {l r : Ex} (h : lvlC c < n) : prN n (.node c v nm l r) = 40 :: ((prX (.node c v nm l r)).1 ++ [41]) := by
  rw [prN, parW, if_pos h]
theorem LitV.lx {v : Vl} {t : KT} (h : LitV v t) : LxP false 0 (litL v) [t] := by
  cases h with
  | null => exact LxP.wd [110, 117, 108, 108] (by decide)
  | @num n h0 h1 =>
    have : Lib.nDigits n.toNat ≤ 19 := by
      rcases Nat.lt_or_ge (Lib.nDigits n.toNat) 20 with h | h
      · omega
      · exfalso
        have key : ∀ u, 10 ^ (Lib.nDigits u - 1) ≤ u ∨ Lib.nDigits u = 1 := by
          intro u
          induction u using Nat.strongRecOn with
          | _ u ih =>
            by_cases hu : u < 10
            · exact Or.inr (Lib.nDigits_small hu)
            · left
              rw [Lib.nDigits_big hu]
              rcases ih (u / 10) (by omega) with k | k
              · have hp := Lib.nDigits_pos (u / 10)
                rw [show Lib.nDigits (u / 10) + 1 - 1 = (Lib.nDigits (u / 10) - 1) + 1 by omega, Nat.pow_succ]
                omega
              · rw [k]; simp; omega
        rcases key n.toNat with k | k
        · have : 10 ^ 19 ≤ 10 ^ (Lib.nDigits n.toNat - 1) := Nat.pow_le_pow_right (by decide) (by omega)
          omega
        · omega
    exact LxP.num this
  | txt h => exact LxP.str _
theorem LxP.dot : LxP true 0 [46] [(4, ⟨#[46]⟩)] := LxP.mark (by decide) (by decide) (by decide) (by decide) (by decide)
theorem ColN.lx {nm : ByteArray} {ts : List KT} (h : ColN nm ts) : LxP false 0 nm.data.toList ts := by
  cases h with
  | one h => exact LxP.word h.word
  | @two a b h k =>
    have e : (a ++ ((⟨#[46]⟩ : ByteArray) ++ b)).data.toList = a.data.toList ++ ([46] ++ b.data.toList) := by simp
    rw [e]
    exact (LxP.word h.word).join (LxP.dot.app (LxP.word k.word)) (fun _ => clo_dot _)
theorem LxP.lpar : LxP true 0 [40] [(4, ⟨#[40]⟩)] := LxP.mark (by decide) (by decide) (by decide) (by decide) (by decide)
theorem LxP.rpar : LxP true 0 [41] [(4, ⟨#[41]⟩)] := LxP.mark (by decide) (by decide) (by decide) (by decide) (by decide)
theorem LxP.dash : LxP true 0 [45] [(4, ⟨#[45]⟩)] := LxP.mark (by decide) (by decide) (by decide) (by decide) (by decide)
/-- a sign of two, with its blanks -/
theorem cmp_lx : ∀ s ∈ cmpS, LxP true 2 ([32] ++ (s.1.data.toList ++ [32])) [(4, s.1)] := by
  intro s hs
  simp only [cmpS, List.mem_cons, List.not_mem_nil, or_false] at hs
  rcases hs with rfl | rfl | rfl | rfl | rfl | rfl
  · exact ((LxP.mark (c := 61) (by decide) (by decide) (by decide) (by decide) (by decide)).then).ahead
  · exact ((LxP.mark2 (c := 60) (d := 62) (by decide) (by decide) (by decide) (by decide) (by decide)).then).ahead
  · exact ((LxP.mark' (c := 60) (by decide) (by decide) (by decide) (by decide)).then).ahead
  · exact ((LxP.mark2 (c := 60) (d := 61) (by decide) (by decide) (by decide) (by decide) (by decide)).then).ahead
  · exact ((LxP.mark' (c := 62) (by decide) (by decide) (by decide) (by decide)).then).ahead
  · exact ((LxP.mark2 (c := 62) (d := 61) (by decide) (by decide) (by decide) (by decide) (by decide)).then).ahead
theorem sum_lx : ∀ s ∈ sumS, LxP true 2 ([32] ++ (s.1.data.toList ++ [32])) [(4, s.1)] := by
  intro s hs
  simp only [sumS, List.mem_cons, List.not_mem_nil, or_false] at hs
  rcases hs with rfl | rfl
  · exact ((LxP.mark (c := 43) (by decide) (by decide) (by decide) (by decide) (by decide)).then).ahead
  · exact ((LxP.mark (c := 45) (by decide) (by decide) (by decide) (by decide) (by decide)).then).ahead
theorem mul_lx : ∀ s ∈ mulS, LxP true 2 ([32] ++ (s.1.data.toList ++ [32])) [(4, s.1)] := by
  intro s hs
  simp only [mulS, List.mem_cons, List.not_mem_nil, or_false] at hs
  rcases hs with rfl
  exact ((LxP.mark (c := 42) (by decide) (by decide) (by decide) (by decide) (by decide)).then).ahead
theorem and_lx : ∀ s ∈ andS, LxP true 2 ([32] ++ (s.1.data.toList ++ [32])) [(1, s.1)] := by
  intro s hs
  simp only [andS, List.mem_cons, List.not_mem_nil, or_false] at hs
  rcases hs with rfl
  exact ((LxP.wd [97, 110, 100] (by decide)).then).ahead
theorem or_lx : ∀ s ∈ orS, LxP true 2 ([32] ++ (s.1.data.toList ++ [32])) [(1, s.1)] := by
  intro s hs
  simp only [orS, List.mem_cons, List.not_mem_nil, or_false] at hs
  rcases hs with rfl
  exact ((LxP.wd [111, 114] (by decide)).then).ahead
theorem null_lx : LxP false 2 [32, 105, 115, 32, 110, 117, 108, 108] [(1, ⟨#[105, 115]⟩), (1, ⟨#[110, 117, 108, 108]⟩)] :=
  ((LxP.wd [105, 115] (by decide)).ahead).join ((LxP.wd [110, 117, 108, 108] (by decide)).ahead) (fun _ => clo_blank _)
theorem nnull_lx : LxP false 3 [32, 105, 115, 32, 110, 111, 116, 32, 110, 117, 108, 108] [(1, ⟨#[105, 115]⟩), (1, ⟨#[110, 111, 116]⟩), (1, ⟨#[110, 117, 108, 108]⟩)] :=
  ((LxP.wd [105, 115] (by decide)).ahead).join (((LxP.wd [110, 111, 116] (by decide)).ahead).join ((LxP.wd [110, 117, 108, 108] (by decide)).ahead) (fun _ => clo_blank _)) (fun _ => clo_blank _)
theorem match_lx : LxP true 2 [32, 109, 97, 116, 99, 104, 32] [(1, ⟨#[109, 97, 116, 99, 104]⟩)] := ((LxP.wd [109, 97, 116, 99, 104] (by decide)).then).ahead
theorem not_lx : LxP true 1 [110, 111, 116, 32] [(1, ⟨#[110, 111, 116]⟩)] := (LxP.wd [110, 111, 116] (by decide)).then
theorem pX1 (v : Vl) (nm : ByteArray) (x y : Ex) : (prX (.node 1 v nm x y)).1 = litL v := by rw [prX]; simp only [↓reduceIte]
theorem pX2 (v : Vl) (nm : ByteArray) (x y : Ex) : (prX (.node 2 v nm x y)).1 = nm.data.toList := by rw [prX]; simp only [Int.reduceEq, ↓reduceIte]
theorem pX3 (v : Vl) (nm : ByteArray) (x y : Ex) : (prX (.node 3 v nm x y)).1 = [45, 32] ++ prN 7 x := by rw [prX]; simp only [Int.reduceEq, ↓reduceIte]; rfl
theorem pX4 (v : Vl) (nm : ByteArray) (x y : Ex) (h : x.code ≠ 5) : (prX (.node 4 v nm x y)).1 = [110, 111, 116, 32] ++ prN 3 x := by rw [prX]; simp only [Int.reduceEq, ↓reduceIte, if_neg h]; rfl
theorem pX4n (v u : Vl) (nm mm : ByteArray) (x y z : Ex) : (prX (.node 4 v nm (.node 5 u mm x z) y)).1 = prN 5 x ++ [32, 105, 115, 32, 110, 111, 116, 32, 110, 117, 108, 108] := by rw [prX]; simp only [Int.reduceEq, ↓reduceIte, Ex.code]; rw [prX]; rfl
theorem pX5 (v : Vl) (nm : ByteArray) (x y : Ex) : (prX (.node 5 v nm x y)).1 = prN 5 x ++ [32, 105, 115, 32, 110, 117, 108, 108] := by rw [prX]; simp only [Int.reduceEq, ↓reduceIte]; rfl
theorem pX17 (v : Vl) (nm : ByteArray) (x y : Ex) : (prX (.node 17 v nm x y)).1 = prN 5 x ++ ([32, 109, 97, 116, 99, 104, 32] ++ litL v) := by rw [prX]; simp only [Int.reduceEq, ↓reduceIte]; rfl
theorem pXp {c lv lf : Int} {s : ByteArray} (v : Vl) (nm : ByteArray) (x y : Ex) (h : c ≠ 1 ∧ c ≠ 2 ∧ c ≠ 3 ∧ c ≠ 4 ∧ c ≠ 5 ∧ c ≠ 17 ∧ pairR pairL c = (s, lv, true)) (hl : lf = if lv = 4 then lv + 1 else lv) : (prX (.node c v nm x y)).1 = prN lf x ++ ([32] ++ (s.data.toList ++ [32])) ++ prN (lv + 1) y := by
  obtain ⟨h1, h2, h3, h4, h5, h6, h7⟩ := h
  rw [prX, if_neg h1, if_neg h2, if_neg h3, if_neg h4, if_neg h5, if_neg h6, h7]
  subst hl
  rfl
theorem cmp_pr : ∀ s ∈ cmpS, s.2 ≠ 1 ∧ s.2 ≠ 2 ∧ s.2 ≠ 3 ∧ s.2 ≠ 4 ∧ s.2 ≠ 5 ∧ s.2 ≠ 17 ∧ pairR pairL s.2 = (s.1, 4, true) := by decide +kernel
theorem sum_pr : ∀ s ∈ sumS, s.2 ≠ 1 ∧ s.2 ≠ 2 ∧ s.2 ≠ 3 ∧ s.2 ≠ 4 ∧ s.2 ≠ 5 ∧ s.2 ≠ 17 ∧ pairR pairL s.2 = (s.1, 5, true) := by decide +kernel
theorem mul_pr : ∀ s ∈ mulS, s.2 ≠ 1 ∧ s.2 ≠ 2 ∧ s.2 ≠ 3 ∧ s.2 ≠ 4 ∧ s.2 ≠ 5 ∧ s.2 ≠ 17 ∧ pairR pairL s.2 = (s.1, 6, true) := by decide +kernel
theorem and_pr : ∀ s ∈ andS, s.2 ≠ 1 ∧ s.2 ≠ 2 ∧ s.2 ≠ 3 ∧ s.2 ≠ 4 ∧ s.2 ≠ 5 ∧ s.2 ≠ 17 ∧ pairR pairL s.2 = (s.1, 2, true) := by decide +kernel
theorem or_pr : ∀ s ∈ orS, s.2 ≠ 1 ∧ s.2 ≠ 2 ∧ s.2 ≠ 3 ∧ s.2 ≠ 4 ∧ s.2 ≠ 5 ∧ s.2 ≠ 17 ∧ pairR pairL s.2 = (s.1, 1, true) := by decide +kernel
theorem pair_lx {k : Int} {s : ByteArray × Int} {bx by_ : List UInt8} {ts us : List KT} (hs : LxP true 2 ([32] ++ (s.1.data.toList ++ [32])) [(k, s.1)]) (hx : LxP false (2 * ts.length) bx ts) (hy : LxP false (2 * us.length) by_ us) : LxP false (2 * (ts ++ ((k, s.1) :: us)).length) (bx ++ ([32] ++ (s.1.data.toList ++ [32])) ++ by_) (ts ++ ((k, s.1) :: us)) := by
  have h := (hx.join hs (fun _ => clo_blank _)).app hy
  rw [List.append_assoc ts, List.singleton_append (x := (k, s.1))] at h
  exact h.weak (by rw [List.length_append, List.length_cons]; omega)
theorem Ft.lx {d : Nat} {n : Int} {e : Ex} {ts : List KT} (h : Ft d n e ts) : LxP false (2 * ts.length) (prN n e) ts := by
  induction h with
  | @par d n e ts hl hf ih =>
    obtain ⟨c, v, nm, l, r, rfl⟩ := hf.node
    rw [prN_bare (lvl_pos c)] at ih
    rw [prN_par (show lvlC c < n from hl)]
    exact ((LxP.lpar.app (ih.join LxP.rpar (fun _ => clo_close _))).less).weak (by simp only [List.length_append, List.length_cons]; omega)
  | lit a b => rw [prN_bare a, pX1]; exact b.lx.weak (by omega)
  | col a b => rw [prN_bare a, pX2]; exact b.lx.weak (by omega)
  | neg a _ ih =>
    rw [Ex.two, prN_bare a, pX3]
    exact ((LxP.dash.then).app ih).weak (by rw [List.length_cons]; omega)
  | not a b _ ih =>
    rw [Ex.two, prN_bare a, pX4 _ _ _ _ b]
    exact (not_lx.app ih).weak (by rw [List.length_cons]; omega)
  | nnul a _ ih =>
    rw [Ex.two, Ex.two, prN_bare a, pX4n]
    exact (ih.join nnull_lx (fun _ => clo_blank _)).weak (by simp only [List.length_append, List.length_cons, List.length_nil]; omega)
  | nul a _ ih =>
    rw [Ex.two, prN_bare a, pX5]
    exact (ih.join null_lx (fun _ => clo_blank _)).weak (by simp only [List.length_append, List.length_cons, List.length_nil]; omega)
  | mat a b c =>
    rw [prN_bare a, pX17, prN_bare (show (5 : Int) ≤ lvlC 2 by decide +kernel), pX2]
    exact (b.lx.join (match_lx.app (LitV.lx (.txt c))) (fun _ => clo_blank _)).weak (by simp only [List.length_append, List.length_cons, List.length_nil]; omega)
  | @ask d n s x y ts us a b _ _ ihx ihy =>
    rw [Ex.two, prN_bare (by rw [lvl_cmp s b]; exact a), pXp _ _ _ _ (cmp_pr s b) (lf := 5) (by decide)]
    exact pair_lx (cmp_lx s b) ihx ihy
  | @sum d n s x y ts us a b _ _ ihx ihy =>
    rw [Ex.two, prN_bare (by rw [lvl_sum s b]; exact a), pXp _ _ _ _ (sum_pr s b) (lf := 5) (by decide)]
    exact pair_lx (sum_lx s b) ihx ihy
  | @mul d n s x y ts us a b _ _ ihx ihy =>
    rw [Ex.two, prN_bare (by rw [lvl_mul s b]; exact a), pXp _ _ _ _ (mul_pr s b) (lf := 6) (by decide)]
    exact pair_lx (mul_lx s b) ihx ihy
  | @and d n s x y ts us a b _ _ ihx ihy =>
    rw [Ex.two, prN_bare (by rw [lvl_and s b]; exact a), pXp _ _ _ _ (and_pr s b) (lf := 2) (by decide)]
    exact pair_lx (and_lx s b) ihx ihy
  | @or d n s x y ts us a b _ _ ihx ihy =>
    rw [Ex.two, prN_bare (by rw [lvl_or s b]; exact a), pXp _ _ _ _ (or_pr s b) (lf := 1) (by decide)]
    exact pair_lx (or_lx s b) ihx ihy
theorem LitV.ok {v : Vl} {t : KT} (h : LitV v t) : VlOk v := by
  cases h with
  | null => exact ⟨fun h => absurd h (by show ¬ (0 : Int) = 1; decide), fun h => absurd h (by show ¬ (0 : Int) = 2; decide)⟩
  | num h0 h1 => exact ⟨fun _ => ⟨h0, h1⟩, fun h => absurd h (by show ¬ (1 : Int) = 2; decide)⟩
  | txt h =>
    simp only [rightT, Bool.and_eq_true, decide_eq_true_eq] at h
    exact ⟨fun h => absurd h (by show ¬ (2 : Int) = 1; decide), fun _ => by simp only; omega⟩
theorem none_ok : VlOk .none := LitV.ok .null
theorem Ft.tree {d : Nat} {n : Int} {e : Ex} {ts : List KT} (h : Ft d n e ts) : TreeOk e := by
  induction h with
  | par _ _ ih => exact ih
  | lit _ b => exact ⟨b.ok, trivial, trivial⟩
  | col _ _ => exact ⟨none_ok, trivial, trivial⟩
  | neg _ _ ih => exact ⟨none_ok, ih, trivial⟩
  | not _ _ _ ih => exact ⟨none_ok, ih, trivial⟩
  | nnul _ _ ih => exact ⟨none_ok, ⟨none_ok, ih, trivial⟩, trivial⟩
  | nul _ _ ih => exact ⟨none_ok, ih, trivial⟩
  | mat _ _ c => exact ⟨LitV.ok (.txt c), ⟨none_ok, trivial, trivial⟩, trivial⟩
  | ask _ _ _ _ i j => exact ⟨none_ok, i, j⟩
  | sum _ _ _ _ i j => exact ⟨none_ok, i, j⟩
  | mul _ _ _ _ i j => exact ⟨none_ok, i, j⟩
  | and _ _ _ _ i j => exact ⟨none_ok, i, j⟩
  | or _ _ _ _ i j => exact ⟨none_ok, i, j⟩
end Go.Proofs.YtbdcbaamjkjhaaaGreatDoor
namespace Go.Proofs.YtbdcbaamjkjhaaaGreatDoor
open Go.RowKit

/-- things with commas between, token by token -/
inductive Ls {α : Type} (P : α → List KT → Prop) : List α → List KT → Prop
  | one {a : α} {ts : List KT} : P a ts → Ls P [a] ts
  | more {L : List α} {a : α} {ts us : List KT} : Ls P L ts → P a us → Ls P (L ++ [a]) (ts ++ ((4, ⟨#[44]⟩) :: us))
theorem Ls.pos {α : Type} {P : α → List KT → Prop} {L : List α} {ts : List KT} (h : Ls P L ts) : 0 < L.length := by
  cases h <;> simp
theorem Ls.all {α : Type} {P : α → List KT → Prop} {L : List α} {ts : List KT} (h : Ls P L ts) : ∀ a ∈ L, ∃ us, P a us := by
  induction h with
  | one h => intro a ha; rw [List.mem_singleton] at ha; subst ha; exact ⟨_, h⟩
  | more _ h ih =>
    intro a ha
    rw [List.mem_append, List.mem_singleton] at ha
    rcases ha with ha | rfl
    · exact ih a ha
    · exact ⟨_, h⟩
/-- read again -/
theorem Ls.go {α : Type} {P : α → List KT → Prop} {F : Rf α} {St : List KT → Prop} (hc : ∀ l, St ((4, ⟨#[44]⟩) :: l)) (hF : ∀ a us, P a us → ∀ l, St l → F (us ++ l) = some (a, l)) {L : List α} {ts : List KT} (h : Ls P L ts) :
    ∀ l, St l → ∃ L0 T k, oneOf F [] (ts ++ l) = some (L0, T) ∧ k + l.length ≤ T.length ∧ ∀ f, eachL (oneOf F) (f + k) L0 T = eachL (oneOf F) f L l := by
  induction h with
  | one h => intro l hl; exact ⟨_, l, 0, by rw [oneOf, hF _ _ h l hl]; rfl, by omega, fun f => rfl⟩
  | @more L a ts us _ h ih =>
    intro l hl
    obtain ⟨L0, T, k, h1, h2, h3⟩ := ih ((4, ⟨#[44]⟩) :: (us ++ l)) (hc _)
    refine ⟨L0, T, k + 1, by rw [List.append_assoc, List.cons_append]; exact h1, by simp only [List.length_cons, List.length_append] at h2; omega, fun f => ?_⟩
    rw [show f + (k + 1) = (f + 1) + k by omega, h3 (f + 1), eachL, isT_self (Or.inr rfl), if_pos rfl, List.tail_cons, oneOf, hF _ _ h l hl]
    rfl
theorem Ls.read {α : Type} {P : α → List KT → Prop} {F : Rf α} {St : List KT → Prop} (hc : ∀ l, St ((4, ⟨#[44]⟩) :: l)) (hF : ∀ a us, P a us → ∀ l, St l → F (us ++ l) = some (a, l)) {L : List α} {ts : List KT} (h : Ls P L ts) (l : List KT) (hl : St l) (hn : isT ⟨#[44]⟩ l = false) : listF F (ts ++ l) = some (L, l) := by
  obtain ⟨L0, T, k, h1, h2, h3⟩ := h.go hc hF l hl
  rw [listF, listS, h1]
  show eachL (oneOf F) T.length L0 T = _
  rw [show T.length = (T.length - k) + k by omega, h3]
  exact each_stop hn _ _
/-- what is read can be printed -/
def RdP {α : Type} (F : Rf α) (P : α → List KT → Prop) : Prop := ∀ l, Src l → ∀ a l', F l = some (a, l') → Src l' ∧ ∃ ts, P a ts ∧ ∀ μ, MuOk μ → wt μ ts + wt μ l' ≤ wt μ l
theorem rdp_each {α : Type} {F : Rf α} {P : α → List KT → Prop} (hF : RdP F P) (f : Nat) : ∀ L l L' l', Src l → eachL (oneOf F) f L l = some (L', l') → ∀ ts, Ls P L ts → Src l' ∧ ∃ us, Ls P L' us ∧ ∀ μ, MuOk μ → wt μ us + wt μ l' ≤ wt μ ts + wt μ l := by
  induction f with
  | zero => intro L l L' l' hs h ts ht; cases h; exact ⟨hs, ts, ht, fun μ _ => Nat.le_refl _⟩
  | succ f ih =>
    intro L l L' l' hs h ts ht
    rw [eachL] at h
    split at h
    · rename_i hcm
      obtain ⟨⟨L2, l2⟩, hy, h⟩ := Option.bind_eq_some_iff.1 h
      obtain ⟨⟨a, l3⟩, ha, hy⟩ := Option.map_eq_some_iff.1 hy
      cases hy
      obtain ⟨hs2, us, hu, hw⟩ := hF _ hs.tail a l3 ha
      obtain ⟨hs3, vs, hv, hw2⟩ := ih _ _ _ _ hs2 h _ (.more ht hu)
      refine ⟨hs3, vs, hv, fun μ hμ => ?_⟩
      have a := hw μ hμ
      have b := hw2 μ hμ
      have c := isT_wt4 hcm hμ
      rw [wt_append, wt_cons] at b
      omega
    · cases h; exact ⟨hs, ts, ht, fun μ _ => Nat.le_refl _⟩
theorem rdp_list {α : Type} {F : Rf α} {P : α → List KT → Prop} (hF : RdP F P) : RdP (listF F) (Ls P) := by
  intro l hs L l' h
  obtain ⟨⟨L2, l2⟩, hy, h⟩ := Option.bind_eq_some_iff.1 h
  obtain ⟨⟨a, l3⟩, ha, hy⟩ := Option.map_eq_some_iff.1 hy
  cases hy
  obtain ⟨hs2, us, hu, hw⟩ := hF _ hs a l3 ha
  obtain ⟨hs3, vs, hv, hw2⟩ := rdp_each hF _ _ _ _ _ hs2 h us (.one hu)
  refine ⟨hs3, vs, hv, fun μ hμ => ?_⟩
  have a := hw μ hμ
  have b := hw2 μ hμ
  omega
/-- the bytes -/
theorem lstT_congr {F G : Nat → List UInt8} (n : Nat) (h : ∀ i, i < n → F i = G i) : lstT F n = lstT G n := by
  induction n with
  | zero => rfl
  | succ n ih => rw [lstT, lstT, ih (fun i hi => h i (by omega)), h n (by omega)]
theorem comma_lx : LxP true 1 [44, 32] [(4, ⟨#[44]⟩)] := (LxP.mark (c := 44) (by decide) (by decide) (by decide) (by decide) (by decide)).then
theorem Ls.lx {α : Type} {P : α → List KT → Prop} {G : α → List UInt8} {z : α} (hG : ∀ a us, P a us → LxP false (2 * us.length) (G a) us) {L : List α} {ts : List KT} (h : Ls P L ts) : LxP false (2 * ts.length) (lstT (fun i => G (L.getD i z)) L.length) ts := by
  induction h with
  | @one a ts h => exact hG a ts h
  | @more L a ts us hL h ih =>
    have hp := hL.pos
    rw [show (L ++ [a]).length = L.length + 1 by simp, lstT, if_pos hp]
    have e1 : lstT (fun i => G ((L ++ [a]).getD i z)) L.length = lstT (fun i => G (L.getD i z)) L.length := lstT_congr _ (fun i hi => by simp [List.getD, List.getElem?_append_left hi])
    have e2 : G ((L ++ [a]).getD L.length z) = G a := by simp [List.getD]
    rw [e1, e2]
    have := ih.join (comma_lx.app (hG a us h)) (fun _ => clo_comma _)
    exact this.weak (by rw [List.length_append, List.length_cons]; omega)
/-- a column -/
inductive ClT : Colm → List KT → Prop
  | mk {a : ByteArray} {k : Int} {m u : Bool} : NameW a → (k = 1 ∧ u = false ∨ k = 2) → ClT ⟨a, k, m, u⟩ ((1, a) :: ((if k = 2 then [(1, ⟨#[116, 101, 120, 116]⟩)] else [(1, ⟨#[105, 110, 116]⟩)]) ++ ((if m then [(1, ⟨#[110, 111, 116]⟩), (1, ⟨#[110, 117, 108, 108]⟩)] else []) ++ (if u then [(1, ⟨#[119, 111, 114, 100, 115]⟩)] else []))))
/-- a row -/
def RwT (L : List Ex) (ts : List KT) : Prop := ∃ us, Ls (Ft 12 1) L us ∧ ts = (4, ⟨#[40]⟩) :: (us ++ [(4, ⟨#[41]⟩)])
/-- what is set -/
inductive SeT : Ex → List KT → Prop
  | mk {a : ByteArray} {x : Ex} {us : List KT} : NameW a → Ft 12 1 x us → SeT (.node 2 .none a x .nil) ((1, a) :: (4, ⟨#[61]⟩) :: us)
/-- one that is asked -/
inductive ItT : Int × Ex → List KT → Prop
  | plain {x : Ex} {us : List KT} : Ft 12 1 x us → ItT (0, x) us
  | star : ItT (1, .nil) [(1, ⟨#[99, 111, 117, 110, 116]⟩), (4, ⟨#[40]⟩), (4, ⟨#[42]⟩), (4, ⟨#[41]⟩)]
  | agg {s : ByteArray × Int} {x : Ex} {us : List KT} : s ∈ aggL → Ft 12 1 x us → ItT (s.2, x) ((1, s.1) :: (4, ⟨#[40]⟩) :: (us ++ [(4, ⟨#[41]⟩)]))
/-- a rank -/
inductive RkT : Ex × Bool → List KT → Prop
  | rank {d : Bool} : RkT (.nil, d) ((1, ⟨#[114, 97, 110, 107]⟩) :: (if d then [(1, ⟨#[100, 101, 115, 99]⟩)] else []))
  | expr {x : Ex} {d : Bool} {us : List KT} : Ft 12 1 x us → RkT (x, d) (us ++ (if d then [(1, ⟨#[100, 101, 115, 99]⟩)] else []))
/-- an expression behind words, if there is one -/
inductive BhT (w : List KT) : Ex → List KT → Prop
  | no : BhT w .nil []
  | yes {x : Ex} {us : List KT} : Ft 12 1 x us → BhT w x (w ++ us)
inductive ItsT : List (Int × Ex) → List KT → Prop
  | star : ItsT [] [(4, ⟨#[42]⟩)]
  | list {L : List (Int × Ex)} {us : List KT} : Ls ItT L us → ItsT L us
inductive JnT : ByteArray → Ex → List KT → Prop
  | no : JnT ⟨#[]⟩ .nil []
  | yes {a : ByteArray} {x : Ex} {us : List KT} : NameW a → Ft 12 1 x us → JnT a x ((1, ⟨#[106, 111, 105, 110]⟩) :: (1, a) :: (1, ⟨#[111, 110]⟩) :: us)
inductive OrT : List (Ex × Bool) → List KT → Prop
  | no : OrT [] []
  | yes {L : List (Ex × Bool)} {us : List KT} : Ls RkT L us → OrT L ((1, ⟨#[111, 114, 100, 101, 114]⟩) :: (1, ⟨#[98, 121]⟩) :: us)
inductive LmT : Int → List KT → Prop
  | no : LmT (-1) []
  | yes {n : Int} : 0 ≤ n → n ≤ 999999999 → LmT n [(1, ⟨#[108, 105, 109, 105, 116]⟩), (2, ⟨(Lib.decDigits n.toNat).toArray⟩)]
/-- a statement, token by token -/
inductive StT : Stm → List KT → Prop
  | begin : StT (ofS 8 ⟨#[]⟩) [(1, ⟨#[98, 101, 103, 105, 110]⟩)]
  | commit : StT (ofS 9 ⟨#[]⟩) [(1, ⟨#[99, 111, 109, 109, 105, 116]⟩)]
  | rollback : StT (ofS 10 ⟨#[]⟩) [(1, ⟨#[114, 111, 108, 108, 98, 97, 99, 107]⟩)]
  | index {a b : ByteArray} : NameW a → NameW b → StT { ofS 2 a with name := b } [(1, ⟨#[99, 114, 101, 97, 116, 101]⟩), (1, ⟨#[105, 110, 100, 101, 120]⟩), (1, ⟨#[111, 110]⟩), (1, a), (4, ⟨#[40]⟩), (1, b), (4, ⟨#[41]⟩)]
  | create {a : ByteArray} {L : List Colm} {us : List KT} : NameW a → Ls ClT L us → StT { ofS 1 a with cols := L } ((1, ⟨#[99, 114, 101, 97, 116, 101]⟩) :: (1, ⟨#[116, 97, 98, 108, 101]⟩) :: (1, a) :: (4, ⟨#[40]⟩) :: (us ++ [(4, ⟨#[41]⟩)]))
  | drop {a : ByteArray} : NameW a → StT (ofS 3 a) [(1, ⟨#[100, 114, 111, 112]⟩), (1, ⟨#[116, 97, 98, 108, 101]⟩), (1, a)]
  | insert {a : ByteArray} {L : List (List Ex)} {us : List KT} : NameW a → Ls RwT L us → StT { ofS 4 a with rows := L } ((1, ⟨#[105, 110, 115, 101, 114, 116]⟩) :: (1, ⟨#[105, 110, 116, 111]⟩) :: (1, a) :: (1, ⟨#[118, 97, 108, 117, 101, 115]⟩) :: us)
  | delete {a : ByteArray} {x : Ex} {us : List KT} : NameW a → BhT [(1, ⟨#[119, 104, 101, 114, 101]⟩)] x us → StT { ofS 5 a with wh := x } ((1, ⟨#[100, 101, 108, 101, 116, 101]⟩) :: (1, ⟨#[102, 114, 111, 109]⟩) :: (1, a) :: us)
  | update {a : ByteArray} {L : List Ex} {x : Ex} {us vs : List KT} : NameW a → Ls SeT L us → BhT [(1, ⟨#[119, 104, 101, 114, 101]⟩)] x vs → StT { ofS 6 a with sets := L, wh := x } ((1, ⟨#[117, 112, 100, 97, 116, 101]⟩) :: (1, a) :: (1, ⟨#[115, 101, 116]⟩) :: (us ++ vs))
  | select {I : List (Int × Ex)} {a b : ByteArray} {on wh gr : Ex} {O : List (Ex × Bool)} {n : Int} {t1 t2 t3 t4 t5 t6 : List KT} : ItsT I t1 → NameW a → JnT b on t2 → BhT [(1, ⟨#[119, 104, 101, 114, 101]⟩)] wh t3 → BhT [(1, ⟨#[103, 114, 111, 117, 112]⟩), (1, ⟨#[98, 121]⟩)] gr t4 → OrT O t5 → LmT n t6 →
      StT ⟨7, a, b, [], ⟨#[]⟩, [], [], on, wh, I, gr, O, n⟩ ((1, ⟨#[115, 101, 108, 101, 99, 116]⟩) :: (t1 ++ ((1, ⟨#[102, 114, 111, 109]⟩) :: (1, a) :: (t2 ++ (t3 ++ (t4 ++ (t5 ++ t6)))))))
end Go.Proofs.YtbdcbaamjkjhaaaGreatDoor
