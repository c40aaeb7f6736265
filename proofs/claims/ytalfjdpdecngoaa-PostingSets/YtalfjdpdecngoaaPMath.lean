/- Places as sets: plain facts. -/
import Derived.Test.YtalfjdpdecngoaaPNear
namespace Go.Proofs.Ytalfjdpdecngoaa
open Go.RowKit

theorem LtP.trans {a b c : Pl} (h : LtP a b) (k : LtP b c) : LtP a c := by unfold LtP at *; omega
theorem LtP.irrefl (a : Pl) : ¬ LtP a a := by unfold LtP; omega
theorem LtP.asymm {a b : Pl} (h : LtP a b) : ¬ LtP b a := by unfold LtP at *; omega

theorem cmp_neg {p q : Pl} : cmpP p q < 0 ↔ LtP p q := by
  rcases cmpP_cases p q with ⟨e, l⟩ | ⟨e, l⟩ | ⟨e, l⟩
  · exact ⟨fun _ => l, fun _ => by omega⟩
  · subst l; exact ⟨fun h => by omega, fun h => absurd h (LtP.irrefl _)⟩
  · exact ⟨fun h => by omega, fun h => absurd l h.asymm⟩
theorem foll_iff {p q : Pl} : follB p q = true ↔ OkP q ∧ LtP p q := by
  simp only [follB, okB, Bool.and_eq_true, decide_eq_true_eq, cmp_neg, OkP]
  exact ⟨fun ⟨⟨⟨⟨a, b⟩, c⟩, d⟩, e⟩ => ⟨⟨a, b, c, d⟩, e⟩, fun ⟨⟨a, b, c, d⟩, e⟩ => ⟨⟨⟨⟨a, b⟩, c⟩, d⟩, e⟩⟩

theorem right_sorted (l : List Pl) : ∀ p, rightFrom p l = true → (∀ q ∈ l, OkP q ∧ LtP p q) ∧ l.Pairwise LtP := by
  induction l with
  | nil => intro p _; exact ⟨fun q h => (by cases h), List.Pairwise.nil⟩
  | cons q l ih =>
    intro p h
    simp only [rightFrom, Bool.and_eq_true, foll_iff] at h
    obtain ⟨h1, h2⟩ := ih q h.2
    refine ⟨fun z hz => ?_, List.Pairwise.cons (fun z hz => (h1 z hz).2) h2⟩
    rcases List.mem_cons.1 hz with rfl | hz
    · exact h.1
    · exact ⟨(h1 z hz).1, h.1.2.trans (h1 z hz).2⟩
theorem sorted_right (l : List Pl) : ∀ p, (∀ q ∈ l, OkP q ∧ LtP p q) → l.Pairwise LtP → rightFrom p l = true := by
  induction l with
  | nil => intro p _ _; rfl
  | cons q l ih =>
    intro p h k
    simp only [rightFrom, Bool.and_eq_true, foll_iff]
    obtain ⟨k1, k2⟩ := List.pairwise_cons.1 k
    exact ⟨h q (by simp), ih q (fun z hz => ⟨(h z (by simp [hz])).1, k1 z hz⟩) k2⟩
theorem ok_first {q : Pl} (h : OkP q) : LtP ⟨0, 0⟩ q := by unfold OkP at h; unfold LtP; exact .inl (by simp only; omega)
theorem right_iff (l : List Pl) : rightL l = true ↔ (∀ q ∈ l, OkP q) ∧ l.Pairwise LtP :=
  ⟨fun h => ⟨fun q hq => ((right_sorted l _ h).1 q hq).1, (right_sorted l _ h).2⟩, fun h => sorted_right l _ (fun q hq => ⟨h.1 q hq, ok_first (h.1 q hq)⟩) h.2⟩

theorem mem_merge (n : Nat) : ∀ (a b : List Pl), a.length + b.length ≤ n → ∀ x, x ∈ mergeL a b ↔ x ∈ a ∨ x ∈ b := by
  induction n with
  | zero =>
    intro a b h x
    have ha : a = [] := List.length_eq_zero_iff.1 (by omega)
    have hb : b = [] := List.length_eq_zero_iff.1 (by omega)
    subst ha hb
    simp [mergeL]
  | succ n ih =>
    intro a b h x
    cases a with
    | nil => simp [mergeL]
    | cons u a =>
      cases b with
      | nil => simp [mergeL]
      | cons v b =>
        simp only [List.length_cons] at h
        rcases cmpP_cases u v with ⟨e, l⟩ | ⟨e, l⟩ | ⟨e, l⟩
        · rw [merge_lt e, List.mem_cons, ih a (v :: b) (by simp only [List.length_cons]; omega)]
          simp only [List.mem_cons]
          exact ⟨fun h => by rcases h with h | h | h | h <;> simp [h], fun h => by rcases h with (h | h) | h | h <;> simp [h]⟩
        · subst l
          rw [merge_eq e, List.mem_cons, ih a b (by omega)]
          simp only [List.mem_cons]
          exact ⟨fun h => by rcases h with h | h | h <;> simp [h], fun h => by rcases h with (h | h) | h | h <;> simp [h]⟩
        · rw [merge_gt e, List.mem_cons, ih (u :: a) b (by simp only [List.length_cons]; omega)]
          simp only [List.mem_cons]
          exact ⟨fun h => by rcases h with h | (h | h) | h <;> simp [h], fun h => by rcases h with (h | h) | h | h <;> simp [h]⟩
theorem mem_mergeL (a b : List Pl) (x : Pl) : x ∈ mergeL a b ↔ x ∈ a ∨ x ∈ b := mem_merge _ a b (Nat.le_refl _) x

theorem merge_sorted (n : Nat) : ∀ (a b : List Pl), a.length + b.length ≤ n → a.Pairwise LtP → b.Pairwise LtP → (mergeL a b).Pairwise LtP := by
  induction n with
  | zero =>
    intro a b h _ hb
    have ha : a = [] := List.length_eq_zero_iff.1 (by omega)
    subst ha
    simpa [mergeL] using hb
  | succ n ih =>
    intro a b h ha hb
    cases a with
    | nil => simpa [mergeL] using hb
    | cons u a =>
      cases b with
      | nil => simpa [mergeL] using ha
      | cons v b =>
        simp only [List.length_cons] at h
        obtain ⟨a1, a2⟩ := List.pairwise_cons.1 ha
        obtain ⟨b1, b2⟩ := List.pairwise_cons.1 hb
        rcases cmpP_cases u v with ⟨e, l⟩ | ⟨e, l⟩ | ⟨e, l⟩
        · rw [merge_lt e]
          refine List.Pairwise.cons (fun z hz => ?_) (ih a (v :: b) (by simp only [List.length_cons]; omega) a2 hb)
          rcases (mem_mergeL _ _ _).1 hz with hz | hz
          · exact a1 z hz
          · rcases List.mem_cons.1 hz with rfl | hz
            · exact l
            · exact l.trans (b1 z hz)
        · subst l
          rw [merge_eq e]
          refine List.Pairwise.cons (fun z hz => ?_) (ih a b (by omega) a2 b2)
          rcases (mem_mergeL _ _ _).1 hz with hz | hz
          · exact a1 z hz
          · exact b1 z hz
        · rw [merge_gt e]
          refine List.Pairwise.cons (fun z hz => ?_) (ih (u :: a) b (by simp only [List.length_cons]; omega) ha b2)
          rcases (mem_mergeL _ _ _).1 hz with hz | hz
          · rcases List.mem_cons.1 hz with rfl | hz
            · exact l
            · exact l.trans (a1 z hz)
          · exact b1 z hz
theorem mergeL_sorted {a b : List Pl} (ha : a.Pairwise LtP) (hb : b.Pairwise LtP) : (mergeL a b).Pairwise LtP := merge_sorted _ a b (Nat.le_refl _) ha hb

/-- two rising lists of the same things are the same -/
theorem rising_ext {α : Type} {R : α → α → Prop} (hi : ∀ a, ¬ R a a) (hs : ∀ a b, R a b → ¬ R b a) : ∀ (a b : List α), a.Pairwise R → b.Pairwise R → (∀ x, x ∈ a ↔ x ∈ b) → a = b := by
  intro a
  induction a with
  | nil =>
    intro b _ _ h
    cases b with
    | nil => rfl
    | cons y b => exact absurd ((h y).2 (by simp)) (by simp)
  | cons x a ih =>
    intro b ha hb h
    cases b with
    | nil => exact absurd ((h x).1 (by simp)) (by simp)
    | cons y b =>
      obtain ⟨a1, a2⟩ := List.pairwise_cons.1 ha
      obtain ⟨b1, b2⟩ := List.pairwise_cons.1 hb
      have hxy : x = y := by
        rcases List.mem_cons.1 ((h x).1 (by simp)) with e | e
        · exact e
        · rcases List.mem_cons.1 ((h y).2 (by simp)) with e' | e'
          · exact e'.symm
          · exact absurd (a1 y e') (hs _ _ (b1 x e))
      subst hxy
      rw [ih b a2 b2 (fun z => ⟨fun hz => ?_, fun hz => ?_⟩)]
      · rcases List.mem_cons.1 ((h z).1 (by simp [hz])) with e | e
        · subst e; exact absurd (a1 z hz) (hi z)
        · exact e
      · rcases List.mem_cons.1 ((h z).2 (by simp [hz])) with e | e
        · subst e; exact absurd (b1 z hz) (hi z)
        · exact e
theorem place_ext {a b : List Pl} (ha : a.Pairwise LtP) (hb : b.Pairwise LtP) (h : ∀ x, x ∈ a ↔ x ∈ b) : a = b := rising_ext (R := LtP) LtP.irrefl (fun _ _ h => h.asymm) a b ha hb h

/-- a rising list of some of them is no longer -/
theorem rising_le : ∀ (a b : List Int), a.Pairwise (· < ·) → b.Pairwise (· < ·) → (∀ x, x ∈ a → x ∈ b) → a.length ≤ b.length := by
  intro a
  induction a with
  | nil => intro b _ _ _; simp
  | cons x a ih =>
    intro b
    induction b with
    | nil => intro _ _ h; exact absurd (h x (by simp)) (by simp)
    | cons y b ihb =>
      intro ha hb h
      obtain ⟨a1, a2⟩ := List.pairwise_cons.1 ha
      obtain ⟨b1, b2⟩ := List.pairwise_cons.1 hb
      by_cases e : x = y
      · subst e
        have := ih b a2 b2 (fun z hz => by
          rcases List.mem_cons.1 (h z (by simp [hz])) with e | e
          · subst e; exact absurd (a1 z hz) (by omega)
          · exact e)
        simp only [List.length_cons]
        omega
      · have hx : x ∈ b := by
          rcases List.mem_cons.1 (h x (by simp)) with e' | e'
          · exact absurd e' e
          · exact e'
        have hyx := b1 x hx
        have := ihb ha b2 (fun z hz => by
          rcases List.mem_cons.1 (h z hz) with e' | e'
          · subst e'
            rcases List.mem_cons.1 hz with e2 | e2
            · exact absurd e2.symm e
            · have := a1 z e2; omega
          · exact e')
        simp only [List.length_cons] at this ⊢
        omega

/-- a row more: still rising -/
theorem addRow_spec {l : List Int} {r : Int} (hl : l.Pairwise (· < ·)) (hr : ∀ x ∈ l, x ≤ r) : (addRow l r).Pairwise (· < ·) ∧ (∀ x, x ∈ addRow l r ↔ x ∈ l ∨ x = r) := by
  unfold addRow
  split
  · rename_i h
    have hm : r ∈ l := List.mem_of_getLast? h
    exact ⟨hl, fun x => ⟨fun h => .inl h, fun h => by rcases h with h | rfl; exact h; exact hm⟩⟩
  · rename_i h
    have hlt : ∀ x ∈ l, x < r := by
      intro x hx
      rcases Int.lt_or_eq_of_le (hr x hx) with h1 | h1
      · exact h1
      · subst h1
        exfalso
        obtain ⟨i, hi, he⟩ := List.getElem_of_mem hx
        by_cases hlast : i = l.length - 1
        · apply h
          rw [List.getLast?_eq_getElem?, ← hlast, List.getElem?_eq_getElem hi, he]
        · have h2 := List.pairwise_iff_getElem.1 hl i (l.length - 1) hi (by omega) (by omega)
          have h3 := hr (l[l.length - 1]'(by omega)) (List.getElem_mem _)
          omega
    refine ⟨?_, fun x => by simp⟩
    rw [List.pairwise_append]
    exact ⟨hl, by simp, fun a ha b hb => by obtain rfl := List.mem_singleton.1 hb; exact hlt a ha⟩

theorem rows_spec (xs : List Pl) : ∀ acc : List Int, acc.Pairwise (· < ·) → xs.Pairwise LtP → (∀ x ∈ acc, ∀ p ∈ xs, x ≤ p.r) → (rowsFrom acc xs).Pairwise (· < ·) ∧ (∀ r, r ∈ rowsFrom acc xs ↔ r ∈ acc ∨ ∃ p ∈ xs, p.r = r) := by
  induction xs with
  | nil => intro acc h _ _; exact ⟨h, fun r => by simp [rowsFrom]⟩
  | cons p l ih =>
    intro acc h hx hb
    obtain ⟨x1, x2⟩ := List.pairwise_cons.1 hx
    obtain ⟨s1, s2⟩ := addRow_spec h (fun x hx => hb x hx p (by simp))
    have := ih (addRow acc p.r) s1 x2 (fun x hx q hq => by
      rcases (s2 x).1 hx with h1 | h1
      · exact hb x h1 q (by simp [hq])
      · have := x1 q hq; unfold LtP at this; omega)
    refine ⟨this.1, fun r => ?_⟩
    have e := this.2 r
    simp only [rowsFrom, List.foldl_cons] at e ⊢
    rw [e, s2]
    constructor
    · rintro ((h1 | h1) | ⟨q, hq, h1⟩)
      · exact .inl h1
      · exact .inr ⟨p, by simp, h1.symm⟩
      · exact .inr ⟨q, by simp [hq], h1⟩
    · rintro (h1 | ⟨q, hq, h1⟩)
      · exact .inl (.inl h1)
      · rcases List.mem_cons.1 hq with e2 | hq
        · subst e2; exact .inl (.inr h1.symm)
        · exact .inr ⟨q, hq, h1⟩

theorem near_spec (far : Int) (n : Nat) : ∀ (acc : List Int) (a b : List Pl), a.length + b.length ≤ n → acc.Pairwise (· < ·) → a.Pairwise LtP → b.Pairwise LtP → (∀ x ∈ acc, (∀ p ∈ a, x ≤ p.r) ∧ (∀ p ∈ b, x ≤ p.r)) →
    (nearFrom far acc a b).Pairwise (· < ·) ∧ (∀ r, r ∈ nearFrom far acc a b ↔ r ∈ acc ∨ ∃ p ∈ a, ∃ q ∈ b, p.r = r ∧ q.r = r ∧ p.a - q.a ≤ far ∧ q.a - p.a ≤ far) := by
  induction n with
  | zero =>
    intro acc a b h hacc _ _ _
    have ha : a = [] := List.length_eq_zero_iff.1 (by omega)
    subst ha
    exact ⟨by simpa [nearFrom] using hacc, fun r => by simp [nearFrom]⟩
  | succ n ih =>
    intro acc a b h hacc ha hb hbd
    cases a with
    | nil => exact ⟨by simpa [nearFrom] using hacc, fun r => by simp [nearFrom]⟩
    | cons x a =>
      cases b with
      | nil => exact ⟨by simpa [nearFrom] using hacc, fun r => by simp [nearFrom]⟩
      | cons y b =>
        simp only [List.length_cons] at h
        obtain ⟨a1, a2⟩ := List.pairwise_cons.1 ha
        obtain ⟨b1, b2⟩ := List.pairwise_cons.1 hb
        obtain ⟨acc', hacc'⟩ : ∃ acc', (if x.r = y.r ∧ max (x.a - y.a) (y.a - x.a) ≤ far then addRow acc x.r else acc) = acc' := ⟨_, rfl⟩
        have hs : acc'.Pairwise (· < ·) ∧ (∀ r, r ∈ acc' ↔ r ∈ acc ∨ (x.r = r ∧ y.r = r ∧ x.a - y.a ≤ far ∧ y.a - x.a ≤ far)) := by
          rw [← hacc']
          split
          · rename_i hc
            obtain ⟨s1, s2⟩ := addRow_spec hacc (fun z hz => (hbd z hz).1 x (by simp))
            refine ⟨s1, fun r => ?_⟩
            rw [s2]
            exact ⟨fun h => by rcases h with h | h; exact .inl h; exact .inr ⟨by omega, by omega, by omega, by omega⟩, fun h => by rcases h with h | h; exact .inl h; exact .inr (by omega)⟩
          · rename_i hc
            refine ⟨hacc, fun r => ⟨fun h => .inl h, fun h => ?_⟩⟩
            rcases h with h | ⟨h1, h2, h3, h4⟩
            · exact h
            · exact absurd ⟨by omega, by omega⟩ hc
        have hbd' : ∀ z ∈ acc', (∀ p ∈ x :: a, z ≤ p.r) ∧ (∀ p ∈ y :: b, z ≤ p.r) := by
          intro z hz
          rcases (hs.2 z).1 hz with h1 | ⟨h1, h2, _⟩
          · exact hbd z h1
          · refine ⟨fun p hp => ?_, fun p hp => ?_⟩
            · rcases List.mem_cons.1 hp with e | hp
              · subst e; omega
              · have := a1 p hp; unfold LtP at this; omega
            · rcases List.mem_cons.1 hp with e | hp
              · subst e; omega
              · have := b1 p hp; unfold LtP at this; omega
        rw [nearFrom, hacc']
        split
        · rename_i hc
          have hlt := cmp_neg.1 hc
          obtain ⟨t1, t2⟩ := ih acc' a (y :: b) (by simp only [List.length_cons]; omega) hs.1 a2 hb (fun z hz => ⟨fun p hp => (hbd' z hz).1 p (by simp [hp]), (hbd' z hz).2⟩)
          refine ⟨t1, fun r => ?_⟩
          rw [t2, hs.2]
          constructor
          · rintro ((h1 | h1) | ⟨p, hp, q, hq, h1⟩)
            · exact .inl h1
            · exact .inr ⟨x, by simp, y, by simp, h1⟩
            · exact .inr ⟨p, by simp [hp], q, hq, h1⟩
          · rintro (h1 | ⟨p, hp, q, hq, h1, h2, h3, h4⟩)
            · exact .inl (.inl h1)
            · rcases List.mem_cons.1 hp with e | hp
              · subst e
                refine .inl (.inr ?_)
                rcases List.mem_cons.1 hq with e | hq
                · subst e; exact ⟨h1, h2, h3, h4⟩
                · have := b1 q hq
                  unfold LtP at this hlt
                  exact ⟨by omega, by omega, by omega, by omega⟩
              · exact .inr ⟨p, hp, q, hq, h1, h2, h3, h4⟩
        · rename_i hc
          have hge : ¬ LtP x y := fun h => hc (cmp_neg.2 h)
          obtain ⟨t1, t2⟩ := ih acc' (x :: a) b (by simp only [List.length_cons]; omega) hs.1 ha b2 (fun z hz => ⟨(hbd' z hz).1, fun p hp => (hbd' z hz).2 p (by simp [hp])⟩)
          refine ⟨t1, fun r => ?_⟩
          rw [t2, hs.2]
          constructor
          · rintro ((h1 | h1) | ⟨p, hp, q, hq, h1⟩)
            · exact .inl h1
            · exact .inr ⟨x, by simp, y, by simp, h1⟩
            · exact .inr ⟨p, hp, q, by simp [hq], h1⟩
          · rintro (h1 | ⟨p, hp, q, hq, h1, h2, h3, h4⟩)
            · exact .inl (.inl h1)
            · rcases List.mem_cons.1 hq with e | hq
              · subst e
                refine .inl (.inr ?_)
                rcases List.mem_cons.1 hp with e | hp
                · subst e; exact ⟨h1, h2, h3, h4⟩
                · have := a1 p hp
                  unfold LtP at this hge
                  exact ⟨by omega, by omega, by omega, by omega⟩
              · exact .inr ⟨p, hp, q, hq, h1, h2, h3, h4⟩

theorem near_list (far : Int) {a b : List Pl} (ha : a.Pairwise LtP) (hb : b.Pairwise LtP) :
    (nearFrom far [] a b).Pairwise (· < ·) ∧ (∀ r, r ∈ nearFrom far [] a b ↔ ∃ p ∈ a, ∃ q ∈ b, p.r = r ∧ q.r = r ∧ p.a - q.a ≤ far ∧ q.a - p.a ≤ far) := by
  obtain ⟨h1, h2⟩ := near_spec far _ [] a b (Nat.le_refl _) List.Pairwise.nil ha hb (fun x h => by cases h)
  exact ⟨h1, fun r => by rw [h2]; simp⟩
theorem rows_list {a : List Pl} (ha : a.Pairwise LtP) : (rowsFrom [] a).Pairwise (· < ·) ∧ (∀ r, r ∈ rowsFrom [] a ↔ ∃ p ∈ a, p.r = r) := by
  obtain ⟨h1, h2⟩ := rows_spec a [] List.Pairwise.nil ha (fun x h => by cases h)
  exact ⟨h1, fun r => by rw [h2]; simp⟩
end Go.Proofs.Ytalfjdpdecngoaa
