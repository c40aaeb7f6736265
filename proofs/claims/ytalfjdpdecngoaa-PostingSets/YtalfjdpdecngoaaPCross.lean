/- What two lists of places make together. -/
import Derived.Test.YtalfjdpdecngoaaPFoll
import Derived.Test.YtalfjdpdecngoaaPMath
namespace Go.Proofs.Ytalfjdpdecngoaa
open Go.RowKit

/-- what each one of the first list makes with each one of the second -/
def crossL {α : Type} (f : Pl → Pl → Option α) (o i : List Pl) : List α := o.flatMap fun q => i.filterMap (f q)
theorem mem_crossL {α : Type} {f : Pl → Pl → Option α} {o i : List Pl} {x : α} : x ∈ crossL f o i ↔ ∃ q ∈ o, ∃ p ∈ i, f q p = some x := by simp [crossL]
theorem crossL_nil {α : Type} (f : Pl → Pl → Option α) (i : List Pl) : crossL f [] i = [] := rfl
theorem crossL_le {α : Type} (f : Pl → Pl → Option α) (o i : List Pl) : (crossL f o i).length ≤ o.length * i.length := by
  induction o with
  | nil => simp [crossL]
  | cons q o ih =>
    have h := List.length_filterMap_le (f q) i
    simp only [crossL, List.flatMap_cons, List.length_append, List.length_cons] at ih ⊢
    rw [Nat.add_mul]
    omega
theorem cross_outer {α : Type} (f : Pl → Pl → Option α) {o : List Pl} (i : List Pl) {k : Nat} (h : k < o.length) : crossL f (o.drop k) i = (i.drop 0).filterMap (f o[k]) ++ crossL f (o.drop (k + 1)) i := by
  unfold crossL
  rw [List.drop_eq_getElem_cons h, List.flatMap_cons, List.drop_zero]
theorem cross_yes {α : Type} {f : Pl → Pl → Option α} {q : Pl} {i : List Pl} {j : Nat} (h : j < i.length) {x : α} (e : f q i[j] = some x) : (i.drop j).filterMap (f q) = [x] ++ (i.drop (j + 1)).filterMap (f q) := by
  rw [List.drop_eq_getElem_cons h, List.filterMap_cons, e]; rfl
theorem cross_no {α : Type} {f : Pl → Pl → Option α} {q : Pl} {i : List Pl} {j : Nat} (h : j < i.length) (e : f q i[j] = none) : (i.drop j).filterMap (f q) = (i.drop (j + 1)).filterMap (f q) := by
  rw [List.drop_eq_getElem_cons h, List.filterMap_cons, e]

/-- q, if it stands right behind p -/
def folO (q p : Pl) : Option Pl := if p.r = q.r ∧ q.a = p.a + 1 then some q else none
/-- the row of p, if q is no further than far from it -/
def nearO (far : Int) (p q : Pl) : Option Int := if p.r = q.r ∧ p.a - q.a ≤ far ∧ -(p.a - q.a) ≤ far then some p.r else none

theorem mem_folO {xs ys : List Pl} {x : Pl} : x ∈ crossL folO ys xs ↔ x ∈ ys ∧ ∃ p ∈ xs, p.r = x.r ∧ x.a = p.a + 1 := by
  rw [mem_crossL]
  constructor
  · rintro ⟨q, hq, p, hp, e⟩
    unfold folO at e
    split at e
    · rename_i h; cases e; exact ⟨hq, p, hp, h⟩
    · cases e
  · rintro ⟨hx, p, hp, h⟩
    exact ⟨x, hx, p, hp, by rw [folO, if_pos h]⟩
theorem mem_nearO {far : Int} {xs ys : List Pl} {r : Int} : r ∈ crossL (nearO far) xs ys ↔ ∃ p ∈ xs, ∃ q ∈ ys, p.r = r ∧ q.r = r ∧ p.a - q.a ≤ far ∧ q.a - p.a ≤ far := by
  rw [mem_crossL]
  constructor
  · rintro ⟨p, hp, q, hq, e⟩
    unfold nearO at e
    split at e
    · rename_i h; cases e; exact ⟨p, hp, q, hq, rfl, h.1.symm, h.2.1, by omega⟩
    · cases e
  · rintro ⟨p, hp, q, hq, h1, h2, h3, h4⟩
    exact ⟨p, hp, q, hq, by rw [nearO, if_pos ⟨by omega, h3, by omega⟩, h1]⟩

theorem Gr.more {w w1 : World} {v v1 : Value} (h : Gr w w1 v v1) (o : Obj) : Gr w (w1.alloc o) v v1 :=
  Gr.trans h ⟨grown_of_belowP ((Below.refl _ _).alloc (Nat.le_refl _) _) _, fun _ e => .inl e⟩

/-- the places of a rising list that stand right behind one of another -/
theorem beh_lt {z p : Pl} : cmpP (beh z) p < 0 ↔ LtP (beh z) p := cmp_neg
theorem dropF_spec (p : Pl) (zs : List Pl) (hz : zs.Pairwise LtP) : (∀ z ∈ zs, z ∈ dropF p zs ∨ LtP (beh z) p) ∧ (dropF p zs).Sublist zs ∧ (headB p (dropF p zs) = true ↔ ∃ z ∈ zs, beh z = p) := by
  induction zs with
  | nil => exact ⟨fun z h => (by cases h), (by simp [dropF]), (by simp [dropF, headB])⟩
  | cons z zs ih =>
    obtain ⟨h1, h2⟩ := List.pairwise_cons.1 hz
    obtain ⟨i1, i2, i3⟩ := ih h2
    unfold dropF
    split
    · rename_i hlt
      have hl := beh_lt.1 hlt
      refine ⟨fun y hy => ?_, i2.cons z, ?_⟩
      · rcases List.mem_cons.1 hy with rfl | hy
        · exact .inr hl
        · exact i1 y hy
      · rw [i3]
        constructor
        · rintro ⟨y, hy, e⟩; exact ⟨y, by simp [hy], e⟩
        · rintro ⟨y, hy, e⟩
          rcases List.mem_cons.1 hy with rfl | hy
          · rw [e] at hl; exact absurd hl (LtP.irrefl _)
          · exact ⟨y, hy, e⟩
    · rename_i hlt
      have hl : ¬ LtP (beh z) p := fun h => hlt (beh_lt.2 h)
      refine ⟨fun y hy => .inl hy, List.Sublist.refl _, ?_⟩
      simp only [headB, decide_eq_true_eq]
      constructor
      · intro e; exact ⟨z, by simp, e⟩
      · rintro ⟨y, hy, e⟩
        rcases List.mem_cons.1 hy with rfl | hy
        · exact e
        · have := h1 y hy
          rw [← e] at hl
          unfold LtP beh at *
          simp only at *
          omega
theorem keepF_spec (ys : List Pl) : ∀ (zs xs : List Pl), zs.Pairwise LtP → ys.Pairwise LtP → zs.Sublist xs → (∀ x ∈ xs, x ∈ zs ∨ ∀ y ∈ ys, LtP (beh x) y) → ∀ x, x ∈ keepL stpF zs ys ↔ x ∈ ys ∧ ∃ z ∈ xs, beh z = x := by
  induction ys with
  | nil => intro zs xs _ _ _ _ x; simp [keepL]
  | cons y ys ih =>
    intro zs xs hz hy hs hx x
    obtain ⟨y1, y2⟩ := List.pairwise_cons.1 hy
    obtain ⟨d1, d2, d3⟩ := dropF_spec y zs hz
    have hrec := ih (dropF y zs) xs (hz.sublist d2) y2 (d2.trans hs) (fun z hzx => by
      rcases hx z hzx with h | h
      · rcases d1 z h with h | h
        · exact .inl h
        · exact .inr (fun q hq => h.trans (y1 q hq))
      · exact .inr (fun q hq => h q (by simp [hq]))) x
    have hd3 : headB y (dropF y zs) = true ↔ ∃ z ∈ xs, beh z = y := by
      rw [d3]
      constructor
      · rintro ⟨z, hz, e⟩; exact ⟨z, hs.subset hz, e⟩
      · rintro ⟨z, hz, e⟩
        rcases hx z hz with h | h
        · exact ⟨z, h, e⟩
        · have := h y (by simp)
          rw [e] at this; exact absurd this (LtP.irrefl _)
    have ek : keepL stpF zs (y :: ys) = if headB y (dropF y zs) = true then y :: keepL stpF (dropF y zs) ys else keepL stpF (dropF y zs) ys := rfl
    rw [ek]
    by_cases hh : headB y (dropF y zs) = true
    · rw [if_pos hh, List.mem_cons]
      constructor
      · rintro (rfl | h)
        · exact ⟨by simp, hd3.1 hh⟩
        · have := hrec.1 h; exact ⟨by simp [this.1], this.2⟩
      · rintro ⟨h1, h2⟩
        rcases List.mem_cons.1 h1 with rfl | h1
        · exact .inl rfl
        · exact .inr (hrec.2 ⟨h1, h2⟩)
    · rw [if_neg hh]
      constructor
      · intro h; have := hrec.1 h; exact ⟨by simp [this.1], this.2⟩
      · rintro ⟨h1, h2⟩
        rcases List.mem_cons.1 h1 with rfl | h1
        · exact absurd (hd3.2 h2) hh
        · exact hrec.2 ⟨h1, h2⟩
theorem foll_list {xs ys : List Pl} (hx : xs.Pairwise LtP) (hy : ys.Pairwise LtP) : (keepL stpF xs ys).Pairwise LtP ∧ ∀ x, x ∈ keepL stpF xs ys ↔ x ∈ crossL folO ys xs := by
  refine ⟨hy.sublist (keep_sub stpF ys xs), fun x => ?_⟩
  rw [mem_folO, keepF_spec ys xs xs hx hy (List.Sublist.refl _) (fun x h => .inl h)]
  refine and_congr_right fun _ => exists_congr fun p => and_congr_right fun _ => ?_
  obtain ⟨r, a⟩ := x
  simp only [beh, Pl.mk.injEq]
  exact ⟨fun ⟨h1, h2⟩ => ⟨h1, by omega⟩, fun ⟨h1, h2⟩ => ⟨h1, by omega⟩⟩
end Go.Proofs.Ytalfjdpdecngoaa
