/- Lists in which each thing stands once, step by step. -/
import Derived.Test.YtalfjdpdecngoaaPSorted2
import Derived.Test.YtalfjdpdecngoaaPRowsR
namespace Go.Proofs.Ytalfjdpdecngoaa
open Go.RowKit

/-- the one ahead -/
def prevP (ys : List Pl) (k : Nat) : Option Pl := if k = 0 then none else ys[k - 1]?
theorem prevP_succ {ys : List Pl} {k : Nat} (h : k < ys.length) : prevP ys (k + 1) = some ys[k] := by simp [prevP, h]
theorem onceP_step {ys : List Pl} {k : Nat} (h : k < ys.length) : onceP (prevP ys k) (ys.drop k) = (if prevP ys k = some ys[k] then [] else [ys[k]]) ++ onceP (prevP ys (k + 1)) (ys.drop (k + 1)) := by
  rw [List.drop_eq_getElem_cons h, onceP, prevP_succ h]
  split <;> simp

/-- numbers, each once -/
def onceI (prev : Option Int) : List Int → List Int
  | [] => []
  | p :: l => if prev = some p then onceI (some p) l else p :: onceI (some p) l
theorem onceI_spec (l : List Int) : ∀ prev, l.Pairwise (· ≤ ·) → (∀ q, prev = some q → ∀ x ∈ l, q ≤ x) →
    (onceI prev l).Pairwise (· < ·) ∧ (∀ x, x ∈ onceI prev l → x ∈ l ∧ ∀ q, prev = some q → q < x) ∧ (∀ x ∈ l, x ∈ onceI prev l ∨ prev = some x) := by
  induction l with
  | nil => intro prev _ _; exact ⟨List.Pairwise.nil, fun x h => (by cases h), fun x h => (by cases h)⟩
  | cons p l ih =>
    intro prev h hq
    obtain ⟨h1, h2⟩ := List.pairwise_cons.1 h
    obtain ⟨i1, i2, i3⟩ := ih (some p) h2 (fun q e x hx => by cases e; exact h1 x hx)
    unfold onceI
    split
    · rename_i e
      refine ⟨i1, fun x hx => ⟨by simp [(i2 x hx).1], fun q eq => (i2 x hx).2 q (by rw [← eq, e])⟩, fun x hx => ?_⟩
      rcases List.mem_cons.1 hx with rfl | hx
      · exact .inr e
      · rcases i3 x hx with h | h
        · exact .inl h
        · cases h; exact .inr e
    · rename_i e
      have hlt : ∀ q, prev = some q → q < p := fun q eq => by
        have h1 := hq q eq p (by simp)
        rcases Int.lt_or_eq_of_le h1 with l | l
        · exact l
        · subst l; exact absurd eq e
      refine ⟨List.Pairwise.cons (fun x hx => (i2 x hx).2 p rfl) i1, fun x hx => ?_, fun x hx => ?_⟩
      · rcases List.mem_cons.1 hx with rfl | hx
        · exact ⟨by simp, hlt⟩
        · exact ⟨by simp [(i2 x hx).1], fun q eq => Int.lt_trans (hlt q eq) ((i2 x hx).2 p rfl)⟩
      · rcases List.mem_cons.1 hx with rfl | hx
        · exact .inl (by simp)
        · rcases i3 x hx with h | h
          · exact .inl (by simp [h])
          · cases h; exact .inl (by simp)
theorem onceI_all {l : List Int} (h : l.Pairwise (· ≤ ·)) : (onceI none l).Pairwise (· < ·) ∧ ∀ x, x ∈ onceI none l ↔ x ∈ l := by
  obtain ⟨h1, h2, h3⟩ := onceI_spec l none h (fun q e => by cases e)
  refine ⟨h1, fun x => ⟨fun hx => (h2 x hx).1, fun hx => ?_⟩⟩
  rcases h3 x hx with h | h
  · exact h
  · cases h
theorem onceI_le (l : List Int) : ∀ prev, (onceI prev l).length ≤ l.length := by
  induction l with
  | nil => intro prev; simp [onceI]
  | cons p l ih =>
    intro prev
    unfold onceI
    have := ih (some p)
    split <;> simp <;> omega
def prevI (ys : List Int) (k : Nat) : Option Int := if k = 0 then none else ys[k - 1]?
theorem prevI_succ {ys : List Int} {k : Nat} (h : k < ys.length) : prevI ys (k + 1) = some ys[k] := by simp [prevI, h]
theorem onceI_step {ys : List Int} {k : Nat} (h : k < ys.length) : onceI (prevI ys k) (ys.drop k) = (if prevI ys k = some ys[k] then [] else [ys[k]]) ++ onceI (prevI ys (k + 1)) (ys.drop (k + 1)) := by
  rw [List.drop_eq_getElem_cons h, onceI, prevI_succ h]
  split <;> simp

theorem holdsI_of_own {w : World} {B g cap : Nat} {xs : List Int} (h : w.ownsRow B 3 1 (.slice (some ⟨g, 0, none⟩) xs.length cap) xs.length (icc xs)) : Sort.Holds (Value.int .i64) w g 0 xs.toArray := by
  rcases h.2 with ⟨e, _⟩ | ⟨g', cap', cur, e, _, hg, _⟩
  · cases e
  · cases e
    intro j hj
    have hj' : j < xs.length := by simpa using hj
    have k := h.cells (g := g) rfl _ _ (icc_get xs j hj')
    rw [Go.WideShapes.add_plain] at k
    refine ⟨by rw [k]; simp [hj'], ?_⟩
    simp [World.frozen?, hg]
theorem rowI_of_holds {w : World} {g : Nat} {l : List Int} (h : Sort.Holds (Value.int .i64) w g 0 l.toArray) (hg : g < w.heap.size) (hl : l.length ≤ 1000000) : RowI w (some ⟨g, 0, none⟩) l.length l := by
  refine ⟨rfl, hl, .inr ⟨g, 0, rfl, hg, fun i hi => ?_⟩⟩
  have c := (h i (by simpa using hi)).1
  rw [c]
  simp [hi]

/-- the call of sort.Ints -/
theorem ints_call (B0 : Nat) (p : Option Addr) (c : Nat) (xs : List Int) (w : World) (hown : w.ownsRow B0 3 1 (.slice p xs.length c) xs.length (icc xs)) (hB : B0 ≤ w.heap.size) (hl : xs.length ≤ 100000) :
    Calls Try.prog 39 #[.slice p xs.length c] w fun e w' =>
      e = .returned (.tuple #[]) ∧ ∃ ys : List Int, (ys.length = xs.length ∧ ys.Pairwise (· ≤ ·) ∧ ∀ x, x ∈ ys ↔ x ∈ xs) ∧ RowI w' p ys.length ys ∧ Below B0 w w' := by
  rcases hown.2 with ⟨e, h0⟩ | ⟨g, cap, cur, e, hBg, hg, _⟩
  · have hx : xs = [] := List.length_eq_zero_iff.1 h0
    subst hx
    refine (Any.sort_Ints_none Try.l191 p c w).mono ?_
    rintro e w' ⟨rfl, rfl⟩
    exact ⟨rfl, [], ⟨rfl, List.Pairwise.nil, fun x => Iff.rfl⟩, ⟨rfl, by simp, .inl rfl⟩, Below.refl _ _⟩
  · cases e
    have hgl : g < w.heap.size := (Array.getElem?_eq_some_iff.1 hg).1
    have hH := holdsI_of_own hown
    refine (Any.sort_Ints Try.l191 g 0 c xs w hH hgl (by omega)).mono ?_
    rintro e w' ⟨rfl, n, os, rfl⟩
    have hlen : (xs.mergeSort fun x y => decide (x ≤ y)).length = xs.length := List.length_mergeSort xs
    have hgr : w.grownBy (Sort.grow (Sort.putRow (Value.int .i64) (Sort.ahead w n) g 0 (xs.mergeSort fun x y => decide (x ≤ y)).toArray) os) (some g) := by
      refine ⟨rfl, rfl, rfl, ?_, fun k hk hne => ?_⟩
      · simp [Sort.grow, Sort.putRow, Sort.mapBlock, Sort.ahead]
      · simp only [Sort.grow, Sort.putRow, Sort.mapBlock, Sort.ahead]
        rw [Array.getElem?_append_left (by simpa using hk), Array.getElem?_modify, if_neg (fun e => hne (by rw [e]))]
    have hs := hgr.size
    refine ⟨rfl, xs.mergeSort fun x y => decide (x ≤ y), ⟨hlen, ?_, fun x => List.mem_mergeSort⟩, ?_, (Below.refl B0 w).grown hgr hB (fun k hk => by cases hk; exact hBg)⟩
    · have := List.pairwise_mergeSort (le := fun x y : Int => decide (x ≤ y)) (fun a b c h1 h2 => by simp at *; omega) (fun a b => by simp; omega) xs
      exact this.imp (fun h => by simpa using h)
    · refine rowI_of_holds (Sort.holds_grow _ _ _ _ _ _ ?_ (Sort.holds_putRow _ _ _ _ xs.toArray _ (Sort.holds_ahead _ _ _ _ _ _ hH) (by simp [hlen]))) (by omega) (by omega)
      simp [Sort.putRow, Sort.mapBlock, Sort.ahead]; omega
end Go.Proofs.Ytalfjdpdecngoaa
