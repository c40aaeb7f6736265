/- The document's sorted. -/
import Derived.Test.YtalfjdpdecngoaaPSlice
namespace Go.Proofs.Ytalfjdpdecngoaa
open Go.RowKit

/-- each once: what is not the one ahead of it -/
def onceP (prev : Option Pl) : List Pl → List Pl
  | [] => []
  | p :: l => if prev = some p then onceP (some p) l else p :: onceP (some p) l
theorem onceP_spec (l : List Pl) : ∀ prev, l.Pairwise (fun x y => ¬ LtP y x) → (∀ q, prev = some q → ∀ x ∈ l, ¬ LtP x q) →
    (onceP prev l).Pairwise LtP ∧ (∀ x, x ∈ onceP prev l → x ∈ l ∧ ∀ q, prev = some q → LtP q x) ∧ (∀ x ∈ l, x ∈ onceP prev l ∨ prev = some x) := by
  induction l with
  | nil => intro prev _ _; exact ⟨List.Pairwise.nil, fun x h => (by cases h), fun x h => (by cases h)⟩
  | cons p l ih =>
    intro prev h hq
    obtain ⟨h1, h2⟩ := List.pairwise_cons.1 h
    obtain ⟨i1, i2, i3⟩ := ih (some p) h2 (fun q e x hx => by cases e; exact h1 x hx)
    unfold onceP
    split
    · rename_i e
      refine ⟨i1, fun x hx => ⟨by simp [(i2 x hx).1], fun q eq => (i2 x hx).2 q (by rw [← eq, e])⟩, fun x hx => ?_⟩
      rcases List.mem_cons.1 hx with rfl | hx
      · exact .inr e
      · rcases i3 x hx with h | h
        · exact .inl h
        · cases h; exact .inr e
    · rename_i e
      have hlt : ∀ q, prev = some q → LtP q p := fun q eq => by
        rcases LtP.total q p with l | l | l
        · exact l
        · subst l; exact absurd eq e
        · exact absurd l (hq q eq p (by simp))
      refine ⟨List.Pairwise.cons (fun x hx => (i2 x hx).2 p rfl) i1, fun x hx => ?_, fun x hx => ?_⟩
      · rcases List.mem_cons.1 hx with rfl | hx
        · exact ⟨by simp, hlt⟩
        · exact ⟨by simp [(i2 x hx).1], fun q eq => (hlt q eq).trans ((i2 x hx).2 p rfl)⟩
      · rcases List.mem_cons.1 hx with rfl | hx
        · exact .inl (by simp)
        · rcases i3 x hx with h | h
          · exact .inl (by simp [h])
          · cases h; exact .inl (by simp)
theorem onceP_all {l : List Pl} (h : l.Pairwise (fun x y => ¬ LtP y x)) : (onceP none l).Pairwise LtP ∧ ∀ x, x ∈ onceP none l ↔ x ∈ l := by
  obtain ⟨h1, h2, h3⟩ := onceP_spec l none h (fun q e => by cases e)
  refine ⟨h1, fun x => ⟨fun hx => (h2 x hx).1, fun hx => ?_⟩⟩
  rcases h3 x hx with h | h
  · exact h
  · cases h
theorem onceP_le (l : List Pl) : ∀ prev, (onceP prev l).length ≤ l.length := by
  induction l with
  | nil => intro prev; simp [onceP]
  | cons p l ih =>
    intro prev
    unfold onceP
    have := ih (some p)
    split <;> simp <;> omega

/-- a row that a call owns, as the sort sees it -/
theorem holds_of_own {w : World} {B g cap : Nat} {xs : List Pl} (h : w.ownsRow B 25 2 (.slice (some ⟨g, 0, none⟩) xs.length cap) xs.length (plc xs)) : Sort.HoldsK cellsP 2 w g 0 xs.toArray := by
  rcases h.2 with ⟨e, _⟩ | ⟨g', cap', cur, e, _, hg, _⟩
  · cases e
  · cases e
    intro j hj
    have hj' : j < xs.length * 2 := by simpa using hj
    have hfl := Sort.get_flatK cellsP 2 xs.toArray j (by simpa using hj')
    have hd : j / 2 < xs.length := by omega
    obtain ⟨c0, c1⟩ := plc_get xs (j / 2) hd
    have hx : xs.toArray[j / 2]! = xs[j / 2] := by simp [hd]
    rw [hx] at hfl
    generalize xs[j / 2] = q at hfl c0 c1
    have key : (plc xs)[j]? = some (Sort.flatK cellsP 2 xs.toArray)[j]! := by
      rw [hfl]
      rcases Nat.mod_two_eq_zero_or_one j with m | m
      · have e : (plc xs)[j]? = (plc xs)[j / 2 * 2]? := congrArg (fun t => (plc xs)[t]?) (by omega)
        rw [m, e, c0]; rfl
      · have e : (plc xs)[j]? = (plc xs)[j / 2 * 2 + 1]? := congrArg (fun t => (plc xs)[t]?) (by omega)
        rw [m, e, c1]; rfl
    have k := h.cells (g := g) rfl _ _ key
    rw [Go.WideShapes.add_plain] at k
    refine ⟨k, ?_⟩
    simp [World.frozen?, hg]

/-- what the sort has left, as a list -/
theorem sorted_list {xs : List Pl} {d' : Array Pl} (hp : Sort.PermIn 0 xs.toArray.size xs.toArray d') (hs : Sort.SortedIn ltB 0 xs.toArray.size d') : d'.toList.length = xs.length ∧ d'.toList.Pairwise (fun x y => ¬ LtP y x) ∧ ∀ x, x ∈ d'.toList ↔ x ∈ xs := by
  have hsz : d'.size = xs.length := by rw [hp.1]; simp
  have hperm := hp.2.2
  rw [show xs.toArray.extract 0 xs.toArray.size = xs.toArray by simp, show d'.extract 0 xs.toArray.size = d' by rw [← hp.1]; simp] at hperm
  refine ⟨by simpa using hsz, ?_, fun x => by have := hperm.mem_iff (a := x); simpa using this⟩
  rw [List.pairwise_iff_getElem]
  intro i j hi hj hij hlt
  have hj' : j < d'.size := by simpa using hj
  have hi' : i < d'.size := by simpa using hi
  have h := hs i j (Nat.zero_le _) hij (by rw [← hp.1]; exact hj')
  rw [getElem!_pos d' i hi', getElem!_pos d' j hj'] at h
  have := ltB_iff.2 hlt
  simp only [Array.getElem_toList] at this
  rw [this] at h; cases h
end Go.Proofs.Ytalfjdpdecngoaa
