/- What PostingSets asks, call by call. -/
import Derived.Test.YtalfjdpdecngoaaPRowsR
import Derived.Test.YtalfjdpdecngoaaPBack
import Derived.Test.YtalfjdpdecngoaaPPlacesK
import Derived.Test.YtalfjdpdecngoaaPSame
namespace Go.Proofs.Ytalfjdpdecngoaa
open Go.RowKit

theorem places_in {v : Value} {xs : List Pl} {w : World} (b : Bool) (hb : rightL xs = b) (h : InP w v xs) : Calls Try.prog 5 #[v] w fun e w' => e = .returned (.bool b) ∧ Below w.heap.size w w' := by
  obtain ⟨a, c, rfl, _, r, _⟩ := h
  rw [← hb]
  exact places_any a _ c xs w r
theorem lawsame_in {v v' : Value} {xs : List Pl} {w : World} (h : InP w v xs) (h' : InP w v' xs) : Calls Try.prog 6 #[v, v'] w fun e w' => e = .returned (.bool true) ∧ Below w.heap.size w w' := by
  obtain ⟨a, c, rfl, _, r, _⟩ := h
  obtain ⟨a', c', rfl, _, r', _⟩ := h'
  exact same_law a a' _ _ c c' xs w r r'
theorem refMerge_in (hS : SortedSpec) {va vb : Value} {xs ys : List Pl} {w : World} (h1 : InP w va xs) (h2 : InP w vb ys) (hl1 : xs.length ≤ 1000) (hl2 : ys.length ≤ 1000) (hx : xs.Pairwise LtP) (hy : ys.Pairwise LtP) (T : List Pl) (hT : mergeL xs ys = T) (hl : T.length ≤ 2000) :
    Calls Try.prog 8 #[va, vb] w fun e w' => ∃ a c, e = .returned (.slice a T.length c) ∧ InP w' (.slice a T.length c) T ∧ Below w.heap.size w w' := by
  refine (refMerge_any hS va vb xs ys w h1 h2 (by omega) (by omega)).mono ?_
  rintro e w' ⟨v, T', rfl, ho, ⟨t1, t2, t3⟩, hb⟩
  have e : T' = T := by
    rw [← hT]
    exact place_ext t1 (mergeL_sorted hx hy) (fun x => by rw [t2, mem_mergeL])
  subst e
  have hi := InP.of_own ho (by omega)
  obtain ⟨a, c, rfl⟩ := hi.slice
  exact ⟨a, c, rfl, hi, hb⟩
theorem refFollow_in (hS : SortedSpec) {va vb : Value} {xs ys : List Pl} {w : World} (h1 : InP w va xs) (h2 : InP w vb ys) (hl1 : xs.length ≤ 100) (hl2 : ys.length ≤ 100) (hok : ∀ z ∈ xs, OkP z) (hx : xs.Pairwise LtP) (hy : ys.Pairwise LtP) (T : List Pl) (hT : keepL stpF xs ys = T) :
    Calls Try.prog 14 #[va, vb] w fun e w' => ∃ a c, e = .returned (.slice a T.length c) ∧ InP w' (.slice a T.length c) T ∧ Below w.heap.size w w' := by
  refine (refFollow_any hS va vb xs ys w h1 h2 hl1 hl2 hok).mono ?_
  rintro e w' ⟨v, T', rfl, ho, ⟨t1, t2, t3⟩, hb⟩
  have e : T' = T := by
    rw [← hT]
    obtain ⟨f1, f2⟩ := foll_list hx hy
    exact place_ext t1 f1 (fun x => by rw [t2, f2])
  subst e
  have hi := InP.of_own ho (by omega)
  obtain ⟨a, c, rfl⟩ := hi.slice
  exact ⟨a, c, rfl, hi, hb⟩

/-- a list of numbers, as it stands in a walk -/
def InI (w : World) (v : Value) (xs : List Int) : Prop := ∃ a c, v = .slice a xs.length c ∧ RowI w a xs.length xs
theorem InI.below {w w' : World} {v : Value} {xs : List Int} (h : InI w v xs) (hb : Below w.heap.size w w') : InI w' v xs := by
  obtain ⟨a, c, h1, h2⟩ := h
  exact ⟨a, c, h1, h2.below hb⟩
theorem sameInts_in {v v' : Value} {xs : List Int} {w : World} (h : InI w v xs) (h' : InI w v' xs) : Calls Try.prog 10 #[v, v'] w fun e w' => e = .returned (.bool true) ∧ Below w.heap.size w w' := by
  obtain ⟨a, c, rfl, r⟩ := h
  obtain ⟨a', c', rfl, r'⟩ := h'
  exact same_ints a a' _ _ c c' xs w r r'
theorem ini_of_own {w : World} {B : Nat} {v : Value} {T : List Int} (ho : w.ownsRow B 3 1 v T.length (icc T)) (hl : T.length ≤ 10000) : ∃ a c, v = .slice a T.length c ∧ InI w (.slice a T.length c) T := by
  obtain ⟨a, c, rfl, hr⟩ := rowI_of_own ho (by omega)
  exact ⟨a, c, rfl, a, c, rfl, hr⟩
theorem int_ext {a b : List Int} (ha : a.Pairwise (· < ·)) (hb : b.Pairwise (· < ·)) (h : ∀ x, x ∈ a ↔ x ∈ b) : a = b := rising_ext (R := (· < ·)) (fun a => Int.lt_irrefl a) (fun a b h1 h2 => by omega) a b ha hb h

theorem rows_row {va : Value} {xs : List Pl} {w : World} (h1 : InP w va xs) (hl1 : xs.length ≤ 1000) (T : List Int) (hT : rowsFrom [] xs = T) :
    Calls Try.prog 11 #[va] w fun e w' => ∃ a c, e = .returned (.slice a T.length c) ∧ InI w' (.slice a T.length c) T ∧ Below w.heap.size w w' := by
  refine (rows_any va xs w h1 (by omega)).mono ?_
  rintro e w' ⟨v, rfl, ho, hb⟩
  have hle := (rowsFrom_le xs []).1
  rw [hT] at ho hle
  obtain ⟨a, c, rfl, hi⟩ := ini_of_own ho (by simp at hle; omega)
  exact ⟨a, c, rfl, hi, hb⟩
theorem refRows_row (hR : RisingSpec) {va : Value} {xs : List Pl} {w : World} (h1 : InP w va xs) (hl1 : xs.length ≤ 1000) (hx : xs.Pairwise LtP) (T : List Int) (hT : rowsFrom [] xs = T) :
    Calls Try.prog 12 #[va] w fun e w' => ∃ a c, e = .returned (.slice a T.length c) ∧ InI w' (.slice a T.length c) T ∧ Below w.heap.size w w' := by
  refine (refRows_any hR va xs w h1 (by omega)).mono ?_
  rintro e w' ⟨v, T', rfl, ho, ⟨t1, t2, t3⟩, hb⟩
  have e : T' = T := by
    rw [← hT]
    obtain ⟨r1, r2⟩ := rows_list hx
    exact int_ext t1 r1 (fun x => by rw [t2, r2])
  subst e
  obtain ⟨a, c, rfl, hi⟩ := ini_of_own ho (by omega)
  exact ⟨a, c, rfl, hi, hb⟩
theorem near_len (far : Int) {xs ys : List Pl} (hx : xs.Pairwise LtP) (hy : ys.Pairwise LtP) : (nearFrom far [] xs ys).length ≤ xs.length := by
  obtain ⟨n1, n2⟩ := near_list far hx hy
  obtain ⟨r1, r2⟩ := rows_list hx
  have h1 := rising_le _ _ n1 r1 (fun r hr => (r2 r).2 (by obtain ⟨p, hp, q, hq, e, _⟩ := (n2 r).1 hr; exact ⟨p, hp, e⟩))
  have h2 := (rowsFrom_le xs []).1
  simp at h2
  omega
theorem near_row {va vb : Value} {xs ys : List Pl} {w : World} (far : Int) (h1 : InP w va xs) (h2 : InP w vb ys) (hl1 : xs.length ≤ 1000) (hl2 : ys.length ≤ 1000) (hk1 : ∀ z ∈ xs, OkP z) (hk2 : ∀ z ∈ ys, OkP z) (hx : xs.Pairwise LtP) (hy : ys.Pairwise LtP) (T : List Int) (hT : nearFrom far [] xs ys = T) :
    Calls Try.prog 15 #[va, vb, .int .i64 far] w fun e w' => ∃ a c, e = .returned (.slice a T.length c) ∧ InI w' (.slice a T.length c) T ∧ Below w.heap.size w w' := by
  refine (near_any va vb far xs ys w h1 h2 (by omega) (by omega) hk1 hk2).mono ?_
  rintro e w' ⟨v, rfl, ho, hb⟩
  have hle := near_len far hx hy
  rw [hT] at ho hle
  obtain ⟨a, c, rfl, hi⟩ := ini_of_own ho (by omega)
  exact ⟨a, c, rfl, hi, hb⟩
theorem refNear_row (hR : RisingSpec) {va vb : Value} {xs ys : List Pl} {w : World} (far : Int) (h1 : InP w va xs) (h2 : InP w vb ys) (hl1 : xs.length ≤ 100) (hl2 : ys.length ≤ 100) (hk1 : ∀ z ∈ xs, OkP z) (hk2 : ∀ z ∈ ys, OkP z) (hx : xs.Pairwise LtP) (hy : ys.Pairwise LtP) (T : List Int) (hT : nearFrom far [] xs ys = T) :
    Calls Try.prog 16 #[va, vb, .int .i64 far] w fun e w' => ∃ a c, e = .returned (.slice a T.length c) ∧ InI w' (.slice a T.length c) T ∧ Below w.heap.size w w' := by
  refine (refNear_any hR va vb far xs ys w h1 h2 hl1 hl2 hk1 hk2).mono ?_
  rintro e w' ⟨v, T', rfl, ho, ⟨t1, t2, t3⟩, hb⟩
  have e : T' = T := by
    rw [← hT]
    obtain ⟨r1, r2⟩ := near_list far hx hy
    exact int_ext t1 r1 (fun x => by rw [t2, mem_nearO, r2])
  subst e
  obtain ⟨a, c, rfl, hi⟩ := ini_of_own ho (by omega)
  exact ⟨a, c, rfl, hi, hb⟩
end Go.Proofs.Ytalfjdpdecngoaa
