/- The program's one: words, beginnings, words that stand near. -/
import Derived.Test.YtleegplecdknlaaDoorPOne
namespace Go.Proofs.YtleegplecdknlaaDoor
open Go.RowKit

theorem head_star {l : List ByteArray} (hg : ∀ x ∈ l.head?, Good x) : (∃ x r, l = tStar :: r ∧ headP l = (3, x)) ∨ (∃ k x, k ≠ 3 ∧ headP l = (k, x) ∧ (⟨l, 0⟩ : St).peek ≠ tStar) := by
  cases l with
  | nil => exact .inr ⟨0, _, by decide, rfl, by decide⟩
  | cons y r =>
    have hp : (⟨y :: r, 0⟩ : St).peek = y := rfl
    rw [hp]
    have hy : Good y := hg y rfl
    cases hy with
    | opens => exact .inr ⟨1, _, by decide, rfl, by decide⟩
    | shuts => exact .inr ⟨2, _, by decide, rfl, by decide⟩
    | star => exact .inl ⟨_, r, rfl, rfl⟩
    | quoted r' _ => exact .inr ⟨4, _, by decide, kind_quoted r', mk_ne (by decide)⟩
    | run c r' _ h => exact .inr ⟨5, _, by decide, kind_run (h c (by simp)), mk_ne (fun e => by have := h c (by simp); rw [e] at this; exact absurd this (by decide))⟩
/-- a run, in words that are not its bytes -/
def RunP (x : ByteArray) : Prop := ∃ c m, x = ⟨(c :: m).toArray⟩ ∧ m.length < 400 ∧ ∀ d ∈ c :: m, notC d = true
theorem RunP.kind {x : ByteArray} (h : RunP x) : kindT x = (5, x) := by
  obtain ⟨c, m, rfl, _, h⟩ := h
  exact kind_run (h c (by simp))
theorem RunP.size {x : ByteArray} (h : RunP x) : x.size ≤ 400 := by
  obtain ⟨c, m, rfl, h1, _⟩ := h
  rw [← ba_len]; simp; omega
theorem RunP.first {x : ByteArray} (h : RunP x) : isSign (firstB x) = false := by
  obtain ⟨c, m, rfl, _, h⟩ := h
  rw [first_mk]
  have hc := h c (by simp)
  have key : ∀ d : UInt8, notC d = false → (c == d) = false := fun d hd => by
    rw [beq_eq_false_iff_ne]; intro e; rw [e, hd] at hc; cases hc
  unfold isSign
  rw [key 40 (by decide), key 41 (by decide), key 42 (by decide), key 34 (by decide)]; rfl
theorem RunP.some {x : ByteArray} (h : RunP x) : x ≠ tNone := by
  obtain ⟨c, m, rfl, _, _⟩ := h
  exact mk_none c m
theorem RunP.ne {x : ByteArray} (h : RunP x) (d : UInt8) (hd : notC d = false) : x ≠ ⟨#[d]⟩ := by
  obtain ⟨c, m, rfl, _, h⟩ := h
  exact mk_ne (fun e => by have hc := h c (by simp); rw [e, hd] at hc; cases hc)
theorem RunP.not34 {x : ByteArray} (h : RunP x) : firstB x ≠ 34 := by
  obtain ⟨c, m, rfl, _, h⟩ := h
  rw [first_mk]
  intro e
  have hc := h c (by simp)
  rw [e] at hc
  exact absurd hc (by decide)
theorem RunP.noOne {x : ByteArray} (h : RunP x) : noOne x = signT x := by
  unfold Go.Proofs.YtleegplecdknlaaDoor.noOne signT
  rw [decide_eq_false h.some, decide_eq_false (show ¬ x = tShut from h.ne 41 (by decide)), decide_eq_false (show ¬ x = tStar from h.ne 42 (by decide))]
  rfl
theorem head_run {l : List ByteArray} (hg : ∀ x ∈ l.head?, Good x) : (∃ x r, l = x :: r ∧ RunP x) ∨ (∃ k x, k ≠ 5 ∧ headP l = (k, x) ∧ ((⟨l, 0⟩ : St).peek = tNone ∨ isSign (firstB (⟨l, 0⟩ : St).peek) = true)) := by
  cases l with
  | nil => exact .inr ⟨0, _, by decide, rfl, .inl rfl⟩
  | cons y r =>
    have hp : (⟨y :: r, 0⟩ : St).peek = y := rfl
    rw [hp]
    have hy : Good y := hg y rfl
    cases hy with
    | opens => exact .inr ⟨1, _, by decide, rfl, .inr rfl⟩
    | shuts => exact .inr ⟨2, _, by decide, rfl, .inr rfl⟩
    | star => exact .inr ⟨3, _, by decide, rfl, .inr rfl⟩
    | quoted r' _ => exact .inr ⟨4, _, by decide, kind_quoted r', .inr (by rw [first_mk]; rfl)⟩
    | run c r' h1 h => exact .inl ⟨_, r, rfl, c, r', rfl, h1, h⟩
theorem oneM_run (any : St → Qy × St) {x : ByteArray} (h : RunP x) (r : List ByteArray) (hs : signT x = false) : oneM any false ⟨x :: r, 0⟩ = if (⟨r, 0⟩ : St).peek = tStar then (.node 2 [smallS x] .nil .nil, (⟨r.tail, 0⟩ : St).begins x (smallL x.data.toList)) else nearM x ⟨r, 0⟩ := by
  have hp : (⟨x :: r, 0⟩ : St).peek = x := rfl
  unfold oneM
  rw [hp]
  simp only [Bool.false_eq_true, if_false]
  rw [if_neg (show ¬ x = tOpen from h.ne 40 (by decide)), if_neg (by rw [h.noOne, hs]; decide), if_neg h.not34, take_yes hp]
  show (if ((⟨r, 0⟩ : St).take tStar).1 = true then (Qy.node 2 [smallS x] .nil .nil, ((⟨r, 0⟩ : St).take tStar).2.begins x (smallL x.data.toList)) else nearM x ((⟨r, 0⟩ : St).take tStar).2) = _
  by_cases h3 : (⟨r, 0⟩ : St).peek = tStar
  · rw [take_yes h3, if_pos rfl, if_pos h3]
  · rw [take_no h3, if_neg (show ¬ false = true by decide), if_neg h3]
theorem oneM_sign (any : St → Qy × St) {x : ByteArray} (h : RunP x) (r : List ByteArray) (hs : signT x = true) : (oneM any false ⟨x :: r, 0⟩).2.bad = 3 := by
  have hp : (⟨x :: r, 0⟩ : St).peek = x := rfl
  unfold oneM
  rw [hp]
  simp only [Bool.false_eq_true, if_false]
  rw [if_neg (show ¬ x = tOpen from h.ne 40 (by decide)), if_pos (by rw [h.noOne, hs])]
  rfl
theorem MQ.boxAt {A n : Nat} {w : World} (hn : w.heap.size = n) (hA : A < w.heap.size) (k : Int) (vw : Value) (pa pb : Option Addr) (ws : List ByteArray) (a b : Qy) (hw : RowW A w vw ws) (ha : MQ A w pa a) (hb : MQ A w pb b) (F : Int) (hF : farOf k = F) :
    MQ A (w.alloc (.cells #[.int .i64 k, vw, .int .i64 F, .pointer pa, .pointer pb] 51)) (some ⟨n, 0, none⟩) (.node k ws a b) := by
  subst hn
  exact MQ.box hA k vw pa pb ws a b hw ha hb F hF
theorem RunP.fine {t : ByteArray} (ht : RunP t) {s : St} (hp : s.peek = t) : ¬ (s.peek = tNone ∨ isSign (firstB s.peek) = true) := by
  rw [hp, ht.first]
  intro k
  rcases k with k | k
  · exact ht.some k
  · cases k
theorem near0 {x : ByteArray} {r : List ByteArray} (h : (wordsL x.data.toList).length ≠ 1) : (nearM x ⟨r, 0⟩).2.bad = 3 := by
  have e : (⟨r, 0⟩ : St).plain x = (⟨#[]⟩, ⟨r, 3⟩) := plain_other rfl h
  have hp : (⟨r, 3⟩ : St).peek = tNone := peek_bad (by show (3 : Int) ≠ 0; decide)
  rw [near_no (by rw [e]; show (⟨r, 3⟩ : St).peek ≠ tNear; rw [hp]; decide), e]
theorem near1 {x y : ByteArray} {r : List ByteArray} (h : wordsL x.data.toList = [y]) (hn : (⟨r, 0⟩ : St).peek ≠ tNear) : nearM x ⟨r, 0⟩ = (.node 1 [y] .nil .nil, ⟨r, 0⟩) := by
  have e : (⟨r, 0⟩ : St).plain x = (y, ⟨r, 0⟩) := plain_one h
  rw [near_no (by rw [e]; exact hn), e]
theorem near2 {x y : ByteArray} {r : List ByteArray} (h : wordsL x.data.toList = [y]) (hb : (⟨r, 0⟩ : St).peek = tNone ∨ isSign (firstB (⟨r, 0⟩ : St).peek) = true) : (nearM x ⟨tNear :: r, 0⟩).2.bad = 3 := by
  have e : (⟨tNear :: r, 0⟩ : St).plain x = (y, ⟨tNear :: r, 0⟩) := plain_one h
  rw [near_bad (s3 := ⟨r, 0⟩) (by rw [e]; rfl) (by rw [e]; rfl) hb]
  rfl
theorem near3 {x y t : ByteArray} {r : List ByteArray} (h : wordsL x.data.toList = [y]) (ht : RunP t) (hw : (wordsL t.data.toList).length ≠ 1) : (nearM x ⟨tNear :: t :: r, 0⟩).2.bad = 3 := by
  have e : (⟨tNear :: t :: r, 0⟩ : St).plain x = (y, ⟨tNear :: t :: r, 0⟩) := plain_one h
  have hp : (⟨t :: r, 0⟩ : St).peek = t := rfl
  rw [near_yes (s3 := ⟨t :: r, 0⟩) (by rw [e]; rfl) (by rw [e]; rfl) (ht.fine hp)]
  rw [hp, take_yes hp]
  have e2 : (⟨r, 0⟩ : St).plain t = (⟨#[]⟩, ⟨r, 3⟩) := plain_other rfl hw
  simp only [List.tail_cons]
  rw [e2]
theorem near4 {x y t z : ByteArray} {r : List ByteArray} (h : wordsL x.data.toList = [y]) (ht : RunP t) (hw : wordsL t.data.toList = [z]) : nearM x ⟨tNear :: t :: r, 0⟩ = (.node 3 [y, z] .nil .nil, ⟨r, 0⟩) := by
  have e : (⟨tNear :: t :: r, 0⟩ : St).plain x = (y, ⟨tNear :: t :: r, 0⟩) := plain_one h
  have hp : (⟨t :: r, 0⟩ : St).peek = t := rfl
  rw [near_yes (s3 := ⟨t :: r, 0⟩) (by rw [e]; rfl) (by rw [e]; rfl) (ht.fine hp)]
  rw [hp, take_yes hp, e]
  have e2 : (⟨r, 0⟩ : St).plain t = (z, ⟨r, 0⟩) := plain_one hw
  simp only [List.tail_cons]
  rw [e2]
end Go.Proofs.YtleegplecdknlaaDoor
