/- Places of both lists: as plain lists; appends of lists of places. -/
import Derived.Test.YtalfjdpdecngoaaPRead3
namespace Go.Proofs.Ytalfjdpdecngoaa
open Go.RowKit

/-- all places of both, each once -/
def mergeL : List Pl → List Pl → List Pl
  | [], b => b
  | x :: a, [] => x :: a
  | x :: a, y :: b => if cmpP x y < 0 then x :: mergeL a (y :: b) else if 0 < cmpP x y then y :: mergeL (x :: a) b else x :: mergeL a b
termination_by a b => a.length + b.length
decreasing_by all_goals (simp only [List.length_cons]; omega)

theorem cmpI_cases (a b : Int) : (cmpI a b = -1 ∧ a < b) ∨ (cmpI a b = 0 ∧ a = b) ∨ (cmpI a b = 1 ∧ b < a) := by
  unfold cmpI
  split
  · exact .inl ⟨rfl, by assumption⟩
  · split
    · exact .inr (.inr ⟨rfl, by assumption⟩)
    · exact .inr (.inl ⟨rfl, by omega⟩)
/-- one place stands ahead of another -/
def LtP (p q : Pl) : Prop := p.r < q.r ∨ (p.r = q.r ∧ p.a < q.a)
theorem cmpP_cases (p q : Pl) : (cmpP p q = -1 ∧ LtP p q) ∨ (cmpP p q = 0 ∧ p = q) ∨ (cmpP p q = 1 ∧ LtP q p) := by
  obtain ⟨r, a⟩ := p
  obtain ⟨r', a'⟩ := q
  unfold cmpP LtP
  simp only
  by_cases h : r = r'
  · subst h
    rw [if_pos rfl]
    rcases cmpI_cases a a' with ⟨e, l⟩ | ⟨e, l⟩ | ⟨e, l⟩
    · exact .inl ⟨e, .inr ⟨rfl, l⟩⟩
    · exact .inr (.inl ⟨e, by rw [l]⟩)
    · exact .inr (.inr ⟨e, .inr ⟨rfl, l⟩⟩)
  · rw [if_neg h]
    rcases cmpI_cases r r' with ⟨e, l⟩ | ⟨e, l⟩ | ⟨e, l⟩
    · exact .inl ⟨e, .inl l⟩
    · exact absurd l h
    · exact .inr (.inr ⟨e, .inl l⟩)

theorem merge_nil_right (a : List Pl) : mergeL a [] = a := by cases a <;> simp [mergeL]
theorem merge_lt {x y : Pl} {a b : List Pl} (h : cmpP x y = -1) : mergeL (x :: a) (y :: b) = x :: mergeL a (y :: b) := by rw [mergeL, if_pos (by omega)]
theorem merge_gt {x y : Pl} {a b : List Pl} (h : cmpP x y = 1) : mergeL (x :: a) (y :: b) = y :: mergeL (x :: a) b := by rw [mergeL, if_neg (by omega), if_pos (by omega)]
theorem merge_eq {x y : Pl} {a b : List Pl} (h : cmpP x y = 0) : mergeL (x :: a) (y :: b) = x :: mergeL a b := by rw [mergeL, if_neg (by omega), if_neg (by omega)]

theorem merge_comm (n : Nat) : ∀ a b : List Pl, a.length + b.length ≤ n → mergeL a b = mergeL b a := by
  induction n with
  | zero =>
    intro a b h
    have ha : a = [] := List.length_eq_zero_iff.1 (by omega)
    have hb : b = [] := List.length_eq_zero_iff.1 (by omega)
    rw [ha, hb]
  | succ n ih =>
    intro a b h
    cases a with
    | nil => rw [merge_nil_right]; simp [mergeL]
    | cons x a =>
      cases b with
      | nil => rw [merge_nil_right]; simp [mergeL]
      | cons y b =>
        simp only [List.length_cons] at h
        rcases cmpP_cases x y with ⟨e, l⟩ | ⟨e, l⟩ | ⟨e, l⟩
        · have e' : cmpP y x = 1 := by
            rcases cmpP_cases y x with ⟨_, l'⟩ | ⟨_, l'⟩ | ⟨e', _⟩
            · unfold LtP at l l'; omega
            · subst l'; unfold LtP at l; omega
            · exact e'
          rw [merge_lt e, merge_gt e', ih a (y :: b) (by simp only [List.length_cons]; omega)]
        · subst l
          rw [merge_eq e, merge_eq e, ih a b (by omega)]
        · have e' : cmpP y x = -1 := by
            rcases cmpP_cases y x with ⟨e', _⟩ | ⟨_, l'⟩ | ⟨_, l'⟩
            · exact e'
            · subst l'; unfold LtP at l; omega
            · unfold LtP at l l'; omega
          rw [merge_gt e, merge_lt e', ih (x :: a) b (by simp only [List.length_cons]; omega)]

theorem RowP.news {w : World} {ad : Addr} {len : Nat} {xs : List Pl} (h : RowP w (some ad) len xs) : ∀ j u, (plc xs)[j]? = some u → w.cell? (ad.add j) = some u := by
  intro j u hj
  obtain ⟨_, _, h3⟩ := h
  have hjl : j < (plc xs).length := (List.getElem?_eq_some_iff.1 hj).1
  rw [plc_length] at hjl
  rcases h3 with rfl | ⟨b, off, e, _, hr⟩
  · simp at hjl
  · obtain rfl : ad = ⟨b, off, none⟩ := by simpa using e
    rw [Go.WideShapes.add_plain]
    obtain ⟨i, h3⟩ : ∃ i, j = i * 2 ∨ j = i * 2 + 1 := ⟨j / 2, by omega⟩
    have hi : i < xs.length := by omega
    obtain ⟨c0, c1⟩ := plc_get xs i hi
    obtain ⟨r0, r1⟩ := hr i hi
    rcases h3 with rfl | rfl
    · rw [c0] at hj; rw [← Option.some.inj hj]; exact r0
    · rw [c1] at hj; rw [← Option.some.inj hj]; exact r1

theorem run_append_rowP (w : World) (B : Nat) (v : Value) (ys : List Pl) (hown : w.ownsRow B 25 2 v ys.length (plc ys)) (hB : B ≤ w.heap.size) (a : Option Addr) (cap : Nat) (xs : List Pl) (hr : RowP w a xs.length xs) (hnil : a = none → cap = 0) (hl : xs.length + ys.length ≤ 1000000) :
    ∃ v' w', (Builtin.append_ #[22, 22] 22 #[v, .slice a xs.length cap]).run Try.prog w = .ok v' w' ∧ w'.ownsRow B 25 2 v' (ys ++ xs).length (plc (ys ++ xs)) ∧ Below B w w' := by
  obtain ⟨i0, hi, hz0, hz1, hz2⟩ := pinfo_parts infoPl
  cases a with
  | none =>
    have hc := hnil rfl
    subst hc
    have hx : xs = [] := by
      rcases hr.2.2 with h | ⟨b, off, e, _⟩
      · exact h
      · simp at e
    subst hx
    exact ⟨v, w, run_append_owned_none (P := Try.prog) (w := w) B 22 22 25 i0 2 Try.underlying22 hi v ys.length (plc ys) hown, by simpa using hown, Below.refl _ _⟩
  | some ad =>
    obtain ⟨v', w', h1, h2, h3, _⟩ := run_append_own (P := Try.prog) w B 22 22 25 i0 (.agg #[.int .i64 0, .int .i64 0]) 2 16 Try.underlying22 hi hz0 hz1 hz2 rfl (by decide) v ys.length (plc ys) hown ad xs.length cap (plc xs) (plc_length xs) hr.news (plc_one xs) (by unfold maxLen; omega) (by omega) hB
    refine ⟨v', w', h1, ?_, (Below.refl B w).grown h3 hB (fun g hg => (hown.lt g hg).1)⟩
    rw [plc_append, List.length_append]
    exact h2

/-- append, for the walk -/
theorem wpList_append_rowP {ops : Array Oper} {rest : List Oper} {o : Oper} {a : Act} {Q : Exit → Act → World → Prop} {w : World} (hw : Region.wanted o (yielded ops a.tmps) = true) (s x : Operand)
    (ho : o.op = .call { callee := .builtin .append, args := #[s, x], argTypes := #[22, 22] }) (hty : o.type = 22)
    (B : Nat) (v : Value) (ys : List Pl) (hs : a.eval s = v) (hown : w.ownsRow B 25 2 v ys.length (plc ys)) (hB : B ≤ w.heap.size) (ad : Option Addr) (cap : Nat) (xs : List Pl) (hx : a.eval x = .slice ad xs.length cap) (hr : RowP w ad xs.length xs) (hnil : ad = none → cap = 0)
    (hl : xs.length + ys.length ≤ 1000000) (h : ∀ v' w', w'.ownsRow B 25 2 v' (ys ++ xs).length (plc (ys ++ xs)) → Below B w w' → wpList Try.prog ops Q rest (a.put o.dst v') w') : wpList Try.prog ops Q (o :: rest) a w := by
  refine BigFrame.wpList_want hw fun K hK => ?_
  obtain ⟨v', w', hrun, h2, h3⟩ := run_append_rowP w B v ys hown hB ad cap xs hr hnil hl
  unfold Oper.wp
  simp only [execOp, ho, hty, resolve, invoke, builtin, Sem.run_bind, Sem.run_pure, Result.andThen_ok, List.map_toArray, List.map_cons, List.map_nil, hs, hx, hrun]
  exact hK _ _ (h v' w' h2 h3)

/-- a list that came in, as it stands in a walk: its row, and what may be said of nil -/
def InP (w : World) (v : Value) (xs : List Pl) : Prop := ∃ a cap, v = .slice a xs.length cap ∧ xs.length ≤ cap ∧ RowP w a xs.length xs ∧ (a = none → cap = 0)

theorem InP.below {w w' : World} {v : Value} {xs : List Pl} (h : InP w v xs) (hb : Below w.heap.size w w') : InP w' v xs := by
  obtain ⟨a, cap, h1, h2, h3, h4⟩ := h
  exact ⟨a, cap, h1, h2, h3.below hb, h4⟩
theorem InP.of_own {w : World} {B : Nat} {v : Value} {xs : List Pl} (h : w.ownsRow B 25 2 v xs.length (plc xs)) (hl : xs.length ≤ 1000000) : InP w v xs := by
  obtain ⟨a, cap, rfl, hr, hn⟩ := rowP_of_own h hl
  refine ⟨a, cap, rfl, ?_, hr, hn⟩
  rcases h.2 with ⟨e, h0⟩ | ⟨g, c, cur, e, _, _, hc, _⟩
  · omega
  · cases e; exact hc
theorem InP.nil (w : World) : InP w (.slice none 0 0) [] := ⟨none, 0, rfl, Nat.le_refl _, ⟨rfl, by simp, .inl rfl⟩, fun _ => rfl⟩

theorem InP.tail {w : World} {b o n c : Nat} {x : Pl} {xs : List Pl} (h : InP w (.slice (some ⟨b, o, none⟩) (n + 1) c) (x :: xs)) : InP w (.slice (if c = 1 then some ⟨b, o, none⟩ else some ⟨b, o + 2, none⟩) n (c - 1)) xs := by
  obtain ⟨a, cap, h1, h2, ⟨_, hm, hr⟩, _⟩ := h
  cases h1
  simp only [List.length_cons] at h2 hm
  refine ⟨_, _, rfl, by omega, ⟨rfl, by omega, ?_⟩, fun e => by split at e <;> cases e⟩
  by_cases hc : c = 1
  · exact .inl (List.length_eq_zero_iff.1 (by omega))
  · rw [if_neg hc]
    rcases hr with hr | ⟨b', o', e, hb, hrow⟩
    · cases hr
    · cases e
      refine .inr ⟨b, o + 2, rfl, hb, fun i hi => ?_⟩
      have := hrow (i + 1) (by simp; omega)
      simp only [List.getElem_cons_succ] at this
      rw [show o + 2 + i * 2 = o + (i + 1) * 2 by omega]
      exact this

def sliceLen : Value → Nat
  | .slice _ n _ => n
  | _ => 0
end Go.Proofs.Ytalfjdpdecngoaa
