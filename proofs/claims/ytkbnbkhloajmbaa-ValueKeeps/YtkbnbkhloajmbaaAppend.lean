/- A list of values that the call has made: read as a list, and appended to. -/
import Derived.Test.YtkbnbkhloajmbaaFact
import Derived.Laws.AppendOwnNone
namespace Go.Proofs.Ytkbnbkhloajmbaa
open Go.RowKit Go.Lib

theorem cellsL_get (xs : List Vl) (i : Nat) (h : i < xs.length) : (cellsL xs)[i * 3]? = some (.int .i64 xs[i].k) ∧ (cellsL xs)[i * 3 + 1]? = some (.int .i64 xs[i].n) ∧ (cellsL xs)[i * 3 + 2]? = some (.string xs[i].s) := by
  induction xs generalizing i with
  | nil => simp at h
  | cons x xs ih =>
    cases i with
    | zero => simp [cellsL, cellsW]
    | succ i =>
      have := ih i (by simpa using h)
      have e : cellsL (x :: xs) = .int .i64 x.k :: .int .i64 x.n :: .string x.s :: cellsL xs := by simp [cellsL, cellsW]
      rw [e, show (i + 1) * 3 = i * 3 + 3 by omega]
      simpa using this

theorem row_of_own {w : World} {B : Nat} {v : Value} {xs : List Vl} (h : w.ownsRow B 26 3 v xs.length (cellsL xs)) (hs : ∀ x ∈ xs, x.s.size ≤ maxLen) (hl : xs.length ≤ maxLen) : ∃ a cap, v = .slice a xs.length cap ∧ Row w a xs.length xs ∧ (a = none → cap = 0) := by
  rcases h.2 with ⟨rfl, h0⟩ | ⟨g, cap, cur, rfl, _, hg, _⟩
  · have : xs = [] := List.length_eq_zero_iff.1 h0
    subst this
    exact ⟨none, 0, rfl, ⟨rfl, hl, .inl rfl⟩, fun _ => rfl⟩
  · refine ⟨some ⟨g, 0, none⟩, cap, rfl, ⟨rfl, hl, .inr ⟨g, 0, rfl, (Array.getElem?_eq_some_iff.1 hg).1, fun i hi => ?_⟩⟩, fun e => by simp at e⟩
    obtain ⟨c0, c1, c2⟩ := cellsL_get xs i hi
    have k0 := h.cells (g := g) rfl _ _ c0
    have k1 := h.cells (g := g) rfl _ _ c1
    have k2 := h.cells (g := g) rfl _ _ c2
    rw [Go.WideShapes.add_plain] at k0 k1 k2
    exact ⟨k0, k1, k2, hs _ (List.getElem_mem hi)⟩

theorem Row.news {w : World} {ad : Addr} {len : Nat} {xs : List Vl} (h : Row w (some ad) len xs) : ∀ j u, (cellsL xs)[j]? = some u → w.cell? (ad.add j) = some u := by
  intro j u hj
  obtain ⟨_, _, h3⟩ := h
  have hjl : j < (cellsL xs).length := (List.getElem?_eq_some_iff.1 hj).1
  rw [cellsL_length] at hjl
  rcases h3 with rfl | ⟨b, off, e, _, hr⟩
  · simp at hjl
  · obtain rfl : ad = ⟨b, off, none⟩ := by simpa using e
    rw [Go.WideShapes.add_plain]
    obtain ⟨i, h3⟩ : ∃ i, j = i * 3 ∨ j = i * 3 + 1 ∨ j = i * 3 + 2 := ⟨j / 3, by omega⟩
    have hi : i < xs.length := by omega
    obtain ⟨c0, c1, c2⟩ := cellsL_get xs i hi
    obtain ⟨r0, r1, r2, _⟩ := hr i hi
    rcases h3 with rfl | rfl | rfl
    · rw [c0] at hj; rw [← Option.some.inj hj]; exact r0
    · rw [c1] at hj; rw [← Option.some.inj hj]; exact r1
    · rw [c2] at hj; rw [← Option.some.inj hj]; exact r2

theorem cellsL_one (xs : List Vl) : ∀ u ∈ cellsL xs, u.oneCell' = true := by
  intro u hu
  simp [cellsL, cellsW] at hu
  obtain ⟨x, _, h⟩ := hu
  rcases h with rfl | rfl | rfl <;> rfl

theorem cellsL_app (xs ys : List Vl) : cellsL (xs ++ ys) = cellsL xs ++ cellsL ys := by simp [cellsL]

theorem run_append_row (w : World) (B : Nat) (v : Value) (ys : List Vl) (hown : w.ownsRow B 26 3 v ys.length (cellsL ys)) (hB : B ≤ w.heap.size) (a : Option Addr) (cap : Nat) (xs : List Vl) (hr : Row w a xs.length xs) (hnil : a = none → cap = 0) (hl : xs.length + ys.length ≤ 1000000) :
    ∃ v' w', (Builtin.append_ #[22, 22] 22 #[v, .slice a xs.length cap]).run Try.prog w = .ok v' w' ∧ w'.ownsRow B 26 3 v' (ys ++ xs).length (cellsL (ys ++ xs)) ∧ Below B w w' := by
  obtain ⟨i0, hi, hz0, hz1, hz2⟩ := info_parts info26
  cases a with
  | none =>
    have hc := hnil rfl
    subst hc
    have hx : xs = [] := by
      rcases hr.2.2 with h | ⟨b, off, e, _⟩
      · exact h
      · simp at e
    subst hx
    exact ⟨v, w, run_append_owned_none (P := Try.prog) (w := w) B 22 22 26 i0 3 Try.underlying22 hi v ys.length (cellsL ys) hown, by simpa using hown, Below.refl _ _⟩
  | some ad =>
    obtain ⟨v', w', h1, h2, h3, _⟩ := run_append_own (P := Try.prog) w B 22 22 26 i0 (.agg #[.int .i64 0, .int .i64 0, .string ⟨#[]⟩]) 3 32 Try.underlying22 hi hz0 hz1 hz2 rfl (by decide) v ys.length (cellsL ys) hown ad xs.length cap (cellsL xs) (cellsL_length xs) hr.news (cellsL_one xs) (by unfold maxLen; omega) (by omega) hB
    refine ⟨v', w', h1, ?_, (Below.refl B w).grown h3 hB (fun g hg => (hown.lt g hg).1)⟩
    rw [cellsL_app, List.length_append]
    exact h2

/-- append, for the walk, also where it stands behind a guard that says yes -/
theorem wpList_append_row {ops : Array Oper} {rest : List Oper} {o : Oper} {a : Act} {Q : Exit → Act → World → Prop} {w : World} (hw : Region.wanted o (yielded ops a.tmps) = true) (s x : Operand)
    (ho : o.op = .call { callee := .builtin .append, args := #[s, x], argTypes := #[22, 22] }) (hty : o.type = 22)
    (B : Nat) (v : Value) (ys : List Vl) (hs : a.eval s = v) (hown : w.ownsRow B 26 3 v ys.length (cellsL ys)) (hB : B ≤ w.heap.size) (ad : Option Addr) (cap : Nat) (xs : List Vl) (hx : a.eval x = .slice ad xs.length cap) (hr : Row w ad xs.length xs) (hnil : ad = none → cap = 0)
    (hl : xs.length + ys.length ≤ 1000000) (h : ∀ v' w', w'.ownsRow B 26 3 v' (ys ++ xs).length (cellsL (ys ++ xs)) → Below B w w' → wpList Try.prog ops Q rest (a.put o.dst v') w') : wpList Try.prog ops Q (o :: rest) a w := by
  refine BigFrame.wpList_want hw fun K hK => ?_
  obtain ⟨v', w', hrun, h2, h3⟩ := run_append_row w B v ys hown hB ad cap xs hr hnil hl
  unfold Oper.wp
  simp only [execOp, ho, hty, resolve, invoke, builtin, Sem.run_bind, Sem.run_pure, Result.andThen_ok, List.map_toArray, List.map_cons, List.map_nil, hs, hx, hrun]
  exact hK _ _ (h v' w' h2 h3)
end Go.Proofs.Ytkbnbkhloajmbaa
