/- Small things that the texts on places lean on. -/
import Derived.Test.YtalfjdpdecngoaaRows
import Derived.WalkKit
import Derived.WalkSpells
import Derived.WalkLawsBesides
import Derived.BigQuiet
import Derived.Deep.RegionHeld3
import Derived.Deep.DeepCutAuto
import Derived.Laws.AppendOwnNone
import Derived.Laws.MakeOwn
namespace Go.Proofs.Ytalfjdpdecngoaa
open Go.RowKit

theorem pret_int {k : IntKind} {a b : Int} (h : a = b) : Ending.returned (.int k a) = .returned (.int k b) := by rw [h]
theorem pret_bool {a b : Bool} (h : a = b) : Ending.returned (.bool a) = .returned (.bool b) := by rw [h]
theorem infoPl : (Try.prog.info? 25).map (fun i => (i.zero, i.size, i.bytes)) = some (some (.agg #[.int .i64 0, .int .i64 0]), 2, 16) := by kernel_rfl
theorem infoByte : (Try.prog.info? 5).map (fun i => (i.zero, i.size, i.bytes)) = some (some (.int .u8 0), 1, 1) := by kernel_rfl
theorem pinfo_parts {P : Program} {t : TypeId} {z : Value} {n b : Nat} (h : (P.info? t).map (fun i => (i.zero, i.size, i.bytes)) = some (some z, n, b)) : ∃ i, P.info? t = some i ∧ i.zero = some z ∧ i.size = n ∧ i.bytes = b := by
  cases hi : P.info? t with
  | none => simp [hi] at h
  | some i => simp [hi] at h; exact ⟨i, rfl, h.1, h.2.1, h.2.2⟩

/-- a place: its row, and where it stands in it -/
structure Pl where
  r : Int
  a : Int
deriving DecidableEq

def plc (l : List Pl) : List Value := l.flatMap fun p => [.int .i64 p.r, .int .i64 p.a]
theorem plc_nil : plc [] = [] := rfl
theorem plc_cons (p : Pl) (l : List Pl) : plc (p :: l) = .int .i64 p.r :: .int .i64 p.a :: plc l := rfl
theorem plc_append (a b : List Pl) : plc (a ++ b) = plc a ++ plc b := by simp [plc]
theorem plc_length (l : List Pl) : (plc l).length = l.length * 2 := by
  induction l with
  | nil => rfl
  | cons p l ih => simp only [plc_cons, List.length_cons, ih]; omega
theorem plc_get (xs : List Pl) (i : Nat) (h : i < xs.length) : (plc xs)[i * 2]? = some (.int .i64 xs[i].r) ∧ (plc xs)[i * 2 + 1]? = some (.int .i64 xs[i].a) := by
  induction xs generalizing i with
  | nil => simp at h
  | cons x xs ih =>
    cases i with
    | zero => simp [plc_cons]
    | succ i =>
      have := ih i (by simpa using h)
      rw [plc_cons, show (i + 1) * 2 = i * 2 + 2 by omega]
      simpa using this
theorem plc_one (xs : List Pl) : ∀ u ∈ plc xs, u.oneCell' = true := by
  intro u hu
  simp [plc] at hu
  obtain ⟨x, _, h⟩ := hu
  rcases h with rfl | rfl <;> rfl

/-- places in a row -/
def RowP (w : World) (a : Option Addr) (len : Nat) (xs : List Pl) : Prop :=
  len = xs.length ∧ xs.length ≤ 1000000 ∧ (xs = [] ∨ ∃ b off, a = some ⟨b, off, none⟩ ∧ b < w.heap.size ∧ ∀ i (h : i < xs.length), w.cell? ⟨b, off + i * 2, none⟩ = some (.int .i64 xs[i].r) ∧ w.cell? ⟨b, off + i * 2 + 1, none⟩ = some (.int .i64 xs[i].a))

theorem RowP.below {w w' : World} {a : Option Addr} {len : Nat} {xs : List Pl} (h : RowP w a len xs) (hb : Below w.heap.size w w') : RowP w' a len xs := by
  obtain ⟨h1, h2, h3⟩ := h
  refine ⟨h1, h2, ?_⟩
  rcases h3 with h3 | ⟨b, off, e, hlt, hc⟩
  · exact .inl h3
  · exact .inr ⟨b, off, e, Nat.lt_of_lt_of_le hlt hb.size, fun i hi => by rw [hb.cell (p := ⟨b, _, none⟩) hlt, hb.cell (p := ⟨b, _, none⟩) hlt]; exact hc i hi⟩

theorem own_eqP {w : World} {B : Nat} {t : TypeId} {z : Nat} {v : Value} {n n' : Nat} {xs xs' : List Value} (h : w.ownsRow B t z v n xs) (hn : n = n') (hx : xs = xs') : w.ownsRow B t z v n' xs' := by rw [← hn, ← hx]; exact h
theorem own_belowP {w w' : World} {B : Nat} {t : TypeId} {z : Nat} {v : Value} {n : Nat} {xs : List Value} (h : w.ownsRow B t z v n xs) (hb : Below w.heap.size w w') : w'.ownsRow B t z v n xs := by
  refine ⟨h.1, ?_⟩
  rcases h.2 with h2 | ⟨g, cap, cur, h1, h2, h3, h4⟩
  · exact .inl h2
  · exact .inr ⟨g, cap, cur, h1, h2, by rw [hb.block g (Array.getElem?_eq_some_iff.1 h3).1]; exact h3, h4⟩

theorem rowP_of_own {w : World} {B : Nat} {v : Value} {xs : List Pl} (h : w.ownsRow B 25 2 v xs.length (plc xs)) (hl : xs.length ≤ 1000000) : ∃ a cap, v = .slice a xs.length cap ∧ RowP w a xs.length xs ∧ (a = none → cap = 0) := by
  rcases h.2 with ⟨rfl, h0⟩ | ⟨g, cap, cur, rfl, _, hg, _⟩
  · have : xs = [] := List.length_eq_zero_iff.1 h0
    subst this
    exact ⟨none, 0, rfl, ⟨rfl, hl, .inl rfl⟩, fun _ => rfl⟩
  · refine ⟨some ⟨g, 0, none⟩, cap, rfl, ⟨rfl, hl, .inr ⟨g, 0, rfl, (Array.getElem?_eq_some_iff.1 hg).1, fun i hi => ?_⟩⟩, fun e => by simp at e⟩
    obtain ⟨c0, c1⟩ := plc_get xs i hi
    have k0 := h.cells (g := g) rfl _ _ c0
    have k1 := h.cells (g := g) rfl _ _ c1
    rw [Go.WideShapes.add_plain] at k0 k1
    exact ⟨k0, k1⟩

/-- the order of numbers -/
def cmpI (a b : Int) : Int := if a < b then -1 else if b < a then 1 else 0
def cmpP (a b : Pl) : Int := if a.r = b.r then cmpI a.a b.a else cmpI a.r b.r

theorem nan_int (x : Int) (w : World) : Calls Try.prog 41 #[.int .i64 x] w fun e w' => e = .returned (.bool false) ∧ w' = w := by
  go_enter Try.func41, Try.ntmps41
  go_wp2
  go_ret
  exact ⟨by simp, rfl⟩

set_option maxHeartbeats 400000 in
theorem cmp_int (x y : Int) (w : World) : Calls Try.prog 36 #[.int .i64 x, .int .i64 y] w fun e w' => e = .returned (.int .i64 (cmpI x y)) ∧ w' = w := by
  unfold cmpI
  by_cases h1 : x < y
  · go_enter Try.func36, Try.ntmps36
    go_wp2_with (go_at_call 41; refine (nan_int _ _).mono ?_; rintro e w' ⟨rfl, rfl⟩)
    go_ret
    exact ⟨by simp, rfl⟩
  · by_cases h2 : y < x
    · go_enter Try.func36, Try.ntmps36
      go_wp2_with (go_at_call 41; refine (nan_int _ _).mono ?_; rintro e w' ⟨rfl, rfl⟩)
      go_ret
      exact ⟨by simp, rfl⟩
    · go_enter Try.func36, Try.ntmps36
      go_wp2_with (go_at_call 41; refine (nan_int _ _).mono ?_; rintro e w' ⟨rfl, rfl⟩)
      go_ret
      exact ⟨by simp, rfl⟩

set_option maxHeartbeats 400000 in
theorem compare_any (p q : Pl) (w : World) : Calls Try.prog 24 #[.agg #[.int .i64 p.r, .int .i64 p.a], .agg #[.int .i64 q.r, .int .i64 q.a]] w fun e w' => e = .returned (.int .i64 (cmpP p q)) ∧ Below w.heap.size w w' := by
  unfold cmpP
  obtain ⟨r, a⟩ := p
  obtain ⟨r', a'⟩ := q
  by_cases h : r = r'
  · subst h
    go_enter Try.func24, Try.ntmps24
    go_wp2_with (go_at_call 36; refine (cmp_int _ _ _).mono ?_; rintro e w' ⟨rfl, rfl⟩)
    go_ret
    exact ⟨by simp, ((Below.refl _ _).alloc (Nat.le_refl _) _).alloc (by simp) _⟩
  · go_enter Try.func24, Try.ntmps24
    go_wp2_with (go_at_call 36; refine (cmp_int _ _ _).mono ?_; rintro e w' ⟨rfl, rfl⟩)
    go_ret
    exact ⟨by simp, ((Below.refl _ _).alloc (Nat.le_refl _) _).alloc (by simp) _⟩

/-- a place that may be -/
def okB (p : Pl) : Bool := decide (1 ≤ p.r) && decide (p.r ≤ 1073741824) && decide (0 ≤ p.a) && decide (p.a < 1073741824)
def follB (p q : Pl) : Bool := okB q && decide (cmpP p q < 0)

theorem compare_as (p q : Pl) (c : Int) (hc : cmpP p q = c) (w : World) : Calls Try.prog 24 #[.agg #[.int .i64 p.r, .int .i64 p.a], .agg #[.int .i64 q.r, .int .i64 q.a]] w fun e w' => e = .returned (.int .i64 c) ∧ Below w.heap.size w w' := by
  rw [← hc]; exact compare_any p q w

set_option maxHeartbeats 1000000 in
theorem follows_any (p q : Pl) (w : World) : Calls Try.prog 33 #[.agg #[.int .i64 p.r, .int .i64 p.a], .agg #[.int .i64 q.r, .int .i64 q.a]] w fun e w' => e = .returned (.bool (follB p q)) ∧ Below w.heap.size w w' := by
  obtain ⟨c, hc⟩ : ∃ c, cmpP p q = c := ⟨_, rfl⟩
  have HC : Hid (cmpP p q = c) := hc
  obtain ⟨b1, e1⟩ : ∃ b, decide ((1 : Int) ≤ q.r) = b := ⟨_, rfl⟩
  obtain ⟨b2, e2⟩ : ∃ b, decide (q.r ≤ 1073741824) = b := ⟨_, rfl⟩
  obtain ⟨b3, e3⟩ : ∃ b, decide ((0 : Int) ≤ q.a) = b := ⟨_, rfl⟩
  obtain ⟨b4, e4⟩ : ∃ b, decide (q.a < 1073741824) = b := ⟨_, rfl⟩
  have HF : Hid (follB p q = (b1 && b2 && b3 && b4 && decide (c < 0))) := by
    show _ = _
    rw [follB, okB, hc, e1, e2, e3, e4]
  clear hc
  cases b1
  · go_enter Try.func33, Try.ntmps33
    go_wp2
    go_ret
    exact ⟨pret_bool (by rw [HF.out]; simp), ((Below.refl _ _).alloc (Nat.le_refl _) _).alloc (by simp) _⟩
  · cases b2
    · go_enter Try.func33, Try.ntmps33
      go_wp2
      go_ret
      exact ⟨pret_bool (by rw [HF.out]; simp), ((Below.refl _ _).alloc (Nat.le_refl _) _).alloc (by simp) _⟩
    · cases b3
      · go_enter Try.func33, Try.ntmps33
        go_wp2
        go_ret
        exact ⟨pret_bool (by rw [HF.out]; simp), ((Below.refl _ _).alloc (Nat.le_refl _) _).alloc (by simp) _⟩
      · cases b4
        · go_enter Try.func33, Try.ntmps33
          go_wp2
          go_ret
          exact ⟨pret_bool (by rw [HF.out]; simp), ((Below.refl _ _).alloc (Nat.le_refl _) _).alloc (by simp) _⟩
        · go_enter Try.func33, Try.ntmps33
          go_wp2_with fail
          refine (compare_as p q c HC.out _).mono ?_
          rintro _ w1 ⟨rfl, hb1⟩
          go_wp2
          go_ret
          exact ⟨pret_bool (by rw [HF.out]; simp), (((Below.refl _ _).alloc (Nat.le_refl _) _).alloc (by simp) _).trans (hb1.mono (by simp; omega))⟩
end Go.Proofs.Ytalfjdpdecngoaa
