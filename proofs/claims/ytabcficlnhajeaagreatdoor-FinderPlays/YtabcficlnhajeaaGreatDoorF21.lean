/- Texts of the proof of FinderPlays: PBase, PRight, PWrite, PEnc. -/
import Derived.Test.YtabcficlnhajeaaGreatDoorF20
import Derived.WalkKit
import Derived.WalkSpells
import Derived.WalkLawsBesides
import Derived.BigQuiet
import Derived.Deep.RegionHeld3
import Derived.Deep.DeepCutAuto
import Derived.Laws.AppendOwnNone
import Derived.Laws.MakeOwn
import Derived.Laws.IdiomStrings
import Derived.Deep.AppendLies
namespace Go.Proofs.YtabcficlnhajeaaGreatDoor
open Go.RowKit

theorem pret_int {k : IntKind} {a b : Int} (h : a = b) : Ending.returned (.int k a) = .returned (.int k b) := by rw [h]
theorem pret_bool {a b : Bool} (h : a = b) : Ending.returned (.bool a) = .returned (.bool b) := by rw [h]
theorem infoPl : (Tryz.prog.info? 66).map (fun i => (i.zero, i.size, i.bytes)) = some (some (.agg #[.int .i64 0, .int .i64 0]), 2, 16) := by kernel_rfl
theorem infoByte : (Tryz.prog.info? 5).map (fun i => (i.zero, i.size, i.bytes)) = some (some (.int .u8 0), 1, 1) := by kernel_rfl
theorem pinfo_parts {P : Program} {t : TypeId} {z : Value} {n b : Nat} (h : (P.info? t).map (fun i => (i.zero, i.size, i.bytes)) = some (some z, n, b)) : ∃ i, P.info? t = some i ∧ i.zero = some z ∧ i.size = n ∧ i.bytes = b := by
  cases hi : P.info? t with
  | none => simp [hi] at h
  | some i => simp [hi] at h; exact ⟨i, rfl, h.1, h.2.1, h.2.2⟩

/-- a place: its row, and where it stands in it -/
structure Pl where
  r : Int
  a : Int
deriving DecidableEq

def plc (l : List Pl) : List Value := l.flatMap fun p => [.int .i64 p.r, .int .i64 p.a]
theorem plc_nil : plc [] = [] := rfl
theorem plc_cons (p : Pl) (l : List Pl) : plc (p :: l) = .int .i64 p.r :: .int .i64 p.a :: plc l := rfl
theorem plc_append (a b : List Pl) : plc (a ++ b) = plc a ++ plc b := by simp [plc]
theorem plc_length (l : List Pl) : (plc l).length = l.length * 2 := by
  induction l with
  | nil => rfl
  | cons p l ih => simp only [plc_cons, List.length_cons, ih]; omega
theorem plc_get (xs : List Pl) (i : Nat) (h : i < xs.length) : (plc xs)[i * 2]? = some (.int .i64 xs[i].r) ∧ (plc xs)[i * 2 + 1]? = some (.int .i64 xs[i].a) := by
  induction xs generalizing i with
  | nil => simp at h
  | cons x xs ih =>
    cases i with
    | zero => simp [plc_cons]
    | succ i =>
      have := ih i (by simpa using h)
      rw [plc_cons, show (i + 1) * 2 = i * 2 + 2 by omega]
      simpa using this
theorem plc_one (xs : List Pl) : ∀ u ∈ plc xs, u.oneCell' = true := by
  intro u hu
  simp [plc] at hu
  obtain ⟨x, _, h⟩ := hu
  rcases h with rfl | rfl <;> rfl

/-- places in a row -/
def RowP (w : World) (a : Option Addr) (len : Nat) (xs : List Pl) : Prop :=
  len = xs.length ∧ xs.length ≤ 1000000 ∧ (xs = [] ∨ ∃ b off, a = some ⟨b, off, none⟩ ∧ b < w.heap.size ∧ ∀ i (h : i < xs.length), w.cell? ⟨b, off + i * 2, none⟩ = some (.int .i64 xs[i].r) ∧ w.cell? ⟨b, off + i * 2 + 1, none⟩ = some (.int .i64 xs[i].a))

theorem RowP.below {w w' : World} {a : Option Addr} {len : Nat} {xs : List Pl} (h : RowP w a len xs) (hb : Below w.heap.size w w') : RowP w' a len xs := by
  obtain ⟨h1, h2, h3⟩ := h
  refine ⟨h1, h2, ?_⟩
  rcases h3 with h3 | ⟨b, off, e, hlt, hc⟩
  · exact .inl h3
  · exact .inr ⟨b, off, e, Nat.lt_of_lt_of_le hlt hb.size, fun i hi => by rw [hb.cell (p := ⟨b, _, none⟩) hlt, hb.cell (p := ⟨b, _, none⟩) hlt]; exact hc i hi⟩

theorem own_eqP {w : World} {B : Nat} {t : TypeId} {z : Nat} {v : Value} {n n' : Nat} {xs xs' : List Value} (h : w.ownsRow B t z v n xs) (hn : n = n') (hx : xs = xs') : w.ownsRow B t z v n' xs' := by rw [← hn, ← hx]; exact h
theorem own_belowP {w w' : World} {B : Nat} {t : TypeId} {z : Nat} {v : Value} {n : Nat} {xs : List Value} (h : w.ownsRow B t z v n xs) (hb : Below w.heap.size w w') : w'.ownsRow B t z v n xs := by
  refine ⟨h.1, ?_⟩
  rcases h.2 with h2 | ⟨g, cap, cur, h1, h2, h3, h4⟩
  · exact .inl h2
  · exact .inr ⟨g, cap, cur, h1, h2, by rw [hb.block g (Array.getElem?_eq_some_iff.1 h3).1]; exact h3, h4⟩

theorem rowP_of_own {w : World} {B : Nat} {v : Value} {xs : List Pl} (h : w.ownsRow B 66 2 v xs.length (plc xs)) (hl : xs.length ≤ 1000000) : ∃ a cap, v = .slice a xs.length cap ∧ RowP w a xs.length xs ∧ (a = none → cap = 0) := by
  rcases h.2 with ⟨rfl, h0⟩ | ⟨g, cap, cur, rfl, _, hg, _⟩
  · have : xs = [] := List.length_eq_zero_iff.1 h0
    subst this
    exact ⟨none, 0, rfl, ⟨rfl, hl, .inl rfl⟩, fun _ => rfl⟩
  · refine ⟨some ⟨g, 0, none⟩, cap, rfl, ⟨rfl, hl, .inr ⟨g, 0, rfl, (Array.getElem?_eq_some_iff.1 hg).1, fun i hi => ?_⟩⟩, fun e => by simp at e⟩
    obtain ⟨c0, c1⟩ := plc_get xs i hi
    have k0 := h.cells (g := g) rfl _ _ c0
    have k1 := h.cells (g := g) rfl _ _ c1
    rw [Go.WideShapes.add_plain] at k0 k1
    exact ⟨k0, k1⟩

/-- the order of numbers -/
def cmpI (a b : Int) : Int := if a < b then -1 else if b < a then 1 else 0
def cmpP (a b : Pl) : Int := if a.r = b.r then cmpI a.a b.a else cmpI a.r b.r

theorem nan_int (x : Int) (w : World) : Calls Tryz.prog 207 #[.int .i64 x] w fun e w' => e = .returned (.bool false) ∧ w' = w := by
  go_enter Tryz.func207, Tryz.ntmps207
  go_wp2
  go_ret
  exact ⟨by simp, rfl⟩

set_option maxHeartbeats 400000 in
theorem cmp_int (x y : Int) (w : World) : Calls Tryz.prog 186 #[.int .i64 x, .int .i64 y] w fun e w' => e = .returned (.int .i64 (cmpI x y)) ∧ w' = w := by
  unfold cmpI
  by_cases h1 : x < y
  · go_enter Tryz.func186, Tryz.ntmps186
    go_wp2_with (go_at_call 207; refine (nan_int _ _).mono ?_; rintro e w' ⟨rfl, rfl⟩)
    go_ret
    exact ⟨by simp, rfl⟩
  · by_cases h2 : y < x
    · go_enter Tryz.func186, Tryz.ntmps186
      go_wp2_with (go_at_call 207; refine (nan_int _ _).mono ?_; rintro e w' ⟨rfl, rfl⟩)
      go_ret
      exact ⟨by simp, rfl⟩
    · go_enter Tryz.func186, Tryz.ntmps186
      go_wp2_with (go_at_call 207; refine (nan_int _ _).mono ?_; rintro e w' ⟨rfl, rfl⟩)
      go_ret
      exact ⟨by simp, rfl⟩

set_option maxHeartbeats 400000 in
theorem compare_any (p q : Pl) (w : World) : Calls Tryz.prog 140 #[.agg #[.int .i64 p.r, .int .i64 p.a], .agg #[.int .i64 q.r, .int .i64 q.a]] w fun e w' => e = .returned (.int .i64 (cmpP p q)) ∧ Below w.heap.size w w' := by
  unfold cmpP
  obtain ⟨r, a⟩ := p
  obtain ⟨r', a'⟩ := q
  by_cases h : r = r'
  · subst h
    go_enter Tryz.func140, Tryz.ntmps140
    go_wp2_with (go_at_call 186; refine (cmp_int _ _ _).mono ?_; rintro e w' ⟨rfl, rfl⟩)
    go_ret
    exact ⟨by simp, ((Below.refl _ _).alloc (Nat.le_refl _) _).alloc (by simp) _⟩
  · go_enter Tryz.func140, Tryz.ntmps140
    go_wp2_with (go_at_call 186; refine (cmp_int _ _ _).mono ?_; rintro e w' ⟨rfl, rfl⟩)
    go_ret
    exact ⟨by simp, ((Below.refl _ _).alloc (Nat.le_refl _) _).alloc (by simp) _⟩

/-- a place that may be -/
def okB (p : Pl) : Bool := decide (1 ≤ p.r) && decide (p.r ≤ 1073741824) && decide (0 ≤ p.a) && decide (p.a < 1073741824)
def follB (p q : Pl) : Bool := okB q && decide (cmpP p q < 0)

theorem compare_as (p q : Pl) (c : Int) (hc : cmpP p q = c) (w : World) : Calls Tryz.prog 140 #[.agg #[.int .i64 p.r, .int .i64 p.a], .agg #[.int .i64 q.r, .int .i64 q.a]] w fun e w' => e = .returned (.int .i64 c) ∧ Below w.heap.size w w' := by
  rw [← hc]; exact compare_any p q w

set_option maxHeartbeats 1000000 in
theorem follows_any (p q : Pl) (w : World) : Calls Tryz.prog 111 #[.agg #[.int .i64 p.r, .int .i64 p.a], .agg #[.int .i64 q.r, .int .i64 q.a]] w fun e w' => e = .returned (.bool (follB p q)) ∧ Below w.heap.size w w' := by
  obtain ⟨c, hc⟩ : ∃ c, cmpP p q = c := ⟨_, rfl⟩
  have HC : Hid (cmpP p q = c) := hc
  obtain ⟨b1, e1⟩ : ∃ b, decide ((1 : Int) ≤ q.r) = b := ⟨_, rfl⟩
  obtain ⟨b2, e2⟩ : ∃ b, decide (q.r ≤ 1073741824) = b := ⟨_, rfl⟩
  obtain ⟨b3, e3⟩ : ∃ b, decide ((0 : Int) ≤ q.a) = b := ⟨_, rfl⟩
  obtain ⟨b4, e4⟩ : ∃ b, decide (q.a < 1073741824) = b := ⟨_, rfl⟩
  have HF : Hid (follB p q = (b1 && b2 && b3 && b4 && decide (c < 0))) := by
    show _ = _
    rw [follB, okB, hc, e1, e2, e3, e4]
  clear hc
  cases b1
  · go_enter Tryz.func111, Tryz.ntmps111
    go_wp2
    go_ret
    exact ⟨pret_bool (by rw [HF.out]; simp), ((Below.refl _ _).alloc (Nat.le_refl _) _).alloc (by simp) _⟩
  · cases b2
    · go_enter Tryz.func111, Tryz.ntmps111
      go_wp2
      go_ret
      exact ⟨pret_bool (by rw [HF.out]; simp), ((Below.refl _ _).alloc (Nat.le_refl _) _).alloc (by simp) _⟩
    · cases b3
      · go_enter Tryz.func111, Tryz.ntmps111
        go_wp2
        go_ret
        exact ⟨pret_bool (by rw [HF.out]; simp), ((Below.refl _ _).alloc (Nat.le_refl _) _).alloc (by simp) _⟩
      · cases b4
        · go_enter Tryz.func111, Tryz.ntmps111
          go_wp2
          go_ret
          exact ⟨pret_bool (by rw [HF.out]; simp), ((Below.refl _ _).alloc (Nat.le_refl _) _).alloc (by simp) _⟩
        · go_enter Tryz.func111, Tryz.ntmps111
          go_wp2_with fail
          refine (compare_as p q c HC.out _).mono ?_
          rintro _ w1 ⟨rfl, hb1⟩
          go_wp2
          go_ret
          exact ⟨pret_bool (by rw [HF.out]; simp), (((Below.refl _ _).alloc (Nat.le_refl _) _).alloc (by simp) _).trans (hb1.mono (by simp; omega))⟩
end Go.Proofs.YtabcficlnhajeaaGreatDoor
namespace Go.Proofs.YtabcficlnhajeaaGreatDoor
open Go.RowKit

def rightFrom : Pl → List Pl → Bool
  | _, [] => true
  | p, q :: l => follB p q && rightFrom q l
def rightL (l : List Pl) : Bool := rightFrom ⟨0, 0⟩ l

theorem right_drop (p : Pl) (xs : List Pl) (k : Nat) (hk : k < xs.length) (R : Bool) (h : rightFrom p (xs.drop k) = R) : (follB p xs[k] = false → R = false) ∧ (follB p xs[k] = true → rightFrom xs[k] (xs.drop (k + 1)) = R) := by
  rw [List.drop_eq_getElem_cons hk, rightFrom] at h
  constructor
  · intro e; rw [e] at h; simpa using h.symm
  · intro e; rw [e] at h; simpa using h

/-- a variable that holds a place -/
def VarP (B : Nat) (p : Pl) (w : World) : Prop := w.cell? ⟨B, 0, none⟩ = some (.int .i64 p.r) ∧ w.cell? ⟨B, 1, none⟩ = some (.int .i64 p.a) ∧ w.frozen? ⟨B, 0, none⟩ = false ∧ w.frozen? ⟨B, 1, none⟩ = false ∧ B < w.heap.size

theorem VarP.below {B : Nat} {p : Pl} {w w' : World} (h : VarP B p w) (hb : Below w.heap.size w w') : VarP B p w' := by
  obtain ⟨h1, h2, h3, h4, h5⟩ := h
  have e : w'.heap[B]? = w.heap[B]? := hb.block B h5
  refine ⟨by rw [hb.cell (p := ⟨B, 0, none⟩) h5]; exact h1, by rw [hb.cell (p := ⟨B, 1, none⟩) h5]; exact h2, ?_, ?_, Nat.lt_of_lt_of_le h5 hb.size⟩
  · rw [← h3]; simp only [World.frozen?, e]
  · rw [← h4]; simp only [World.frozen?, e]

theorem VarP.new (w : World) : VarP w.heap.size ⟨0, 0⟩ (w.alloc (.cells #[.int .i64 0, .int .i64 0] 66)) := by
  have hn := heap_alloc_new w (.cells #[.int .i64 0, .int .i64 0] 66)
  refine ⟨by simp, by simp, ?_, ?_, by simp⟩
  · simp only [World.frozen?, hn]; simp
  · simp only [World.frozen?, hn]; simp

theorem VarP.set {B : Nat} {p : Pl} {w : World} (h : VarP B p w) (q : Pl) : VarP B q ((w.setCell ⟨B, 0, none⟩ (.int .i64 q.r)).setCell ⟨B, 1, none⟩ (.int .i64 q.a)) := by
  obtain ⟨h1, h2, h3, h4, h5⟩ := h
  have o : (w.setCell ⟨B, 0, none⟩ (.int .i64 q.r)).cell? ⟨B, 1, none⟩ = some (.int .i64 p.a) := by rw [World.cell?_setCell_other _ _ _ _ (fun e => by cases e)]; exact h2
  refine ⟨?_, World.cell?_setCell_same _ _ _ o, ?_, ?_, ?_⟩
  · rw [World.cell?_setCell_other _ _ _ _ (fun e => by cases e)]; exact World.cell?_setCell_same _ _ _ h1
  · rw [World.frozen?_setCell, World.frozen?_setCell]; exact h3
  · rw [World.frozen?_setCell, World.frozen?_setCell]; exact h4
  · simpa [World.setCell] using h5

theorem follows_as (p q : Pl) (b : Bool) (hb : follB p q = b) (w : World) : Calls Tryz.prog 111 #[.agg #[.int .i64 p.r, .int .i64 p.a], .agg #[.int .i64 q.r, .int .i64 q.a]] w fun e w' => e = .returned (.bool b) ∧ Below w.heap.size w w' := by
  rw [← hb]; exact follows_any p q w

set_option maxRecDepth 100000 in
set_option maxHeartbeats 1000000 in
theorem right_any (a : Option Addr) (len cap : Nat) (xs : List Pl) (w : World) (hr : RowP w a len xs) :
    Calls Tryz.prog 77 #[.slice a len cap] w fun e w' => e = .returned (.bool (rightL xs)) ∧ Below w.heap.size w w' := by
  obtain ⟨rfl, hm, hx⟩ := hr
  have HR : Hid (rightFrom ⟨0, 0⟩ (xs.drop 0) = rightL xs) := rfl
  generalize rightL xs = R at *
  go_enter Tryz.func77, Tryz.ntmps77
  go_wp2
  go_loopw [8] (fun i wr => ∃ (k : Nat) (p : Pl), k ≤ xs.length ∧ i = .int .i64 k ∧ Hid (VarP w.heap.size p wr ∧ Below w.heap.size w wr ∧ rightFrom p (xs.drop k) = R)) (fun i _ => xs.length - (intOf i).toNat)
  case atStart => exact ⟨0, ⟨0, 0⟩, Nat.zero_le _, rfl, VarP.new w, (Below.refl _ _).alloc (Nat.le_refl _) _, HR.out⟩
  case round =>
    clear HR
    obtain ⟨k, p, hk, rfl, hz⟩ := hrel
    by_cases hlt : k < xs.length
    · rcases hx with hx | ⟨b, off, rfl, hb, hrow⟩
      · simp [hx] at hlt
      obtain ⟨g1, g2⟩ := hrow k hlt
      clear hrow
      rw [← hz.out.2.1.cell (p := ⟨b, _, none⟩) hb] at g1 g2
      obtain ⟨hR1, hR2⟩ := right_drop p xs k hlt R hz.out.2.2
      have i1 : (k : Int) < (xs.length : Int) := by omega
      generalize xs[k] = q at *
      have HV : Hid (VarP w.heap.size p wr) := hz.out.1
      have HB : Hid (Below w.heap.size w wr) := hz.out.2.1
      have H1 : Hid _ := hR1
      have H2 : Hid _ := hR2
      clear hz hR1 hR2
      have HA : Hid (Below wr.heap.size wr (wr.alloc (.cells #[.int .i64 q.r, .int .i64 q.a] 66))) := (Below.refl _ _).alloc (Nat.le_refl _) _
      have HV1 : Hid (VarP w.heap.size p (wr.alloc (.cells #[.int .i64 q.r, .int .i64 q.a] 66))) := VarP.below HV.out HA.out
      obtain ⟨c1, c2, f1, f2, _⟩ := HV1.out
      have c3 : (wr.alloc (.cells #[.int .i64 q.r, .int .i64 q.a] 66)).cell? ⟨wr.heap.size, 0, none⟩ = some (.int .i64 q.r) := by simp
      have c4 : (wr.alloc (.cells #[.int .i64 q.r, .int .i64 q.a] 66)).cell? ⟨wr.heap.size, 1, none⟩ = some (.int .i64 q.a) := by simp
      go_wp2_with fail
      obtain ⟨bb, hbb⟩ : ∃ bb, follB p q = bb := ⟨_, rfl⟩
      refine (follows_as p q bb hbb _).mono ?_
      rintro _ w2 ⟨rfl, hb2⟩
      have HV2 : Hid (VarP w.heap.size p w2) := VarP.below HV1.out hb2
      have HW2 : Hid (Below w.heap.size w w2) := (HB.out.trans (HA.out.mono HB.out.size)).trans (hb2.mono (by have := HB.out.size; simp; omega))
      rw [← hb2.cell (p := ⟨wr.heap.size, 0, none⟩) (by simp)] at c3
      rw [← hb2.cell (p := ⟨wr.heap.size, 1, none⟩) (by simp)] at c4
      clear c1 c2 f1 f2 hb2 HV1 HA HV HB g1 g2
      cases bb
      · have e := H1.out hbb
        subst e
        go_wp2
        go_ret
        exact ⟨rfl, HW2.out⟩
      · have HR : Hid _ := H2.out hbb
        clear H1 H2 hbb
        obtain ⟨c1, c2, f1, f2, _⟩ := HV2.out
        go_wp2
        go_roundw
        case rel => exact ⟨k + 1, q, by omega, by go_num, HV2.out.set q, (HW2.out.setCell (p := ⟨_, 0, none⟩) (Nat.le_refl _) _).setCell (p := ⟨_, 1, none⟩) (Nat.le_refl _) _, HR.out⟩
        case measure => simp [intOf]; omega
    · have e : R = true := by
        have := hz.out.2.2
        rw [List.drop_eq_nil_of_le (by omega)] at this
        exact this.symm
      subst e
      go_wp2
      go_ret
      exact ⟨rfl, hz.out.2.1⟩

theorem stoodPl : Tryz.prog.stoodInHeld 66 = false := by kernel_rfl
theorem guardPl : Tryz.prog.eqGuardType Tryz.prog.depth 66 = false := by kernel_rfl
end Go.Proofs.YtabcficlnhajeaaGreatDoor
namespace Go.Proofs.YtabcficlnhajeaaGreatDoor
open Go.RowKit

/-- a number, seven bits a byte, the least ones first -/
def numL (n : Nat) : List UInt8 := if n < 128 then [UInt8.ofNat n] else UInt8.ofNat (n % 128 + 128) :: numL (n / 128)
termination_by n
decreasing_by omega
theorem numL_small {n : Nat} (h : n < 128) : numL n = [UInt8.ofNat n] := by rw [numL, if_pos h]
theorem numL_big {n : Nat} (h : ¬ n < 128) : numL n = UInt8.ofNat (n % 128 + 128) :: numL (n / 128) := by rw [numL, if_neg h]

/-- bytes, as cells -/
def bcs (l : List UInt8) : List Value := l.map fun b => Value.int .u8 b.toNat
theorem bcs_append (a b : List UInt8) : bcs (a ++ b) = bcs a ++ bcs b := by simp [bcs]

/-- only the row that is appended to, and what is new, has changed -/
def Gr (w w' : World) (v v' : Value) : Prop := w.grownBy w' v.ownBlock ∧ ∀ k, v'.ownBlock = some k → v.ownBlock = some k ∨ w.heap.size ≤ k
theorem Gr.refl (w : World) (v : Value) : Gr w w v v := ⟨⟨rfl, rfl, rfl, Nat.le_refl _, fun _ _ _ => rfl⟩, fun _ h => .inl h⟩
theorem Gr.trans {w w1 w2 : World} {v v1 v2 : Value} (h : Gr w w1 v v1) (k : Gr w1 w2 v1 v2) : Gr w w2 v v2 := by
  have hs := h.1.size
  refine ⟨⟨k.1.os.trans h.1.os, k.1.tape.trans h.1.tape, k.1.output.trans h.1.output, Nat.le_trans hs k.1.size, fun b hb hn => ?_⟩, fun b hb => ?_⟩
  · rw [k.1.block b (Nat.lt_of_lt_of_le hb hs) (fun e => by
      rcases h.2 b e.symm with h2 | h2
      · exact hn h2.symm
      · omega), h.1.block b hb hn]
  · rcases k.2 b hb with h2 | h2
    · exact h.2 b h2
    · exact .inr (Nat.le_trans hs h2)
theorem Gr.alloc {w w' : World} {v v' : Value} (o : Obj) (h : Gr (w.alloc o) w' v v') : Gr w w' v v' := by
  have hs := h.1.size
  simp at hs
  refine ⟨⟨h.1.os, h.1.tape, h.1.output, by omega, fun b hb hn => ?_⟩, fun b hb => ?_⟩
  · rw [h.1.block b (by simp; omega) hn]
    exact ((Below.refl _ w).alloc (Nat.le_refl _) o).block b hb
  · rcases h.2 b hb with h2 | h2
    · exact .inl h2
    · exact .inr (by simp at h2; omega)
theorem Gr.below {w w' : World} {v v' : Value} {B : Nat} (h : Gr w w' v v') (hv : ∀ k, v.ownBlock = some k → B ≤ k) (hB : B ≤ w.heap.size) : Below B w w' :=
  (Below.refl B w).grown h.1 hB hv
theorem own_slice (g n c : Nat) : (Value.slice (some ⟨g, 0, none⟩) n c).ownBlock = some g := rfl

def natOf : Value → Nat
  | .int _ n => n.toNat
  | _ => 0

theorem one_byteP (x : Int) : ∀ u ∈ [Value.int .u8 x], u.oneCell' = true := by intro y hy; simp at hy; subst hy; rfl

set_option maxRecDepth 100000 in
set_option maxHeartbeats 1000000 in
theorem appendNumber_any (B : Nat) (v : Value) (l : List UInt8) (n : Nat) (w : World) (hown : w.ownsRow B 5 1 v l.length (bcs l)) (hB : B ≤ w.heap.size) (hl : (l ++ numL n).length ≤ 1000000) (hn : n < 18446744073709551616) :
    Calls Tryz.prog 78 #[v, .int .u64 n] w fun e w' => ∃ v', e = .returned v' ∧ w'.ownsRow B 5 1 v' (l ++ numL n).length (bcs (l ++ numL n)) ∧ Gr w w' v v' := by
  obtain ⟨i0, hi, hz0, hz1, hz2⟩ := pinfo_parts infoByte
  obtain ⟨T, hT⟩ : ∃ T, l ++ numL n = T := ⟨_, rfl⟩
  rw [hT] at hl ⊢
  have HT : Hid (l ++ numL n = T) := hT
  clear hT
  go_enter Tryz.func78, Tryz.ntmps78
  go_wp2
  go_loopw [0, 1] (fun x i wr => ∃ (l : List UInt8) (m : Nat), m < 18446744073709551616 ∧ i = .int .u64 m ∧ Hid (l ++ numL m = T) ∧ Hid (wr.ownsRow B 5 1 x l.length (bcs l) ∧ Gr w wr v x)) (fun _ i _ => natOf i)
  case atStart => exact ⟨l, n, hn, rfl, HT, hown, Gr.refl _ _⟩
  case round =>
    clear hown HT hn
    obtain ⟨l, m, hm, rfl, hT, hown⟩ := hrel
    have hlen : l.length + 1 ≤ 1000000 := by
      have e := hT.out
      rw [numL] at e
      rw [← e] at hl
      split at hl <;> simp at hl <;> omega
    by_cases hs : m < 128
    · have hs' : ¬ (128 : Int) ≤ (m : Int) := by omega
      go_wp2_with (at_builtin; refine wpList_append_lies _ rfl _ _ 139 rfl B 5 i0 (.int .u8 0) 1 1 Tryz.underlying139 hi hz0 hz1 hz2 rfl (by decide) _ _ _ rfl (hown.out.1.alloc _) ⟨wr.heap.size, 0, none⟩ 1 1 [.int .u8 (m)] rfl rfl (cell_one_new _ _ _) (one_byteP _) (by decide) (by simp [maxLen]; omega) (by omega) (by have := hown.out.2.1.size; simp; omega) _ rfl ?_)
      intro g cap w1 hown' hgrow hg _
      have HB1 : Hid (Gr w w1 v (.slice (some ⟨g, 0, none⟩) (l.length + 1) cap)) := hown.out.2.trans (Gr.alloc _ ⟨hgrow, fun k hk => by
        have e : g = k := by simpa [own_slice] using hk
        subst e
        rcases hg with h | h
        · exact .inl h
        · exact .inr (by rw [h]; simp)⟩)
      have HO1 : Hid (w1.ownsRow B 5 1 (.slice (some ⟨g, 0, none⟩) (l.length + 1) cap) T.length (bcs T)) := by
        have e : l ++ [UInt8.ofNat m] = T := by rw [← hT.out, numL_small hs]
        refine own_eqP hown' (by rw [← e]; simp) ?_
        rw [← e, bcs_append]
        simp [bcs]
        omega
      clear hown hown' hgrow
      go_wp2
      go_ret
      exact ⟨_, rfl, HO1.out, HB1.out⟩
    · have hs' : (128 : Int) ≤ (m : Int) := by omega
      go_wp2_with (at_builtin; refine wpList_append_lies _ rfl _ _ 139 rfl B 5 i0 (.int .u8 0) 1 1 Tryz.underlying139 hi hz0 hz1 hz2 rfl (by decide) _ _ _ rfl (hown.out.1.alloc _) ⟨wr.heap.size, 0, none⟩ 1 1 [.int .u8 ((m : Int) % 128 + 128)] rfl rfl (cell_one_new _ _ _) (one_byteP _) (by decide) (by simp [maxLen]; omega) (by omega) (by have := hown.out.2.1.size; simp; omega) _ rfl ?_)
      intro g cap w1 hown' hgrow hg _
      have HB1 : Hid (Gr w w1 v (.slice (some ⟨g, 0, none⟩) (l.length + 1) cap)) := hown.out.2.trans (Gr.alloc _ ⟨hgrow, fun k hk => by
        have e : g = k := by simpa [own_slice] using hk
        subst e
        rcases hg with h | h
        · exact .inl h
        · exact .inr (by rw [h]; simp)⟩)
      have HT2 : Hid ((l ++ [UInt8.ofNat (m % 128 + 128)]) ++ numL (m / 128) = T) := by
        show _ = _
        rw [← hT.out, numL_big hs]
        simp
      have HO1 : Hid (w1.ownsRow B 5 1 (.slice (some ⟨g, 0, none⟩) (l.length + 1) cap) (l ++ [UInt8.ofNat (m % 128 + 128)]).length (bcs (l ++ [UInt8.ofNat (m % 128 + 128)]))) := by
        refine own_eqP hown' (by simp) ?_
        rw [bcs_append]
        simp [bcs]
        omega
      clear hown hown' hgrow hT
      go_wp2
      go_roundw
      case rel => exact ⟨_, m / 128, by omega, by simp, HT2, HO1.out, HB1.out⟩
      case measure => simp [natOf]; omega
end Go.Proofs.YtabcficlnhajeaaGreatDoor
namespace Go.Proofs.YtabcficlnhajeaaGreatDoor
open Go.RowKit

def encP (p q : Pl) : List UInt8 := if q.r = p.r then numL (2 * (q.a - p.a)).toNat else numL (2 * (q.r - p.r) + 1).toNat ++ numL q.a.toNat
def encFrom : Pl → List Pl → List UInt8
  | _, [] => []
  | p, q :: l => encP p q ++ encFrom q l
def encPl (l : List Pl) : List UInt8 := encFrom ⟨0, 0⟩ l

theorem numL_len (k : Nat) : ∀ n, n < 128 ^ (k + 1) → (numL n).length ≤ k + 1 := by
  induction k with
  | zero => intro n hn; rw [numL_small (by omega)]; simp
  | succ k ih =>
    intro n hn
    by_cases h : n < 128
    · rw [numL_small h]; simp
    · rw [numL_big h, List.length_cons]
      have := ih (n / 128) (by rw [Nat.pow_succ] at hn; omega)
      omega
theorem numL_pos (n : Nat) : 1 ≤ (numL n).length := by rw [numL]; split <;> simp

/-- what is known of two places, the second one right behind the first -/
theorem foll_facts {p q : Pl} (h : follB p q = true) : (1 ≤ q.r ∧ q.r ≤ 1073741824) ∧ (0 ≤ q.a ∧ q.a < 1073741824) ∧ ((q.r = p.r ∧ p.a < q.a) ∨ (q.r ≠ p.r ∧ p.r < q.r)) := by
  simp only [follB, okB, Bool.and_eq_true, decide_eq_true_eq] at h
  obtain ⟨⟨⟨⟨h1, h2⟩, h3⟩, h4⟩, h5⟩ := h
  refine ⟨⟨h1, h2⟩, ⟨h3, h4⟩, ?_⟩
  unfold cmpP cmpI at h5
  by_cases e : p.r = q.r
  · rw [if_pos e] at h5
    refine .inl ⟨e.symm, ?_⟩
    by_cases e2 : p.a < q.a
    · exact e2
    · rw [if_neg e2] at h5
      split at h5 <;> omega
  · rw [if_neg e] at h5
    refine .inr ⟨fun x => e x.symm, ?_⟩
    by_cases e2 : p.r < q.r
    · exact e2
    · rw [if_neg e2] at h5
      split at h5 <;> omega

/-- the place ahead: none yet, or one that may be -/
def Ahead (p : Pl) : Prop := 0 ≤ p.r ∧ p.r ≤ 1073741824 ∧ 0 ≤ p.a ∧ p.a < 1073741824

theorem enc_len (l : List Pl) : ∀ p, Ahead p → rightFrom p l = true → (encFrom p l).length ≤ 10 * l.length ∧ l.length ≤ (encFrom p l).length := by
  induction l with
  | nil => intro p _ _; simp [encFrom]
  | cons q l ih =>
    intro p hp h
    simp only [rightFrom, Bool.and_eq_true] at h
    obtain ⟨⟨a1, a2⟩, ⟨a3, a4⟩, h5⟩ := foll_facts h.1
    obtain ⟨b1, b2, b3, b4⟩ := hp
    have := ih q ⟨by omega, by omega, by omega, by omega⟩ h.2
    simp only [encFrom, List.length_append, List.length_cons]
    unfold encP
    split
    · have k1 := numL_len 4 (2 * (q.a - p.a)).toNat (by omega)
      have k2 := numL_pos (2 * (q.a - p.a)).toNat
      omega
    · have k1 := numL_len 4 (2 * (q.r - p.r) + 1).toNat (by omega)
      have k2 := numL_len 4 q.a.toNat (by omega)
      have k3 := numL_pos (2 * (q.r - p.r) + 1).toNat
      simp only [List.length_append]
      omega

theorem appendNumber_as (x : Int) (h0 : 0 ≤ x) (hx : x < 18446744073709551616) (B : Nat) (v : Value) (l : List UInt8) (w : World) (hown : w.ownsRow B 5 1 v l.length (bcs l)) (hB : B ≤ w.heap.size) (hl : (l ++ numL x.toNat).length ≤ 1000000) :
    Calls Tryz.prog 78 #[v, .int .u64 x] w fun e w' => ∃ v', e = .returned v' ∧ w'.ownsRow B 5 1 v' (l ++ numL x.toNat).length (bcs (l ++ numL x.toNat)) ∧ Gr w w' v v' := by
  have h := appendNumber_any B v l x.toNat w hown hB hl (by omega)
  rw [Int.toNat_of_nonneg h0] at h
  exact h

theorem grownBy_setP (W : World) (b o : Nat) (v : Value) : W.grownBy (W.setCell ⟨b, o, none⟩ v) (some b) :=
  ⟨rfl, rfl, rfl, by simp [World.setCell], fun k _ hk => Below.heap_setCell W ⟨b, o, none⟩ v k (fun e => hk (by rw [e]))⟩
theorem own_set {w : World} {B : Nat} {t : TypeId} {z : Nat} {v : Value} {n : Nat} {xs : List Value} (h : w.ownsRow B t z v n xs) (b o : Nat) (hb : b < B) (u : Value) : (w.setCell ⟨b, o, none⟩ u).ownsRow B t z v n xs := by
  refine h.kept (grownBy_setP w b o u) ?_
  cases e : v.ownBlock with
  | none => exact .inl rfl
  | some k => exact .inr (fun e2 => by have := (h.lt k e).1; cases e2; omega)
theorem VarP.gr {B : Nat} {p : Pl} {w w' : World} {v v' : Value} (h : VarP B p w) (hg : Gr w w' v v') (hn : v.ownBlock ≠ some B) : VarP B p w' := by
  obtain ⟨h1, h2, h3, h4, h5⟩ := h
  have e : w'.heap[B]? = w.heap[B]? := hg.1.block B h5 (fun e => hn e.symm)
  refine ⟨?_, ?_, ?_, ?_, Nat.lt_of_lt_of_le h5 hg.1.size⟩
  · rw [← h1]; exact World.cell?_of_block e
  · rw [← h2]; exact World.cell?_of_block e
  · rw [← h3]; exact World.frozen?_of_block e
  · rw [← h4]; exact World.frozen?_of_block e
theorem VarP.box (w : World) (q : Pl) : VarP w.heap.size q (w.alloc (.cells #[.int .i64 q.r, .int .i64 q.a] 66)) := by
  have hn := heap_alloc_new w (.cells #[.int .i64 q.r, .int .i64 q.a] 66)
  refine ⟨by simp, by simp, ?_, ?_, by simp⟩
  · simp only [World.frozen?, hn]; simp
  · simp only [World.frozen?, hn]; simp
theorem own_ne {w : World} {B : Nat} {t : TypeId} {z : Nat} {v : Value} {n : Nat} {xs : List Value} (h : w.ownsRow B t z v n xs) (b : Nat) (hb : b < B ∨ w.heap.size ≤ b) : v.ownBlock ≠ some b := fun e => by
  have := h.lt b e
  omega

theorem conv_nil (w : World) : (convert 139 9 (.slice none 0 0)).run Tryz.prog w = .ok (.string ⟨#[]⟩) w := by kernel_rfl
/-- the text of a row of bytes -/
theorem bytes_text {w : World} {B : Nat} {v : Value} {l : List UInt8} (h : w.ownsRow B 5 1 v l.length (bcs l)) : (convert 139 9 v).run Tryz.prog w = .ok (.string ⟨l.toArray⟩) w := by
  rcases h.2 with ⟨rfl, h0⟩ | ⟨g, cap, cur, rfl, _, hg, _⟩
  · have : l = [] := List.length_eq_zero_iff.1 h0
    subst this
    exact conv_nil w
  · exact run_convert_bytes_back (P := Tryz.prog) w 139 9 5 ⟨g, 0, none⟩ cap l Tryz.underlying139 Tryz.underlying5 Tryz.underlying9 (fun j hj => h.cells (g := g) rfl j _ (by simp [bcs, hj]))

theorem right_as (b : Bool) (a : Option Addr) (len cap : Nat) (xs : List Pl) (hb : rightL xs = b) (w : World) (hr : RowP w a len xs) :
    Calls Tryz.prog 77 #[.slice a len cap] w fun e w' => e = .returned (.bool b) ∧ Below w.heap.size w w' := by
  rw [← hb]; exact right_any a len cap xs w hr

set_option maxRecDepth 100000 in
set_option maxHeartbeats 1000000 in
theorem write_no (a : Option Addr) (len cap : Nat) (xs : List Pl) (w : World) (hr : RowP w a len xs) (hn : rightL xs = false) :
    Calls Tryz.prog 47 #[.slice a len cap] w fun e w' => e = .returned (.tuple #[.string ⟨#[]⟩, .iface 30 (.int .i64 1)]) ∧ Below w.heap.size w w' := by
  have HR : Hid (RowP w a len xs ∧ rightL xs = false) := ⟨hr, hn⟩
  clear hr hn
  go_enter Tryz.func47, Tryz.ntmps47
  go_wp2_with fail
  refine (right_as false a len cap xs HR.out.2 w HR.out.1).mono ?_
  rintro _ w1 ⟨rfl, hb1⟩
  go_wp2
  go_ret2
  exact ⟨rfl, hb1⟩

set_option maxRecDepth 100000 in
set_option maxHeartbeats 2000000 in
theorem write_yes (a : Option Addr) (len cap : Nat) (xs : List Pl) (w : World) (hr : RowP w a len xs) (hn : rightL xs = true) (hl : xs.length ≤ 1000) :
    Calls Tryz.prog 47 #[.slice a len cap] w fun e w' => e = .returned (.tuple #[.string ⟨(encPl xs).toArray⟩, .nilIface]) ∧ Below w.heap.size w w' := by
  have HR : Hid (RowP w a len xs ∧ rightL xs = true) := ⟨hr, hn⟩
  obtain ⟨rfl, _, _⟩ := hr
  clear hn
  obtain ⟨T, hT⟩ : ∃ T, encPl xs = T := ⟨_, rfl⟩
  have HT : Hid (encFrom ⟨0, 0⟩ (xs.drop 0) = T ∧ T.length ≤ 10000) := ⟨hT, by
    have := (enc_len xs ⟨0, 0⟩ ⟨by decide, by decide, by decide, by decide⟩ HR.out.2).1
    rw [← hT]
    show (encFrom ⟨0, 0⟩ xs).length ≤ 10000
    omega⟩
  rw [hT]
  clear hT
  go_enter Tryz.func47, Tryz.ntmps47
  go_wp2_with fail
  refine (right_as true a _ cap xs HR.out.2 w HR.out.1).mono ?_
  rintro _ w1 ⟨rfl, hb1⟩
  have HB1 : Hid (Below w.heap.size w w1) := hb1
  have hx := (RowP.below HR.out.1 hb1).2.2
  clear hb1
  go_wp2
  go_loopw [4, 14] (fun v i wr => ∃ (k : Nat) (p : Pl) (l : List UInt8), k ≤ xs.length ∧ i = .int .i64 k ∧ Hid (VarP w1.heap.size p wr ∧ Below w1.heap.size w1 wr ∧ rightFrom p (xs.drop k) = true ∧ l ++ encFrom p (xs.drop k) = T) ∧ Hid (wr.ownsRow (w1.heap.size + 1) 5 1 v l.length (bcs l)) ∧ Hid (Ahead p)) (fun _ i _ => xs.length - (intOf i).toNat)
  case atStart => exact ⟨0, ⟨0, 0⟩, [], Nat.zero_le _, rfl, ⟨VarP.new w1, (Below.refl _ _).alloc (Nat.le_refl _) _, HR.out.2, HT.out.1⟩, World.ownsRow_nil _ _ _ _, ⟨by decide, by decide, by decide, by decide⟩⟩
  case round =>
    obtain ⟨k, p, l, hk, rfl, hz, hown, hahead⟩ := hrel
    by_cases hlt : k < xs.length
    · rcases hx with hx | ⟨b, off, rfl, hb, hrow⟩
      · simp [hx] at hlt
      obtain ⟨g1, g2⟩ := hrow k hlt
      clear hrow
      rw [← hz.out.2.1.cell (p := ⟨b, _, none⟩) hb] at g1 g2
      have hf : follB p xs[k] = true ∧ rightFrom xs[k] (xs.drop (k + 1)) = true ∧ (l ++ encP p xs[k]) ++ encFrom xs[k] (xs.drop (k + 1)) = T := by
        have h1 := hz.out.2.2.1
        have h2 := hz.out.2.2.2
        rw [List.drop_eq_getElem_cons hlt, rightFrom, Bool.and_eq_true] at h1
        rw [List.drop_eq_getElem_cons hlt, encFrom] at h2
        exact ⟨h1.1, h1.2, by rw [List.append_assoc]; exact h2⟩
      have i1 : (k : Int) < (xs.length : Int) := by omega
      generalize xs[k] = q at *
      obtain ⟨⟨a1, a2⟩, ⟨a3, a4⟩, h5⟩ := foll_facts hf.1
      obtain ⟨b1, b2, b3, b4⟩ := hahead.out
      have HF : Hid (rightFrom q (xs.drop (k + 1)) = true ∧ (l ++ encP p q) ++ encFrom q (xs.drop (k + 1)) = T) := hf.2
      have HV : Hid (VarP w1.heap.size p wr) := hz.out.1
      have HB : Hid (Below w1.heap.size w1 wr) := hz.out.2.1
      have HL : Hid ((l ++ encP p q).length ≤ 10000) := by
        show _ ≤ _
        have h1 := HT.out.2
        rw [← hf.2.2] at h1
        rw [List.length_append] at h1
        omega
      clear hz hahead hf
      have HA : Hid (Below wr.heap.size wr (wr.alloc (.cells #[.int .i64 q.r, .int .i64 q.a] 66))) := (Below.refl _ _).alloc (Nat.le_refl _) _
      have HV1 : Hid (VarP w1.heap.size p (wr.alloc (.cells #[.int .i64 q.r, .int .i64 q.a] 66))) := VarP.below HV.out HA.out
      have HO1 : Hid ((wr.alloc (.cells #[.int .i64 q.r, .int .i64 q.a] 66)).ownsRow (w1.heap.size + 1) 5 1 u4 l.length (bcs l)) := own_belowP hown.out HA.out
      obtain ⟨c1, c2, f1, f2, hlt1⟩ := HV1.out
      have c3 : (wr.alloc (.cells #[.int .i64 q.r, .int .i64 q.a] 66)).cell? ⟨wr.heap.size, 0, none⟩ = some (.int .i64 q.r) := by simp
      have c4 : (wr.alloc (.cells #[.int .i64 q.r, .int .i64 q.a] 66)).cell? ⟨wr.heap.size, 1, none⟩ = some (.int .i64 q.a) := by simp
      rcases h5 with ⟨h5, h6⟩ | ⟨h5, h6⟩
      · have HQ : Hid (l ++ numL (2 * (q.a - p.a)).toNat = l ++ encP p q) := by show _ = _; rw [encP, if_pos h5]
        have HL2 : Hid ((l ++ numL (2 * (q.a - p.a)).toNat).length ≤ 1000000) := by show _ ≤ _; rw [HQ.out]; have := HL.out; omega
        have hd1 : (q.r != p.r) = false := by simp [h5]
        clear h5
        have HC1 : Hid (VarP wr.heap.size q (wr.alloc (.cells #[.int .i64 q.r, .int .i64 q.a] 66))) := VarP.box wr q
        have HN1 : Hid (u4.ownBlock ≠ some wr.heap.size) := own_ne hown.out _ (.inr (Nat.le_refl _))
        have HB1' : Hid (Below w1.heap.size w1 (wr.alloc (.cells #[.int .i64 q.r, .int .i64 q.a] 66))) := HB.out.trans (HA.out.mono HB.out.size)
        have HS1 : Hid (w1.heap.size + 1 ≤ (wr.alloc (.cells #[.int .i64 q.r, .int .i64 q.a] 66)).heap.size) := by show _ ≤ _; omega
        go_wp2_with fail
        refine (appendNumber_as (2 * (q.a - p.a)) (by omega) (by omega) (w1.heap.size + 1) u4 l _ HO1.out HS1.out HL2.out).mono ?_
        rintro _ w2 ⟨v2, rfl, ho2, hg2⟩
        have HO2 : Hid (w2.ownsRow (w1.heap.size + 1) 5 1 v2 (l ++ numL (2 * (q.a - p.a)).toNat).length (bcs (l ++ numL (2 * (q.a - p.a)).toNat))) := ho2
        have HV2 : Hid (VarP w1.heap.size p w2) := VarP.gr HV1.out hg2 (own_ne HO1.out _ (.inl (by omega)))
        have HC2 : Hid (VarP wr.heap.size q w2) := VarP.gr HC1.out hg2 HN1.out
        have HB2 : Hid (Below w1.heap.size w1 w2) := HB1'.out.trans (hg2.below (fun k hk => by have := (HO1.out.lt k hk).1; omega) (by have := HS1.out; omega))
        have HS2 : Hid (w1.heap.size + 1 ≤ w2.heap.size) := Nat.le_trans HS1.out hg2.1.size
        clear ho2 hg2 c1 c2 c3 c4 f1 f2 HO1 HV1 HC1 HN1 HB1' HS1 g1 g2 HA HB HV hd1 hown
        obtain ⟨c1, c2, f1, f2, _⟩ := HV2.out
        obtain ⟨c3, c4, _, _, _⟩ := HC2.out
        go_wp2
        go_roundw
        case rel => exact ⟨k + 1, q, l ++ numL (2 * (q.a - p.a)).toNat, by omega, by go_num, ⟨HV2.out.set q, (HB2.out.setCell (p := ⟨_, 0, none⟩) (Nat.le_refl _) _).setCell (p := ⟨_, 1, none⟩) (Nat.le_refl _) _, HF.out.1, by rw [HQ.out]; exact HF.out.2⟩, own_set (own_set HO2.out _ _ (by omega) _) _ _ (by omega) _, ⟨by omega, by omega, by omega, by omega⟩⟩
        case measure => simp [intOf]; omega
      · have HQ : Hid ((l ++ numL (2 * (q.r - p.r) + 1).toNat) ++ numL q.a.toNat = l ++ encP p q) := by show _ = _; rw [encP, if_neg h5, List.append_assoc]
        have HL3 : Hid (((l ++ numL (2 * (q.r - p.r) + 1).toNat) ++ numL (q.a).toNat).length ≤ 1000000) := by show _ ≤ _; rw [HQ.out]; have := HL.out; omega
        have HL2 : Hid ((l ++ numL (2 * (q.r - p.r) + 1).toNat).length ≤ 1000000) := by show _ ≤ _; have := HL3.out; rw [List.length_append] at this; omega
        have HC1 : Hid (VarP wr.heap.size q (wr.alloc (.cells #[.int .i64 q.r, .int .i64 q.a] 66))) := VarP.box wr q
        have HN1 : Hid (u4.ownBlock ≠ some wr.heap.size) := own_ne hown.out _ (.inr (Nat.le_refl _))
        have HB1' : Hid (Below w1.heap.size w1 (wr.alloc (.cells #[.int .i64 q.r, .int .i64 q.a] 66))) := HB.out.trans (HA.out.mono HB.out.size)
        have HS1 : Hid (w1.heap.size + 1 ≤ (wr.alloc (.cells #[.int .i64 q.r, .int .i64 q.a] 66)).heap.size) := by show _ ≤ _; omega
        go_wp2_with fail
        refine (appendNumber_as (2 * (q.r - p.r) + 1) (by omega) (by omega) (w1.heap.size + 1) u4 l _ HO1.out HS1.out HL2.out).mono ?_
        rintro _ w2 ⟨v2, rfl, ho2, hg2⟩
        have HO2 : Hid (w2.ownsRow (w1.heap.size + 1) 5 1 v2 (l ++ numL (2 * (q.r - p.r) + 1).toNat).length (bcs (l ++ numL (2 * (q.r - p.r) + 1).toNat))) := ho2
        have HV2 : Hid (VarP w1.heap.size p w2) := VarP.gr HV1.out hg2 (own_ne HO1.out _ (.inl (by omega)))
        have HC2 : Hid (VarP wr.heap.size q w2) := VarP.gr HC1.out hg2 HN1.out
        have HB2 : Hid (Below w1.heap.size w1 w2) := HB1'.out.trans (hg2.below (fun k hk => by have := (HO1.out.lt k hk).1; omega) (by have := HS1.out; omega))
        have HS2 : Hid (w1.heap.size + 1 ≤ w2.heap.size) := Nat.le_trans HS1.out hg2.1.size
        have HN2 : Hid (v2.ownBlock ≠ some wr.heap.size) := fun e => by
          rcases hg2.2 _ e with h | h
          · exact HN1.out h
          · simp at h
            omega
        clear ho2 hg2 c1 c2 c3 c4 f1 f2 HO1 HV1 HC1 HN1 HB1' HS1 g1 g2 HA HB HV hown
        obtain ⟨c3, c4, _, _, _⟩ := HC2.out
        go_wp2_with fail
        refine (appendNumber_as (q.a) (by omega) (by omega) (w1.heap.size + 1) v2 (l ++ numL (2 * (q.r - p.r) + 1).toNat) _ HO2.out HS2.out HL3.out).mono ?_
        rintro _ w3 ⟨v3, rfl, ho3, hg3⟩
        have HO3 : Hid (w3.ownsRow (w1.heap.size + 1) 5 1 v3 ((l ++ numL (2 * (q.r - p.r) + 1).toNat) ++ numL (q.a).toNat).length (bcs ((l ++ numL (2 * (q.r - p.r) + 1).toNat) ++ numL (q.a).toNat))) := ho3
        have HV3 : Hid (VarP w1.heap.size p w3) := VarP.gr HV2.out hg3 (own_ne HO2.out _ (.inl (by omega)))
        have HC3 : Hid (VarP wr.heap.size q w3) := VarP.gr HC2.out hg3 HN2.out
        have HB3 : Hid (Below w1.heap.size w1 w3) := HB2.out.trans (hg3.below (fun k hk => by have := (HO2.out.lt k hk).1; omega) (by have := HS2.out; omega))
        have HS3 : Hid (w1.heap.size + 1 ≤ w3.heap.size) := Nat.le_trans HS2.out hg3.1.size
        clear ho3 hg3 HO2 HV2 HC2 HN2 HB2 HS2 c3 c4
        obtain ⟨c1, c2, f1, f2, _⟩ := HV3.out
        obtain ⟨c3, c4, _, _, _⟩ := HC3.out
        go_wp2
        go_roundw
        case rel => exact ⟨k + 1, q, (l ++ numL (2 * (q.r - p.r) + 1).toNat) ++ numL q.a.toNat, by omega, by go_num, ⟨HV3.out.set q, (HB3.out.setCell (p := ⟨_, 0, none⟩) (Nat.le_refl _) _).setCell (p := ⟨_, 1, none⟩) (Nat.le_refl _) _, HF.out.1, by rw [HQ.out]; exact HF.out.2⟩, own_set (own_set HO3.out _ _ (by omega) _) _ _ (by omega) _, ⟨by omega, by omega, by omega, by omega⟩⟩
        case measure => simp [intOf]; omega
    · have e : l = T := by
        have := hz.out.2.2.2
        rw [List.drop_eq_nil_of_le (by omega), encFrom, List.append_nil] at this
        exact this
      subst e
      have ht := bytes_text hown.out
      go_wp2
      go_ret2
      exact ⟨rfl, HB1.out.trans (hz.out.2.1.mono HB1.out.size)⟩
end Go.Proofs.YtabcficlnhajeaaGreatDoor
