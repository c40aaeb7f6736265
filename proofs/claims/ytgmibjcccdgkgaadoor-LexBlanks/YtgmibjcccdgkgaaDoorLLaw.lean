/- LexSplits, walked, if the program's Split does what it should. -/
import Derived.Test.YtgmibjcccdgkgaaDoorLTokH
import Derived.Test.YtgmibjcccdgkgaaDoorLIs
import Derived.Test.YtgmibjcccdgkgaaDoorQText
namespace Go.Proofs.YtgmibjcccdgkgaaDoor
open Go.RowKit

/-- tokens in a row -/
def RowT (w : World) (a : Option Addr) (L : List Tok) : Prop :=
  L.length ≤ 5000 ∧ (L = [] ∨ ∃ b off, a = some ⟨b, off, none⟩ ∧ b < w.heap.size ∧ ∀ j (h : j < L.length), w.cell? ⟨b, off + j * 3, none⟩ = some (.int .i64 L[j].k) ∧ w.cell? ⟨b, off + j * 3 + 1, none⟩ = some (.string L[j].t) ∧ w.cell? ⟨b, off + j * 3 + 2, none⟩ = some (.int .i64 (L[j].p : Int)))
theorem RowT.below {w w' : World} {a : Option Addr} {L : List Tok} (h : RowT w a L) (hb : Below w.heap.size w w') : RowT w' a L := by
  refine ⟨h.1, ?_⟩
  rcases h.2 with h | ⟨b, off, e, hlt, hc⟩
  · exact .inl h
  · refine .inr ⟨b, off, e, Nat.lt_of_lt_of_le hlt hb.size, fun j hj => ?_⟩
    have := hc j hj
    exact ⟨by rw [hb.cell (p := ⟨b, _, none⟩) hlt]; exact this.1, by rw [hb.cell (p := ⟨b, _, none⟩) hlt]; exact this.2.1, by rw [hb.cell (p := ⟨b, _, none⟩) hlt]; exact this.2.2⟩
theorem tc_at (L : List Tok) : ∀ j (h : j < L.length), (tc L)[j * 3]? = some (.int .i64 L[j].k) ∧ (tc L)[j * 3 + 1]? = some (.string L[j].t) ∧ (tc L)[j * 3 + 2]? = some (.int .i64 (L[j].p : Int)) := by
  induction L with
  | nil => intro j h; cases h
  | cons x L ih =>
    intro j h
    have e : tc (x :: L) = .int .i64 x.k :: .string x.t :: .int .i64 (x.p : Int) :: tc L := rfl
    rw [e]
    cases j with
    | zero => exact ⟨rfl, rfl, rfl⟩
    | succ j =>
      have := ih j (by simpa using h)
      rw [show (j + 1) * 3 = j * 3 + 1 + 1 + 1 by omega]
      simpa using this
theorem rowT_of_own {w : World} {B : Nat} {ty : TypeId} {v : Value} {L : List Tok} (h : w.ownsRow B ty 3 v L.length (tc L)) (hl : L.length ≤ 5000) : ∃ a c, v = .slice a L.length c ∧ RowT w a L := by
  rcases h.2 with ⟨rfl, h0⟩ | ⟨g, cap, cur, rfl, _, hg, _⟩
  · have : L = [] := List.length_eq_zero_iff.1 h0
    subst this
    exact ⟨none, 0, rfl, by simp, .inl rfl⟩
  · refine ⟨_, cap, rfl, hl, .inr ⟨g, 0, rfl, (Array.getElem?_eq_some_iff.1 hg).1, fun j hj => ?_⟩⟩
    have t := tc_at L j hj
    have k0 := h.cells (g := g) rfl (j * 3) _ t.1
    have k1 := h.cells (g := g) rfl (j * 3 + 1) _ t.2.1
    have k2 := h.cells (g := g) rfl (j * 3 + 2) _ t.2.2
    rw [Go.WideShapes.add_plain] at k0 k1 k2
    exact ⟨k0, k1, k2⟩
/-- what the program's Split tells -/
def SplitTo (s : ByteArray) (w : World) (e : Ending) (w' : World) : Prop :=
  ∃ a n c E, e = .returned (.tuple #[.slice a n c, E]) ∧ ((∃ (k : Int) (p : Nat), lexS s = .error (k, p) ∧ n = 0 ∧ ErrIs E k p w') ∨ (∃ L, lexS s = .ok L ∧ n = L.length ∧ RowT w' a L ∧ E = .nilIface)) ∧ Below w.heap.size w w'
def VarsAt (w : World) : Prop := MarksAt w ∧ MaxAt w
def LSplitSpec : Prop := ∀ (s : ByteArray) (w : World), s.size ≤ 4000 → VarsAt w → Calls Tryd.prog 6 #[.string s] w fun e w' => SplitTo s w e w'
theorem lexL_len (f : Nat) : ∀ i n l L, lexL f i n l = .ok L → L.length ≤ l.length + 1 := by
  induction f with
  | zero => intro i n l L h; cases h; simp
  | succ f ih =>
    intro i n l L h
    cases l with
    | nil => cases h; simp
    | cons c l =>
      rw [lexL] at h
      split at h
      · have := ih _ _ _ _ h; simp only [List.length_cons]; omega
      · split at h
        · cases h
        · rename_i k t m hm
          have hp := nextT_pos hm
          split at h
          · cases h
          · cases ho : lexL f (i + m) (n + 1) ((c :: l).drop m) with
            | error e => rw [ho] at h; cases h
            | ok M =>
              rw [ho] at h
              have e : L = ⟨k, ⟨t.toArray⟩, i⟩ :: M := by
                have : Except.ok (ε := Int × Nat) (⟨k, ⟨t.toArray⟩, i⟩ :: M) = .ok L := h
                exact (Except.ok.inj this).symm
              have := ih _ _ _ _ ho
              rw [List.length_drop, List.length_cons] at this
              rw [e, List.length_cons, List.length_cons]
              omega
theorem lexS_len {s : ByteArray} {L : List Tok} (h : lexS s = .ok L) (hs : s.size ≤ 4000) : L.length ≤ 5000 := by
  have := lexL_len _ _ _ _ _ h
  rw [ba_len] at this
  omega

set_option maxHeartbeats 1000000 in
theorem splits_long (s : ByteArray) (w : World) (h1 : s.size ≤ maxLen) (h : 1500 < s.size) : Calls Tryd.prog 3 #[.string s] w fun e w' => e = .returned (.bool true) ∧ Below w.heap.size w w' := by
  unfold maxLen at h1
  have d1 : decide ((1500 : Int) < (s.size : Int)) = true := decide_eq_true (by omega)
  go_enter Tryd.func3, Tryd.ntmps3
  go_wp2
  go_ret
  exact ⟨by simp, Below.refl _ _⟩

set_option maxRecDepth 100000 in
set_option maxHeartbeats 4000000 in
theorem splits_short (hT : TokSpec) (hP : LSplitSpec) (s : ByteArray) (w : World) (h : s.size ≤ 1500) (hfn : FineAt w) (hg : HG w) (hva : VarsAt w) : Calls Tryd.prog 3 #[.string s] w fun e w' => e = .returned (.bool true) ∧ Below w.heap.size w w' := by
  have d1 : decide ((1500 : Int) < (s.size : Int)) = false := decide_eq_false (by omega)
  have HT : Hid TokSpec := hT
  have HP : Hid LSplitSpec := hP
  have HEn : Hid (FineAt w ∧ HG w) := ⟨hfn, hg⟩
  have HVa : Hid (VarsAt w) := hva
  have hEB := hg.lt
  clear hT hP hfn hg hva
  go_enter Tryd.func3, Tryd.ntmps3
  go_wp2_with fail
  refine (HT.out s w (by omega) HEn.out.1).mono ?_
  rintro e w1 ⟨hcase, hb1⟩
  have HB1 : Hid (Below w.heap.size w w1) := hb1
  clear hb1
  rcases hcase with ⟨n, p, hR, rfl⟩ | ⟨L, v, hR, rfl, ho⟩
  · have HR : Hid (lexS s = .error (n, p)) := hR
    obtain ⟨W1, hW1⟩ : ∃ W, w1.alloc (.cells #[.int .i64 n, .int .i64 (p : Int)] 25) = W := ⟨_, rfl⟩
    have HBW : Hid (Below w.heap.size w W1) := by rw [← hW1]; exact HB1.out.alloc HB1.out.size _
    have c0 : W1.cell? ⟨w1.heap.size, 0, none⟩ = some (.int .i64 n) := by rw [← hW1]; simp [go_sem]
    have c1 : W1.cell? ⟨w1.heap.size, 1, none⟩ = some (.int .i64 (p : Int)) := by rw [← hW1]; simp [go_sem]
    have hsz : W1.heap.size = w1.heap.size + 1 := by rw [← hW1]; simp
    clear hR
    go_wp2_with fail
    refine (HP.out s W1 (by omega) ⟨HVa.out.1.below HBW.out, HVa.out.2.below HBW.out⟩).mono ?_
    rintro e w2 ⟨a, m, c, E, rfl, hcase, hb2⟩
    rw [HR.out] at hcase
    rcases hcase with ⟨k', p', hR', rfl, hE⟩ | ⟨L, hR', _⟩
    · cases hR'
      have HE : Hid (ErrIs E n (p : Int) w2) := hE
      have k0 : w2.cell? ⟨w1.heap.size, 0, none⟩ = some (.int .i64 n) := (hb2.cell (p := ⟨w1.heap.size, 0, none⟩) (by simp only; omega)).trans c0
      have k1 : w2.cell? ⟨w1.heap.size, 1, none⟩ = some (.int .i64 (p : Int)) := (hb2.cell (p := ⟨w1.heap.size, 1, none⟩) (by simp only; omega)).trans c1
      have HB2 : Hid (Below w.heap.size w w2) := HBW.out.trans (hb2.mono HBW.out.size)
      have HG2 : Hid (HG w2) := HG.below HEn.out.2 HB2.out hEB
      clear hE hb2 c0 c1 hW1
      go_wp2_with fail
      refine (is_any E n (p : Int) w2 HG2.out HE.out).mono ?_
      rintro _ w3 ⟨rfl, hb3⟩
      have HB3 : Hid (Below w.heap.size w w3) := HB2.out.trans (hb3.mono HB2.out.size)
      clear hb3 k0 k1
      go_wp2
      go_loopw [7] (fun i wr => i = .int .i64 0 ∧ wr = w3) (fun _ _ => 0)
      case atStart => exact ⟨rfl, rfl⟩
      case round =>
        obtain ⟨rfl, hwr⟩ := hrel
        obtain rfl : w3 = wr := hwr.symm
        go_wp2
        go_ret
        exact ⟨rfl, HB3.out⟩
    · cases hR'
  · have HR : Hid (lexS s = .ok L) := hR
    have hLl : L.length ≤ 5000 := lexS_len hR (by omega)
    obtain ⟨a1, q1, rfl, hrow1⟩ := rowT_of_own ho hLl
    obtain ⟨W1, hW1⟩ : ∃ W, w1.alloc (.cells #[.int .i64 0, .int .i64 (-1)] 25) = W := ⟨_, rfl⟩
    have hbw : Below w1.heap.size w1 W1 := by rw [← hW1]; exact (Below.refl _ _).alloc (Nat.le_refl _) _
    have HBW : Hid (Below w.heap.size w W1) := HB1.out.trans (hbw.mono HB1.out.size)
    have HRow1 : Hid (RowT W1 a1 L) := hrow1.below hbw
    have c0 : W1.cell? ⟨w1.heap.size, 0, none⟩ = some (.int .i64 0) := by rw [← hW1]; simp [go_sem]
    have c1 : W1.cell? ⟨w1.heap.size, 1, none⟩ = some (.int .i64 (-1)) := by rw [← hW1]; simp [go_sem]
    have hsz : W1.heap.size = w1.heap.size + 1 := by rw [← hW1]; simp
    clear hR ho hrow1 hbw
    go_wp2_with fail
    refine (HP.out s W1 (by omega) ⟨HVa.out.1.below HBW.out, HVa.out.2.below HBW.out⟩).mono ?_
    rintro e w2 ⟨a, m, c, E, rfl, hcase, hb2⟩
    rw [HR.out] at hcase
    rcases hcase with ⟨k', p', hR', _⟩ | ⟨L', hR', rfl, hrow2, rfl⟩
    · cases hR'
    · cases hR'
      have HE : Hid (ErrIs .nilIface 0 (-1) w2) := .inl ⟨rfl, rfl, rfl⟩
      have k0 : w2.cell? ⟨w1.heap.size, 0, none⟩ = some (.int .i64 0) := (hb2.cell (p := ⟨w1.heap.size, 0, none⟩) (by simp only; omega)).trans c0
      have k1 : w2.cell? ⟨w1.heap.size, 1, none⟩ = some (.int .i64 (-1)) := (hb2.cell (p := ⟨w1.heap.size, 1, none⟩) (by simp only; omega)).trans c1
      have HB2 : Hid (Below w.heap.size w w2) := HBW.out.trans (hb2.mono HBW.out.size)
      have HG2 : Hid (HG w2) := HG.below HEn.out.2 HB2.out hEB
      have HRows : Hid (RowT w2 a1 L ∧ RowT w2 a L) := ⟨HRow1.out.below hb2, hrow2⟩
      clear hb2 c0 c1 hW1 HRow1 hrow2
      go_wp2_with fail
      refine (is_any .nilIface 0 (-1) w2 HG2.out HE.out).mono ?_
      rintro _ w3 ⟨rfl, hb3⟩
      have HB3 : Hid (Below w.heap.size w w3) := HB2.out.trans (hb3.mono HB2.out.size)
      have HRows3 : Hid (RowT w3 a1 L ∧ RowT w3 a L) := ⟨HRows.out.1.below hb3, HRows.out.2.below hb3⟩
      clear hb3 k0 k1 HRows
      go_wp2
      go_loopw [7] (fun i wr => ∃ k : Nat, k ≤ L.length ∧ i = .int .i64 k ∧ Hid (∃ m, wr = w3.drewN m)) (fun i _ => L.length - (intOf i).toNat)
      case atStart => exact ⟨0, Nat.zero_le _, rfl, 0, rfl⟩
      case round =>
        obtain ⟨k, hk, rfl, hbl⟩ := hrel
        obtain ⟨m, rfl⟩ := hbl.out
        by_cases hlt : k < L.length
        · rcases HRows3.out.1.2 with hx | ⟨b, off, rfl, hb, hrow⟩
          · rw [hx] at hlt; simp at hlt
          rcases HRows3.out.2.2 with hx' | ⟨b', off', rfl, hb', hrow'⟩
          · rw [hx'] at hlt; simp at hlt
          obtain ⟨g0, g1, g2⟩ := hrow k hlt
          obtain ⟨e0, e1, e2⟩ := hrow' k hlt
          clear hrow hrow' hbl
          have i1 : (k : Int) < (L.length : Int) := by omega
          generalize L[k] = x at *
          obtain ⟨xk, xt, xp⟩ := x
          simp only at g0 g1 g2 e0 e1 e2
          go_wp2
          go_quiet (fail)
          go_wp2
          go_roundw
          case rel => exact ⟨k + 1, by omega, by go_num, m + nq, rfl⟩
          case measure => simp [intOf]; omega
        · go_wp2
          go_ret
          exact ⟨rfl, below_drewN HB3.out m⟩
end Go.Proofs.YtgmibjcccdgkgaaDoor
