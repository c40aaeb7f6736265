/- Part 9 of 35. -/
import Derived.Test.YtbdcbaamjkjhaaaGreatDoorH08
import Derived.WalkSmall
namespace Go.Proofs.YtbdcbaamjkjhaaaGreatDoor
open Go.RowKit

/-- what writing looks at, beside the tree -/
structure GAt (w : World) : Prop where
  pr : w.rangeAt 4 0 pairCells
  mx : MaxAt w
  pw : PowAt w
  lo : 13 ≤ w.heap.size
theorem pow_below {n : Nat} {w w' : World} (h : PowAt w) (hb : Below n w w') (hn : 13 ≤ n) : PowAt w' := var?_below (g := 8) hb (by kernel_rfl) (by omega) h
theorem GAt.below {n : Nat} {w w' : World} (h : GAt w) (hb : Below n w w') (hn : 13 ≤ n) : GAt w' := by
  refine ⟨range_keep h.pr (fun o => World.cell?_of_block (w := w) (a := ⟨4, o, none⟩) (hb.block 4 (by omega))), ?_, pow_below h.pw hb hn, by have := hb.size; have := h.lo; omega⟩
  obtain ⟨m, hm⟩ := h.mx
  exact ⟨m, (World.cell?_of_block (w := w) (a := ⟨5, 0, none⟩) (hb.block 5 (by omega))).trans hm⟩
theorem esc_le (l : List UInt8) : (esc l).length ≤ 2 * l.length := by
  induction l with
  | nil => exact Nat.le_refl _
  | cons c l ih => rw [esc]; split <;> simp only [List.length_cons] <;> omega
theorem beq_f {a b : Int} (h : a ≠ b) : (a == b) = false := beq_eq_false_iff_ne.mpr h
set_option maxRecDepth 100000 in
set_option maxHeartbeats 8000000 in
theorem levelOf_any (B : Nat) (c : Int) (w : World) (z : w.cell? ⟨B, 0, none⟩ = some (.int .i64 c)) (hv : w.rangeAt 4 0 pairCells) : Calls Tryz.prog 135 #[.pointer (some ⟨B, 0, none⟩)] w fun e w' => e = .returned (.int .i64 (lvlC c)) ∧ Below w.heap.size w w' := by
  have H : Hid (w.rangeAt 4 0 pairCells) := hv
  clear hv
  go_enter Tryz.func135, Tryz.ntmps135
  by_cases h4 : c = 4
  · subst h4
    go_wp2
    go_ret
    exact ⟨rfl, Below.refl _ _⟩
  have d4 := beq_f h4
  by_cases h5 : c = 5
  · subst h5
    go_wp2
    go_ret
    exact ⟨rfl, Below.refl _ _⟩
  have d5 := beq_f h5
  by_cases h17 : c = 17
  · subst h17
    go_wp2
    go_ret
    exact ⟨rfl, Below.refl _ _⟩
  have d17 := beq_f h17
  by_cases h3 : c = 3
  · subst h3
    go_wp2
    go_ret
    exact ⟨rfl, Below.refl _ _⟩
  have d3 := beq_f h3
  have HL : Hid (lvlC c = if (pairR pairL c).2.2 then (pairR pairL c).2.1 else 8) := by show _ = _; unfold lvlC; rw [if_neg h4, if_neg (by omega), if_neg h3]
  clear h4 h5 h17 h3
  obtain ⟨Z, hZ⟩ : ∃ Z, pairR pairL c = Z := ⟨_, rfl⟩
  have HZ : Hid (pairR pairL c = Z) := hZ
  rw [HL.out, hZ]
  clear hZ
  go_wp2_with fail
  refine (paired_any c w H.out).mono ?_
  rintro _ w1 ⟨rfl, hb⟩
  rw [HZ.out]
  clear HZ HL
  obtain ⟨s, n, b⟩ := Z
  have HB : Hid (Below w.heap.size w w1) := hb
  clear hb
  cases b
  · go_wp2
    go_ret
    exact ⟨rfl, HB.out⟩
  · go_wp2
    go_ret
    exact ⟨rfl, HB.out⟩
/-- a value, as it is written -/
def litL (v : Vl) : List UInt8 := if v.k = 1 then Lib.decDigits v.n.toNat else if v.k = 2 then 39 :: (esc v.t.data.toList ++ [39]) else [110, 117, 108, 108]
structure VlOk (v : Vl) : Prop where
  num : v.k = 1 → 0 ≤ v.n ∧ v.n ≤ 9223372036854775807
  txt : v.k = 2 → v.t.size ≤ 1000
set_option maxRecDepth 100000 in
set_option maxHeartbeats 8000000 in
theorem literal_any (v : Vl) (hv : VlOk v) (w : World) (h : GAt w) : Calls Tryz.prog 154 #[.agg #[.int .i64 v.k, .int .i64 v.n, .string v.t]] w fun e w' => (∃ s, e = .returned (.string s) ∧ s.data.toList = litL v) ∧ Below w.heap.size w w' := by
  obtain ⟨k, n, t⟩ := v
  have HV : Hid (VlOk ⟨k, n, t⟩) := hv
  obtain ⟨W, hW⟩ : ∃ W, w.alloc (.cells #[.int .i64 k, .int .i64 n, .string t] 39) = W := ⟨_, rfl⟩
  have hbW : Below w.heap.size w W := by rw [← hW]; exact (Below.refl _ _).alloc (Nat.le_refl _) _
  have z0 : W.cell? ⟨w.heap.size, 0, none⟩ = some (.int .i64 k) := by rw [← hW]; simp [go_sem]
  have z1 : W.cell? ⟨w.heap.size, 1, none⟩ = some (.int .i64 n) := by rw [← hW]; simp [go_sem]
  have z2 : W.cell? ⟨w.heap.size, 2, none⟩ = some (.string t) := by rw [← hW]; simp [go_sem]
  have HW : Hid (Below w.heap.size w W ∧ MaxAt W ∧ PowAt W) := ⟨hbW, h.mx.below hbW, pow_below h.pw hbW h.lo⟩
  clear hv h hbW
  go_enter Tryz.func154, Tryz.ntmps154
  by_cases h1 : k = 1
  · subst h1
    go_wp2_with fail
    refine (fmt_any n (HV.out.num rfl).1 (HV.out.num rfl).2 W HW.out.2.2).mono ?_
    rintro _ w1 ⟨rfl, hb⟩
    have HB : Hid (Below w.heap.size w w1) := HW.out.1.trans (hb.mono HW.out.1.size)
    clear hb
    go_wp2
    go_ret
    exact ⟨⟨_, rfl, rfl⟩, HB.out⟩
  have d1 := beq_f h1
  by_cases h2 : k = 2
  · subst h2
    go_wp2_with fail
    refine (esc_any t W (by have := HV.out.txt rfl; exact Nat.le_trans this (by omega)) HW.out.2.1).mono ?_
    rintro _ w1 ⟨rfl, hb⟩
    have HB : Hid (Below w.heap.size w w1) := HW.out.1.trans (hb.mono HW.out.1.size)
    have HE : Hid (litL ⟨2, n, t⟩ = 39 :: (esc t.data.toList ++ [39])) := rfl
    clear hb
    obtain ⟨X, hX⟩ : ∃ X : ByteArray, X = ⟨(esc t.data.toList).toArray⟩ := ⟨_, rfl⟩
    have hXs : X.size ≤ 2000 := by
      have h3 := esc_le t.data.toList
      have h4 := HV.out.txt rfl
      have h5 : t.data.toList.length = t.size := by rw [Array.length_toList]; rfl
      have h6 : X.size = (esc t.data.toList).length := by rw [hX]; simp [ByteArray.size]
      have h7 : t.size ≤ 1000 := h4
      omega
    have HX : Hid (X.data.toList = esc t.data.toList) := by rw [hX]; show _ = _; simp
    rw [← hX]
    clear hX
    go_wp2
    go_ret
    refine ⟨⟨_, rfl, ?_⟩, HB.out⟩
    rw [HE.out, ← HX.out]
    simp
  have d2 := beq_f h2
  have HE : Hid (litL ⟨k, n, t⟩ = [110, 117, 108, 108]) := by show _ = _; unfold litL; rw [if_neg h1, if_neg h2]
  rw [HE.out]
  clear h1 h2
  go_wp2
  go_ret
  exact ⟨⟨_, rfl, rfl⟩, HW.out.1⟩
end Go.Proofs.YtbdcbaamjkjhaaaGreatDoor
namespace Go.Proofs.YtbdcbaamjkjhaaaGreatDoor
open Go.RowKit

def parW (n : Int) (e : Ex) (t : List UInt8) : List UInt8 := match e with
  | .nil => []
  | .node c _ _ _ _ => if lvlC c < n then 40 :: (t ++ [41]) else t
/-- what is printed of an expression, bare; and of what stands on its left, where a sum may stand -/
def prX : Ex → List UInt8 × List UInt8
  | .nil => ([], [])
  | .node c v nm l r =>
    (if c = 1 then litL v
     else if c = 2 then nm.data.toList
     else if c = 3 then [45, 32] ++ parW 7 l (prX l).1
     else if c = 4 then (if l.code = 5 then (prX l).2 ++ [32, 105, 115, 32, 110, 111, 116, 32, 110, 117, 108, 108] else [110, 111, 116, 32] ++ parW 3 l (prX l).1)
     else if c = 5 then parW 5 l (prX l).1 ++ [32, 105, 115, 32, 110, 117, 108, 108]
     else if c = 17 then parW 5 l (prX l).1 ++ ([32, 109, 97, 116, 99, 104, 32] ++ litL v)
     else if (pairR pairL c).2.2 then parW (if (pairR pairL c).2.1 = 4 then (pairR pairL c).2.1 + 1 else (pairR pairL c).2.1) l (prX l).1 ++ ([32] ++ ((pairR pairL c).1.data.toList ++ [32])) ++ parW ((pairR pairL c).2.1 + 1) r (prX r).1
     else [], parW 5 l (prX l).1)
def prN (n : Int) (e : Ex) : List UInt8 := parW n e (prX e).1
/-- the values of a tree can be written -/
def TreeOk : Ex → Prop
  | .nil => True
  | .node _ v _ l r => VlOk v ∧ TreeOk l ∧ TreeOk r
/-- a tree that lay there before the writer -/
def TrAt (b : Nat) (w : World) (p : Option Addr) (e : Ex) : Prop := ∃ w0 q, ExIs q w0 p e ∧ w0.heap.size ≤ b ∧ Below w0.heap.size w0 w
theorem TrAt.keep {b : Nat} {w w' : World} {p : Option Addr} {e : Ex} (h : TrAt b w p e) (k : Below b w w') : TrAt b w' p e := by
  obtain ⟨w0, q, h1, h2, h3⟩ := h
  exact ⟨w0, q, h1, h2, h3.trans (k.mono h2)⟩
theorem TrAt.node {b : Nat} {w : World} {p : Option Addr} {c : Int} {v : Vl} {nm : ByteArray} {l r : Ex} (h : TrAt b w p (.node c v nm l r)) : ∃ B pl pr, p = some ⟨B, 0, none⟩ ∧ Blk B #[.int .i64 c, .int .i64 v.k, .int .i64 v.n, .string v.t, .string nm, .pointer pl, .pointer pr] 48 w ∧ TrAt b w pl l ∧ TrAt b w pr r := by
  obtain ⟨w0, q, ⟨B, pl, pr, e, _, h1, h4, h5⟩, h2, h3⟩ := h
  exact ⟨B, pl, pr, e, (h3.block B (Array.getElem?_eq_some_iff.1 h1).1).trans h1, ⟨w0, q, h4, h2, h3⟩, ⟨w0, q, h5, h2, h3⟩⟩
theorem TrAt.nil {b : Nat} {w : World} {p : Option Addr} (h : TrAt b w p .nil) : p = none := by
  obtain ⟨w0, q, h1, _⟩ := h
  exact h1
/-- a writer at work -/
structure WS (b : Nat) (l : List UInt8) (w : World) : Prop where
  wr : Wr b l w
  g : GAt w
  lo : 13 ≤ b
def Puts (b : Nat) (l t : List UInt8) (w : World) (e : Ending) (w' : World) : Prop := e = .returned (.tuple #[]) ∧ WS b (l ++ t) w' ∧ WK b w w'
theorem WS.alloc {b : Nat} {l : List UInt8} {w : World} (h : WS b l w) (o : Obj) : WS b l (w.alloc o) := ⟨h.wr.alloc o, h.g.below (n := w.heap.size) ((Below.refl _ _).alloc (Nat.le_refl _) _) (by have := h.g.lo; omega), h.lo⟩
theorem WS.below {b : Nat} {l : List UInt8} {w w' : World} (h : WS b l w) (hb : Below w.heap.size w w') : WS b l w' := by
  refine ⟨?_, h.g.below hb h.g.lo, h.lo⟩
  have hlt := h.wr.lt
  rcases h.wr with ⟨h0, v, h1, h2, h3⟩ | ⟨h0, v, h1, h2, h3⟩
  · refine .inl ⟨h0, v, (hb.block b hlt).trans h1, ⟨h2.1, ?_⟩, h3⟩
    rcases h2.2 with h4 | ⟨g, cap, cur, fz, e1, e2, e3, e4⟩
    · exact .inl h4
    · exact .inr ⟨g, cap, cur, fz, e1, e2, (hb.block g (Array.getElem?_eq_some_iff.1 e3).1).trans e3, e4⟩
  · refine .inr ⟨h0, v, (hb.block b hlt).trans h1, ⟨h2.1, ?_⟩, h3⟩
    rcases h2.2 with h4 | ⟨g, cap, cur, fz, e1, e2, e3, e4⟩
    · exact .inl h4
    · exact .inr ⟨g, cap, cur, fz, e1, e2, (hb.block g (Array.getElem?_eq_some_iff.1 e3).1).trans e3, e4⟩
theorem WK.of_below {b : Nat} {w w' : World} (hb : Below w.heap.size w w') (h : b ≤ w.heap.size) : WK b w w' := ⟨hb.mono h, fun k _ hk _ _ => (hb.block k (Array.getElem?_eq_some_iff.1 hk).1).trans hk⟩
theorem puts_S (b : Nat) (l : List UInt8) (S : List ByteArray) (w : World) (h : WS b l w) (hlen : l.length + (bytesOf S).length ≤ 1000000) (hS : S.length ≤ 1000) :
    Calls Tryz.prog 53 #[.pointer (some ⟨b, 0, none⟩), .slice (some ⟨w.heap.size, 0, none⟩) S.length S.length] (w.alloc (.cells (strRow S) 9)) fun e w' => Puts b l (bytesOf S) w e w' := by
  have hlt := h.wr.lt
  refine (put_any b w.heap.size l S _ (h.wr.alloc _) (Blk.new _ _ _) (by omega) hlen hS).mono ?_
  rintro e w' ⟨rfl, h1, h2⟩
  refine ⟨rfl, ⟨h1, (h.alloc _).g.below h2.below h.lo, h.lo⟩, ⟨(((Below.refl b w).alloc (Nat.le_of_lt hlt) _).trans h2.below), ((Lib.OthersKept.refl _ _ w).alloc _).trans h2.kept⟩⟩
theorem put1 (b : Nat) (l : List UInt8) (s : ByteArray) (w : World) (h : WS b l w) (hlen : l.length + s.data.toList.length ≤ 1000000) :
    Calls Tryz.prog 53 #[.pointer (some ⟨b, 0, none⟩), .slice (some ⟨w.heap.size, 0, none⟩) 1 1] (w.alloc (.cells #[.string s] 9)) fun e w' => Puts b l s.data.toList w e w' := by
  have := puts_S b l [s] w h (by rw [bytesOf_one]; exact hlen) (by simp)
  rw [bytesOf_one] at this
  exact this
theorem put3 (b : Nat) (l : List UInt8) (s t u : ByteArray) (w : World) (h : WS b l w) (hlen : l.length + (s.data.toList ++ (t.data.toList ++ u.data.toList)).length ≤ 1000000) :
    Calls Tryz.prog 53 #[.pointer (some ⟨b, 0, none⟩), .slice (some ⟨w.heap.size, 0, none⟩) 3 3] (w.alloc (.cells #[.string s, .string t, .string u] 9)) fun e w' => Puts b l (s.data.toList ++ (t.data.toList ++ u.data.toList)) w e w' := by
  have e : bytesOf [s, t, u] = s.data.toList ++ (t.data.toList ++ u.data.toList) := by simp [bytesOf]
  have := puts_S b l [s, t, u] w h (by rw [e]; exact hlen) (by simp)
  rw [e] at this
  exact this
/-- the program's expr prints e -/
def ESp (e : Ex) : Prop := ∀ (b : Nat) (p : Option Addr) (n : Int) (l : List UInt8) (w : World), WS b l w → TrAt b w p e → l.length + (prN n e).length ≤ 1000000 →
  Calls Tryz.prog 100 #[.pointer (some ⟨b, 0, none⟩), .pointer p, .int .i64 n] w fun r w' => Puts b l (prN n e) w r w'
def BSp (e : Ex) : Prop := ∀ (b B : Nat) (l : List UInt8) (w : World), WS b l w → TrAt b w (some ⟨B, 0, none⟩) e → l.length + (prX e).1.length ≤ 1000000 →
  Calls Tryz.prog 136 #[.pointer (some ⟨b, 0, none⟩), .pointer (some ⟨B, 0, none⟩)] w fun r w' => Puts b l (prX e).1 w r w'
set_option maxRecDepth 100000 in
set_option maxHeartbeats 8000000 in
theorem wexpr_nil : ESp .nil := by
  intro b p n l w hw ht hl
  obtain rfl := ht.nil
  have HW : Hid (WS b l w) := hw
  clear hw ht hl
  go_enter Tryz.func100, Tryz.ntmps100
  go_wp2
  go_end0
  exact ⟨rfl, by rw [show prN n .nil = [] from rfl, List.append_nil]; exact HW.out, WK.refl _ _⟩
set_option maxRecDepth 100000 in
set_option maxHeartbeats 8000000 in
theorem wexpr_of {c : Int} {v : Vl} {nm : ByteArray} {x y : Ex} (hB : BSp (.node c v nm x y)) : ESp (.node c v nm x y) := by
  intro b p n l w hw ht hl
  obtain ⟨B, pl, pr, rfl, hk, _, _⟩ := ht.node
  have z0 : w.cell? ⟨B, 0, none⟩ = some (.int .i64 c) := by rw [hk.cell 0]; rfl
  have HB : Hid (BSp (.node c v nm x y)) := hB
  obtain ⟨X, hX⟩ : ∃ X, (prX (.node c v nm x y)).1 = X := ⟨_, rfl⟩
  have HX : Hid ((prX (.node c v nm x y)).1 = X) := hX
  have HW : Hid (WS b l w ∧ TrAt b w (some ⟨B, 0, none⟩) (.node c v nm x y)) := ⟨hw, ht⟩
  have hP : prN n (.node c v nm x y) = if lvlC c < n then 40 :: (X ++ [41]) else X := by rw [← hX]; rfl
  obtain ⟨R, hR⟩ : ∃ R, prN n (.node c v nm x y) = R := ⟨_, rfl⟩
  rw [hR] at hl hP ⊢
  have HR : Hid (R = if lvlC c < n then 40 :: (X ++ [41]) else X) := hP
  clear hw ht hB hX hP hk hR
  go_enter Tryz.func100, Tryz.ntmps100
  go_wp2_with fail
  refine (levelOf_any B c w z0 HW.out.1.g.pr).mono ?_
  rintro _ w1 ⟨rfl, hb⟩
  have H1 : Hid (WS b l w1 ∧ TrAt b w1 (some ⟨B, 0, none⟩) (.node c v nm x y) ∧ WK b w w1) := ⟨HW.out.1.below hb, HW.out.2.keep (hb.mono (Nat.le_of_lt HW.out.1.wr.lt)), WK.of_below hb (Nat.le_of_lt HW.out.1.wr.lt)⟩
  clear hb
  by_cases hn : lvlC c < n
  · obtain rfl : R = 40 :: (X ++ [41]) := by rw [HR.out, if_pos hn]
    clear HR
    have hl' : Hid (l.length + (X.length + 2) ≤ 1000000) := by show _ ≤ _; simp only [List.length_cons, List.length_append, List.length_nil] at hl; omega
    clear hl
    go_wp2_with fail
    refine (put1 b l ⟨#[40]⟩ w1 H1.out.1 (by have := hl'.out; simp only [List.length_cons, List.length_nil]; omega)).mono ?_
    rintro _ w2 ⟨rfl, h2, h3⟩
    have H2 : Hid (WS b (l ++ [40]) w2 ∧ TrAt b w2 (some ⟨B, 0, none⟩) (.node c v nm x y) ∧ WK b w w2) := ⟨h2, H1.out.2.1.keep h3.below, H1.out.2.2.trans h3⟩
    clear h2 h3
    go_wp2_with fail
    refine (HB.out b B _ w2 H2.out.1 H2.out.2.1 (by rw [HX.out]; have := hl'.out; simp only [List.length_cons, List.length_nil, List.length_append]; omega)).mono ?_
    rintro _ w3 ⟨rfl, h2, h3⟩
    rw [HX.out] at h2
    have H3 : Hid (WS b (l ++ [40] ++ X) w3 ∧ WK b w w3) := ⟨h2, H2.out.2.2.trans h3⟩
    clear h2 h3
    go_wp2_with fail
    refine (put1 b _ ⟨#[41]⟩ w3 H3.out.1 (by have := hl'.out; simp only [List.length_cons, List.length_nil, List.length_append]; omega)).mono ?_
    rintro _ w4 ⟨rfl, h2, h3⟩
    have H4 : Hid (WS b (l ++ (40 :: (X ++ [41]))) w4 ∧ WK b w w4) := ⟨by simpa using h2, H3.out.2.trans h3⟩
    clear h2 h3
    go_wp2
    go_end0
    exact ⟨rfl, H4.out.1, H4.out.2⟩
  · have e : X = R := by rw [HR.out, if_neg hn]
    subst e
    clear HR
    have hl' : Hid (l.length + X.length ≤ 1000000) := hl
    clear hl
    go_wp2_with fail
    refine (HB.out b B _ w1 H1.out.1 H1.out.2.1 (by rw [HX.out]; exact hl'.out)).mono ?_
    rintro _ w3 ⟨rfl, h2, h3⟩
    rw [HX.out] at h2
    have H3 : Hid (WS b (l ++ X) w3 ∧ WK b w w3) := ⟨h2, H1.out.2.2.trans h3⟩
    clear h2 h3
    go_wp2
    go_end0
    exact ⟨rfl, H3.out.1, H3.out.2⟩
end Go.Proofs.YtbdcbaamjkjhaaaGreatDoor
