/- Texts of the proof of FinderPlays: Teh, Tfl, Pge, Pge2, Cal, Thv. -/
import Derived.Test.YtabcficlnhajeaaGreatDoorF03
import Derived.Shelf.Abstract
import Derived.Laws.IdiomStrings
import Derived.Handy
namespace Go.Proofs.YtabcficlnhajeaaGreatDoor
open Go.RowKit

theorem run_byte (t : ByteArray) (n : Nat) (hn : n < t.size) (b : Nat) (hb : (t[n]).toNat = b) (w : World) : (Instr.index 9 (.string t) (.int .i64 n)).run Tryz.prog w = .ok (.int .u8 b) w := by
  have h1 : (n : Int) < (t.size : Int) := by omega
  subst hb
  simp [Instr.index, run_underlying Tryz.underlying9, asIntOf, go_sem, hn]

theorem run_piece (t : ByteArray) (a b : Nat) (h1 : a ≤ b) (h2 : b ≤ t.size) (x y : Int) (hx : x = a) (hy : y = b) (p : ByteArray) (hp : t.extract a b = p) (w : World) : (Instr.slice 9 (.string t) (some (.int .i64 x)) (some (.int .i64 y)) none).run Tryz.prog w = .ok (.string p) w := by
  subst hx hy
  rw [run_slice_string w 9 t .i64 .i64 a b Tryz.underlying9 (by omega) (by omega) (by omega)]
  simp [hp]

set_option maxRecDepth 100000 in
set_option maxHeartbeats 4000000 in
theorem each_any {fid : Nat} {caps : Array Value} {t : ByteArray} {ps : List Pr} {z : Nat} (Inv : Nat → World → Prop) (Out : World → Prop) (eg : ∀ args w, (callFunc fid args).run Tryz.prog w = .ok (.enter fid args) w) (hL : Leaf t ps z) (hdrew : ∀ j w, Inv j w → Inv j w.drew)
    (hcb : ∀ j (hj : j < ps.length) (w : World), Inv j w → Calls Tryz.prog fid (#[.agg #[.string ps[j].k, .string ps[j].i], .int .i64 (szL (ps.take (j + 1)) : Nat)] ++ caps) w fun e w' => ∃ b, e = .returned (.bool b) ∧ (if b then Inv (j + 1) w' else Out w'))
    (w : World) (h0 : Inv 0 w) :
    Calls Tryz.prog 130 #[.string t, .func (.func fid) #[] caps] w fun e w' => ∃ b, e = .returned (.bool b) ∧ (if b then Inv ps.length w' else Out w') := by
  have HL : Hid _ := hL
  have HC : Hid _ := hcb
  have HI : Hid (Inv 0 w) := h0
  have hsm := hL.small
  have HSZ : Hid _ := hL.size
  clear hcb h0 hL
  go_enter Tryz.func130, Tryz.ntmps130
  go_wp2_with fail
  go_loopw [5] (fun i wr => ∃ k : Nat, k ≤ ps.length ∧ i = .int .i64 (szL (ps.take k) : Nat) ∧ Hid (Inv k wr)) (fun i _ => t.size + 1 - (intOf i).toNat)
  case atStart => exact ⟨0, Nat.zero_le _, rfl, HI⟩
  case round =>
    clear HI
    obtain ⟨k, hk, rfl, HI⟩ := hrel
    by_cases hlt : k < ps.length
    · have r := HL.out.room hlt
      have ok := HL.out.ok _ (List.getElem_mem hlt)
      have kl := HL.out.key_len hlt (by unfold Pr.sz at r; omega)
      have il := HL.out.item_len hlt (by unfold Pr.sz at r; omega)
      have ke := HL.out.key hlt
      have ie := HL.out.item hlt
      have cb := HC.out k hlt
      rw [szL_take_succ hlt] at cb
      have HS : Hid (szL (ps.take (k + 1)) = szL (ps.take k) + ps[k].sz) := szL_take_succ hlt
      unfold Pr.Ok at ok
      obtain ⟨ok1, ok2, ok3⟩ := ok
      have r2 : szL (ps.take k) + (2 + ps[k].k.size + ps[k].i.size) ≤ t.size := r
      have b0 := run_byte t (szL (ps.take k)) (by omega) ps[k].k.size kl
      have b1 : ∀ w, (Instr.index 9 (.string t) (.int .i64 ((szL (ps.take k) : Int) + 1))).run Tryz.prog w = .ok (.int .u8 ps[k].i.size) w := fun w => run_byte t (szL (ps.take k) + 1) (by omega) ps[k].i.size il w
      have HS : Hid (szL (ps.take (k + 1)) = szL (ps.take k) + (2 + ps[k].k.size + ps[k].i.size)) := HS.out
      have CB : Hid (∀ (w : World), Inv k w → Calls Tryz.prog fid (#[.agg #[.string ps[k].k, .string ps[k].i], .int .i64 (szL (ps.take k) + (2 + ps[k].k.size + ps[k].i.size) : Nat)] ++ caps) w fun e w' => ∃ b, e = .returned (.bool b) ∧ (if b then Inv (k + 1) w' else Out w')) := cb
      clear kl il r cb
      generalize ps[k].k = xk at *
      generalize ps[k].i = xi at *
      generalize szL (ps.take k) = at0 at *
      have s0 := run_piece t (at0 + 2) (at0 + 2 + xk.size) (by omega) (by omega) ((at0 : Int) + 2) ((at0 : Int) + 2 + (xk.size : Int)) (by omega) (by omega) xk ke
      have s1 := run_piece t (at0 + 2 + xk.size) (at0 + 2 + xk.size + xi.size) (by omega) (by omega) ((at0 : Int) + 2 + (xk.size : Int)) ((at0 : Int) + 2 + (xk.size : Int) + (xi.size : Int)) (by omega) (by omega) xi ie
      have hcst : Hid (((at0 + (2 + xk.size + xi.size) : Nat) : Int) = (at0 : Int) + 2 + (xk.size : Int) + (xi.size : Int)) := by show _ = _; omega
      rw [hcst.out] at CB
      clear ie ke
      go_wp2_with fail
      have HI : Hid (Inv k wr.drew) := hdrew _ _ HI.out
      have hw2 : IntKind.i64.wrap ((at0 : Int) + 2) = (at0 : Int) + 2 := by simp [IntKind.wrap, IntKind.signed, IntKind.bits]; omega
      go_region_held3 (fun _ => True) (exact trivial) (first | (refine (CB.out _ HI.out).mono ?_; rintro _ w2 ⟨b, rfl, h2⟩; have H2 : Hid (if b then Inv (k + 1) w2 else Out w2) := h2; clear h2))
      cases b
      · go_wp2
        go_ret
        exact ⟨false, rfl, H2.out⟩
      · go_wp2_with fail
        go_roundw
        case rel => exact ⟨k + 1, by omega, by rw [HS.out, ← hcst.out], H2.out⟩
        case measure => simp [intOf]; omega
    · obtain rfl : k = ps.length := by omega
      have e1 : szL (ps.take ps.length) = szL ps := by rw [List.take_length]
      rw [e1]
      have hsz := HSZ.out
      by_cases h2 : szL ps + 2 ≤ t.size
      · have b0 := run_byte t (szL ps) (by omega) 0 (by rw [HL.out.tail (by omega)]; rfl)
        clear hsz
        have h3 : (szL ps : Int) + 2 ≤ (t.size : Int) := by omega
        have h4 : (szL ps : Int) < 5000 := by omega
        go_wp2
        go_ret
        first | exact ⟨true, rfl, HI.out⟩ | exact .inr ⟨rfl, HI.out⟩
      · have h3 : ¬ (szL ps : Int) + 2 ≤ (t.size : Int) := by omega
        have h4 : (szL ps : Int) < 5000 := by omega
        clear hsz
        go_wp2
        go_ret
        first | exact ⟨true, rfl, HI.out⟩ | exact .inr ⟨rfl, HI.out⟩
end Go.Proofs.YtabcficlnhajeaaGreatDoor
namespace Go.Proofs.YtabcficlnhajeaaGreatDoor
open Go.RowKit

/-- a variable of the call's own -/
structure Own1 (B : Nat) (v : Value) (wr : World) : Prop where
  cell : wr.cell? ⟨B, 0, none⟩ = some v
  free : wr.frozen? ⟨B, 0, none⟩ = false
section
variable {w0 wr wx : World} {B : Nat} {v u : Value}
theorem Own1.lt (h : Own1 B v wr) : B < wr.heap.size := World.block_lt_of_cell? wr _ h.cell
theorem Own1.block (h : Own1 B v wr) (hb : wx.heap[B]? = wr.heap[B]?) : Own1 B v wx := by
  refine ⟨?_, ?_⟩
  · have := h.cell; simp only [World.cell?] at this ⊢; rw [hb]; exact this
  · have := h.free; simp only [World.frozen?] at this ⊢; rw [hb]; exact this
theorem Own1.below (h : Own1 B v wr) (hb : Below wr.heap.size wr wx) : Own1 B v wx := h.block (hb.block _ h.lt)
theorem Own1.drew (h : Own1 B v wr) : Own1 B v wr.drew := h.block rfl
theorem Own1.set (h : Own1 B v wr) (u : Value) : Own1 B u (wr.setCell ⟨B, 0, none⟩ u) := by
  exact ⟨World.cell?_setCell_same _ _ _ h.cell, by rw [World.frozen?_setCell]; exact h.free⟩
theorem Own1.new (w : World) (v : Value) (t : TypeId) : Own1 w.heap.size v (w.alloc (.cells #[v] t)) := by
  have hn : (w.alloc (.cells #[v] t)).heap[w.heap.size]? = some (.cells #[v] t) := heap_alloc_new w _
  exact ⟨by simp only [World.cell?, hn]; rfl, by simp only [World.frozen?, hn]; simp⟩
end

theorem load3 {w : World} {B : Nat} {v : Value} (h : w.cell? ⟨B, 0, none⟩ = some v) : (loadVar 3 ⟨B, 0, none⟩).run Tryz.prog w = .ok v w := by
  simp [loadVar, Tryz.isAgg3, Tryz.sizeOf3, h, go_sem]
theorem load9 {w : World} {B : Nat} {v : Value} (h : w.cell? ⟨B, 0, none⟩ = some v) : (loadVar 9 ⟨B, 0, none⟩).run Tryz.prog w = .ok v w := by
  simp [loadVar, Tryz.isAgg9, Tryz.sizeOf9, h, go_sem]
theorem results_cells2 {P : Program} {fn : Func} {p0 p1 : Tmp} {t0 t1 : TypeId} {v0 v1 : Value} (h : fn.results = #[.cell p0 t0, .cell p1 t1]) (tmps : Array Value) (w : World) (a0 a1 : Addr)
    (hp0 : tmps.getD p0 undef = .pointer (some a0)) (hp1 : tmps.getD p1 undef = .pointer (some a1))
    (hl0 : (loadVar t0 a0).run P w = .ok v0 w) (hl1 : (loadVar t1 a1).run P w = .ok v1 w) :
    (results fn tmps).run P w = .ok (.tuple #[v0, v1]) w := by
  have e0 : tmps[p0]?.getD undef = .pointer (some a0) := by simpa [Array.getD_eq_getD_getElem?] using hp0
  have e1 : tmps[p1]?.getD undef = .pointer (some a1) := by simpa [Array.getD_eq_getD_getElem?] using hp1
  simp [results, h, e0, e1, asAddr, hl0, hl1]

/-- what filled's closure does -/
theorem filled_cl (x y : ByteArray) (n : Int) (B : Nat) (v : Value) (w : World) (h : Own1 B v w) :
    Calls Tryz.prog 185 #[.agg #[.string x, .string y], .int .i64 n, .pointer (some ⟨B, 0, none⟩)] w fun e w' => e = .returned (.bool true) ∧ Own1 B (.int .i64 n) w' ∧ w.grownBy w' (some B) := by
  have h1 := h.below ((Below.refl _ w).alloc (o := .cells #[.string x, .string y] 151) (Nat.le_refl _))
  have q := h1.cell
  have f := h1.free
  have HR : Hid _ := h1.set (.int .i64 n)
  have HG : Hid (w.grownBy ((w.alloc (.cells #[.string x, .string y] 151)).setCell ⟨B, 0, none⟩ (.int .i64 n)) (some B)) := (grown_of_below ((Below.refl _ w).alloc (Nat.le_refl _) _) _).trans (grownBy_set _ B 0 _)
  clear h h1
  go_enter Tryz.func185, Tryz.ntmps185
  go_wp2
  go_ret
  exact ⟨rfl, HR.out, HG.out⟩
set_option maxRecDepth 100000 in
/-- how many bytes a leaf's pairs have -/
theorem filled_any {t : ByteArray} {ps : List Pr} {z : Nat} (hL : Leaf t ps z) (w : World) :
    Calls Tryz.prog 132 #[.string t] w fun e w' => e = .returned (.int .i64 (szL ps : Nat)) ∧ Below w.heap.size w w' := by
  have HL : Hid _ := hL
  have hmf : ∀ (fn : Fn) (first cap : Array Value) (w : World), (Instr.makeFunc fn first cap).run Tryz.prog w = .ok (.func fn first cap) w := fun _ _ _ _ => rfl
  have HO : Hid (Own1 w.heap.size (.int .i64 0) (w.alloc (.cells #[.int .i64 0] 3))) := Own1.new w _ _
  have HB : Hid (Below w.heap.size w (w.alloc (.cells #[.int .i64 0] 3))) := (Below.refl _ w).alloc (Nat.le_refl _) _
  clear hL
  go_enter Tryz.func132, Tryz.ntmps132
  go_wp2_with fail
  refine (each_any (fun j wx => Own1 w.heap.size (.int .i64 (szL (ps.take j) : Nat)) wx ∧ Below w.heap.size w wx) (fun _ => False) (enters_of Tryz.func185 (by kernel_rfl) rfl) HL.out (fun j wx hh => ⟨hh.1.drew, hh.2.drew⟩) (fun j hj wx hh => ?_) _ ⟨HO.out, HB.out⟩).mono ?_
  · refine (filled_cl _ _ _ _ _ _ hh.1).mono ?_
    rintro _ wy ⟨rfl, h1, h2⟩
    exact ⟨true, rfl, h1, hh.2.grown h2 hh.2.size (fun k e => by cases e; exact Nat.le_refl _)⟩
  rintro _ w1 ⟨b, rfl, h1⟩
  cases b
  · exact h1.elim
  · obtain ⟨h2, h3⟩ := h1
    rw [List.take_length] at h2
    have q := h2.cell
    have f := h2.free
    have HR : Hid _ := h2.set (.int .i64 (szL ps : Nat))
    have HB1 : Hid (Below w.heap.size w (w1.setCell ⟨w.heap.size, 0, none⟩ (.int .i64 (szL ps : Nat)))) := h3.setCell (Nat.le_refl _) _
    clear h2 h3
    go_wp2
    (try simp only [Exit.inBlock, Exit.then])
    exact bodyPost_ret (v := .int .i64 (szL ps : Nat)) (results_cell_of Tryz.results132 _ _ _ rfl (load3 HR.out.cell)) rfl ⟨rfl, HB1.out⟩

/-- is one text less than another? -/
def bl (x y : ByteArray) : Bool := Op.bytesLess x.toList y.toList
theorem Own1.other {B C : Nat} {v u : Value} {w : World} (h : Own1 B v w) (hne : B ≠ C) : Own1 B v (w.setCell ⟨C, 0, none⟩ u) :=
  ⟨by rw [World.cell?_setCell_other _ _ _ _ (fun e => hne (by cases e; rfl))]; exact h.cell, by rw [World.frozen?_setCell]; exact h.free⟩
/-- find's three variables -/
structure Fv (w0 : World) (Bk B4 B5 : Nat) (key : ByteArray) (a b : Int) (w : World) : Prop where
  k : Own1 Bk (.string key) w
  f : Own1 B4 (.int .i64 a) w
  t : Own1 B5 (.int .i64 b) w
  n1 : B4 ≠ B5
  n2 : Bk ≠ B4
  n3 : Bk ≠ B5
  l4 : w0.heap.size ≤ B4
  l5 : w0.heap.size ≤ B5
  below : Below w0.heap.size w0 w
section
variable {w0 w wx : World} {Bk B4 B5 : Nat} {key : ByteArray} {a b : Int}
theorem Fv.step (h : Fv w0 Bk B4 B5 key a b w) (hb : Below w.heap.size w wx) : Fv w0 Bk B4 B5 key a b wx :=
  { h with k := h.k.below hb, f := h.f.below hb, t := h.t.below hb, below := h.below.trans (hb.mono h.below.size) }
theorem Fv.drew (h : Fv w0 Bk B4 B5 key a b w) : Fv w0 Bk B4 B5 key a b w.drew :=
  { h with k := h.k.drew, f := h.f.drew, t := h.t.drew, below := h.below.drew }
theorem Fv.setT (h : Fv w0 Bk B4 B5 key a b w) (n : Int) : Fv w0 Bk B4 B5 key a n (w.setCell ⟨B5, 0, none⟩ (.int .i64 n)) :=
  { h with k := h.k.other h.n3, f := h.f.other h.n1, t := h.t.set _, below := h.below.setCell h.l5 _ }
theorem Fv.setF (h : Fv w0 Bk B4 B5 key a b w) (n : Int) : Fv w0 Bk B4 B5 key n b (w.setCell ⟨B4, 0, none⟩ (.int .i64 n)) :=
  { h with k := h.k.other h.n2, f := h.f.set _, t := h.t.other (fun e => h.n1 e.symm), below := h.below.setCell h.l4 _ }
theorem pair_new (w : World) (x y : ByteArray) (t : TypeId) : (w.alloc (.cells #[.string x, .string y] t)).cell? ⟨w.heap.size, 0, none⟩ = some (.string x) := by
  have hn : (w.alloc (.cells #[.string x, .string y] t)).heap[w.heap.size]? = some (.cells #[.string x, .string y] t) := heap_alloc_new w _
  simp only [World.cell?, hn]; rfl
theorem cell_other {w : World} {B C o : Nat} {v u : Value} (h : w.cell? ⟨B, o, none⟩ = some v) (hne : B ≠ C) : (w.setCell ⟨C, 0, none⟩ u).cell? ⟨B, o, none⟩ = some v := by
  rw [World.cell?_setCell_other _ _ _ _ (fun e => hne (by cases e; rfl))]; exact h

set_option maxRecDepth 100000 in
theorem find_less (x y : ByteArray) (n : Int) (h : Fv w0 Bk B4 B5 key a b w) (hl : bl x key = true) :
    Calls Tryz.prog 133 #[.agg #[.string x, .string y], .int .i64 n, .pointer (some ⟨Bk, 0, none⟩), .pointer (some ⟨B5, 0, none⟩), .pointer (some ⟨B4, 0, none⟩)] w fun e w' => e = .returned (.bool true) ∧ Fv w0 Bk B4 B5 key n n w' := by
  have l4 := h.f.lt
  have l5 := h.t.lt
  have h0 := h.step ((Below.refl _ w).alloc (o := .cells #[.string x, .string y] 151) (Nat.le_refl _))
  have p0 := pair_new w x y 151
  obtain ⟨W, hW⟩ : ∃ W, w.alloc (.cells #[.string x, .string y] 151) = W := ⟨_, rfl⟩
  have h1 := h0.setT n
  have p1 := cell_other (u := .int .i64 n) p0 (show w.heap.size ≠ B5 by omega)
  have h2 := h1.setF n
  have p2 := cell_other (u := .int .i64 n) p1 (show w.heap.size ≠ B4 by omega)
  rw [hW] at h0 p0 h1 p1 h2 p2
  have q0 := h0.k.cell
  have q1 := h1.k.cell
  have q2 := h2.k.cell
  have c5 := h0.t.cell
  have f5 := h0.t.free
  have c4 := h1.f.cell
  have f4 := h1.f.free
  have H2 : Hid _ := h2
  have hl2 : Op.bytesLess x.toList key.toList = true := hl
  clear h h0 h1 h2 hl l4 l5
  go_enter Tryz.func133, Tryz.ntmps133
  go_wp2
  go_ret
  exact ⟨rfl, H2.out⟩
set_option maxRecDepth 100000 in
theorem find_same (x y : ByteArray) (n : Int) (h : Fv w0 Bk B4 B5 key a b w) (hl : bl x key = false) (he : (x.toList == key.toList) = true) :
    Calls Tryz.prog 133 #[.agg #[.string x, .string y], .int .i64 n, .pointer (some ⟨Bk, 0, none⟩), .pointer (some ⟨B5, 0, none⟩), .pointer (some ⟨B4, 0, none⟩)] w fun e w' => e = .returned (.bool false) ∧ Fv w0 Bk B4 B5 key a n w' := by
  have l5 := h.t.lt
  have h0 := h.step ((Below.refl _ w).alloc (o := .cells #[.string x, .string y] 151) (Nat.le_refl _))
  have p0 := pair_new w x y 151
  obtain ⟨W, hW⟩ : ∃ W, w.alloc (.cells #[.string x, .string y] 151) = W := ⟨_, rfl⟩
  have h1 := h0.setT n
  have p1 := cell_other (u := .int .i64 n) p0 (show w.heap.size ≠ B5 by omega)
  rw [hW] at h0 p0 h1 p1
  have q0 := h0.k.cell
  have q1 := h1.k.cell
  have c5 := h0.t.cell
  have f5 := h0.t.free
  have H2 : Hid _ := h1
  have hl2 : Op.bytesLess x.toList key.toList = false := hl
  clear h h0 h1 hl l5
  go_enter Tryz.func133, Tryz.ntmps133
  go_wp2
  go_ret
  exact ⟨rfl, H2.out⟩
set_option maxRecDepth 100000 in
theorem find_more (x y : ByteArray) (n : Int) (h : Fv w0 Bk B4 B5 key a b w) (hl : bl x key = false) (he : (x.toList == key.toList) = false) :
    Calls Tryz.prog 133 #[.agg #[.string x, .string y], .int .i64 n, .pointer (some ⟨Bk, 0, none⟩), .pointer (some ⟨B5, 0, none⟩), .pointer (some ⟨B4, 0, none⟩)] w fun e w' => e = .returned (.bool false) ∧ Fv w0 Bk B4 B5 key a b w' := by
  have h0 := h.step ((Below.refl _ w).alloc (o := .cells #[.string x, .string y] 151) (Nat.le_refl _))
  have p0 := pair_new w x y 151
  obtain ⟨W, hW⟩ : ∃ W, w.alloc (.cells #[.string x, .string y] 151) = W := ⟨_, rfl⟩
  rw [hW] at h0 p0
  have q0 := h0.k.cell
  have H2 : Hid _ := h0
  have hl2 : Op.bytesLess x.toList key.toList = false := hl
  clear h h0 hl
  go_enter Tryz.func133, Tryz.ntmps133
  go_wp2
  go_ret
  exact ⟨rfl, H2.out⟩
end

/-- between which bytes a key's pair stands, or would stand -/
structure FindR (ps : List Pr) (key : ByteArray) (j : Nat) (a b : Nat) : Prop where
  le : j ≤ ps.length
  less : ∀ i (hi : i < j), bl (ps[i]'(by omega)).k key = true
  from_ : a = szL (ps.take j)
  to_ : (b = a ∧ (∀ hj : j < ps.length, bl ps[j].k key = false ∧ (ps[j].k.toList == key.toList) = false)) ∨ (∃ hj : j < ps.length, (ps[j].k.toList == key.toList) = true ∧ bl ps[j].k key = false ∧ b = szL (ps.take (j + 1)))

set_option maxRecDepth 100000 in
theorem find_any {t key : ByteArray} {ps : List Pr} {z : Nat} (hL : Leaf t ps z) (w : World) :
    Calls Tryz.prog 102 #[.string t, .string key] w fun e w' => ∃ j a b, e = .returned (.tuple #[.int .i64 (a : Nat), .int .i64 (b : Nat)]) ∧ FindR ps key j a b ∧ Below w.heap.size w w' := by
  have HL : Hid _ := hL
  have hmf : ∀ (fn : Fn) (first cap : Array Value) (w : World), (Instr.makeFunc fn first cap).run Tryz.prog w = .ok (.func fn first cap) w := fun _ _ _ _ => rfl
  have hb1 : Below w.heap.size w (((w.alloc (.cells #[.string key] 9)).alloc (.cells #[.int .i64 0] 3)).alloc (.cells #[.int .i64 0] 3)) := (((Below.refl _ w).alloc (Nat.le_refl _) _).alloc (by simp) _).alloc (by simp; omega) _
  have HF : Hid (Fv w w.heap.size (w.heap.size + 1) (w.heap.size + 1 + 1) key 0 0 (((w.alloc (.cells #[.string key] 9)).alloc (.cells #[.int .i64 0] 3)).alloc (.cells #[.int .i64 0] 3))) := by
    have n1 := Own1.new w (.string key) 9
    have n2 := Own1.new (w.alloc (.cells #[.string key] 9)) (.int .i64 0) 3
    have n3 := Own1.new ((w.alloc (.cells #[.string key] 9)).alloc (.cells #[.int .i64 0] 3)) (.int .i64 0) 3
    rw [World.size_alloc] at n2
    rw [World.size_alloc, World.size_alloc] at n3
    refine ⟨(n1.below ((Below.refl _ _).alloc (Nat.le_refl _) _)).below ((Below.refl _ _).alloc (Nat.le_refl _) _), n2.below ((Below.refl _ _).alloc (Nat.le_refl _) _), n3, by omega, by omega, by omega, by omega, by omega, hb1⟩
  clear hL hb1
  go_enter Tryz.func102, Tryz.ntmps102
  go_wp2_with fail
  refine (each_any (fun j wx => (∀ i (hi : i < j) (hl : i < ps.length), bl ps[i].k key = true) ∧ Fv w w.heap.size (w.heap.size + 1) (w.heap.size + 1 + 1) key (szL (ps.take j) : Nat) (szL (ps.take j) : Nat) wx)
    (fun wx => ∃ j a b, FindR ps key j a b ∧ Fv w w.heap.size (w.heap.size + 1) (w.heap.size + 1 + 1) key (a : Nat) (b : Nat) wx) (enters_of Tryz.func133 (by kernel_rfl) rfl) HL.out (fun j wx hh => ⟨hh.1, hh.2.drew⟩) (fun j hj wx hh => ?_) _ ⟨fun i hi => absurd hi (Nat.not_lt_zero i), HF.out⟩).mono ?_
  · obtain ⟨h1, h2⟩ := hh
    cases hl : bl ps[j].k key
    · cases he : (ps[j].k.toList == key.toList)
      · refine (find_more _ _ _ h2 hl he).mono ?_
        rintro _ wy ⟨rfl, h3⟩
        exact ⟨false, rfl, j, _, _, ⟨by omega, fun i hi => h1 i hi (by omega), rfl, .inl ⟨rfl, fun _ => ⟨hl, he⟩⟩⟩, h3⟩
      · refine (find_same _ _ _ h2 hl he).mono ?_
        rintro _ wy ⟨rfl, h3⟩
        exact ⟨false, rfl, j, _, _, ⟨by omega, fun i hi => h1 i hi (by omega), rfl, .inr ⟨hj, he, hl, rfl⟩⟩, h3⟩
    · refine (find_less _ _ _ h2 hl).mono ?_
      rintro _ wy ⟨rfl, h3⟩
      refine ⟨true, rfl, fun i hi hl2 => ?_, h3⟩
      by_cases e : i = j
      · subst e; exact hl
      · exact h1 i (by omega) hl2
  rintro _ w1 ⟨b, rfl, h1⟩
  obtain ⟨j, f0, t0, hR, hV⟩ : ∃ j a b, FindR ps key j a b ∧ Fv w w.heap.size (w.heap.size + 1) (w.heap.size + 1 + 1) key (a : Nat) (b : Nat) w1 := by
    cases b
    · exact h1
    · exact ⟨ps.length, _, _, ⟨Nat.le_refl _, fun i hi => h1.1 i hi hi, rfl, .inl ⟨rfl, fun hj => absurd hj (Nat.lt_irrefl _)⟩⟩, h1.2⟩
  have HR : Hid (FindR ps key j f0 t0) := hR
  have HV : Hid _ := hV
  clear h1 hR hV HF
  have V0 := HV.out.drew
  have V1 := V0.setF f0
  have V2 := V1.setT t0
  have C : ∀ {wx : World}, Fv w w.heap.size (w.heap.size + 1) (w.heap.size + 1 + 1) key (f0 : Nat) (t0 : Nat) wx → wx.cell? ⟨w.heap.size + 1, 0, none⟩ = some (.int .i64 (f0 : Nat)) ∧ wx.cell? ⟨w.heap.size + 1 + 1, 0, none⟩ = some (.int .i64 (t0 : Nat)) ∧ wx.frozen? ⟨w.heap.size + 1, 0, none⟩ = false ∧ wx.frozen? ⟨w.heap.size + 1 + 1, 0, none⟩ = false := fun h => ⟨h.f.cell, h.t.cell, h.f.free, h.t.free⟩
  have C0 : Hid _ := C V0
  have C1 : Hid _ := C V1
  have C2 : Hid _ := C V2
  have H2 : Hid _ := V2
  clear V0 V1 V2 C HV
  go_wp2_with fail
  go_region_held3 (fun wx => wx.cell? ⟨w.heap.size + 1, 0, none⟩ = some (.int .i64 (f0 : Nat)) ∧ wx.cell? ⟨w.heap.size + 1 + 1, 0, none⟩ = some (.int .i64 (t0 : Nat)) ∧ wx.frozen? ⟨w.heap.size + 1, 0, none⟩ = false ∧ wx.frozen? ⟨w.heap.size + 1 + 1, 0, none⟩ = false) (first | exact C0.out | exact C1.out | exact C2.out) (fail)
  go_wp2
  (try simp only [Exit.inBlock, Exit.then])
  exact bodyPost_ret (v := .tuple #[.int .i64 (f0 : Nat), .int .i64 (t0 : Nat)]) (results_cells2 Tryz.results102 _ _ _ _ rfl rfl (load3 H2.out.f.cell) (load3 H2.out.t.cell)) rfl ⟨j, f0, t0, rfl, HR.out, H2.out.below⟩

/-- a leaf's first key -/
def firstK : List Pr → ByteArray
  | [] => ⟨#[]⟩
  | x :: _ => x.k
theorem first_cl (x y : ByteArray) (n : Int) (B : Nat) (v : Value) (w : World) (h : Own1 B v w) :
    Calls Tryz.prog 131 #[.agg #[.string x, .string y], .int .i64 n, .pointer (some ⟨B, 0, none⟩)] w fun e w' => e = .returned (.bool false) ∧ Own1 B (.string x) w' ∧ w.grownBy w' (some B) := by
  have h1 := h.below ((Below.refl _ w).alloc (o := .cells #[.string x, .string y] 151) (Nat.le_refl _))
  have q := h1.cell
  have f := h1.free
  have p0 := pair_new w x y 151
  have HR : Hid _ := h1.set (.string x)
  have HG : Hid (w.grownBy ((w.alloc (.cells #[.string x, .string y] 151)).setCell ⟨B, 0, none⟩ (.string x)) (some B)) := (grown_of_below ((Below.refl _ w).alloc (Nat.le_refl _) _) _).trans (grownBy_set _ B 0 _)
  clear h h1
  go_enter Tryz.func131, Tryz.ntmps131
  go_wp2
  go_ret
  exact ⟨rfl, HR.out, HG.out⟩
set_option maxRecDepth 100000 in
theorem first_any {t : ByteArray} {ps : List Pr} {z : Nat} (hL : Leaf t ps z) (w : World) :
    Calls Tryz.prog 100 #[.string t] w fun e w' => e = .returned (.string (firstK ps)) ∧ Below w.heap.size w w' := by
  have HL : Hid _ := hL
  have hmf : ∀ (fn : Fn) (first cap : Array Value) (w : World), (Instr.makeFunc fn first cap).run Tryz.prog w = .ok (.func fn first cap) w := fun _ _ _ _ => rfl
  have HO : Hid (Own1 w.heap.size (.string ⟨#[]⟩) (w.alloc (.cells #[.string ⟨#[]⟩] 9))) := Own1.new w _ _
  have HB : Hid (Below w.heap.size w (w.alloc (.cells #[.string ⟨#[]⟩] 9))) := (Below.refl _ w).alloc (Nat.le_refl _) _
  clear hL
  go_enter Tryz.func100, Tryz.ntmps100
  go_wp2_with fail
  refine (each_any (fun j wx => j = 0 ∧ Own1 w.heap.size (.string ⟨#[]⟩) wx ∧ Below w.heap.size w wx) (fun wx => Own1 w.heap.size (.string (firstK ps)) wx ∧ Below w.heap.size w wx) (enters_of Tryz.func131 (by kernel_rfl) rfl) HL.out (fun j wx hh => ⟨hh.1, hh.2.1.drew, hh.2.2.drew⟩) (fun j hj wx hh => ?_) _ ⟨rfl, HO.out, HB.out⟩).mono ?_
  · obtain ⟨rfl, hh1, hh2⟩ := hh
    refine (first_cl _ _ _ _ _ _ hh1).mono ?_
    rintro _ wy ⟨rfl, h1, h2⟩
    refine ⟨false, rfl, ?_, hh2.grown h2 hh2.size (fun k e => by cases e; exact Nat.le_refl _)⟩
    cases ps with
    | nil => exact absurd hj (Nat.not_lt_zero _)
    | cons x r => exact h1
  rintro _ w1 ⟨b, rfl, h1⟩
  obtain ⟨h2, h3⟩ : Own1 w.heap.size (.string (firstK ps)) w1 ∧ Below w.heap.size w w1 := by
    cases b
    · exact h1
    · obtain ⟨e, h2, h3⟩ := h1
      have : ps = [] := List.length_eq_zero_iff.1 e
      subst this
      exact ⟨h2, h3⟩
  have q := h2.cell
  have f := h2.free
  have HR : Hid _ := h2.set (.string (firstK ps))
  have HB1 : Hid (Below w.heap.size w (w1.setCell ⟨w.heap.size, 0, none⟩ (.string (firstK ps)))) := h3.setCell (Nat.le_refl _) _
  clear h2 h3
  go_wp2
  (try simp only [Exit.inBlock, Exit.then])
  exact bodyPost_ret (v := .string (firstK ps)) (results_cell_of Tryz.results100 _ _ _ rfl (load9 HR.out.cell)) rfl ⟨rfl, HB1.out⟩
end Go.Proofs.YtabcficlnhajeaaGreatDoor
namespace Go.Proofs.YtabcficlnhajeaaGreatDoor
open Go.RowKit

/-- so many of one letter -/
def rep (c : UInt8) (k : Nat) : ByteArray := ⟨(List.replicate k c).toArray⟩
theorem rep_size (c : UInt8) (k : Nat) : (rep c k).size = k := by
  show (List.replicate k c).toArray.size = k
  rw [List.size_toArray, List.length_replicate]

theorem rep_any (c : UInt8) (k : Nat) (hk : k ≤ 1024) (w : World) : Calls Tryz.prog 126 #[.string ⟨#[c]⟩, .int .i64 k] w fun e w' => e = .returned (.string (rep c k)) ∧ Below w.heap.size w w' := by
  have h := lib_repeat ⟨#[c]⟩ k w (by omega) (by show 1 * k ≤ _; omega)
  have e : Lib.repeatL (ByteArray.mk #[c]).data.toList k = List.replicate k c := by
    show Lib.repeatL [c] k = _
    have h1 : ([c] : List UInt8) = List.replicate 1 c := rfl
    rw [h1, Lib.repeatL_replicate, Nat.mul_one]
  rw [e] at h
  exact h

/-- the page of a number -/
def pageOf (n : Int) : ByteArray := rep (UInt8.ofNat ((n / 256) % 256).toNat) (n % 1024).toNat ++ rep (UInt8.ofNat (n % 256).toNat) (1024 - (n % 1024).toNat)

theorem below_step {w W w1 : World} (h : Below w.heap.size w W) (hb : Below W.heap.size W w1) : Below w.heap.size w w1 := h.trans (hb.mono h.size)

theorem one_byte (x : Int) (W : World) (B : Nat) (h : W.cell? ⟨B, 0, none⟩ = some (.int .u8 (IntKind.u8.wrap x))) :
    (convert 139 9 (.slice (some ⟨B, 0, none⟩) 1 1)).run Tryz.prog W = .ok (.string ⟨#[UInt8.ofNat (x % 256).toNat]⟩) W := by
  have e : IntKind.u8.wrap x = ((UInt8.ofNat (x % 256).toNat).toNat : Int) := by
    have h1 : (x % 256).toNat < 256 := by omega
    rw [UInt8.toNat_ofNat']
    simp [IntKind.wrap, IntKind.signed, IntKind.bits]
    omega
  have := run_convert_bytes_back (P := Tryz.prog) W 139 9 5 ⟨B, 0, none⟩ 1 [UInt8.ofNat (x % 256).toNat] Tryz.underlying139 Tryz.underlying5 Tryz.underlying9 (fun j hj => by
    have : j = 0 := by simpa using hj
    subst this
    rw [Addr.add_zero', h, e]
    rfl)
  exact this

theorem page_mod (n : Int) : wrap64 ((IntKind.u64.wrap n).tmod 1024) = (((n % 1024).toNat : Nat) : Int) := by
  simp [IntKind.wrap, IntKind.signed, IntKind.bits]
  have h1 : 0 ≤ n % 18446744073709551616 := by omega
  rw [Int.tmod_eq_emod_of_nonneg h1]
  unfold wrap64
  omega

theorem pageOf_size (n : Int) : (pageOf n).size = 1024 := by
  unfold pageOf
  rw [ByteArray.size_append, rep_size, rep_size]
  omega
end Go.Proofs.YtabcficlnhajeaaGreatDoor
namespace Go.Proofs.YtabcficlnhajeaaGreatDoor
open Go.RowKit

/-- which page a number picks -/
def pk (a : Int) (n : Nat) : Nat := (a % 18446744073709551616 % (n : Int)).toNat
theorem pk_lt (a : Int) (n : Nat) (hn : 0 < n) : pk a n < n := by
  unfold pk
  have h1 := Int.emod_nonneg (a % 18446744073709551616) (show (n : Int) ≠ 0 by omega)
  have h2 := Int.emod_lt_of_pos (a % 18446744073709551616) (show (0 : Int) < n by omega)
  omega

theorem pick_mod (a : Int) (n : Nat) (hn : 0 < n) (hn2 : n ≤ 1000000) : wrap64 ((IntKind.u64.wrap a).tmod (n : Int)) = (pk a n : Int) := by
  have e2 : IntKind.u64.wrap a = a % 18446744073709551616 := by
    simp [IntKind.wrap, IntKind.signed, IntKind.bits]
  have h1 : 0 ≤ a % 18446744073709551616 := by omega
  rw [e2, Int.tmod_eq_emod_of_nonneg h1]
  have h2 := Int.emod_nonneg (a % 18446744073709551616) (show (n : Int) ≠ 0 by omega)
  have h3 := Int.emod_lt_of_pos (a % 18446744073709551616) (show (0 : Int) < n by omega)
  unfold pk wrap64
  omega

theorem pk_1024 (n : Int) : pk n 1024 = (n % 1024).toNat := by
  unfold pk
  congr 1
  omega

end Go.Proofs.YtabcficlnhajeaaGreatDoor
namespace Go.Proofs.YtabcficlnhajeaaGreatDoor
open Go.RowKit Go.Maps

theorem one_byteI (x : Int) (W : World) (B : Nat) (h : W.cell? ⟨B, 0, none⟩ = some (.int .u8 (IntKind.u8.wrap x))) :
    (convert 139 9 (.slice (some ⟨B, 0, none⟩) 1 1)).run Tryz.prog W = .ok (.string ⟨#[byteI x]⟩) W := one_byte x W B h
theorem wrap_u8 (x : Int) : IntKind.u8.wrap x = x % 256 := by
  simp [IntKind.wrap, IntKind.signed, IntKind.bits]
theorem one_byteM (x : Int) (W : World) (B : Nat) (h : W.cell? ⟨B, 0, none⟩ = some (.int .u8 (x % 256))) :
    (convert 139 9 (.slice (some ⟨B, 0, none⟩) 1 1)).run Tryz.prog W = .ok (.string ⟨#[byteI x]⟩) W := one_byte x W B (by rw [h, wrap_u8])
theorem one_byteN (x : Int) (h0 : 0 ≤ x) (h1 : x < 256) (W : World) (B : Nat) (h : W.cell? ⟨B, 0, none⟩ = some (.int .u8 x)) :
    (convert 139 9 (.slice (some ⟨B, 0, none⟩) 1 1)).run Tryz.prog W = .ok (.string ⟨#[byteI x]⟩) W := one_byteM x W B (by rw [h, Int.emod_eq_of_lt h0 h1])
theorem byteI_toNat (x : Int) : IntKind.u8.wrap x = ((byteI x).toNat : Int) := by
  have h1 : (x % 256).toNat < 256 := by omega
  unfold byteI
  rw [UInt8.toNat_ofNat']
  simp [IntKind.wrap, IntKind.signed, IntKind.bits]
  omega
theorem four_bytes (x0 x1 x2 x3 : Int) (W : World) (B : Nat) (h0 : W.cell? ⟨B, 0, none⟩ = some (.int .u8 (IntKind.u8.wrap x0))) (h1 : W.cell? ⟨B, 1, none⟩ = some (.int .u8 (IntKind.u8.wrap x1)))
    (h2 : W.cell? ⟨B, 2, none⟩ = some (.int .u8 (IntKind.u8.wrap x2))) (h3 : W.cell? ⟨B, 3, none⟩ = some (.int .u8 (IntKind.u8.wrap x3))) :
    (convert 139 9 (.slice (some ⟨B, 0, none⟩) 4 4)).run Tryz.prog W = .ok (.string ⟨#[byteI x0, byteI x1, byteI x2, byteI x3]⟩) W := by
  have := run_convert_bytes_back (P := Tryz.prog) W 139 9 5 ⟨B, 0, none⟩ 4 [byteI x0, byteI x1, byteI x2, byteI x3] Tryz.underlying139 Tryz.underlying5 Tryz.underlying9 (fun j hj => by
    have : j < 4 := by simpa using hj
    have e : j = 0 ∨ j = 1 ∨ j = 2 ∨ j = 3 := by omega
    rcases e with rfl | rfl | rfl | rfl
    · rw [Addr.add_zero', h0, byteI_toNat]; rfl
    · rw [show (⟨B, 0, none⟩ : Addr).add 1 = ⟨B, 1, none⟩ from rfl, h1, byteI_toNat]; rfl
    · rw [show (⟨B, 0, none⟩ : Addr).add 2 = ⟨B, 2, none⟩ from rfl, h2, byteI_toNat]; rfl
    · rw [show (⟨B, 0, none⟩ : Addr).add 3 = ⟨B, 3, none⟩ from rfl, h3, byteI_toNat]; rfl)
  exact this

theorem four_bytesM (x0 x1 x2 x3 : Int) (W : World) (B : Nat) (h0 : W.cell? ⟨B, 0, none⟩ = some (.int .u8 (x0 % 256))) (h1 : W.cell? ⟨B, 1, none⟩ = some (.int .u8 (x1 % 256)))
    (h2 : W.cell? ⟨B, 2, none⟩ = some (.int .u8 (x2 % 256))) (h3 : W.cell? ⟨B, 3, none⟩ = some (.int .u8 (x3 % 256))) :
    (convert 139 9 (.slice (some ⟨B, 0, none⟩) 4 4)).run Tryz.prog W = .ok (.string ⟨#[byteI x0, byteI x1, byteI x2, byteI x3]⟩) W :=
  four_bytes x0 x1 x2 x3 W B (by rw [h0, wrap_u8]) (by rw [h1, wrap_u8]) (by rw [h2, wrap_u8]) (by rw [h3, wrap_u8])

section
variable {bp bd bm n : Nat} {p : Pg} {s : St} {w : World}
theorem view_size (hD : Prg bd s w) (hp : p.Ok) : ∀ k t, p.view s.pg k = some t → t.size = 1024 := fun k t h => by
  unfold Pg.view at h
  split at h
  · rename_i e
    obtain rfl := Option.some.inj h
    unfold Pg.text
    cases hc : p.chg k with
    | some t => exact (hp.chg k t hc).2.2
    | none => exact page_of_sizes hD _ (placeF_lt k e.1 _)
  · cases h

end
end Go.Proofs.YtabcficlnhajeaaGreatDoor
namespace Go.Proofs.YtabcficlnhajeaaGreatDoor
open Go.RowKit

/-- a pair as it is written -/
def Pr.bytes (x : Pr) : ByteArray := ⟨x.enc.toArray⟩
theorem Pr.bytes_size (x : Pr) : x.bytes.size = x.sz := by
  show x.enc.toArray.size = _
  rw [List.size_toArray, Pr.enc_len]
theorem two_bytesN (x0 x1 : Int) (h00 : 0 ≤ x0) (h01 : x0 < 256) (h10 : 0 ≤ x1) (h11 : x1 < 256) (W : World) (B : Nat) (h0 : W.cell? ⟨B, 0, none⟩ = some (.int .u8 x0)) (h1 : W.cell? ⟨B, 1, none⟩ = some (.int .u8 x1)) :
    (convert 139 9 (.slice (some ⟨B, 0, none⟩) 2 2)).run Tryz.prog W = .ok (.string ⟨#[byteI x0, byteI x1]⟩) W := by
  have e0 : x0 = ((byteI x0).toNat : Int) := by rw [← byteI_toNat, wrap_u8, Int.emod_eq_of_lt h00 h01]
  have e1 : x1 = ((byteI x1).toNat : Int) := by rw [← byteI_toNat, wrap_u8, Int.emod_eq_of_lt h10 h11]
  have := run_convert_bytes_back (P := Tryz.prog) W 139 9 5 ⟨B, 0, none⟩ 2 [byteI x0, byteI x1] Tryz.underlying139 Tryz.underlying5 Tryz.underlying9 (fun j hj => by
    have : j < 2 := by simpa using hj
    have e : j = 0 ∨ j = 1 := by omega
    rcases e with rfl | rfl
    · rw [Addr.add_zero', h0]; exact congrArg (fun z => some (Value.int .u8 z)) e0
    · rw [show (⟨B, 0, none⟩ : Addr).add 1 = ⟨B, 1, none⟩ from rfl, h1]; exact congrArg (fun z => some (Value.int .u8 z)) e1)
  exact this
theorem byteI_nat (n : Nat) : byteI (n : Int) = UInt8.ofNat n := by
  unfold byteI
  apply UInt8.toNat_inj.1
  rw [UInt8.toNat_ofNat', UInt8.toNat_ofNat']
  omega
theorem bytes_eq (x : Pr) : (⟨#[byteI (x.k.size : Int), byteI (x.i.size : Int)]⟩ : ByteArray) ++ x.k ++ x.i = x.bytes := by
  apply ByteArray.ext
  apply Array.toList_inj.1
  rw [ByteArray.data_append, Array.toList_append, ByteArray.data_append, Array.toList_append, byteI_nat, byteI_nat]
  show [UInt8.ofNat x.k.size, UInt8.ofNat x.i.size] ++ x.k.data.toList ++ x.i.data.toList = x.enc.toArray.toList
  unfold Pr.enc
  simp

set_option maxRecDepth 100000 in
theorem writePair_any (x : Pr) (hx : x.Ok) (w : World) :
    Calls Tryz.prog 80 #[.agg #[.string x.k, .string x.i]] w fun e w' => e = .returned (.string x.bytes) ∧ Below w.heap.size w w' := by
  obtain ⟨h1, h2, h3⟩ := hx
  have HB : Hid _ := bytes_eq x
  rw [← HB.out]
  obtain ⟨k, i⟩ := x
  simp only at h1 h2 h3
  have hcA := two_bytesN (k.size : Int) (i.size : Int) (by omega) (by omega) (by omega) (by omega)
  have hs : (⟨#[byteI (k.size : Int), byteI (i.size : Int)]⟩ : ByteArray).size = 2 := rfl
  have hb1 : Hid (Below w.heap.size w ((w.alloc (.cells #[.string k, .string i] 151)).alloc (.cells #[.int .u8 (k.size : Int), .int .u8 (i.size : Int)] 5))) := ((Below.refl _ w).alloc (Nat.le_refl _) _).alloc (by simp) _
  clear HB
  go_enter Tryz.func80, Tryz.ntmps80
  go_wp2
  go_ret
  exact ⟨rfl, hb1.out⟩

/-- where a text is cut in two -/
structure HalvesR (t : ByteArray) (ps : List Pr) (j : Nat) : Prop where
  lt : j < ps.length
  pos : 0 < j
  left : szL (ps.take j) ≤ 1024
  right : szL (ps.drop j) ≤ 1024
theorem szL_drop (ps : List Pr) (j : Nat) : szL (ps.take j) + szL (ps.drop j) = szL ps := by
  rw [← szL_append, List.take_append_drop]
theorem halves_math {ps : List Pr} (hok : ∀ x ∈ ps, x.Ok) (h1 : 1024 < szL ps) (h2 : szL ps ≤ 1186) {j : Nat} (hj : j < ps.length) (hb : szL (ps.take j) < szL ps / 2) (ha : szL ps / 2 ≤ szL (ps.take (j + 1))) : HalvesR ⟨#[]⟩ ps (j + 1) := by
  have e := szL_take_succ hj
  have ok := hok _ (List.getElem_mem hj)
  have hs : ps[j].sz ≤ 162 := by unfold Pr.sz; have := ok.2.1; have := ok.2.2; omega
  have d := szL_drop ps (j + 1)
  refine ⟨?_, by omega, by omega, by omega⟩
  apply Nat.lt_of_not_le
  intro hn
  rw [List.take_of_length_le hn] at e
  omega

theorem halves_cl (x y t : ByteArray) (n : Int) (B C : Nat) (v : Value) (w : World) (h : Own1 B v w) (hC : Own1 C (.string t) w) (hne : C ≠ B) (ht : t.size ≤ 4096) :
    Calls Tryz.prog 141 #[.agg #[.string x, .string y], .int .i64 n, .pointer (some ⟨B, 0, none⟩), .pointer (some ⟨C, 0, none⟩)] w fun e w' => e = .returned (.bool (decide (n < (t.size : Int) / 2))) ∧ Own1 B (.int .i64 n) w' ∧ Own1 C (.string t) w' ∧ w.grownBy w' (some B) := by
  have hb := (Below.refl _ w).alloc (o := .cells #[.string x, .string y] 151) (Nat.le_refl _)
  have h1 := h.below hb
  have c1 := hC.below hb
  have q := h1.cell
  have f := h1.free
  have H1 : Hid _ := h1.set (.int .i64 n)
  have q1 := H1.out.cell
  have C1 : Hid _ := c1.other (u := .int .i64 n) hne
  have q2 := C1.out.cell
  have HG : Hid (w.grownBy ((w.alloc (.cells #[.string x, .string y] 151)).setCell ⟨B, 0, none⟩ (.int .i64 n)) (some B)) := (grown_of_below hb _).trans (grownBy_set _ B 0 _)
  have hd : Int.tdiv (t.size : Int) 2 = (t.size : Int) / 2 := Int.tdiv_eq_ediv_of_nonneg (by omega)
  clear h h1 hC c1 hb
  go_enter Tryz.func141, Tryz.ntmps141
  go_wp2
  go_ret
  exact ⟨rfl, H1.out, C1.out, HG.out⟩

/-- a row of texts that a call has made -/
def SRow (B : Nat) (v : Value) (ts : List ByteArray) (w : World) : Prop := w.ownsRow B 9 1 v ts.length (ts.map Value.string)

theorem row1 (w : World) (B : Nat) (hB : B ≤ w.heap.size) (a : ByteArray) : SRow B (.slice (some ⟨w.heap.size, 0, none⟩) 1 1) [a] (w.alloc (.cells #[.string a] 9)) :=
  ⟨rfl, .inr ⟨w.heap.size, 1, _, rfl, hB, heap_alloc_new w _, Nat.le_refl _, by decide, rfl, rfl⟩⟩
theorem row2 (w : World) (B : Nat) (hB : B ≤ w.heap.size) (a b : ByteArray) : SRow B (.slice (some ⟨w.heap.size, 0, none⟩) 2 2) [a, b] (w.alloc (.cells #[.string a, .string b] 9)) :=
  ⟨rfl, .inr ⟨w.heap.size, 2, _, rfl, hB, heap_alloc_new w _, Nat.le_refl _, by decide, rfl, rfl⟩⟩

set_option maxRecDepth 100000 in
theorem halves_one (t : ByteArray) (ht : t.size ≤ 1024) (w : World) :
    Calls Tryz.prog 116 #[.string t] w fun e w' => ∃ v, e = .returned v ∧ SRow w.heap.size v [t] w' ∧ Below w.heap.size w w' := by
  have h1 : (t.size : Int) ≤ 1024 := by omega
  have q := (Own1.new w (.string t) 9).cell
  have HR : Hid _ := row1 (w.alloc (.cells #[.string t] 9)) w.heap.size (by simp) t
  have HB : Hid (Below w.heap.size w ((w.alloc (.cells #[.string t] 9)).alloc (.cells #[.string t] 9))) := ((Below.refl _ w).alloc (Nat.le_refl _) _).alloc (by simp) _
  rw [World.size_alloc] at HR
  go_enter Tryz.func116, Tryz.ntmps116
  go_wp2
  go_ret
  exact ⟨_, rfl, HR.out, HB.out⟩

set_option maxRecDepth 100000 in
set_option maxHeartbeats 1000000 in
theorem halves_two {t : ByteArray} {ps : List Pr} (hL : Leaf t ps 0) (h1 : 1024 < t.size) (h2 : t.size ≤ 1186) (w : World) :
    Calls Tryz.prog 116 #[.string t] w fun e w' => ∃ v j, e = .returned v ∧ HalvesR ⟨#[]⟩ ps j ∧ SRow w.heap.size v [t.extract 0 (szL (ps.take j)), t.extract (szL (ps.take j)) t.size] w' ∧ Below w.heap.size w w' := by
  have h3 : ¬ (t.size : Int) ≤ 1024 := by omega
  have HL : Hid _ := hL
  have hsz := hL.size
  rw [Nat.add_zero] at hsz
  have hmf : ∀ (fn : Fn) (first cap : Array Value) (w : World), (Instr.makeFunc fn first cap).run Tryz.prog w = .ok (.func fn first cap) w := fun _ _ _ _ => rfl
  have n1 := Own1.new w (.string t) 9
  have n2 := n1.below ((Below.refl _ _).alloc (o := .cells #[.int .i64 0] 3) (Nat.le_refl _))
  have n3 := Own1.new (w.alloc (.cells #[.string t] 9)) (.int .i64 0) 3
  rw [World.size_alloc] at n3
  have hb := ((Below.refl _ w).alloc (o := .cells #[.string t] 9) (Nat.le_refl _)).alloc (o := .cells #[.int .i64 0] 3) (by simp)
  have H0 : Hid (Own1 (w.heap.size + 1) (.int .i64 0) ((w.alloc (.cells #[.string t] 9)).alloc (.cells #[.int .i64 0] 3)) ∧ Own1 w.heap.size (.string t) ((w.alloc (.cells #[.string t] 9)).alloc (.cells #[.int .i64 0] 3)) ∧ Below w.heap.size w ((w.alloc (.cells #[.string t] 9)).alloc (.cells #[.int .i64 0] 3))) := ⟨n3, n2, hb⟩
  have q1 := n1.cell
  have q2 := n2.cell
  have HZ : Hid (t.size = szL ps) := hsz
  clear n1 n2 n3 hb hL hsz
  go_enter Tryz.func116, Tryz.ntmps116
  go_wp2_with fail
  refine (each_any (fun j wx => (j = 0 ∨ szL (ps.take j) < t.size / 2) ∧ (∃ c : Int, Own1 (w.heap.size + 1) (.int .i64 c) wx) ∧ Own1 w.heap.size (.string t) wx ∧ Below w.heap.size w wx)
    (fun wx => ∃ j, HalvesR ⟨#[]⟩ ps j ∧ Own1 (w.heap.size + 1) (.int .i64 (szL (ps.take j) : Nat)) wx ∧ Own1 w.heap.size (.string t) wx ∧ Below w.heap.size w wx) (enters_of Tryz.func141 (by kernel_rfl) rfl) HL.out (fun j wx hh => ⟨hh.1, hh.2.1.elim fun c hc => ⟨c, hc.drew⟩, hh.2.2.1.drew, hh.2.2.2.drew⟩) (fun j hj wx hh => ?_) _ ⟨.inl rfl, ⟨0, H0.out.1⟩, H0.out.2.1, H0.out.2.2⟩).mono ?_
  · obtain ⟨g1, ⟨c, g2⟩, g3, g4⟩ := hh
    have hle := szL_take_le ps (j + 1)
    have hz := HZ.out
    refine (halves_cl _ _ t _ _ _ _ _ g2 g3 (by omega) (by omega)).mono ?_
    rintro _ wy ⟨rfl, k1, k2, k3⟩
    have k4 : Below w.heap.size w wy := g4.grown k3 g4.size (fun k e => by cases e; omega)
    by_cases hc : szL (ps.take (j + 1)) < t.size / 2
    · rw [decide_eq_true (show ((szL (ps.take (j + 1)) : Nat) : Int) < (t.size : Int) / 2 by omega)]
      exact ⟨true, rfl, .inr hc, ⟨_, k1⟩, k2, k4⟩
    · rw [decide_eq_false (show ¬ ((szL (ps.take (j + 1)) : Nat) : Int) < (t.size : Int) / 2 by omega)]
      refine ⟨false, rfl, j + 1, halves_math HL.out.ok (by omega) (by omega) hj ?_ (by omega), k1, k2, k4⟩
      rcases g1 with g1 | g1
      · subst g1
        show 0 < _
        omega
      · omega
  rintro _ w1 ⟨b, rfl, h4⟩
  obtain ⟨j, g1, g2, g3, g4⟩ : ∃ j, HalvesR ⟨#[]⟩ ps j ∧ Own1 (w.heap.size + 1) (.int .i64 (szL (ps.take j) : Nat)) w1 ∧ Own1 w.heap.size (.string t) w1 ∧ Below w.heap.size w w1 := by
    cases b
    · exact h4
    · exfalso
      have hz := HZ.out
      rcases h4.1 with e | e
      · have : ps = [] := List.length_eq_zero_iff.1 e
        subst this
        change t.size = 0 at hz
        omega
      · rw [List.take_length] at e
        omega
  have hle := szL_take_le ps j
  have hz := HZ.out
  have HR : Hid _ := row2 w1.drew w.heap.size g4.size (t.extract 0 (szL (ps.take j))) (t.extract (szL (ps.take j)) t.size)
  have HB : Hid (Below w.heap.size w (w1.drew.alloc (.cells #[.string (t.extract 0 (szL (ps.take j))), .string (t.extract (szL (ps.take j)) t.size)] 9))) := g4.drew.alloc g4.size _
  have G1 : Hid _ := g1
  have c1 := g2.drew.cell
  have c2 := g3.drew.cell
  clear g2 g3 g4 h4 H0 q1 q2
  have hcle : szL (ps.take j) ≤ t.size := by omega
  obtain ⟨cut, hcut⟩ : ∃ c, szL (ps.take j) = c := ⟨_, rfl⟩
  rw [hcut] at HR HB c1 hcle
  have HCUT : Hid _ := hcut
  clear hcut hle hz
  have hi : (cut : Int) ≤ (t.size : Int) := by omega
  have C0 : Hid (w1.drew.cell? ⟨w.heap.size, 0, none⟩ = some (.string t) ∧ w1.drew.cell? ⟨w.heap.size + 1, 0, none⟩ = some (.int .i64 (cut : Nat))) := ⟨c2, c1⟩
  have C1 : Hid ((w1.drew.alloc (.cells #[.string (t.extract 0 cut), .string (t.extract cut t.size)] 9)).cell? ⟨w.heap.size, 0, none⟩ = some (.string t) ∧ (w1.drew.alloc (.cells #[.string (t.extract 0 cut), .string (t.extract cut t.size)] 9)).cell? ⟨w.heap.size + 1, 0, none⟩ = some (.int .i64 (cut : Nat))) :=
    ⟨by rw [World.cell?_alloc_some _ _ _ (by rw [c2]; rfl)]; exact c2, by rw [World.cell?_alloc_some _ _ _ (by rw [c1]; rfl)]; exact c1⟩
  clear c1 c2
  go_wp2_with fail
  go_region_held3 (fun wx => wx.cell? ⟨w.heap.size, 0, none⟩ = some (.string t) ∧ wx.cell? ⟨w.heap.size + 1, 0, none⟩ = some (.int .i64 (cut : Nat))) (first | exact C0.out | exact C1.out) (fail)
  go_wp2
  go_ret
  exact ⟨_, j, rfl, G1.out, by rw [HCUT.out]; exact HR.out, HB.out⟩
end Go.Proofs.YtabcficlnhajeaaGreatDoor
