/- Texts of the proof of MatchSets: Pg0, Flags, Tfl, Head. -/
import Derived.Test.YtjgdnainhoipgaaGreatDoorM00
import Derived.Deep.MidRow
import Derived.Maps.Ext
import Derived.Maps.OwnOps
import Derived.Maps.OwnSet
import Derived.Maps.StringElems
import Derived.BigQuiet
import Derived.Shelf.Abstract
import Derived.Laws.BitsLemmas
import Derived.Deep.QuietTactic
namespace Go.Proofs.YtjgdnainhoipgaaGreatDoor
open Go.RowKit Go.Maps

/-- what a call leaves as it was: all but the blocks of S -/
structure Only (S : Nat → Prop) (w w' : World) : Prop where
  os : w'.os = w.os
  tape : w'.tape = w.tape
  output : w'.output = w.output
  size : w.heap.size ≤ w'.heap.size
  block : ∀ k, k < w.heap.size → ¬ S k → w'.heap[k]? = w.heap[k]?

theorem Only.refl (S : Nat → Prop) (w : World) : Only S w w := ⟨rfl, rfl, rfl, Nat.le_refl _, fun _ _ _ => rfl⟩
theorem Only.of_below {S : Nat → Prop} {w w' : World} (h : Below w.heap.size w w') : Only S w w' := ⟨h.os, h.tape, h.output, h.size, fun k hk _ => h.block k hk⟩
theorem Only.of_grown {S : Nat → Prop} {w w' : World} {b : Nat} (h : w.grownBy w' (some b)) (hb : S b) : Only S w w' :=
  ⟨h.os, h.tape, h.output, h.size, fun k hk hs => h.block k hk (fun e => hs (by cases e; exact hb))⟩
theorem Only.trans {S T : Nat → Prop} {w w' w'' : World} (h : Only S w w') (k : Only T w' w'') (hT : ∀ i, T i → S i ∨ w.heap.size ≤ i) : Only S w w'' :=
  ⟨k.os.trans h.os, k.tape.trans h.tape, k.output.trans h.output, Nat.le_trans h.size k.size, fun i hi hs => (k.block i (Nat.lt_of_lt_of_le hi h.size) (fun ht => by
    rcases hT i ht with h1 | h1
    · exact hs h1
    · omega)).trans (h.block i hi hs)⟩
theorem Only.mono {S T : Nat → Prop} {w w' : World} (h : Only S w w') (hT : ∀ i, S i → T i) : Only T w w' :=
  ⟨h.os, h.tape, h.output, h.size, fun i hi hs => h.block i hi (fun k => hs (hT i k))⟩
theorem Only.drew {S : Nat → Prop} {w w' : World} (h : Only S w w') : Only S w w'.drew := ⟨h.os, h.tape, h.output, h.size, h.block⟩
theorem Only.cell {S : Nat → Prop} {w w' : World} (h : Only S w w') {b : Nat} (hb : b < w.heap.size) (hs : ¬ S b) (o : Nat) : w'.cell? ⟨b, o, none⟩ = w.cell? ⟨b, o, none⟩ := World.cell?_of_block (h.block b hb hs)
theorem Only.below {S : Nat → Prop} {B : Nat} {a w w' : World} (h : Below B a w) (k : Only S w w') (hB : B ≤ w.heap.size) (hS : ∀ i, S i → B ≤ i) : Below B a w' :=
  ⟨k.os.trans h.os, k.tape.trans h.tape, k.output.trans h.output, Nat.le_trans h.size k.size, fun i hi => (k.block i (by omega) (fun hs => by have := hS i hs; omega)).trans (h.block i hi)⟩

/-- bits, in cells -/
def flags (f : Nat → Bool) : List Value := (List.range 2000).map fun k => .bool (f k)
/-- roots, in cells -/
def rootsL (rp rn : Nat → Int) : List Value := (List.range 16).map fun k => .int .i64 (if k % 2 = 0 then rp (k / 2) else rn (k / 2))
/-- a state, in cells -/
def stateL (used : Nat → Bool) (rp rn : Nat → Int) (m : Nat) : List Value := flags used ++ (rootsL rp rn ++ [.map (some m)])

theorem flags_len (f : Nat → Bool) : (flags f).length = 2000 := by simp [flags]
theorem rootsL_len (rp rn : Nat → Int) : (rootsL rp rn).length = 16 := by simp [rootsL]
theorem stateL_len (used : Nat → Bool) (rp rn : Nat → Int) (m : Nat) : (stateL used rp rn m).length = 2017 := by
  rw [stateL, List.length_append, flags_len, List.length_append, rootsL_len]; rfl
theorem flags_get (f : Nat → Bool) {k : Nat} (hk : k < 2000) : (flags f)[k]? = some (.bool (f k)) := by
  simp [flags, List.getElem?_map, List.getElem?_range hk]
theorem rootsL_get (rp rn : Nat → Int) {k : Nat} (hk : k < 16) : (rootsL rp rn)[k]? = some (.int .i64 (if k % 2 = 0 then rp (k / 2) else rn (k / 2))) := by
  simp [rootsL, List.getElem?_map, List.getElem?_range hk]
theorem flags_congr {f g : Nat → Bool} (h : ∀ k, k < 2000 → f k = g k) : flags f = flags g :=
  List.map_congr_left fun k hk => by rw [h k (List.mem_range.1 hk)]
theorem stateL_used (used : Nat → Bool) (rp rn : Nat → Int) (m : Nat) {k : Nat} (hk : k < 2000) : (stateL used rp rn m)[k]? = some (.bool (used k)) := by
  rw [stateL, List.getElem?_append_left (by rw [flags_len]; exact hk), flags_get _ hk]
theorem stateL_root (used : Nat → Bool) (rp rn : Nat → Int) (m : Nat) {k : Nat} (hk : k < 16) : (stateL used rp rn m)[2000 + k]? = some (.int .i64 (if k % 2 = 0 then rp (k / 2) else rn (k / 2))) := by
  rw [stateL, List.getElem?_append_right (by rw [flags_len]; omega), flags_len, Nat.add_sub_cancel_left, List.getElem?_append_left (by rw [rootsL_len]; exact hk), rootsL_get _ _ hk]
theorem stateL_map (used : Nat → Bool) (rp rn : Nat → Int) (m : Nat) : (stateL used rp rn m)[2016]? = some (.map (some m)) := by
  rw [stateL, List.getElem?_append_right (by rw [flags_len]; omega), flags_len, List.getElem?_append_right (by rw [rootsL_len]; omega), rootsL_len]; rfl
theorem flags_one (f : Nat → Bool) : ∀ v ∈ flags f, v.oneCell' = true := fun v hv => by
  obtain ⟨k, _, rfl⟩ := List.mem_map.1 hv; rfl
theorem rootsL_one (rp rn : Nat → Int) : ∀ v ∈ rootsL rp rn, v.oneCell' = true := fun v hv => by
  obtain ⟨k, _, rfl⟩ := List.mem_map.1 hv; rfl
/-- a pager -/
structure Pg where
  upper : Nat → Bool
  used : Nat → Bool
  rp : Nat → Int
  rn : Nat → Int
  chg : Nat → Option ByteArray
  commits : Int
  down : Bool

/-- its cells -/
def cellOf (p : Pg) (bd bm : Nat) (k : Nat) : Value :=
  if k = 0 then .pointer (some ⟨bd, 0, none⟩) else if k < 2001 then .bool (p.upper (k - 1)) else if k < 4001 then .bool (p.used (k - 2001))
  else if k < 4017 then .int .i64 (if (k - 4001) % 2 = 0 then p.rp ((k - 4001) / 2) else p.rn ((k - 4001) / 2))
  else if k = 4017 then .map (some bm) else if k = 4018 then .int .i64 p.commits else .bool p.down

theorem cellOf_upper (p : Pg) (bd bm : Nat) {k : Nat} (hk : k < 2000) : cellOf p bd bm (1 + k) = .bool (p.upper k) := by
  unfold cellOf
  rw [if_neg (by omega), if_pos (by omega)]; simp [Nat.add_comm 1 k]
theorem cellOf_used (p : Pg) (bd bm : Nat) {k : Nat} (hk : k < 2000) : cellOf p bd bm (2001 + k) = .bool (p.used k) := by
  unfold cellOf
  rw [if_neg (by omega), if_neg (by omega), if_pos (by omega), show 2001 + k - 2001 = k by omega]
theorem cellOf_root (p : Pg) (bd bm : Nat) {k : Nat} (hk : k < 16) : cellOf p bd bm (4001 + k) = .int .i64 (if k % 2 = 0 then p.rp (k / 2) else p.rn (k / 2)) := by
  unfold cellOf
  rw [if_neg (by omega), if_neg (by omega), if_neg (by omega), if_pos (by omega), show 4001 + k - 4001 = k by omega]
theorem cellOf_map (p : Pg) (bd bm : Nat) : cellOf p bd bm 4017 = .map (some bm) := rfl
theorem cellOf_down (p : Pg) (bd bm : Nat) : cellOf p bd bm 4019 = .bool p.down := rfl

/-- block bp has these cells -/
structure Cells (bp bd bm : Nat) (p : Pg) (w : World) : Prop where
  cell : ∀ k, k < 4020 → w.cell? ⟨bp, k, none⟩ = some (cellOf p bd bm k)
  free : ∀ k, w.frozen? ⟨bp, k, none⟩ = false

section
variable {bp bd bm n : Nat} {p : Pg} {w w' : World}

theorem Cells.lt (h : Cells bp bd bm p w) : bp < w.heap.size := World.block_lt_of_cell? w _ (h.cell 0 (by omega))
theorem Cells.block (h : Cells bp bd bm p w) (hb : w'.heap[bp]? = w.heap[bp]?) : Cells bp bd bm p w' :=
  ⟨fun k hk => (World.cell?_of_block hb).trans (h.cell k hk), fun k => (World.frozen?_of_block (a := ⟨bp, k, none⟩) hb).trans (h.free k)⟩
theorem Cells.set (h : Cells bp bd bm p w) {p' : Pg} {bm' o : Nat} {v : Value} (ho : o < 4020) (hv : cellOf p' bd bm' o = v) (hk : ∀ k, k < 4020 → k ≠ o → cellOf p' bd bm' k = cellOf p bd bm k) : Cells bp bd bm' p' (w.setCell ⟨bp, o, none⟩ v) := by
  refine ⟨fun k hl => ?_, fun k => by rw [World.frozen?_setCell]; exact h.free k⟩
  by_cases e : k = o
  · subst e
    rw [World.cell?_setCell_same _ _ _ (h.cell k hl), hv]
  · rw [World.cell?_setCell_other _ _ _ _ (fun e' => e (by cases e'; rfl)), h.cell k hl, hk k hl e]
theorem Cells.setN (h : Cells bp bd bm p w) {p' : Pg} {bm' o : Nat} {vs : List Value} (ho : o + vs.length ≤ 4020) (hv : ∀ j, j < vs.length → vs[j]? = some (cellOf p' bd bm' (o + j))) (hk : ∀ k, k < 4020 → k < o ∨ o + vs.length ≤ k → cellOf p' bd bm' k = cellOf p bd bm k) : Cells bp bd bm' p' (w.setCells bp o vs) := by
  refine ⟨fun k hl => ?_, fun k => by rw [World.frozen?_setCells]; exact h.free k⟩
  by_cases e : k < o ∨ o + vs.length ≤ k
  · rw [World.cell?_setCells_out bp vs o w ⟨bp, k, none⟩ (fun _ _ => e), h.cell k hl, hk k hl e]
  · obtain ⟨j, rfl⟩ : ∃ j, k = o + j := ⟨k - o, by omega⟩
    have hj : j < vs.length := by omega
    rw [World.cell?_setCells_in bp vs o w (fun i hi => by rw [h.cell _ (by omega)]; rfl) j hj, ← hv j hj, List.getElem?_eq_getElem hj]
theorem Cells.there (h : Cells bp bd bm p w) (o n : Nat) (ho : o + n ≤ 4020) : w.there bp o n := fun j hj => ⟨by rw [h.cell _ (by omega)]; rfl, h.free _⟩
theorem Cells.range (h : Cells bp bd bm p w) (o : Nat) (vs : List Value) (ho : o + vs.length ≤ 4020) (hv : ∀ j, j < vs.length → vs[j]? = some (cellOf p bd bm (o + j))) : w.rangeAt bp o vs := fun j v hj => by
  have hl := (List.getElem?_eq_some_iff.1 hj).1
  rw [h.cell _ (by omega), ← hv j hl, hj]
theorem Cells.used (h : Cells bp bd bm p w) : w.rangeAt bp 2001 (flags p.used) :=
  h.range _ _ (by rw [flags_len]; omega) fun j hj => by rw [flags_len] at hj; rw [flags_get _ hj, cellOf_used _ _ _ hj]
theorem Cells.upper (h : Cells bp bd bm p w) : w.rangeAt bp 1 (flags p.upper) :=
  h.range _ _ (by rw [flags_len]; omega) fun j hj => by rw [flags_len] at hj; rw [flags_get _ hj, cellOf_upper _ _ _ hj]
theorem Cells.roots (h : Cells bp bd bm p w) : w.rangeAt bp 4001 (rootsL p.rp p.rn) :=
  h.range _ _ (by rw [rootsL_len]; omega) fun j hj => by rw [rootsL_len] at hj; rw [rootsL_get _ _ hj, cellOf_root _ _ _ hj]
theorem stateL_get (p : Pg) (bd bm : Nat) {j : Nat} (hj : j < 2017) : (stateL p.used p.rp p.rn bm)[j]? = some (cellOf p bd bm (2001 + j)) := by
  by_cases h1 : j < 2000
  · rw [stateL_used _ _ _ _ h1, cellOf_used _ _ _ h1]
  · by_cases h2 : j < 2016
    · obtain ⟨i, rfl⟩ : ∃ i, j = 2000 + i := ⟨j - 2000, by omega⟩
      rw [stateL_root _ _ _ _ (by omega), ← Nat.add_assoc, cellOf_root _ _ _ (by omega)]
    · obtain rfl : j = 2016 := by omega
      rw [stateL_map, cellOf_map]
theorem Cells.state (h : Cells bp bd bm p w) : w.rangeAt bp 2001 (stateL p.used p.rp p.rn bm) :=
  h.range _ _ (by rw [stateL_len]; omega) fun j hj => by rw [stateL_len] at hj; exact stateL_get p bd bm hj
end

/-- how an element of the map of changed pages reads -/
def sheetElem : Value → Option (DataW Unit × List MemPlace)
  | .agg cs => match cs.toList with
    | [.string s] => some (.lit (.string s.data.toList), [])
    | _ => none
  | _ => none
theorem sheetElem_mk (s : ByteArray) : sheetElem (.agg #[.string s]) = some (.lit (.string s.data.toList), []) := rfl
theorem sheetElem_inv {v : Value} {z : DataW Unit × List MemPlace} (h : sheetElem v = some z) : ∃ s : ByteArray, v = .agg #[.string s] ∧ z = (.lit (.string s.data.toList), []) := by
  unfold sheetElem at h
  split at h
  · rename_i cs
    split at h
    · rename_i s hs
      cases h
      refine ⟨s, ?_, rfl⟩
      have : cs = #[.string s] := by
        apply Array.toList_inj.1
        rw [hs]
      rw [this]
    · cases h
  · cases h

/-- a map has these pages -/
structure MapIs (D : DataW Unit) (f : Nat → Option ByteArray) : Prop where
  isMap : IsMap D
  key : ∀ l, Maps.has D l = true → ∃ k : Nat, l = .int .i64 k ∧ k < 2000
  has : ∀ k : Nat, k < 2000 → Maps.has D (.int .i64 k) = (f k).isSome
  elem : ∀ (k : Nat) (s : ByteArray), k < 2000 → f k = some s → ∀ z, D.atKey (.int .i64 k) z = .lit (.string s.data.toList)
  small : ∀ (k : Nat) (s : ByteArray), f k = some s → k < 2000 ∧ s.size = 1024

/-- with one page laid anew, or taken out -/
def put (f : Nat → Option ByteArray) (k : Nat) (s : Option ByteArray) : Nat → Option ByteArray := fun i => if i = k then s else f i

theorem wf_nat (k : Nat) (hk : k < 4001) : (Lit.int .i64 (k : Int)).wf = true := WalkArith.wf_i64 (by omega)
theorem key_ne {i k : Nat} (h : i ≠ k) : (Lit.int .i64 (i : Int)) ≠ .int .i64 k := fun e => h (by injection e with e1 e2; omega)
theorem isKey (k : Nat) : WideAt.IsKeyLit (Lit.int .i64 (k : Int)) := trivial
theorem keyed3 : Keyed Tryz.prog 3 := int_keyed Tryz.underlying3

theorem mapIs_empty : MapIs (.map []) (fun _ => none) :=
  ⟨isMap_empty, fun l h => by simp [Maps.has] at h, fun k _ => rfl, fun k s _ h => (by cases h), fun k s h => (by cases h)⟩
theorem MapIs.put {D : DataW Unit} {f : Nat → Option ByteArray} (h : MapIs D f) (k : Nat) (hk : k < 2000) (s : ByteArray) (hs : s.size = 1024) : MapIs (D.put (.int .i64 k) (.lit (.string s.data.toList))) (put f k (some s)) := by
  refine ⟨h.isMap.put _ _, fun l hl => ?_, fun i hi => ?_, fun i t hi ht z => ?_, fun i t ht => ?_⟩
  · by_cases e : l = .int .i64 k
    · exact ⟨k, e, hk⟩
    · rw [has_put_other e] at hl
      exact h.key l hl
  · by_cases e : i = k
    · subst e; rw [has_put_same h.isMap (isKey i)]; simp [Go.Proofs.YtjgdnainhoipgaaGreatDoor.put]
    · rw [has_put_other (key_ne e), h.has i hi]; simp [Go.Proofs.YtjgdnainhoipgaaGreatDoor.put, e]
  · by_cases e : i = k
    · subst e
      rw [atKey_put_same h.isMap (isKey i)]
      simp [Go.Proofs.YtjgdnainhoipgaaGreatDoor.put] at ht
      rw [ht]
    · rw [atKey_put_other (key_ne e)]
      exact h.elem i t hi (by simpa [Go.Proofs.YtjgdnainhoipgaaGreatDoor.put, e] using ht) z
  · by_cases e : i = k
    · subst e
      simp [Go.Proofs.YtjgdnainhoipgaaGreatDoor.put] at ht
      rw [← ht]; exact ⟨hk, hs⟩
    · exact h.small i t (by simpa [Go.Proofs.YtjgdnainhoipgaaGreatDoor.put, e] using ht)
theorem MapIs.del {D : DataW Unit} {f : Nat → Option ByteArray} (h : MapIs D f) (k : Nat) : MapIs (D.del (.int .i64 k)) (Go.Proofs.YtjgdnainhoipgaaGreatDoor.put f k none) := by
  refine ⟨h.isMap.del _, fun l hl => ?_, fun i hi => ?_, fun i t hi ht z => ?_, fun i t ht => ?_⟩
  · by_cases e : l = .int .i64 k
    · rw [e, has_del_same] at hl; cases hl
    · rw [has_del_other e] at hl
      exact h.key l hl
  · by_cases e : i = k
    · subst e; rw [has_del_same]; simp [Go.Proofs.YtjgdnainhoipgaaGreatDoor.put]
    · rw [has_del_other (key_ne e), h.has i hi]; simp [Go.Proofs.YtjgdnainhoipgaaGreatDoor.put, e]
  · by_cases e : i = k
    · subst e
      simp [Go.Proofs.YtjgdnainhoipgaaGreatDoor.put] at ht
    · rw [atKey_del_other (key_ne e)]
      exact h.elem i t hi (by simpa [Go.Proofs.YtjgdnainhoipgaaGreatDoor.put, e] using ht) z
  · by_cases e : i = k
    · subst e
      simp [Go.Proofs.YtjgdnainhoipgaaGreatDoor.put] at ht
    · exact h.small i t (by simpa [Go.Proofs.YtjgdnainhoipgaaGreatDoor.put, e] using ht)

/-- block m is a map of changed pages -/
def Sheets (m n : Nat) (f : Nat → Option ByteArray) (w : World) : Prop := ∃ D : DataW Unit, w.ownsMap Tryz.prog 3 sheetElem m n D ∧ MapIs D f
theorem Sheets.lt {m n : Nat} {f : Nat → Option ByteArray} {w : World} (h : Sheets m n f w) : m < w.heap.size := by obtain ⟨D, hD, _⟩ := h; exact hD.lt
theorem Sheets.block {m n : Nat} {f : Nat → Option ByteArray} {w w' : World} (h : Sheets m n f w) (hb : w'.heap[m]? = w.heap[m]?) : Sheets m n f w' := by
  obtain ⟨D, ⟨es, clock, hm, F, hs, hD⟩, hM⟩ := h
  exact ⟨D, ⟨es, clock, hb.trans hm, F, hs, hD⟩, hM⟩
theorem Sheets.only {S : Nat → Prop} {m n : Nat} {f : Nat → Option ByteArray} {w w' : World} (h : Sheets m n f w) (ho : Only S w w') (hs : ¬ S m) : Sheets m n f w' := h.block (ho.block m h.lt hs)
theorem Sheets.mono {m n n' : Nat} {f : Nat → Option ByteArray} {w : World} (h : Sheets m n f w) (hn : n ≤ n') : Sheets m n' f w := by
  obtain ⟨D, hD, hM⟩ := h
  exact ⟨D, hD.mono hn, hM⟩
theorem Sheets.ne_cell {m n : Nat} {f : Nat → Option ByteArray} {w : World} (h : Sheets m n f w) {b o : Nat} {v : Value} (hc : w.cell? ⟨b, o, none⟩ = some v) : m ≠ b := by
  obtain ⟨D, ⟨es, clock, hm, _⟩, _⟩ := h
  intro e; subst e
  simp [World.cell?, hm] at hc

/-- a pager in memory: its block, its disk's, its map's -/
structure PagerIs (bp bd bm n : Nat) (p : Pg) (w : World) : Prop where
  cells : Cells bp bd bm p w
  own : Sheets bm n p.chg w

section
variable {bp bd bm n : Nat} {p : Pg} {w w' : World}
theorem PagerIs.ne (h : PagerIs bp bd bm n p w) : bm ≠ bp := h.own.ne_cell (h.cells.cell 0 (by omega))
theorem PagerIs.lt (h : PagerIs bp bd bm n p w) : bp < w.heap.size := h.cells.lt
theorem PagerIs.mlt (h : PagerIs bp bd bm n p w) : bm < w.heap.size := h.own.lt
theorem PagerIs.only {S : Nat → Prop} (h : PagerIs bp bd bm n p w) (ho : Only S w w') (h1 : ¬ S bp) (h2 : ¬ S bm) : PagerIs bp bd bm n p w' := ⟨h.cells.block (ho.block bp h.lt h1), h.own.only ho h2⟩
theorem PagerIs.below (h : PagerIs bp bd bm n p w) (hb : Below w.heap.size w w') : PagerIs bp bd bm n p w' := h.only (Only.of_below (S := fun _ => False) hb) (fun e => e) (fun e => e)
theorem PagerIs.drew (h : PagerIs bp bd bm n p w) : PagerIs bp bd bm n p w.drew := ⟨h.cells.block rfl, h.own.block rfl⟩
theorem PagerIs.mono (h : PagerIs bp bd bm n p w) {n' : Nat} (hn : n ≤ n') : PagerIs bp bd bm n' p w := ⟨h.cells, h.own.mono hn⟩
end
end Go.Proofs.YtjgdnainhoipgaaGreatDoor
namespace Go.Proofs.YtjgdnainhoipgaaGreatDoor
open Go.RowKit Go.Maps

theorem size40 : (Tryz.prog.info? 70).map (·.size) = some 2000 := by kernel_rfl
theorem zeros40 : Tryz.zeroCells70 = (flags fun _ => false).toArray := by kernel_rfl

/-- a bit of a text -/
def bitOf (s : ByteArray) (k : Nat) : Bool := (s.data.toList.getD (k / 8) 0).toNat.testBit (k % 8)

/-- a row of bits -/
structure Bits (B : Nat) (f : Nat → Bool) (w : World) : Prop where
  cell : ∀ j, j < 2000 → w.cell? ⟨B, j, none⟩ = some (.bool (f j))
  free : ∀ j, w.frozen? ⟨B, j, none⟩ = false

theorem Bits.range {B : Nat} {f : Nat → Bool} {w : World} (h : Bits B f w) : w.rangeAt B 0 (flags f) := fun j v hj => by
  have hl := (List.getElem?_eq_some_iff.1 hj).1
  rw [flags_len] at hl
  rw [flags_get _ hl] at hj
  rw [Nat.zero_add, h.cell j hl, hj]

theorem and_bit : ∀ (v : Fin 256) (i : Fin 8), (bits BinOp.and IntKind.u8 ((v.val : Int) / 2 ^ i.val) 1 == 1) = v.val.testBit i.val := by decide +kernel
theorem bit_at (s : ByteArray) (k : Nat) (h : k / 8 < s.size) : (bits BinOp.and IntKind.u8 (((s[k / 8]).toNat : Int) / 2 ^ (k % 8)) 1 == 1) = bitOf s k := by
  have := and_bit ⟨(s[k / 8]).toNat, (s[k / 8]).toNat_lt⟩ ⟨k % 8, by omega⟩
  rw [this]
  have hl : k / 8 < s.data.toList.length := by simpa using h
  simp only [bitOf, List.getD_eq_getElem?_getD, List.getElem?_eq_getElem hl, Option.getD_some]
  rfl

theorem size_flags (f : Nat → Bool) : (Tryz.prog.info? 70).map (·.size) = some (flags f).length := by rw [flags_len]; exact size40
theorem size_flagsA (f : Nat → Bool) : (Tryz.prog.info? 70).map (·.size) = some (flags f).toArray.size := by rw [List.size_toArray, flags_len]; exact size40

theorem results_cell_of {P : Program} {fn : Func} {p : Tmp} {ty : TypeId} {v : Value} (h : fn.results = #[.cell p ty]) (tmps : Array Value) (w : World) (a : Addr) (hp : tmps.getD p undef = .pointer (some a)) (hl : (loadVar ty a).run P w = .ok v w) :
    (results fn tmps).run P w = .ok v w := by
  have hp' : tmps[p]?.getD undef = .pointer (some a) := by simpa [Array.getD_eq_getD_getElem?] using hp
  simp [results, h, hp', asAddr, hl]

set_option maxRecDepth 100000 in
set_option maxHeartbeats 400000 in
theorem readFlags_any (s : ByteArray) (hs : 250 ≤ s.size) (hm : s.size ≤ 1024) (w : World) :
    Calls Tryz.prog 80 #[.string s] w fun e w' => e = .returned (.agg (flags (bitOf s)).toArray) ∧ Below w.heap.size w w' := by
  have hz := Tryz.zeroValue70
  go_enter Tryz.func80, Tryz.ntmps80
  go_wp2_with fail
  clear hz
  go_loopw [4] (fun i wr => ∃ k : Nat, k ≤ 2000 ∧ i = .int .i64 k ∧ Hid (Bits w.heap.size (fun j => decide (j < k) && bitOf s j) wr) ∧ Hid (Below w.heap.size w wr)) (fun i _ => 2000 - (intOf i).toNat)
  case atStart =>
    have hn : (w.alloc (.cells Tryz.zeroCells70 70)).heap[w.heap.size]? = some (.cells Tryz.zeroCells70 70) := heap_alloc_new w _
    refine ⟨0, by omega, rfl, ⟨fun j hj => ?_, fun j => by simp only [World.frozen?, hn]; simp⟩, (Below.refl _ _).alloc (Nat.le_refl _) _⟩
    rw [cell_of_row _ _ _ _ _ _ hn, zeros40]
    have := flags_get (fun _ => false) hj
    simpa using this
  case round =>
    obtain ⟨k, hk, rfl, HC, HB⟩ := hrel
    by_cases hlt : k < 2000
    · have h1 : (k : Int) < 2000 := by omega
      have h2 : k / 8 < s.size := by omega
      have q := HC.out.cell k hlt
      have f := HC.out.free k
      have hbit := bit_at s k h2
      go_wp2
      go_roundw
      case rel =>
        refine ⟨k + 1, by omega, by go_num, ⟨fun j hj => ?_, fun j => by rw [World.frozen?_setCell]; exact HC.out.free j⟩, HB.out.setCell (p := ⟨w.heap.size, k, none⟩) (Nat.le_refl _) _⟩
        by_cases e : j = k
        · subst e
          rw [World.cell?_setCell_same _ _ _ q]
          simp
        · rw [World.cell?_setCell_other _ _ _ _ (fun e' => e (by cases e'; rfl)), HC.out.cell j hj]
          have : decide (j < k) = decide (j < k + 1) := by simp; omega
          rw [this]
      case measure => simp [intOf]; omega
    · have hk2 : k = 2000 := by omega
      have h1 : (k : Int) = 2000 := by omega
      have hr : wr.rangeAt w.heap.size 0 (flags (bitOf s)) := by
        rw [flags_congr (g := fun j => decide (j < k) && bitOf s j) (fun j hj => by simp; omega)]
        exact HC.out.range
      have ht : wr.there w.heap.size 0 (flags (bitOf s)).toArray.size := fun j hj => by
        simp [flags_len] at hj
        rw [Nat.zero_add]
        exact ⟨by rw [HC.out.cell j hj]; rfl, HC.out.free j⟩
      have hl2 := run_loadVar_mid (P := Tryz.prog) (wr.setCells w.heap.size 0 (flags (bitOf s)).toArray.toList) w.heap.size 0 70 _ _ (World.rangeAt_setCells_same _ _ _ _ (by simpa using ht)) Tryz.underlying70 rfl (size_flags _)
      have hb : Hid (Below w.heap.size w (wr.setCells w.heap.size 0 (flags (bitOf s)).toArray.toList)) := Below.setCells' (Nat.le_refl _) _ _ _ HB.out
      have hs1 := size_flags (bitOf s)
      have hs2 := size_flagsA (bitOf s)
      have ho := all_oneCell_toArray (flags_one (bitOf s))
      obtain ⟨fs, hfs⟩ : ∃ fs, flags (bitOf s) = fs := ⟨_, rfl⟩
      rw [hfs] at hr ht hl2 hb hs1 hs2 ho
      have HF : Hid (flags (bitOf s) = fs) := hfs
      clear hfs
      have HR : Hid _ := hr
      have HT : Hid _ := ht
      clear hr ht
      go_wp2_with (first | (refine wpList_load_mid rfl 70 _ rfl _ 0 rfl fs _ HR.out Tryz.underlying70 rfl hs1 ?_) | (refine wpList_store_mid rfl 70 _ _ rfl _ 0 fs.toArray rfl rfl HT.out hs2 ho ?_))
      exact bodyPost_ret (v := .agg fs.toArray) (results_cell_of Tryz.results80 _ _ _ rfl hl2) rfl ⟨by rw [HF.out], hb.out⟩
end Go.Proofs.YtjgdnainhoipgaaGreatDoor
namespace Go.Proofs.YtjgdnainhoipgaaGreatDoor
open Go.RowKit

/-- a variable of the call's own -/
structure Own1 (B : Nat) (v : Value) (wr : World) : Prop where
  cell : wr.cell? ⟨B, 0, none⟩ = some v
  free : wr.frozen? ⟨B, 0, none⟩ = false
section
variable {w0 wr wx : World} {B : Nat} {v u : Value}
theorem Own1.lt (h : Own1 B v wr) : B < wr.heap.size := World.block_lt_of_cell? wr _ h.cell
theorem Own1.block (h : Own1 B v wr) (hb : wx.heap[B]? = wr.heap[B]?) : Own1 B v wx := by
  refine ⟨?_, ?_⟩
  · have := h.cell; simp only [World.cell?] at this ⊢; rw [hb]; exact this
  · have := h.free; simp only [World.frozen?] at this ⊢; rw [hb]; exact this
theorem Own1.below (h : Own1 B v wr) (hb : Below wr.heap.size wr wx) : Own1 B v wx := h.block (hb.block _ h.lt)
theorem Own1.drew (h : Own1 B v wr) : Own1 B v wr.drew := h.block rfl
theorem Own1.set (h : Own1 B v wr) (u : Value) : Own1 B u (wr.setCell ⟨B, 0, none⟩ u) := by
  exact ⟨World.cell?_setCell_same _ _ _ h.cell, by rw [World.frozen?_setCell]; exact h.free⟩
theorem Own1.new (w : World) (v : Value) (t : TypeId) : Own1 w.heap.size v (w.alloc (.cells #[v] t)) := by
  have hn : (w.alloc (.cells #[v] t)).heap[w.heap.size]? = some (.cells #[v] t) := heap_alloc_new w _
  exact ⟨by simp only [World.cell?, hn]; rfl, by simp only [World.frozen?, hn]; simp⟩
end

theorem load3 {w : World} {B : Nat} {v : Value} (h : w.cell? ⟨B, 0, none⟩ = some v) : (loadVar 3 ⟨B, 0, none⟩).run Tryz.prog w = .ok v w := by
  simp [loadVar, Tryz.isAgg3, Tryz.sizeOf3, h, go_sem]
theorem load9 {w : World} {B : Nat} {v : Value} (h : w.cell? ⟨B, 0, none⟩ = some v) : (loadVar 9 ⟨B, 0, none⟩).run Tryz.prog w = .ok v w := by
  simp [loadVar, Tryz.isAgg9, Tryz.sizeOf9, h, go_sem]
theorem results_cells2 {P : Program} {fn : Func} {p0 p1 : Tmp} {t0 t1 : TypeId} {v0 v1 : Value} (h : fn.results = #[.cell p0 t0, .cell p1 t1]) (tmps : Array Value) (w : World) (a0 a1 : Addr)
    (hp0 : tmps.getD p0 undef = .pointer (some a0)) (hp1 : tmps.getD p1 undef = .pointer (some a1))
    (hl0 : (loadVar t0 a0).run P w = .ok v0 w) (hl1 : (loadVar t1 a1).run P w = .ok v1 w) :
    (results fn tmps).run P w = .ok (.tuple #[v0, v1]) w := by
  have e0 : tmps[p0]?.getD undef = .pointer (some a0) := by simpa [Array.getD_eq_getD_getElem?] using hp0
  have e1 : tmps[p1]?.getD undef = .pointer (some a1) := by simpa [Array.getD_eq_getD_getElem?] using hp1
  simp [results, h, e0, e1, asAddr, hl0, hl1]

/-- what filled's closure does -/
theorem filled_cl (x y : ByteArray) (n : Int) (B : Nat) (v : Value) (w : World) (h : Own1 B v w) :
    Calls Tryz.prog 165 #[.agg #[.string x, .string y], .int .i64 n, .pointer (some ⟨B, 0, none⟩)] w fun e w' => e = .returned (.bool true) ∧ Own1 B (.int .i64 n) w' ∧ w.grownBy w' (some B) := by
  have h1 := h.below ((Below.refl _ w).alloc (o := .cells #[.string x, .string y] 142) (Nat.le_refl _))
  have q := h1.cell
  have f := h1.free
  have HR : Hid _ := h1.set (.int .i64 n)
  have HG : Hid (w.grownBy ((w.alloc (.cells #[.string x, .string y] 142)).setCell ⟨B, 0, none⟩ (.int .i64 n)) (some B)) := (grown_of_below ((Below.refl _ w).alloc (Nat.le_refl _) _) _).trans (grownBy_set _ B 0 _)
  clear h h1
  go_enter Tryz.func165, Tryz.ntmps165
  go_wp2
  go_ret
  exact ⟨rfl, HR.out, HG.out⟩
set_option maxRecDepth 100000 in
/-- how many bytes a leaf's pairs have -/
theorem filled_any {t : ByteArray} {ps : List Pr} {z : Nat} (hL : Leaf t ps z) (w : World) :
    Calls Tryz.prog 128 #[.string t] w fun e w' => e = .returned (.int .i64 (szL ps : Nat)) ∧ Below w.heap.size w w' := by
  have HL : Hid _ := hL
  have hmf : ∀ (fn : Fn) (first cap : Array Value) (w : World), (Instr.makeFunc fn first cap).run Tryz.prog w = .ok (.func fn first cap) w := fun _ _ _ _ => rfl
  have HO : Hid (Own1 w.heap.size (.int .i64 0) (w.alloc (.cells #[.int .i64 0] 3))) := Own1.new w _ _
  have HB : Hid (Below w.heap.size w (w.alloc (.cells #[.int .i64 0] 3))) := (Below.refl _ w).alloc (Nat.le_refl _) _
  clear hL
  go_enter Tryz.func128, Tryz.ntmps128
  go_wp2_with fail
  refine (each_any (fun j wx => Own1 w.heap.size (.int .i64 (szL (ps.take j) : Nat)) wx ∧ Below w.heap.size w wx) (fun _ => False) (enters_of Tryz.func165 (by kernel_rfl) rfl) HL.out (fun j wx hh => ⟨hh.1.drew, hh.2.drew⟩) (fun j hj wx hh => ?_) _ ⟨HO.out, HB.out⟩).mono ?_
  · refine (filled_cl _ _ _ _ _ _ hh.1).mono ?_
    rintro _ wy ⟨rfl, h1, h2⟩
    exact ⟨true, rfl, h1, hh.2.grown h2 hh.2.size (fun k e => by cases e; exact Nat.le_refl _)⟩
  rintro _ w1 ⟨b, rfl, h1⟩
  cases b
  · exact h1.elim
  · obtain ⟨h2, h3⟩ := h1
    rw [List.take_length] at h2
    have q := h2.cell
    have f := h2.free
    have HR : Hid _ := h2.set (.int .i64 (szL ps : Nat))
    have HB1 : Hid (Below w.heap.size w (w1.setCell ⟨w.heap.size, 0, none⟩ (.int .i64 (szL ps : Nat)))) := h3.setCell (Nat.le_refl _) _
    clear h2 h3
    go_wp2
    (try simp only [Exit.inBlock, Exit.then])
    exact bodyPost_ret (v := .int .i64 (szL ps : Nat)) (results_cell_of Tryz.results128 _ _ _ rfl (load3 HR.out.cell)) rfl ⟨rfl, HB1.out⟩

/-- is one text less than another? -/
def bl (x y : ByteArray) : Bool := Op.bytesLess x.toList y.toList
theorem Own1.other {B C : Nat} {v u : Value} {w : World} (h : Own1 B v w) (hne : B ≠ C) : Own1 B v (w.setCell ⟨C, 0, none⟩ u) :=
  ⟨by rw [World.cell?_setCell_other _ _ _ _ (fun e => hne (by cases e; rfl))]; exact h.cell, by rw [World.frozen?_setCell]; exact h.free⟩
/-- find's three variables -/
structure Fv (w0 : World) (Bk B4 B5 : Nat) (key : ByteArray) (a b : Int) (w : World) : Prop where
  k : Own1 Bk (.string key) w
  f : Own1 B4 (.int .i64 a) w
  t : Own1 B5 (.int .i64 b) w
  n1 : B4 ≠ B5
  n2 : Bk ≠ B4
  n3 : Bk ≠ B5
  l4 : w0.heap.size ≤ B4
  l5 : w0.heap.size ≤ B5
  below : Below w0.heap.size w0 w
section
variable {w0 w wx : World} {Bk B4 B5 : Nat} {key : ByteArray} {a b : Int}
theorem Fv.step (h : Fv w0 Bk B4 B5 key a b w) (hb : Below w.heap.size w wx) : Fv w0 Bk B4 B5 key a b wx :=
  { h with k := h.k.below hb, f := h.f.below hb, t := h.t.below hb, below := h.below.trans (hb.mono h.below.size) }
theorem Fv.drew (h : Fv w0 Bk B4 B5 key a b w) : Fv w0 Bk B4 B5 key a b w.drew :=
  { h with k := h.k.drew, f := h.f.drew, t := h.t.drew, below := h.below.drew }
theorem Fv.setT (h : Fv w0 Bk B4 B5 key a b w) (n : Int) : Fv w0 Bk B4 B5 key a n (w.setCell ⟨B5, 0, none⟩ (.int .i64 n)) :=
  { h with k := h.k.other h.n3, f := h.f.other h.n1, t := h.t.set _, below := h.below.setCell h.l5 _ }
theorem Fv.setF (h : Fv w0 Bk B4 B5 key a b w) (n : Int) : Fv w0 Bk B4 B5 key n b (w.setCell ⟨B4, 0, none⟩ (.int .i64 n)) :=
  { h with k := h.k.other h.n2, f := h.f.set _, t := h.t.other (fun e => h.n1 e.symm), below := h.below.setCell h.l4 _ }
theorem pair_new (w : World) (x y : ByteArray) (t : TypeId) : (w.alloc (.cells #[.string x, .string y] t)).cell? ⟨w.heap.size, 0, none⟩ = some (.string x) := by
  have hn : (w.alloc (.cells #[.string x, .string y] t)).heap[w.heap.size]? = some (.cells #[.string x, .string y] t) := heap_alloc_new w _
  simp only [World.cell?, hn]; rfl
theorem cell_other {w : World} {B C o : Nat} {v u : Value} (h : w.cell? ⟨B, o, none⟩ = some v) (hne : B ≠ C) : (w.setCell ⟨C, 0, none⟩ u).cell? ⟨B, o, none⟩ = some v := by
  rw [World.cell?_setCell_other _ _ _ _ (fun e => hne (by cases e; rfl))]; exact h

set_option maxRecDepth 100000 in
theorem find_less (x y : ByteArray) (n : Int) (h : Fv w0 Bk B4 B5 key a b w) (hl : bl x key = true) :
    Calls Tryz.prog 129 #[.agg #[.string x, .string y], .int .i64 n, .pointer (some ⟨Bk, 0, none⟩), .pointer (some ⟨B5, 0, none⟩), .pointer (some ⟨B4, 0, none⟩)] w fun e w' => e = .returned (.bool true) ∧ Fv w0 Bk B4 B5 key n n w' := by
  have l4 := h.f.lt
  have l5 := h.t.lt
  have h0 := h.step ((Below.refl _ w).alloc (o := .cells #[.string x, .string y] 142) (Nat.le_refl _))
  have p0 := pair_new w x y 142
  obtain ⟨W, hW⟩ : ∃ W, w.alloc (.cells #[.string x, .string y] 142) = W := ⟨_, rfl⟩
  have h1 := h0.setT n
  have p1 := cell_other (u := .int .i64 n) p0 (show w.heap.size ≠ B5 by omega)
  have h2 := h1.setF n
  have p2 := cell_other (u := .int .i64 n) p1 (show w.heap.size ≠ B4 by omega)
  rw [hW] at h0 p0 h1 p1 h2 p2
  have q0 := h0.k.cell
  have q1 := h1.k.cell
  have q2 := h2.k.cell
  have c5 := h0.t.cell
  have f5 := h0.t.free
  have c4 := h1.f.cell
  have f4 := h1.f.free
  have H2 : Hid _ := h2
  have hl2 : Op.bytesLess x.toList key.toList = true := hl
  clear h h0 h1 h2 hl l4 l5
  go_enter Tryz.func129, Tryz.ntmps129
  go_wp2
  go_ret
  exact ⟨rfl, H2.out⟩
set_option maxRecDepth 100000 in
theorem find_same (x y : ByteArray) (n : Int) (h : Fv w0 Bk B4 B5 key a b w) (hl : bl x key = false) (he : (x.toList == key.toList) = true) :
    Calls Tryz.prog 129 #[.agg #[.string x, .string y], .int .i64 n, .pointer (some ⟨Bk, 0, none⟩), .pointer (some ⟨B5, 0, none⟩), .pointer (some ⟨B4, 0, none⟩)] w fun e w' => e = .returned (.bool false) ∧ Fv w0 Bk B4 B5 key a n w' := by
  have l5 := h.t.lt
  have h0 := h.step ((Below.refl _ w).alloc (o := .cells #[.string x, .string y] 142) (Nat.le_refl _))
  have p0 := pair_new w x y 142
  obtain ⟨W, hW⟩ : ∃ W, w.alloc (.cells #[.string x, .string y] 142) = W := ⟨_, rfl⟩
  have h1 := h0.setT n
  have p1 := cell_other (u := .int .i64 n) p0 (show w.heap.size ≠ B5 by omega)
  rw [hW] at h0 p0 h1 p1
  have q0 := h0.k.cell
  have q1 := h1.k.cell
  have c5 := h0.t.cell
  have f5 := h0.t.free
  have H2 : Hid _ := h1
  have hl2 : Op.bytesLess x.toList key.toList = false := hl
  clear h h0 h1 hl l5
  go_enter Tryz.func129, Tryz.ntmps129
  go_wp2
  go_ret
  exact ⟨rfl, H2.out⟩
set_option maxRecDepth 100000 in
theorem find_more (x y : ByteArray) (n : Int) (h : Fv w0 Bk B4 B5 key a b w) (hl : bl x key = false) (he : (x.toList == key.toList) = false) :
    Calls Tryz.prog 129 #[.agg #[.string x, .string y], .int .i64 n, .pointer (some ⟨Bk, 0, none⟩), .pointer (some ⟨B5, 0, none⟩), .pointer (some ⟨B4, 0, none⟩)] w fun e w' => e = .returned (.bool false) ∧ Fv w0 Bk B4 B5 key a b w' := by
  have h0 := h.step ((Below.refl _ w).alloc (o := .cells #[.string x, .string y] 142) (Nat.le_refl _))
  have p0 := pair_new w x y 142
  obtain ⟨W, hW⟩ : ∃ W, w.alloc (.cells #[.string x, .string y] 142) = W := ⟨_, rfl⟩
  rw [hW] at h0 p0
  have q0 := h0.k.cell
  have H2 : Hid _ := h0
  have hl2 : Op.bytesLess x.toList key.toList = false := hl
  clear h h0 hl
  go_enter Tryz.func129, Tryz.ntmps129
  go_wp2
  go_ret
  exact ⟨rfl, H2.out⟩
end

/-- between which bytes a key's pair stands, or would stand -/
structure FindR (ps : List Pr) (key : ByteArray) (j : Nat) (a b : Nat) : Prop where
  le : j ≤ ps.length
  less : ∀ i (hi : i < j), bl (ps[i]'(by omega)).k key = true
  from_ : a = szL (ps.take j)
  to_ : (b = a ∧ (∀ hj : j < ps.length, bl ps[j].k key = false ∧ (ps[j].k.toList == key.toList) = false)) ∨ (∃ hj : j < ps.length, (ps[j].k.toList == key.toList) = true ∧ bl ps[j].k key = false ∧ b = szL (ps.take (j + 1)))

set_option maxRecDepth 100000 in
theorem find_any {t key : ByteArray} {ps : List Pr} {z : Nat} (hL : Leaf t ps z) (w : World) :
    Calls Tryz.prog 92 #[.string t, .string key] w fun e w' => ∃ j a b, e = .returned (.tuple #[.int .i64 (a : Nat), .int .i64 (b : Nat)]) ∧ FindR ps key j a b ∧ Below w.heap.size w w' := by
  have HL : Hid _ := hL
  have hmf : ∀ (fn : Fn) (first cap : Array Value) (w : World), (Instr.makeFunc fn first cap).run Tryz.prog w = .ok (.func fn first cap) w := fun _ _ _ _ => rfl
  have hb1 : Below w.heap.size w (((w.alloc (.cells #[.string key] 9)).alloc (.cells #[.int .i64 0] 3)).alloc (.cells #[.int .i64 0] 3)) := (((Below.refl _ w).alloc (Nat.le_refl _) _).alloc (by simp) _).alloc (by simp; omega) _
  have HF : Hid (Fv w w.heap.size (w.heap.size + 1) (w.heap.size + 1 + 1) key 0 0 (((w.alloc (.cells #[.string key] 9)).alloc (.cells #[.int .i64 0] 3)).alloc (.cells #[.int .i64 0] 3))) := by
    have n1 := Own1.new w (.string key) 9
    have n2 := Own1.new (w.alloc (.cells #[.string key] 9)) (.int .i64 0) 3
    have n3 := Own1.new ((w.alloc (.cells #[.string key] 9)).alloc (.cells #[.int .i64 0] 3)) (.int .i64 0) 3
    rw [World.size_alloc] at n2
    rw [World.size_alloc, World.size_alloc] at n3
    refine ⟨(n1.below ((Below.refl _ _).alloc (Nat.le_refl _) _)).below ((Below.refl _ _).alloc (Nat.le_refl _) _), n2.below ((Below.refl _ _).alloc (Nat.le_refl _) _), n3, by omega, by omega, by omega, by omega, by omega, hb1⟩
  clear hL hb1
  go_enter Tryz.func92, Tryz.ntmps92
  go_wp2_with fail
  refine (each_any (fun j wx => (∀ i (hi : i < j) (hl : i < ps.length), bl ps[i].k key = true) ∧ Fv w w.heap.size (w.heap.size + 1) (w.heap.size + 1 + 1) key (szL (ps.take j) : Nat) (szL (ps.take j) : Nat) wx)
    (fun wx => ∃ j a b, FindR ps key j a b ∧ Fv w w.heap.size (w.heap.size + 1) (w.heap.size + 1 + 1) key (a : Nat) (b : Nat) wx) (enters_of Tryz.func129 (by kernel_rfl) rfl) HL.out (fun j wx hh => ⟨hh.1, hh.2.drew⟩) (fun j hj wx hh => ?_) _ ⟨fun i hi => absurd hi (Nat.not_lt_zero i), HF.out⟩).mono ?_
  · obtain ⟨h1, h2⟩ := hh
    cases hl : bl ps[j].k key
    · cases he : (ps[j].k.toList == key.toList)
      · refine (find_more _ _ _ h2 hl he).mono ?_
        rintro _ wy ⟨rfl, h3⟩
        exact ⟨false, rfl, j, _, _, ⟨by omega, fun i hi => h1 i hi (by omega), rfl, .inl ⟨rfl, fun _ => ⟨hl, he⟩⟩⟩, h3⟩
      · refine (find_same _ _ _ h2 hl he).mono ?_
        rintro _ wy ⟨rfl, h3⟩
        exact ⟨false, rfl, j, _, _, ⟨by omega, fun i hi => h1 i hi (by omega), rfl, .inr ⟨hj, he, hl, rfl⟩⟩, h3⟩
    · refine (find_less _ _ _ h2 hl).mono ?_
      rintro _ wy ⟨rfl, h3⟩
      refine ⟨true, rfl, fun i hi hl2 => ?_, h3⟩
      by_cases e : i = j
      · subst e; exact hl
      · exact h1 i (by omega) hl2
  rintro _ w1 ⟨b, rfl, h1⟩
  obtain ⟨j, f0, t0, hR, hV⟩ : ∃ j a b, FindR ps key j a b ∧ Fv w w.heap.size (w.heap.size + 1) (w.heap.size + 1 + 1) key (a : Nat) (b : Nat) w1 := by
    cases b
    · exact h1
    · exact ⟨ps.length, _, _, ⟨Nat.le_refl _, fun i hi => h1.1 i hi hi, rfl, .inl ⟨rfl, fun hj => absurd hj (Nat.lt_irrefl _)⟩⟩, h1.2⟩
  have HR : Hid (FindR ps key j f0 t0) := hR
  have HV : Hid _ := hV
  clear h1 hR hV HF
  have V0 := HV.out.drew
  have V1 := V0.setF f0
  have V2 := V1.setT t0
  have C : ∀ {wx : World}, Fv w w.heap.size (w.heap.size + 1) (w.heap.size + 1 + 1) key (f0 : Nat) (t0 : Nat) wx → wx.cell? ⟨w.heap.size + 1, 0, none⟩ = some (.int .i64 (f0 : Nat)) ∧ wx.cell? ⟨w.heap.size + 1 + 1, 0, none⟩ = some (.int .i64 (t0 : Nat)) ∧ wx.frozen? ⟨w.heap.size + 1, 0, none⟩ = false ∧ wx.frozen? ⟨w.heap.size + 1 + 1, 0, none⟩ = false := fun h => ⟨h.f.cell, h.t.cell, h.f.free, h.t.free⟩
  have C0 : Hid _ := C V0
  have C1 : Hid _ := C V1
  have C2 : Hid _ := C V2
  have H2 : Hid _ := V2
  clear V0 V1 V2 C HV
  go_wp2_with fail
  go_region_held3 (fun wx => wx.cell? ⟨w.heap.size + 1, 0, none⟩ = some (.int .i64 (f0 : Nat)) ∧ wx.cell? ⟨w.heap.size + 1 + 1, 0, none⟩ = some (.int .i64 (t0 : Nat)) ∧ wx.frozen? ⟨w.heap.size + 1, 0, none⟩ = false ∧ wx.frozen? ⟨w.heap.size + 1 + 1, 0, none⟩ = false) (first | exact C0.out | exact C1.out | exact C2.out) (fail)
  go_wp2
  (try simp only [Exit.inBlock, Exit.then])
  exact bodyPost_ret (v := .tuple #[.int .i64 (f0 : Nat), .int .i64 (t0 : Nat)]) (results_cells2 Tryz.results92 _ _ _ _ rfl rfl (load3 H2.out.f.cell) (load3 H2.out.t.cell)) rfl ⟨j, f0, t0, rfl, HR.out, H2.out.below⟩

/-- a leaf's first key -/
def firstK : List Pr → ByteArray
  | [] => ⟨#[]⟩
  | x :: _ => x.k
theorem first_cl (x y : ByteArray) (n : Int) (B : Nat) (v : Value) (w : World) (h : Own1 B v w) :
    Calls Tryz.prog 127 #[.agg #[.string x, .string y], .int .i64 n, .pointer (some ⟨B, 0, none⟩)] w fun e w' => e = .returned (.bool false) ∧ Own1 B (.string x) w' ∧ w.grownBy w' (some B) := by
  have h1 := h.below ((Below.refl _ w).alloc (o := .cells #[.string x, .string y] 142) (Nat.le_refl _))
  have q := h1.cell
  have f := h1.free
  have p0 := pair_new w x y 142
  have HR : Hid _ := h1.set (.string x)
  have HG : Hid (w.grownBy ((w.alloc (.cells #[.string x, .string y] 142)).setCell ⟨B, 0, none⟩ (.string x)) (some B)) := (grown_of_below ((Below.refl _ w).alloc (Nat.le_refl _) _) _).trans (grownBy_set _ B 0 _)
  clear h h1
  go_enter Tryz.func127, Tryz.ntmps127
  go_wp2
  go_ret
  exact ⟨rfl, HR.out, HG.out⟩
set_option maxRecDepth 100000 in
theorem first_any {t : ByteArray} {ps : List Pr} {z : Nat} (hL : Leaf t ps z) (w : World) :
    Calls Tryz.prog 90 #[.string t] w fun e w' => e = .returned (.string (firstK ps)) ∧ Below w.heap.size w w' := by
  have HL : Hid _ := hL
  have hmf : ∀ (fn : Fn) (first cap : Array Value) (w : World), (Instr.makeFunc fn first cap).run Tryz.prog w = .ok (.func fn first cap) w := fun _ _ _ _ => rfl
  have HO : Hid (Own1 w.heap.size (.string ⟨#[]⟩) (w.alloc (.cells #[.string ⟨#[]⟩] 9))) := Own1.new w _ _
  have HB : Hid (Below w.heap.size w (w.alloc (.cells #[.string ⟨#[]⟩] 9))) := (Below.refl _ w).alloc (Nat.le_refl _) _
  clear hL
  go_enter Tryz.func90, Tryz.ntmps90
  go_wp2_with fail
  refine (each_any (fun j wx => j = 0 ∧ Own1 w.heap.size (.string ⟨#[]⟩) wx ∧ Below w.heap.size w wx) (fun wx => Own1 w.heap.size (.string (firstK ps)) wx ∧ Below w.heap.size w wx) (enters_of Tryz.func127 (by kernel_rfl) rfl) HL.out (fun j wx hh => ⟨hh.1, hh.2.1.drew, hh.2.2.drew⟩) (fun j hj wx hh => ?_) _ ⟨rfl, HO.out, HB.out⟩).mono ?_
  · obtain ⟨rfl, hh1, hh2⟩ := hh
    refine (first_cl _ _ _ _ _ _ hh1).mono ?_
    rintro _ wy ⟨rfl, h1, h2⟩
    refine ⟨false, rfl, ?_, hh2.grown h2 hh2.size (fun k e => by cases e; exact Nat.le_refl _)⟩
    cases ps with
    | nil => exact absurd hj (Nat.not_lt_zero _)
    | cons x r => exact h1
  rintro _ w1 ⟨b, rfl, h1⟩
  obtain ⟨h2, h3⟩ : Own1 w.heap.size (.string (firstK ps)) w1 ∧ Below w.heap.size w w1 := by
    cases b
    · exact h1
    · obtain ⟨e, h2, h3⟩ := h1
      have : ps = [] := List.length_eq_zero_iff.1 e
      subst this
      exact ⟨h2, h3⟩
  have q := h2.cell
  have f := h2.free
  have HR : Hid _ := h2.set (.string (firstK ps))
  have HB1 : Hid (Below w.heap.size w (w1.setCell ⟨w.heap.size, 0, none⟩ (.string (firstK ps)))) := h3.setCell (Nat.le_refl _) _
  clear h2 h3
  go_wp2
  (try simp only [Exit.inBlock, Exit.then])
  exact bodyPost_ret (v := .string (firstK ps)) (results_cell_of Tryz.results90 _ _ _ rfl (load9 HR.out.cell)) rfl ⟨rfl, HB1.out⟩
end Go.Proofs.YtjgdnainhoipgaaGreatDoor
namespace Go.Proofs.YtjgdnainhoipgaaGreatDoor
open Go.RowKit Go.Maps

/-- where a page lies -/
def placeF (k : Nat) (up : Bool) : Nat := if up then 2000 + k else k
theorem place_any (k : Nat) (hk : k < 2000) (up : Bool) (w : World) :
    Calls Tryz.prog 51 #[.int .i64 k, .bool up] w fun e w' => e = .returned (.int .i64 (placeF k up)) ∧ w' = w := by
  go_enter Tryz.func51, Tryz.ntmps51
  cases up
  · go_wp2
    go_ret
    exact ⟨rfl, rfl⟩
  · go_wp2
    go_ret
    exact ⟨ret_int (by simp [placeF]), rfl⟩

theorem below_any (n b : Int) (w : World) :
    Calls Tryz.prog 53 #[.int .i64 n, .int .i64 b] w fun e w' => e = .returned (.bool (decide (0 ≤ n) && decide (n < b))) ∧ w' = w := by
  go_enter Tryz.func53, Tryz.ntmps53
  by_cases h0 : 0 ≤ n
  · go_wp2
    go_ret
    exact ⟨ret_bool (by simp [h0]), rfl⟩
  · go_wp2
    go_ret
    exact ⟨ret_bool (by rw [decide_eq_false (show ¬ 0 ≤ n by omega)]; rfl), rfl⟩

theorem rootAt_any (i : Nat) (hi : i < 8) (w : World) :
    Calls Tryz.prog 82 #[.int .i64 i] w fun e w' => e = .returned (.int .i64 (500 + 4 * (i : Int))) ∧ w' = w := by
  go_enter Tryz.func82, Tryz.ntmps82
  go_wp2
  go_ret
  exact ⟨ret_int (by go_num), rfl⟩

/-- two bytes, as a number -/
def numOf (s : ByteArray) (k : Nat) : Int := ((s.data.toList.getD k 0).toNat * 256 + (s.data.toList.getD (k + 1) 0).toNat : Nat)
theorem numOf_lt (s : ByteArray) (k : Nat) : 0 ≤ numOf s k ∧ numOf s k < 65536 := by
  unfold numOf
  have h1 := (s.data.toList.getD k 0).toNat_lt
  have h2 := (s.data.toList.getD (k + 1) 0).toNat_lt
  omega
theorem wraps_i64 (n : Int) (h₀ : 0 ≤ n) (h₁ : n < 2 ^ 63) : IntKind.i64.wrap n = n := by rw [IntKind.wrap_i64]; omega
theorem wrap64_small (n : Int) (h0 : 0 ≤ n) (h1 : n < 9223372036854775808) : wrap64 n = n := by simp only [wrap64]; omega
theorem or_i64 (a b : UInt8) : bits BinOp.or IntKind.i64 (wrap64 (wrap64 (a.toNat : Int) * 256)) (wrap64 (b.toNat : Int)) = ((a.toNat * 256 + b.toNat : Nat) : Int) := by
  have h1 := a.toNat_lt
  have h2 := b.toNat_lt
  rw [wrap64_small (a.toNat : Int) (by omega) (by omega), wrap64_small (b.toNat : Int) (by omega) (by omega), wrap64_small _ (by omega) (by omega), bits_join IntKind.i64 63 (by decide) wraps_i64 8 _ _ (by omega) (by omega) (by omega) (by omega) (by omega) (by omega)]
  omega
theorem readNumber_any (s : ByteArray) (h2 : 2 ≤ s.size) (w : World) :
    Calls Tryz.prog 81 #[.string s] w fun e w' => e = .returned (.int .i64 (numOf s 0)) ∧ ∃ n, w' = w.drewN n := by
  have h0 : 0 < s.size := by omega
  have h1 : 1 < s.size := by omega
  have h1' : (1 : Int) < (s.size : Int) := by omega
  have h0' : (0 : Int) < (s.size : Int) := by omega
  go_enter Tryz.func81, Tryz.ntmps81
  go_wp2
  go_quiet (fail)
  go_wp2
  go_ret
  have e0 : s.data.toList.getD 0 0 = s[0] := by
    have hl : 0 < s.data.toList.length := by simpa using h0
    rw [List.getD_eq_getElem?_getD, List.getElem?_eq_getElem hl]; rfl
  have e1 : s.data.toList.getD 1 0 = s[1] := by
    have hl : 1 < s.data.toList.length := by simpa using h1
    rw [List.getD_eq_getElem?_getD, List.getElem?_eq_getElem hl]; rfl
  refine ⟨ret_int ?_, _, rfl⟩
  unfold numOf
  rw [e0, e1]
  exact or_i64 _ _
end Go.Proofs.YtjgdnainhoipgaaGreatDoor
