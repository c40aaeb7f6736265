/- Texts of the proof of TreeLean: Base, Pg0, Flags, Head, Shp, Shelf, Disk, Tear, Write. -/
import Derived.Test.YtjcddeoihjppaaaProg
import Derived.WalkKit
import Derived.WalkSpells
import Derived.WalkLawsBesides
import Derived.Deep.RegionHeld3
import Derived.Maps.OwnSet
import Derived.Deep.MidRow
import Derived.Maps.Ext
import Derived.Maps.OwnOps
import Derived.Maps.StringElems
import Derived.BigQuiet
import Derived.Laws.BitsLemmas
import Derived.Deep.QuietTactic
import Derived.Shelf.LaysM
import Derived.Shelf.Strconv.Clone
import Derived.Shelf.Strings.Repeat
import Derived.Shelf.SlIterI.Nil
import Derived.Shelf.SortM.Plain
import Derived.Shelf.SortM.SortNone
import Derived.Ground.GgzProg
import Derived.Ground.SlgmProg
import Derived.Lib.BufferWrite
import Derived.Laws.IdiomCopy
import Derived.Laws.IdiomStrings
namespace Go.Proofs.Ytjcddeoihjppaaa
open Go.RowKit

theorem ret_int {k : IntKind} {a b : Int} (h : a = b) : Ending.returned (.int k a) = .returned (.int k b) := by rw [h]
theorem ret_bool {a b : Bool} (h : a = b) : Ending.returned (.bool a) = .returned (.bool b) := by rw [h]
theorem Try.own : ownKnob Try.prog.godebug = none := by kernel_rfl
theorem Try.laidOut : laidOutB Try.prog = true := by kernel_rfl
theorem cells3 : Try.prog.cellsOf 3 = 1 := by kernel_rfl
theorem cells9 : Try.prog.cellsOf 9 = 1 := by kernel_rfl
theorem info5 : (Try.prog.info? 5).map (fun i => (i.zero, i.size, i.bytes)) = some (some (.int .u8 0), 1, 1) := by kernel_rfl
theorem zero9 (w : World) : (zeroValue 9).run Try.prog w = .ok (.string ⟨#[]⟩) w := by kernel_rfl
theorem Below.setCells' {B b : Nat} {a : World} (hB : B ≤ b) : ∀ (vs : List Value) (o : Nat) (w : World), Below B a w → Below B a (w.setCells b o vs)
  | [], _, _, h => h
  | v :: r, o, _, h => Below.setCells' hB r (o + 1) _ (h.setCell (p := ⟨b, o, none⟩) hB v)
end Go.Proofs.Ytjcddeoihjppaaa
namespace Go.Proofs.Ytjcddeoihjppaaa
open Go.RowKit Go.Maps

/-- what a call leaves as it was: all but the blocks of S -/
structure Only (S : Nat → Prop) (w w' : World) : Prop where
  os : w'.os = w.os
  tape : w'.tape = w.tape
  output : w'.output = w.output
  size : w.heap.size ≤ w'.heap.size
  block : ∀ k, k < w.heap.size → ¬ S k → w'.heap[k]? = w.heap[k]?

theorem Only.refl (S : Nat → Prop) (w : World) : Only S w w := ⟨rfl, rfl, rfl, Nat.le_refl _, fun _ _ _ => rfl⟩
theorem Only.of_below {S : Nat → Prop} {w w' : World} (h : Below w.heap.size w w') : Only S w w' := ⟨h.os, h.tape, h.output, h.size, fun k hk _ => h.block k hk⟩
theorem Only.of_grown {S : Nat → Prop} {w w' : World} {b : Nat} (h : w.grownBy w' (some b)) (hb : S b) : Only S w w' :=
  ⟨h.os, h.tape, h.output, h.size, fun k hk hs => h.block k hk (fun e => hs (by cases e; exact hb))⟩
theorem Only.trans {S T : Nat → Prop} {w w' w'' : World} (h : Only S w w') (k : Only T w' w'') (hT : ∀ i, T i → S i ∨ w.heap.size ≤ i) : Only S w w'' :=
  ⟨k.os.trans h.os, k.tape.trans h.tape, k.output.trans h.output, Nat.le_trans h.size k.size, fun i hi hs => (k.block i (Nat.lt_of_lt_of_le hi h.size) (fun ht => by
    rcases hT i ht with h1 | h1
    · exact hs h1
    · omega)).trans (h.block i hi hs)⟩
theorem Only.mono {S T : Nat → Prop} {w w' : World} (h : Only S w w') (hT : ∀ i, S i → T i) : Only T w w' :=
  ⟨h.os, h.tape, h.output, h.size, fun i hi hs => h.block i hi (fun k => hs (hT i k))⟩
theorem Only.drew {S : Nat → Prop} {w w' : World} (h : Only S w w') : Only S w w'.drew := ⟨h.os, h.tape, h.output, h.size, h.block⟩
theorem Only.cell {S : Nat → Prop} {w w' : World} (h : Only S w w') {b : Nat} (hb : b < w.heap.size) (hs : ¬ S b) (o : Nat) : w'.cell? ⟨b, o, none⟩ = w.cell? ⟨b, o, none⟩ := World.cell?_of_block (h.block b hb hs)
theorem Only.below {S : Nat → Prop} {B : Nat} {a w w' : World} (h : Below B a w) (k : Only S w w') (hB : B ≤ w.heap.size) (hS : ∀ i, S i → B ≤ i) : Below B a w' :=
  ⟨k.os.trans h.os, k.tape.trans h.tape, k.output.trans h.output, Nat.le_trans h.size k.size, fun i hi => (k.block i (by omega) (fun hs => by have := hS i hs; omega)).trans (h.block i hi)⟩

/-- bits, in cells -/
def flags (f : Nat → Bool) : List Value := (List.range 2000).map fun k => .bool (f k)
/-- roots, in cells -/
def rootsL (rp rn : Nat → Int) : List Value := (List.range 16).map fun k => .int .i64 (if k % 2 = 0 then rp (k / 2) else rn (k / 2))
/-- a state, in cells -/
def stateL (used : Nat → Bool) (rp rn : Nat → Int) (m : Nat) : List Value := flags used ++ (rootsL rp rn ++ [.map (some m)])

theorem flags_len (f : Nat → Bool) : (flags f).length = 2000 := by simp [flags]
theorem rootsL_len (rp rn : Nat → Int) : (rootsL rp rn).length = 16 := by simp [rootsL]
theorem stateL_len (used : Nat → Bool) (rp rn : Nat → Int) (m : Nat) : (stateL used rp rn m).length = 2017 := by
  rw [stateL, List.length_append, flags_len, List.length_append, rootsL_len]; rfl
theorem flags_get (f : Nat → Bool) {k : Nat} (hk : k < 2000) : (flags f)[k]? = some (.bool (f k)) := by
  simp [flags, List.getElem?_map, List.getElem?_range hk]
theorem rootsL_get (rp rn : Nat → Int) {k : Nat} (hk : k < 16) : (rootsL rp rn)[k]? = some (.int .i64 (if k % 2 = 0 then rp (k / 2) else rn (k / 2))) := by
  simp [rootsL, List.getElem?_map, List.getElem?_range hk]
theorem flags_congr {f g : Nat → Bool} (h : ∀ k, k < 2000 → f k = g k) : flags f = flags g :=
  List.map_congr_left fun k hk => by rw [h k (List.mem_range.1 hk)]
theorem rootsL_congr {a b c d : Nat → Int} (h1 : ∀ i, i < 8 → a i = c i) (h2 : ∀ i, i < 8 → b i = d i) : rootsL a b = rootsL c d :=
  List.map_congr_left fun k hk => by
    have := List.mem_range.1 hk
    rw [h1 _ (by omega), h2 _ (by omega)]
theorem stateL_used (used : Nat → Bool) (rp rn : Nat → Int) (m : Nat) {k : Nat} (hk : k < 2000) : (stateL used rp rn m)[k]? = some (.bool (used k)) := by
  rw [stateL, List.getElem?_append_left (by rw [flags_len]; exact hk), flags_get _ hk]
theorem stateL_root (used : Nat → Bool) (rp rn : Nat → Int) (m : Nat) {k : Nat} (hk : k < 16) : (stateL used rp rn m)[2000 + k]? = some (.int .i64 (if k % 2 = 0 then rp (k / 2) else rn (k / 2))) := by
  rw [stateL, List.getElem?_append_right (by rw [flags_len]; omega), flags_len, Nat.add_sub_cancel_left, List.getElem?_append_left (by rw [rootsL_len]; exact hk), rootsL_get _ _ hk]
theorem stateL_map (used : Nat → Bool) (rp rn : Nat → Int) (m : Nat) : (stateL used rp rn m)[2016]? = some (.map (some m)) := by
  rw [stateL, List.getElem?_append_right (by rw [flags_len]; omega), flags_len, List.getElem?_append_right (by rw [rootsL_len]; omega), rootsL_len]; rfl
theorem flags_one (f : Nat → Bool) : ∀ v ∈ flags f, v.oneCell' = true := fun v hv => by
  obtain ⟨k, _, rfl⟩ := List.mem_map.1 hv; rfl
theorem rootsL_one (rp rn : Nat → Int) : ∀ v ∈ rootsL rp rn, v.oneCell' = true := fun v hv => by
  obtain ⟨k, _, rfl⟩ := List.mem_map.1 hv; rfl
theorem stateL_one (used : Nat → Bool) (rp rn : Nat → Int) (m : Nat) : ∀ v ∈ stateL used rp rn m, v.oneCell' = true := fun v hv => by
  rcases List.mem_append.1 hv with h | h
  · exact flags_one _ v h
  · rcases List.mem_append.1 h with h | h
    · exact rootsL_one _ _ v h
    · rw [List.mem_singleton.1 h]; rfl

/-- a pager -/
structure Pg where
  upper : Nat → Bool
  used : Nat → Bool
  rp : Nat → Int
  rn : Nat → Int
  chg : Nat → Option ByteArray
  commits : Int
  down : Bool

/-- its cells -/
def cellOf (p : Pg) (bd bm : Nat) (k : Nat) : Value :=
  if k = 0 then .pointer (some ⟨bd, 0, none⟩) else if k < 2001 then .bool (p.upper (k - 1)) else if k < 4001 then .bool (p.used (k - 2001))
  else if k < 4017 then .int .i64 (if (k - 4001) % 2 = 0 then p.rp ((k - 4001) / 2) else p.rn ((k - 4001) / 2))
  else if k = 4017 then .map (some bm) else if k = 4018 then .int .i64 p.commits else .bool p.down

theorem cellOf_upper (p : Pg) (bd bm : Nat) {k : Nat} (hk : k < 2000) : cellOf p bd bm (1 + k) = .bool (p.upper k) := by
  unfold cellOf
  rw [if_neg (by omega), if_pos (by omega)]; simp [Nat.add_comm 1 k]
theorem cellOf_used (p : Pg) (bd bm : Nat) {k : Nat} (hk : k < 2000) : cellOf p bd bm (2001 + k) = .bool (p.used k) := by
  unfold cellOf
  rw [if_neg (by omega), if_neg (by omega), if_pos (by omega), show 2001 + k - 2001 = k by omega]
theorem cellOf_root (p : Pg) (bd bm : Nat) {k : Nat} (hk : k < 16) : cellOf p bd bm (4001 + k) = .int .i64 (if k % 2 = 0 then p.rp (k / 2) else p.rn (k / 2)) := by
  unfold cellOf
  rw [if_neg (by omega), if_neg (by omega), if_neg (by omega), if_pos (by omega), show 4001 + k - 4001 = k by omega]
theorem cellOf_map (p : Pg) (bd bm : Nat) : cellOf p bd bm 4017 = .map (some bm) := rfl
theorem cellOf_commits (p : Pg) (bd bm : Nat) : cellOf p bd bm 4018 = .int .i64 p.commits := rfl
theorem cellOf_down (p : Pg) (bd bm : Nat) : cellOf p bd bm 4019 = .bool p.down := rfl

/-- block bp has these cells -/
structure Cells (bp bd bm : Nat) (p : Pg) (w : World) : Prop where
  cell : ∀ k, k < 4020 → w.cell? ⟨bp, k, none⟩ = some (cellOf p bd bm k)
  free : ∀ k, w.frozen? ⟨bp, k, none⟩ = false

section
variable {bp bd bm n : Nat} {p : Pg} {w w' : World}

theorem Cells.lt (h : Cells bp bd bm p w) : bp < w.heap.size := World.block_lt_of_cell? w _ (h.cell 0 (by omega))
theorem Cells.block (h : Cells bp bd bm p w) (hb : w'.heap[bp]? = w.heap[bp]?) : Cells bp bd bm p w' :=
  ⟨fun k hk => (World.cell?_of_block hb).trans (h.cell k hk), fun k => (World.frozen?_of_block (a := ⟨bp, k, none⟩) hb).trans (h.free k)⟩
theorem Cells.set (h : Cells bp bd bm p w) {p' : Pg} {bm' o : Nat} {v : Value} (ho : o < 4020) (hv : cellOf p' bd bm' o = v) (hk : ∀ k, k < 4020 → k ≠ o → cellOf p' bd bm' k = cellOf p bd bm k) : Cells bp bd bm' p' (w.setCell ⟨bp, o, none⟩ v) := by
  refine ⟨fun k hl => ?_, fun k => by rw [World.frozen?_setCell]; exact h.free k⟩
  by_cases e : k = o
  · subst e
    rw [World.cell?_setCell_same _ _ _ (h.cell k hl), hv]
  · rw [World.cell?_setCell_other _ _ _ _ (fun e' => e (by cases e'; rfl)), h.cell k hl, hk k hl e]
theorem Cells.setN (h : Cells bp bd bm p w) {p' : Pg} {bm' o : Nat} {vs : List Value} (ho : o + vs.length ≤ 4020) (hv : ∀ j, j < vs.length → vs[j]? = some (cellOf p' bd bm' (o + j))) (hk : ∀ k, k < 4020 → k < o ∨ o + vs.length ≤ k → cellOf p' bd bm' k = cellOf p bd bm k) : Cells bp bd bm' p' (w.setCells bp o vs) := by
  refine ⟨fun k hl => ?_, fun k => by rw [World.frozen?_setCells]; exact h.free k⟩
  by_cases e : k < o ∨ o + vs.length ≤ k
  · rw [World.cell?_setCells_out bp vs o w ⟨bp, k, none⟩ (fun _ _ => e), h.cell k hl, hk k hl e]
  · obtain ⟨j, rfl⟩ : ∃ j, k = o + j := ⟨k - o, by omega⟩
    have hj : j < vs.length := by omega
    rw [World.cell?_setCells_in bp vs o w (fun i hi => by rw [h.cell _ (by omega)]; rfl) j hj, ← hv j hj, List.getElem?_eq_getElem hj]
theorem Cells.there (h : Cells bp bd bm p w) (o n : Nat) (ho : o + n ≤ 4020) : w.there bp o n := fun j hj => ⟨by rw [h.cell _ (by omega)]; rfl, h.free _⟩
theorem Cells.range (h : Cells bp bd bm p w) (o : Nat) (vs : List Value) (ho : o + vs.length ≤ 4020) (hv : ∀ j, j < vs.length → vs[j]? = some (cellOf p bd bm (o + j))) : w.rangeAt bp o vs := fun j v hj => by
  have hl := (List.getElem?_eq_some_iff.1 hj).1
  rw [h.cell _ (by omega), ← hv j hl, hj]
theorem Cells.used (h : Cells bp bd bm p w) : w.rangeAt bp 2001 (flags p.used) :=
  h.range _ _ (by rw [flags_len]; omega) fun j hj => by rw [flags_len] at hj; rw [flags_get _ hj, cellOf_used _ _ _ hj]
theorem Cells.upper (h : Cells bp bd bm p w) : w.rangeAt bp 1 (flags p.upper) :=
  h.range _ _ (by rw [flags_len]; omega) fun j hj => by rw [flags_len] at hj; rw [flags_get _ hj, cellOf_upper _ _ _ hj]
theorem Cells.roots (h : Cells bp bd bm p w) : w.rangeAt bp 4001 (rootsL p.rp p.rn) :=
  h.range _ _ (by rw [rootsL_len]; omega) fun j hj => by rw [rootsL_len] at hj; rw [rootsL_get _ _ hj, cellOf_root _ _ _ hj]
theorem stateL_get (p : Pg) (bd bm : Nat) {j : Nat} (hj : j < 2017) : (stateL p.used p.rp p.rn bm)[j]? = some (cellOf p bd bm (2001 + j)) := by
  by_cases h1 : j < 2000
  · rw [stateL_used _ _ _ _ h1, cellOf_used _ _ _ h1]
  · by_cases h2 : j < 2016
    · obtain ⟨i, rfl⟩ : ∃ i, j = 2000 + i := ⟨j - 2000, by omega⟩
      rw [stateL_root _ _ _ _ (by omega), ← Nat.add_assoc, cellOf_root _ _ _ (by omega)]
    · obtain rfl : j = 2016 := by omega
      rw [stateL_map, cellOf_map]
theorem Cells.state (h : Cells bp bd bm p w) : w.rangeAt bp 2001 (stateL p.used p.rp p.rn bm) :=
  h.range _ _ (by rw [stateL_len]; omega) fun j hj => by rw [stateL_len] at hj; exact stateL_get p bd bm hj
end

/-- how an element of the map of changed pages reads -/
def sheetElem : Value → Option (DataW Unit × List MemPlace)
  | .agg cs => match cs.toList with
    | [.string s] => some (.lit (.string s.data.toList), [])
    | _ => none
  | _ => none
theorem sheetElem_mk (s : ByteArray) : sheetElem (.agg #[.string s]) = some (.lit (.string s.data.toList), []) := rfl
theorem sheetElem_inv {v : Value} {z : DataW Unit × List MemPlace} (h : sheetElem v = some z) : ∃ s : ByteArray, v = .agg #[.string s] ∧ z = (.lit (.string s.data.toList), []) := by
  unfold sheetElem at h
  split at h
  · rename_i cs
    split at h
    · rename_i s hs
      cases h
      refine ⟨s, ?_, rfl⟩
      have : cs = #[.string s] := by
        apply Array.toList_inj.1
        rw [hs]
      rw [this]
    · cases h
  · cases h

/-- a map has these pages -/
structure MapIs (D : DataW Unit) (f : Nat → Option ByteArray) : Prop where
  isMap : IsMap D
  key : ∀ l, Maps.has D l = true → ∃ k : Nat, l = .int .i64 k ∧ k < 2000
  has : ∀ k : Nat, k < 2000 → Maps.has D (.int .i64 k) = (f k).isSome
  elem : ∀ (k : Nat) (s : ByteArray), k < 2000 → f k = some s → ∀ z, D.atKey (.int .i64 k) z = .lit (.string s.data.toList)
  small : ∀ (k : Nat) (s : ByteArray), f k = some s → k < 2000 ∧ s.size = 1024

/-- with one page laid anew, or taken out -/
def put (f : Nat → Option ByteArray) (k : Nat) (s : Option ByteArray) : Nat → Option ByteArray := fun i => if i = k then s else f i

theorem wf_nat (k : Nat) (hk : k < 4001) : (Lit.int .i64 (k : Int)).wf = true := WalkArith.wf_i64 (by omega)
theorem key_ne {i k : Nat} (h : i ≠ k) : (Lit.int .i64 (i : Int)) ≠ .int .i64 k := fun e => h (by injection e with e1 e2; omega)
theorem isKey (k : Nat) : WideAt.IsKeyLit (Lit.int .i64 (k : Int)) := trivial
theorem keyed3 : Keyed Try.prog 3 := int_keyed Try.underlying3

theorem mapIs_empty : MapIs (.map []) (fun _ => none) :=
  ⟨isMap_empty, fun l h => by simp [Maps.has] at h, fun k _ => rfl, fun k s _ h => (by cases h), fun k s h => (by cases h)⟩
theorem MapIs.put {D : DataW Unit} {f : Nat → Option ByteArray} (h : MapIs D f) (k : Nat) (hk : k < 2000) (s : ByteArray) (hs : s.size = 1024) : MapIs (D.put (.int .i64 k) (.lit (.string s.data.toList))) (put f k (some s)) := by
  refine ⟨h.isMap.put _ _, fun l hl => ?_, fun i hi => ?_, fun i t hi ht z => ?_, fun i t ht => ?_⟩
  · by_cases e : l = .int .i64 k
    · exact ⟨k, e, hk⟩
    · rw [has_put_other e] at hl
      exact h.key l hl
  · by_cases e : i = k
    · subst e; rw [has_put_same h.isMap (isKey i)]; simp [Go.Proofs.Ytjcddeoihjppaaa.put]
    · rw [has_put_other (key_ne e), h.has i hi]; simp [Go.Proofs.Ytjcddeoihjppaaa.put, e]
  · by_cases e : i = k
    · subst e
      rw [atKey_put_same h.isMap (isKey i)]
      simp [Go.Proofs.Ytjcddeoihjppaaa.put] at ht
      rw [ht]
    · rw [atKey_put_other (key_ne e)]
      exact h.elem i t hi (by simpa [Go.Proofs.Ytjcddeoihjppaaa.put, e] using ht) z
  · by_cases e : i = k
    · subst e
      simp [Go.Proofs.Ytjcddeoihjppaaa.put] at ht
      rw [← ht]; exact ⟨hk, hs⟩
    · exact h.small i t (by simpa [Go.Proofs.Ytjcddeoihjppaaa.put, e] using ht)
theorem MapIs.del {D : DataW Unit} {f : Nat → Option ByteArray} (h : MapIs D f) (k : Nat) : MapIs (D.del (.int .i64 k)) (Go.Proofs.Ytjcddeoihjppaaa.put f k none) := by
  refine ⟨h.isMap.del _, fun l hl => ?_, fun i hi => ?_, fun i t hi ht z => ?_, fun i t ht => ?_⟩
  · by_cases e : l = .int .i64 k
    · rw [e, has_del_same] at hl; cases hl
    · rw [has_del_other e] at hl
      exact h.key l hl
  · by_cases e : i = k
    · subst e; rw [has_del_same]; simp [Go.Proofs.Ytjcddeoihjppaaa.put]
    · rw [has_del_other (key_ne e), h.has i hi]; simp [Go.Proofs.Ytjcddeoihjppaaa.put, e]
  · by_cases e : i = k
    · subst e
      simp [Go.Proofs.Ytjcddeoihjppaaa.put] at ht
    · rw [atKey_del_other (key_ne e)]
      exact h.elem i t hi (by simpa [Go.Proofs.Ytjcddeoihjppaaa.put, e] using ht) z
  · by_cases e : i = k
    · subst e
      simp [Go.Proofs.Ytjcddeoihjppaaa.put] at ht
    · exact h.small i t (by simpa [Go.Proofs.Ytjcddeoihjppaaa.put, e] using ht)

/-- block m is a map of changed pages -/
def Sheets (m n : Nat) (f : Nat → Option ByteArray) (w : World) : Prop := ∃ D : DataW Unit, w.ownsMap Try.prog 3 sheetElem m n D ∧ MapIs D f
theorem Sheets.lt {m n : Nat} {f : Nat → Option ByteArray} {w : World} (h : Sheets m n f w) : m < w.heap.size := by obtain ⟨D, hD, _⟩ := h; exact hD.lt
theorem Sheets.block {m n : Nat} {f : Nat → Option ByteArray} {w w' : World} (h : Sheets m n f w) (hb : w'.heap[m]? = w.heap[m]?) : Sheets m n f w' := by
  obtain ⟨D, ⟨es, clock, hm, F, hs, hD⟩, hM⟩ := h
  exact ⟨D, ⟨es, clock, hb.trans hm, F, hs, hD⟩, hM⟩
theorem Sheets.only {S : Nat → Prop} {m n : Nat} {f : Nat → Option ByteArray} {w w' : World} (h : Sheets m n f w) (ho : Only S w w') (hs : ¬ S m) : Sheets m n f w' := h.block (ho.block m h.lt hs)
theorem Sheets.mono {m n n' : Nat} {f : Nat → Option ByteArray} {w : World} (h : Sheets m n f w) (hn : n ≤ n') : Sheets m n' f w := by
  obtain ⟨D, hD, hM⟩ := h
  exact ⟨D, hD.mono hn, hM⟩
theorem Sheets.ne_cell {m n : Nat} {f : Nat → Option ByteArray} {w : World} (h : Sheets m n f w) {b o : Nat} {v : Value} (hc : w.cell? ⟨b, o, none⟩ = some v) : m ≠ b := by
  obtain ⟨D, ⟨es, clock, hm, _⟩, _⟩ := h
  intro e; subst e
  simp [World.cell?, hm] at hc

/-- a pager in memory: its block, its disk's, its map's -/
structure PagerIs (bp bd bm n : Nat) (p : Pg) (w : World) : Prop where
  cells : Cells bp bd bm p w
  own : Sheets bm n p.chg w

section
variable {bp bd bm n : Nat} {p : Pg} {w w' : World}
theorem PagerIs.ne (h : PagerIs bp bd bm n p w) : bm ≠ bp := h.own.ne_cell (h.cells.cell 0 (by omega))
theorem PagerIs.lt (h : PagerIs bp bd bm n p w) : bp < w.heap.size := h.cells.lt
theorem PagerIs.mlt (h : PagerIs bp bd bm n p w) : bm < w.heap.size := h.own.lt
theorem PagerIs.only {S : Nat → Prop} (h : PagerIs bp bd bm n p w) (ho : Only S w w') (h1 : ¬ S bp) (h2 : ¬ S bm) : PagerIs bp bd bm n p w' := ⟨h.cells.block (ho.block bp h.lt h1), h.own.only ho h2⟩
theorem PagerIs.below (h : PagerIs bp bd bm n p w) (hb : Below w.heap.size w w') : PagerIs bp bd bm n p w' := h.only (Only.of_below (S := fun _ => False) hb) (fun e => e) (fun e => e)
theorem PagerIs.drew (h : PagerIs bp bd bm n p w) : PagerIs bp bd bm n p w.drew := ⟨h.cells.block rfl, h.own.block rfl⟩
theorem PagerIs.mono (h : PagerIs bp bd bm n p w) {n' : Nat} (hn : n ≤ n') : PagerIs bp bd bm n' p w := ⟨h.cells, h.own.mono hn⟩
end
end Go.Proofs.Ytjcddeoihjppaaa
namespace Go.Proofs.Ytjcddeoihjppaaa
open Go.RowKit Go.Maps

theorem size40 : (Try.prog.info? 36).map (·.size) = some 2000 := by kernel_rfl
theorem zeros40 : Try.zeroCells36 = (flags fun _ => false).toArray := by kernel_rfl

/-- a bit of a text -/
def bitOf (s : ByteArray) (k : Nat) : Bool := (s.data.toList.getD (k / 8) 0).toNat.testBit (k % 8)

/-- a row of bits -/
structure Bits (B : Nat) (f : Nat → Bool) (w : World) : Prop where
  cell : ∀ j, j < 2000 → w.cell? ⟨B, j, none⟩ = some (.bool (f j))
  free : ∀ j, w.frozen? ⟨B, j, none⟩ = false

theorem Bits.range {B : Nat} {f : Nat → Bool} {w : World} (h : Bits B f w) : w.rangeAt B 0 (flags f) := fun j v hj => by
  have hl := (List.getElem?_eq_some_iff.1 hj).1
  rw [flags_len] at hl
  rw [flags_get _ hl] at hj
  rw [Nat.zero_add, h.cell j hl, hj]

theorem and_bit : ∀ (v : Fin 256) (i : Fin 8), (bits BinOp.and IntKind.u8 ((v.val : Int) / 2 ^ i.val) 1 == 1) = v.val.testBit i.val := by decide +kernel
theorem or_bit : ∀ (v : Fin 256) (i : Fin 8), bits BinOp.or IntKind.u8 (v.val : Int) (IntKind.u8.wrap (1 * 2 ^ i.val)) = ((v.val ||| 2 ^ i.val : Nat) : Int) ∧ (v.val ||| 2 ^ i.val) < 256 := by decide +kernel

theorem bit_at (s : ByteArray) (k : Nat) (h : k / 8 < s.size) : (bits BinOp.and IntKind.u8 (((s[k / 8]).toNat : Int) / 2 ^ (k % 8)) 1 == 1) = bitOf s k := by
  have := and_bit ⟨(s[k / 8]).toNat, (s[k / 8]).toNat_lt⟩ ⟨k % 8, by omega⟩
  rw [this]
  have hl : k / 8 < s.data.toList.length := by simpa using h
  simp only [bitOf, List.getD_eq_getElem?_getD, List.getElem?_eq_getElem hl, Option.getD_some]
  rfl

theorem size_flags (f : Nat → Bool) : (Try.prog.info? 36).map (·.size) = some (flags f).length := by rw [flags_len]; exact size40
theorem size_flagsA (f : Nat → Bool) : (Try.prog.info? 36).map (·.size) = some (flags f).toArray.size := by rw [List.size_toArray, flags_len]; exact size40

theorem results_cell_of {P : Program} {fn : Func} {p : Tmp} {ty : TypeId} {v : Value} (h : fn.results = #[.cell p ty]) (tmps : Array Value) (w : World) (a : Addr) (hp : tmps.getD p undef = .pointer (some a)) (hl : (loadVar ty a).run P w = .ok v w) :
    (results fn tmps).run P w = .ok v w := by
  have hp' : tmps[p]?.getD undef = .pointer (some a) := by simpa [Array.getD_eq_getD_getElem?] using hp
  simp [results, h, hp', asAddr, hl]

set_option maxRecDepth 100000 in
set_option maxHeartbeats 400000 in
theorem readFlags_any (s : ByteArray) (hs : 250 ≤ s.size) (hm : s.size ≤ 1024) (w : World) :
    Calls Try.prog 94 #[.string s] w fun e w' => e = .returned (.agg (flags (bitOf s)).toArray) ∧ Below w.heap.size w w' := by
  have hz := Try.zeroValue36
  go_enter Try.func94, Try.ntmps94
  go_wp2_with fail
  clear hz
  go_loopw [4] (fun i wr => ∃ k : Nat, k ≤ 2000 ∧ i = .int .i64 k ∧ Hid (Bits w.heap.size (fun j => decide (j < k) && bitOf s j) wr) ∧ Hid (Below w.heap.size w wr)) (fun i _ => 2000 - (intOf i).toNat)
  case atStart =>
    have hn : (w.alloc (.cells Try.zeroCells36 36)).heap[w.heap.size]? = some (.cells Try.zeroCells36 36) := heap_alloc_new w _
    refine ⟨0, by omega, rfl, ⟨fun j hj => ?_, fun j => by simp only [World.frozen?, hn]; simp⟩, (Below.refl _ _).alloc (Nat.le_refl _) _⟩
    rw [cell_of_row _ _ _ _ _ _ hn, zeros40]
    have := flags_get (fun _ => false) hj
    simpa using this
  case round =>
    obtain ⟨k, hk, rfl, HC, HB⟩ := hrel
    by_cases hlt : k < 2000
    · have h1 : (k : Int) < 2000 := by omega
      have h2 : k / 8 < s.size := by omega
      have q := HC.out.cell k hlt
      have f := HC.out.free k
      have hbit := bit_at s k h2
      go_wp2
      go_roundw
      case rel =>
        refine ⟨k + 1, by omega, by go_num, ⟨fun j hj => ?_, fun j => by rw [World.frozen?_setCell]; exact HC.out.free j⟩, HB.out.setCell (p := ⟨w.heap.size, k, none⟩) (Nat.le_refl _) _⟩
        by_cases e : j = k
        · subst e
          rw [World.cell?_setCell_same _ _ _ q]
          simp
        · rw [World.cell?_setCell_other _ _ _ _ (fun e' => e (by cases e'; rfl)), HC.out.cell j hj]
          have : decide (j < k) = decide (j < k + 1) := by simp; omega
          rw [this]
      case measure => simp [intOf]; omega
    · have hk2 : k = 2000 := by omega
      have h1 : (k : Int) = 2000 := by omega
      have hr : wr.rangeAt w.heap.size 0 (flags (bitOf s)) := by
        rw [flags_congr (g := fun j => decide (j < k) && bitOf s j) (fun j hj => by simp; omega)]
        exact HC.out.range
      have ht : wr.there w.heap.size 0 (flags (bitOf s)).toArray.size := fun j hj => by
        simp [flags_len] at hj
        rw [Nat.zero_add]
        exact ⟨by rw [HC.out.cell j hj]; rfl, HC.out.free j⟩
      have hl2 := run_loadVar_mid (P := Try.prog) (wr.setCells w.heap.size 0 (flags (bitOf s)).toArray.toList) w.heap.size 0 36 _ _ (World.rangeAt_setCells_same _ _ _ _ (by simpa using ht)) Try.underlying36 rfl (size_flags _)
      have hb : Hid (Below w.heap.size w (wr.setCells w.heap.size 0 (flags (bitOf s)).toArray.toList)) := Below.setCells' (Nat.le_refl _) _ _ _ HB.out
      have hs1 := size_flags (bitOf s)
      have hs2 := size_flagsA (bitOf s)
      have ho := all_oneCell_toArray (flags_one (bitOf s))
      obtain ⟨fs, hfs⟩ : ∃ fs, flags (bitOf s) = fs := ⟨_, rfl⟩
      rw [hfs] at hr ht hl2 hb hs1 hs2 ho
      have HF : Hid (flags (bitOf s) = fs) := hfs
      clear hfs
      have HR : Hid _ := hr
      have HT : Hid _ := ht
      clear hr ht
      go_wp2_with (first | (refine wpList_load_mid rfl 36 _ rfl _ 0 rfl fs _ HR.out Try.underlying36 rfl hs1 ?_) | (refine wpList_store_mid rfl 36 _ _ rfl _ 0 fs.toArray rfl rfl HT.out hs2 ho ?_))
      exact bodyPost_ret (v := .agg fs.toArray) (results_cell_of Try.results94 _ _ _ rfl hl2) rfl ⟨by rw [HF.out], hb.out⟩
end Go.Proofs.Ytjcddeoihjppaaa
namespace Go.Proofs.Ytjcddeoihjppaaa
open Go.RowKit Go.Maps

/-- where a page lies -/
def placeF (k : Nat) (up : Bool) : Nat := if up then 2000 + k else k
theorem place_any (k : Nat) (hk : k < 2000) (up : Bool) (w : World) :
    Calls Try.prog 58 #[.int .i64 k, .bool up] w fun e w' => e = .returned (.int .i64 (placeF k up)) ∧ w' = w := by
  go_enter Try.func58, Try.ntmps58
  cases up
  · go_wp2
    go_ret
    exact ⟨rfl, rfl⟩
  · go_wp2
    go_ret
    exact ⟨ret_int (by simp [placeF]), rfl⟩

theorem below_any (n b : Int) (w : World) :
    Calls Try.prog 56 #[.int .i64 n, .int .i64 b] w fun e w' => e = .returned (.bool (decide (0 ≤ n) && decide (n < b))) ∧ w' = w := by
  go_enter Try.func56, Try.ntmps56
  by_cases h0 : 0 ≤ n
  · go_wp2
    go_ret
    exact ⟨ret_bool (by simp [h0]), rfl⟩
  · go_wp2
    go_ret
    exact ⟨ret_bool (by rw [decide_eq_false (show ¬ 0 ≤ n by omega)]; rfl), rfl⟩

theorem rootAt_any (i : Nat) (hi : i < 8) (w : World) :
    Calls Try.prog 96 #[.int .i64 i] w fun e w' => e = .returned (.int .i64 (500 + 4 * (i : Int))) ∧ w' = w := by
  go_enter Try.func96, Try.ntmps96
  go_wp2
  go_ret
  exact ⟨ret_int (by go_num), rfl⟩

/-- two bytes, as a number -/
def numOf (s : ByteArray) (k : Nat) : Int := ((s.data.toList.getD k 0).toNat * 256 + (s.data.toList.getD (k + 1) 0).toNat : Nat)
theorem numOf_lt (s : ByteArray) (k : Nat) : 0 ≤ numOf s k ∧ numOf s k < 65536 := by
  unfold numOf
  have h1 := (s.data.toList.getD k 0).toNat_lt
  have h2 := (s.data.toList.getD (k + 1) 0).toNat_lt
  omega
theorem wraps_i64 (n : Int) (h₀ : 0 ≤ n) (h₁ : n < 2 ^ 63) : IntKind.i64.wrap n = n := by rw [IntKind.wrap_i64]; omega
theorem wrap64_small (n : Int) (h0 : 0 ≤ n) (h1 : n < 9223372036854775808) : wrap64 n = n := by simp only [wrap64]; omega
theorem or_i64 (a b : UInt8) : bits BinOp.or IntKind.i64 (wrap64 (wrap64 (a.toNat : Int) * 256)) (wrap64 (b.toNat : Int)) = ((a.toNat * 256 + b.toNat : Nat) : Int) := by
  have h1 := a.toNat_lt
  have h2 := b.toNat_lt
  rw [wrap64_small (a.toNat : Int) (by omega) (by omega), wrap64_small (b.toNat : Int) (by omega) (by omega), wrap64_small _ (by omega) (by omega), bits_join IntKind.i64 63 (by decide) wraps_i64 8 _ _ (by omega) (by omega) (by omega) (by omega) (by omega) (by omega)]
  omega
theorem readNumber_any (s : ByteArray) (h2 : 2 ≤ s.size) (w : World) :
    Calls Try.prog 95 #[.string s] w fun e w' => e = .returned (.int .i64 (numOf s 0)) ∧ ∃ n, w' = w.drewN n := by
  have h0 : 0 < s.size := by omega
  have h1 : 1 < s.size := by omega
  have h1' : (1 : Int) < (s.size : Int) := by omega
  have h0' : (0 : Int) < (s.size : Int) := by omega
  go_enter Try.func95, Try.ntmps95
  go_wp2
  go_quiet (fail)
  go_wp2
  go_ret
  have e0 : s.data.toList.getD 0 0 = s[0] := by
    have hl : 0 < s.data.toList.length := by simpa using h0
    rw [List.getD_eq_getElem?_getD, List.getElem?_eq_getElem hl]; rfl
  have e1 : s.data.toList.getD 1 0 = s[1] := by
    have hl : 1 < s.data.toList.length := by simpa using h1
    rw [List.getD_eq_getElem?_getD, List.getElem?_eq_getElem hl]; rfl
  refine ⟨ret_int ?_, _, rfl⟩
  unfold numOf
  rw [e0, e1]
  exact or_i64 _ _
end Go.Proofs.Ytjcddeoihjppaaa
namespace Go.Proofs
open Go.Shelf
def Try.laysM316_ren : Go.Shelf.Ren := ⟨fun | 316 => 91 | n => n, fun | 9 => 9 | 3 => 3 | 4 => 4 | 37 => 54 | 0 => 0 | 127 => 148 | 5 => 5 | n => n, fun | n => n⟩
theorem Try.laysM316 : Go.Proofs.LaysM.n316 Try.prog Try.laysM316_ren := {
  mixed := by kernel_rfl
  f316 := Try.func91.trans (congrArg some (by kernel_rfl))
  t0 := Try.underlying0
  a0 := Try.isAgg0
  z0 := Try.sizeOf0
  v0 := Try.zeroValue0
  t3 := Try.underlying3
  a3 := Try.isAgg3
  z3 := Try.sizeOf3
  v3 := Try.zeroValue3
  t4 := Try.underlying4
  a4 := Try.isAgg4
  z4 := Try.sizeOf4
  v4 := Try.zeroValue4
  t9 := Try.underlying9
  a9 := Try.isAgg9
  z9 := Try.sizeOf9
  v9 := Try.zeroValue9
  t37 := Try.underlying54
  a37 := Try.isAgg54
  z37 := Try.sizeOf54
  v37 := Try.zeroValue54
  t127 := Try.underlying148
  a127 := Try.isAgg148
  z127 := Try.sizeOf148
  v127 := Try.zeroValue148
  t5 := Try.underlying5
  a5 := Try.isAgg5
  z5 := Try.sizeOf5
  v5 := Try.zeroValue5
  i0 := by kernel_rfl
  i3 := by kernel_rfl
  i4 := by kernel_rfl
  i5 := by kernel_rfl
  i9 := by kernel_rfl
  i37 := by kernel_rfl
  i127 := by kernel_rfl }
def Try.lays105_ren : Go.Shelf.Ren := ⟨fun | 105 => 18 | 212 => 42 | 99 => 43 | 165 => 44 | 166 => 45 | 170 => 46 | 169 => 47 | 263 => 76 | 264 => 77 | 206 => 78 | 240 => 79 | 241 => 80 | 276 => 112 | 277 => 113 | n => n, fun | 9 => 9 | 3 => 3 | 4 => 4 | 20 => 20 | 0 => 0 | 46 => 88 | 109 => 102 | 5 => 5 | 72 => 107 | 76 => 72 | 51 => 142 | 146 => 143 | 53 => 145 | 148 => 146 | 70 => 105 | 37 => 54 | 75 => 26 | 127 => 148 | 164 => 168 | 80 => 110 | n => n, fun | n => n⟩
theorem Try.lays105 : Go.Proofs.Lays.n105 Try.prog Try.lays105_ren := {
  mixed := by kernel_rfl
  f99 := Try.func43.trans (congrArg some (by kernel_rfl))
  f105 := Try.func18.trans (congrArg some (by kernel_rfl))
  f165 := Try.func44.trans (congrArg some (by kernel_rfl))
  f166 := Try.func45.trans (congrArg some (by kernel_rfl))
  f169 := Try.func47.trans (congrArg some (by kernel_rfl))
  f170 := Try.func46.trans (congrArg some (by kernel_rfl))
  f206 := Try.func78.trans (congrArg some (by kernel_rfl))
  f212 := Try.func42.trans (congrArg some (by kernel_rfl))
  f240 := Try.func79.trans (congrArg some (by kernel_rfl))
  f241 := Try.func80.trans (congrArg some (by kernel_rfl))
  f263 := Try.func76.trans (congrArg some (by kernel_rfl))
  f264 := Try.func77.trans (congrArg some (by kernel_rfl))
  f276 := Try.func112.trans (congrArg some (by kernel_rfl))
  f277 := Try.func113.trans (congrArg some (by kernel_rfl))
  t0 := Try.underlying0
  a0 := Try.isAgg0
  z0 := Try.sizeOf0
  v0 := Try.zeroValue0
  t3 := Try.underlying3
  a3 := Try.isAgg3
  z3 := Try.sizeOf3
  v3 := Try.zeroValue3
  t4 := Try.underlying4
  a4 := Try.isAgg4
  z4 := Try.sizeOf4
  v4 := Try.zeroValue4
  t5 := Try.underlying5
  a5 := Try.isAgg5
  z5 := Try.sizeOf5
  v5 := Try.zeroValue5
  t9 := Try.underlying9
  a9 := Try.isAgg9
  z9 := Try.sizeOf9
  v9 := Try.zeroValue9
  t20 := Try.underlying20
  a20 := Try.isAgg20
  z20 := Try.sizeOf20
  v20 := Try.zeroValue20
  t37 := Try.underlying54
  a37 := Try.isAgg54
  z37 := Try.sizeOf54
  v37 := Try.zeroValue54
  t46 := Try.underlying88
  a46 := Try.isAgg88
  z46 := Try.sizeOf88
  v46 := Try.zeroValue88
  t51 := Try.underlying142
  a51 := Try.isAgg142
  z51 := Try.sizeOf142
  v51 := Try.zeroValue142
  t53 := Try.underlying145
  a53 := Try.isAgg145
  z53 := Try.sizeOf145
  v53 := Try.zeroValue145
  t70 := Try.underlying105
  a70 := Try.isAgg105
  z70 := Try.sizeOf105
  v70 := Try.zeroValue105
  t72 := Try.underlying107
  a72 := Try.isAgg107
  z72 := Try.sizeOf107
  v72 := Try.zeroValue107
  t75 := Try.underlying26
  a75 := Try.isAgg26
  z75 := Try.sizeOf26
  v75 := Try.zeroValue26
  t76 := Try.underlying72
  a76 := Try.isAgg72
  z76 := Try.sizeOf72
  v76 := Try.zeroValue72
  t109 := Try.underlying102
  a109 := Try.isAgg102
  z109 := Try.sizeOf102
  v109 := Try.zeroValue102
  t127 := Try.underlying148
  a127 := Try.isAgg148
  z127 := Try.sizeOf148
  v127 := Try.zeroValue148
  t146 := Try.underlying143
  a146 := Try.isAgg143
  z146 := Try.sizeOf143
  v146 := Try.zeroValue143
  t148 := Try.underlying146
  a148 := Try.isAgg146
  z148 := Try.sizeOf146
  v148 := Try.zeroValue146
  t164 := Try.underlying168
  a164 := Try.isAgg168
  z164 := Try.sizeOf168
  v164 := Try.zeroValue168 }
def Try.keysA_ren : Go.Shelf.Ren := ⟨fun | 7 => 61 | 10 => 99 | n => n, fun | 23 => 40 | 26 => 3 | 3 => 119 | 28 => 128 | 0 => 0 | 27 => 127 | 33 => 134 | 4 => 4 | n => n, fun | n => n⟩
theorem Try.keysA : Go.Proofs.SlLaysZI.n7 Try.prog Try.keysA_ren := {
  mixed := by kernel_rfl
  f7 := ⟨Try.f61.name, by decide, Try.func61.trans (congrArg some (by kernel_rfl))⟩
  f10 := ⟨Try.f99.name, by decide, Try.func99.trans (congrArg some (by kernel_rfl))⟩
  t0 := Try.underlying0
  a0 := Try.isAgg0
  z0 := Try.sizeOf0
  v0 := Try.zeroValue0
  t4 := Try.underlying4
  a4 := Try.isAgg4
  z4 := Try.sizeOf4
  v4 := Try.zeroValue4
  t23 := Try.underlying40
  a23 := Try.isAgg40
  z23 := Try.sizeOf40
  v23 := Try.zeroValue40
  t26 := Try.underlying3
  a26 := Try.isAgg3
  z26 := Try.sizeOf3
  v26 := Try.zeroValue3
  t27 := Try.underlying127
  a27 := Try.isAgg127
  z27 := Try.sizeOf127
  v27 := Try.zeroValue127
  t28 := Try.underlying128
  a28 := Try.isAgg128
  z28 := Try.sizeOf128
  v28 := Try.zeroValue128
  t33 := Try.underlying134
  a33 := Try.isAgg134
  z33 := Try.sizeOf134
  v33 := Try.zeroValue134 }
def Try.sortedA_ren : Go.Shelf.Ren := ⟨fun | 6 => 60 | 8 => 97 | 9 => 98 | 11 => 115 | 13 => 117 | 12 => 116 | 23 => 129 | 24 => 130 | 14 => 120 | 15 => 121 | 16 => 122 | 17 => 123 | 18 => 124 | 19 => 125 | 20 => 126 | 21 => 127 | 22 => 128 | 25 => 132 | 26 => 133 | 27 => 134 | 28 => 135 | 29 => 136 | 30 => 137 | 31 => 138 | n => n, fun | 26 => 3 | 28 => 128 | 24 => 93 | 0 => 0 | 3 => 3 | 37 => 88 | 48 => 142 | 50 => 145 | 4 => 4 | 40 => 179 | 39 => 178 | 45 => 183 | 5 => 5 | 9 => 9 | 51 => 188 | 55 => 192 | 57 => 194 | 58 => 135 | 33 => 134 | n => n, fun | n => n⟩
theorem Try.sortedA : Go.Proofs.SlLaysZI.n6 Try.prog Try.sortedA_ren := {
  mixed := by kernel_rfl
  f6 := ⟨Try.f60.name, by decide, Try.func60.trans (congrArg some (by kernel_rfl))⟩
  f8 := ⟨Try.f97.name, by decide, Try.func97.trans (congrArg some (by kernel_rfl))⟩
  f11 := ⟨Try.f115.name, by decide, Try.func115.trans (congrArg some (by kernel_rfl))⟩
  t0 := Try.underlying0
  a0 := Try.isAgg0
  z0 := Try.sizeOf0
  v0 := Try.zeroValue0
  t24 := Try.underlying93
  a24 := Try.isAgg93
  z24 := Try.sizeOf93
  v24 := Try.zeroValue93
  t26 := Try.underlying3
  a26 := Try.isAgg3
  z26 := Try.sizeOf3
  v26 := Try.zeroValue3
  t28 := Try.underlying128
  a28 := Try.isAgg128
  z28 := Try.sizeOf128
  v28 := Try.zeroValue128
  i26 := by kernel_rfl }
def Try.sortA_ren : Go.Shelf.Ren := ⟨fun | 5 => 98 | 8 => 117 | 7 => 116 | 19 => 129 | 20 => 130 | 10 => 120 | 11 => 121 | 12 => 122 | 13 => 123 | 14 => 124 | 15 => 125 | 16 => 126 | 17 => 127 | 18 => 128 | 30 => 132 | 31 => 133 | 32 => 134 | 33 => 135 | 34 => 136 | 35 => 137 | 40 => 138 | n => n, fun | 23 => 93 | 25 => 3 | 3 => 3 | 32 => 88 | 22 => 93 | 0 => 0 | 44 => 142 | 46 => 145 | 4 => 4 | 36 => 179 | 35 => 178 | 41 => 183 | 5 => 5 | 9 => 9 | 53 => 188 | 57 => 192 | 63 => 194 | 64 => 135 | n => n, fun | n => n⟩
theorem Try.sortA : Go.Proofs.SlLaysM.n5 Try.prog Try.sortA_ren := {
  mixed := by kernel_rfl
  f5 := ⟨Try.f98.name, by decide, Try.func98.trans (congrArg some (by kernel_rfl))⟩
  f7 := ⟨Try.f116.name, by decide, Try.func116.trans (congrArg some (by kernel_rfl))⟩
  f8 := Try.func117.trans (congrArg some (by kernel_rfl))
  f10 := ⟨Try.f120.name, by decide, Try.func120.trans (congrArg some (by kernel_rfl))⟩
  f11 := ⟨Try.f121.name, by decide, Try.func121.trans (congrArg some (by kernel_rfl))⟩
  f12 := ⟨Try.f122.name, by decide, Try.func122.trans (congrArg some (by kernel_rfl))⟩
  f13 := ⟨Try.f123.name, by decide, Try.func123.trans (congrArg some (by kernel_rfl))⟩
  f14 := ⟨Try.f124.name, by decide, Try.func124.trans (congrArg some (by kernel_rfl))⟩
  f15 := ⟨Try.f125.name, by decide, Try.func125.trans (congrArg some (by kernel_rfl))⟩
  f16 := ⟨Try.f126.name, by decide, Try.func126.trans (congrArg some (by kernel_rfl))⟩
  f17 := ⟨Try.f127.name, by decide, Try.func127.trans (congrArg some (by kernel_rfl))⟩
  f18 := ⟨Try.f128.name, by decide, Try.func128.trans (congrArg some (by kernel_rfl))⟩
  f19 := Try.func129.trans (congrArg some (by kernel_rfl))
  f20 := Try.func130.trans (congrArg some (by kernel_rfl))
  f30 := ⟨Try.f132.name, by decide, Try.func132.trans (congrArg some (by kernel_rfl))⟩
  f31 := Try.func133.trans (congrArg some (by kernel_rfl))
  f32 := Try.func134.trans (congrArg some (by kernel_rfl))
  f33 := ⟨Try.f135.name, by decide, Try.func135.trans (congrArg some (by kernel_rfl))⟩
  f34 := ⟨Try.f136.name, by decide, Try.func136.trans (congrArg some (by kernel_rfl))⟩
  f35 := ⟨Try.f137.name, by decide, Try.func137.trans (congrArg some (by kernel_rfl))⟩
  f40 := ⟨Try.f138.name, by decide, Try.func138.trans (congrArg some (by kernel_rfl))⟩
  t0 := Try.underlying0
  a0 := Try.isAgg0
  z0 := Try.sizeOf0
  v0 := Try.zeroValue0
  t3 := Try.underlying3
  a3 := Try.isAgg3
  z3 := Try.sizeOf3
  v3 := Try.zeroValue3
  t4 := Try.underlying4
  a4 := Try.isAgg4
  z4 := Try.sizeOf4
  v4 := Try.zeroValue4
  t5 := Try.underlying5
  a5 := Try.isAgg5
  z5 := Try.sizeOf5
  v5 := Try.zeroValue5
  t9 := Try.underlying9
  a9 := Try.isAgg9
  z9 := Try.sizeOf9
  v9 := Try.zeroValue9
  t22 := Try.underlying93
  a22 := Try.isAgg93
  z22 := Try.sizeOf93
  v22 := Try.zeroValue93
  t23 := Try.underlying93
  a23 := Try.isAgg93
  z23 := Try.sizeOf93
  v23 := Try.zeroValue93
  t25 := Try.underlying3
  a25 := Try.isAgg3
  z25 := Try.sizeOf3
  v25 := Try.zeroValue3
  t32 := Try.underlying88
  a32 := Try.isAgg88
  z32 := Try.sizeOf88
  v32 := Try.zeroValue88
  t35 := Try.underlying178
  a35 := Try.isAgg178
  z35 := Try.sizeOf178
  v35 := Try.zeroValue178
  t36 := Try.underlying179
  a36 := Try.isAgg179
  z36 := Try.sizeOf179
  v36 := Try.zeroValue179
  t41 := Try.underlying183
  a41 := Try.isAgg183
  z41 := Try.sizeOf183
  v41 := Try.zeroValue183
  t44 := Try.underlying142
  a44 := Try.isAgg142
  z44 := Try.sizeOf142
  v44 := Try.zeroValue142
  t46 := Try.underlying145
  a46 := Try.isAgg145
  z46 := Try.sizeOf145
  v46 := Try.zeroValue145
  t53 := Try.underlying188
  a53 := Try.isAgg188
  z53 := Try.sizeOf188
  v53 := Try.zeroValue188
  t57 := Try.underlying192
  a57 := Try.isAgg192
  z57 := Try.sizeOf192
  v57 := Try.zeroValue192
  t63 := Try.underlying194
  a63 := Try.isAgg194
  z63 := Try.sizeOf194
  v63 := Try.zeroValue194
  t64 := Try.underlying135
  a64 := Try.isAgg135
  z64 := Try.sizeOf135
  v64 := Try.zeroValue135 }
end Go.Proofs
namespace Go.Proofs
open Go.Shelf Go.RowKit
theorem Try.Builder_Extra_105 : Builder.Extra Try.prog Try.lays105_ren := {
  sizeBuilder := by kernel_rfl
  liesBuilder := by kernel_rfl
  t5 := Try.underlying5
  a5 := Try.isAgg5
  z5 := Try.sizeOf5
  v5 := Try.zeroValue5
  infoByte := by kernel_rfl
  cellsByte := by kernel_rfl
  sizeByte := by kernel_rfl
  neB5 := by decide }
end Go.Proofs
namespace Go.Proofs.Ytjcddeoihjppaaa
open Go.Shelf Go.RowKit
theorem lib_clone (s : ByteArray) (w : World) (hlim : s.size ≤ 281474976710656) :
    Calls Try.prog 91 #[.string s] w fun e w' => e = .returned (.string s) ∧ Below w.heap.size w w' := Any.stringslite_Clone Try.laysM316 s w hlim
theorem lib_repeat (s : ByteArray) (c : Nat) (w : World) (hc : c ≤ 9223372036854775807) (hlen : s.size * c ≤ 140737488355328) :
    Calls Try.prog 18 #[.string s, .int .i64 c] w fun e w' => e = .returned (.string ⟨(Lib.repeatL s.data.toList c).toArray⟩) ∧ Below w.heap.size w w' := Any.strings_Repeat Try.lays105 Try.Builder_Extra_105 s c w hc hlen
end Go.Proofs.Ytjcddeoihjppaaa
namespace Go.Proofs.Ytjcddeoihjppaaa
open Go.RowKit

/-- a page of noughts -/
def zeros : ByteArray := ⟨(List.replicate 1024 (0 : UInt8)).toArray⟩
theorem zeros_size : zeros.size = 1024 := by
  show (List.replicate 1024 (0 : UInt8)).toArray.size = 1024
  rw [List.size_toArray, List.length_replicate]

theorem not_empty {s : ByteArray} (h : s.size = 1024) : s.toList.isEmpty = false := by
  rw [ByteArray.toList_eq]
  cases hl : s.data.toList with
  | nil => have : s.size = s.data.toList.length := by simp
           rw [hl, h] at this; cases this
  | cons a l => rfl

/-- block b is a disk with these pages -/
structure DiskIs (b : Nat) (pg : Nat → ByteArray) (ends : Bool) (left torn : Int) (w : World) : Prop where
  page : ∀ k, k < 4001 → (w.cell? ⟨b, k, none⟩ = some (.string (pg k)) ∧ (pg k).size = 1024) ∨ (w.cell? ⟨b, k, none⟩ = some (.string ⟨#[]⟩) ∧ pg k = zeros)
  ends : w.cell? ⟨b, 4001, none⟩ = some (.bool ends)
  left : w.cell? ⟨b, 4002, none⟩ = some (.int .i64 left)
  torn : w.cell? ⟨b, 4003, none⟩ = some (.int .i64 torn)
  free : ∀ k, w.frozen? ⟨b, k, none⟩ = false

theorem grown_of_below {w w' : World} (h : Below w.heap.size w w') (row : Option Nat) : w.grownBy w' row := ⟨h.os, h.tape, h.output, h.size, fun k hk _ => h.block k hk⟩

theorem DiskIs.lt {b : Nat} {pg : Nat → ByteArray} {ends : Bool} {left torn : Int} {w : World} (h : DiskIs b pg ends left torn w) : b < w.heap.size := World.block_lt_of_cell? w _ h.ends

theorem DiskIs.size {b : Nat} {pg : Nat → ByteArray} {ends : Bool} {left torn : Int} {w : World} (h : DiskIs b pg ends left torn w) (k : Nat) (hk : k < 4001) : (pg k).size = 1024 := by
  rcases h.page k hk with ⟨_, h1⟩ | ⟨_, h1⟩
  · exact h1
  · rw [h1, zeros_size]

theorem DiskIs.block {b : Nat} {pg : Nat → ByteArray} {ends : Bool} {left torn : Int} {w w' : World} (h : DiskIs b pg ends left torn w) (hb : w'.heap[b]? = w.heap[b]?) : DiskIs b pg ends left torn w' := by
  have c : ∀ k, w'.cell? ⟨b, k, none⟩ = w.cell? ⟨b, k, none⟩ := fun k => World.cell?_of_block hb
  refine ⟨fun k hk => ?_, ?_, ?_, ?_, fun k => ?_⟩
  · rw [c]; exact h.page k hk
  · rw [c]; exact h.ends
  · rw [c]; exact h.left
  · rw [c]; exact h.torn
  · exact (World.frozen?_of_block (a := ⟨b, k, none⟩) hb).trans (h.free k)

theorem DiskIs.grown {b : Nat} {pg : Nat → ByteArray} {ends : Bool} {left torn : Int} {w w' : World} {row : Option Nat} (h : DiskIs b pg ends left torn w) (hg : w.grownBy w' row) (hne : some b ≠ row) : DiskIs b pg ends left torn w' :=
  h.block (hg.block b h.lt hne)

theorem DiskIs.below {b : Nat} {pg : Nat → ByteArray} {ends : Bool} {left torn : Int} {w w' : World} (h : DiskIs b pg ends left torn w) (hb : Below w.heap.size w w') : DiskIs b pg ends left torn w' :=
  h.block (hb.block b h.lt)

theorem DiskIs.drew {b : Nat} {pg : Nat → ByteArray} {ends : Bool} {left torn : Int} {w : World} (h : DiskIs b pg ends left torn w) : DiskIs b pg ends left torn w.drew := h.block rfl

theorem there_yes (k : Nat) (w : World) (hk : k < 4001) : Calls Try.prog 92 #[.int .i64 k] w fun e w' => e = .returned (.bool true) ∧ w' = w := by
  have h1 : (k : Int) < 4001 := by omega
  go_enter Try.func92, Try.ntmps92
  go_wp2
  go_ret
  exact ⟨ret_bool (by simp), rfl⟩

theorem there_no (k : Int) (w : World) (hk : k < 0 ∨ 4001 ≤ k) : Calls Try.prog 92 #[.int .i64 k] w fun e w' => e = .returned (.bool false) ∧ w' = w := by
  by_cases h0 : 0 ≤ k
  · have h1 : ¬ k < 4001 := by omega
    go_enter Try.func92, Try.ntmps92
    go_wp2
    go_ret
    exact ⟨ret_bool (by simp), rfl⟩
  · go_enter Try.func92, Try.ntmps92
    go_wp2
    go_ret
    exact ⟨ret_bool (by simp), rfl⟩

theorem on_any {b : Nat} {pg : Nat → ByteArray} {ends : Bool} {left torn : Int} {w : World} (h : DiskIs b pg ends left torn w) :
    Calls Try.prog 100 #[.pointer (some ⟨b, 0, none⟩)] w fun e w' => e = .returned (.bool (!ends || decide (0 < left))) ∧ w' = w := by
  have h1 := h.ends
  have h2 := h.left
  clear h
  cases ends
  · go_enter Try.func100, Try.ntmps100
    go_wp2
    go_ret
    exact ⟨ret_bool (by simp), rfl⟩
  · go_enter Try.func100, Try.ntmps100
    go_wp2
    go_ret
    exact ⟨ret_bool (by simp), rfl⟩

theorem clone_any (s : ByteArray) (w : World) (hs : s.size ≤ 1024) : Calls Try.prog 55 #[.string s] w fun e w' => e = .returned (.string s) ∧ Below w.heap.size w w' := by
  go_enter Try.func55, Try.ntmps55
  go_wp2_with fail
  refine (lib_clone s w (by omega)).mono ?_
  rintro _ w1 ⟨rfl, hb⟩
  go_wp2
  go_ret
  exact ⟨rfl, hb⟩

theorem zeros_any (w : World) : Calls Try.prog 18 #[.string ⟨#[0]⟩, .int .i64 1024] w fun e w' => e = .returned (.string zeros) ∧ Below w.heap.size w w' := by
  have h := lib_repeat ⟨#[0]⟩ 1024 w (by omega) (by show 1 * 1024 ≤ _; omega)
  have e : Lib.repeatL (ByteArray.mk #[0]).data.toList 1024 = List.replicate 1024 0 := by
    show Lib.repeatL [0] 1024 = _
    have h1 : ([0] : List UInt8) = List.replicate 1 0 := rfl
    rw [h1, Lib.repeatL_replicate, Nat.mul_one]
  rw [e] at h
  exact h

set_option maxHeartbeats 400000 in
theorem whole_any {b : Nat} {pg : Nat → ByteArray} {ends : Bool} {left torn : Int} {w : World} (h : DiskIs b pg ends left torn w) (k : Nat) (hk : k < 4001) :
    Calls Try.prog 93 #[.pointer (some ⟨b, 0, none⟩), .int .i64 k] w fun e w' => e = .returned (.string (pg k)) ∧ Below w.heap.size w w' := by
  have h1 : (k : Int) < 4001 := by omega
  rcases h.page k hk with ⟨c, hs⟩ | ⟨c, hz⟩
  · clear h
    have hne := not_empty hs
    generalize pg k = s at *
    go_enter Try.func93, Try.ntmps93
    go_wp2
    go_ret
    exact ⟨rfl, Below.refl _ _⟩
  · rw [hz]
    clear h
    go_enter Try.func93, Try.ntmps93
    go_wp2_with fail
    refine (zeros_any w).mono ?_
    rintro _ w1 ⟨rfl, hb⟩
    go_wp2
    go_ret
    exact ⟨rfl, hb⟩
end Go.Proofs.Ytjcddeoihjppaaa
namespace Go.Proofs.Ytjcddeoihjppaaa
open Go.RowKit

/-- the pages, with one laid anew -/
def upd (pg : Nat → ByteArray) (k : Nat) (s : ByteArray) : Nat → ByteArray := fun i => if i = k then s else pg i

section
variable {b : Nat} {pg : Nat → ByteArray} {ends : Bool} {left torn : Int} {w : World}

theorem grownBy_set (W : World) (b o : Nat) (v : Value) : W.grownBy (W.setCell ⟨b, o, none⟩ v) (some b) :=
  ⟨rfl, rfl, rfl, by simp [World.setCell], fun k _ hk => Below.heap_setCell W ⟨b, o, none⟩ v k (fun e => hk (by rw [e]))⟩

theorem DiskIs.setPage (h : DiskIs b pg ends left torn w) (k : Nat) (hk : k < 4001) (s : ByteArray) (hs : s.size = 1024) : DiskIs b (upd pg k s) ends left torn (w.setCell ⟨b, k, none⟩ (.string s)) := by
  have o : ∀ i, k ≠ i → (w.setCell ⟨b, k, none⟩ (.string s)).cell? ⟨b, i, none⟩ = w.cell? ⟨b, i, none⟩ := fun i hi => World.cell?_setCell_other _ _ _ _ (fun e => hi (by cases e; rfl))
  refine ⟨fun i hi => ?_, ?_, ?_, ?_, fun i => ?_⟩
  · by_cases e : i = k
    · subst e
      have hc : ∃ u, w.cell? ⟨b, i, none⟩ = some u := by
        rcases h.page i hk with ⟨c, _⟩ | ⟨c, _⟩ <;> exact ⟨_, c⟩
      obtain ⟨u, hu⟩ := hc
      exact .inl ⟨by rw [World.cell?_setCell_same _ _ _ hu]; simp [upd], by simp [upd, hs]⟩
    · rw [o i (Ne.symm e)]
      simpa [upd, e] using h.page i hi
  · rw [o 4001 (by omega)]; exact h.ends
  · rw [o 4002 (by omega)]; exact h.left
  · rw [o 4003 (by omega)]; exact h.torn
  · rw [World.frozen?_setCell]; exact h.free i

theorem DiskIs.setEnds (h : DiskIs b pg ends left torn w) (x : Bool) : DiskIs b pg x left torn (w.setCell ⟨b, 4001, none⟩ (.bool x)) := by
  have o : ∀ i, 4001 ≠ i → (w.setCell ⟨b, 4001, none⟩ (.bool x)).cell? ⟨b, i, none⟩ = w.cell? ⟨b, i, none⟩ := fun i hi => World.cell?_setCell_other _ _ _ _ (fun e => hi (by cases e; rfl))
  refine ⟨fun i hi => ?_, World.cell?_setCell_same _ _ _ h.ends, ?_, ?_, fun i => ?_⟩
  · rw [o i (by omega)]; exact h.page i hi
  · rw [o 4002 (by omega)]; exact h.left
  · rw [o 4003 (by omega)]; exact h.torn
  · rw [World.frozen?_setCell]; exact h.free i

theorem DiskIs.setLeft (h : DiskIs b pg ends left torn w) (x : Int) : DiskIs b pg ends x torn (w.setCell ⟨b, 4002, none⟩ (.int .i64 x)) := by
  have o : ∀ i, 4002 ≠ i → (w.setCell ⟨b, 4002, none⟩ (.int .i64 x)).cell? ⟨b, i, none⟩ = w.cell? ⟨b, i, none⟩ := fun i hi => World.cell?_setCell_other _ _ _ _ (fun e => hi (by cases e; rfl))
  refine ⟨fun i hi => ?_, ?_, World.cell?_setCell_same _ _ _ h.left, ?_, fun i => ?_⟩
  · rw [o i (by omega)]; exact h.page i hi
  · rw [o 4001 (by omega)]; exact h.ends
  · rw [o 4003 (by omega)]; exact h.torn
  · rw [World.frozen?_setCell]; exact h.free i

theorem DiskIs.setTorn (h : DiskIs b pg ends left torn w) (x : Int) : DiskIs b pg ends left x (w.setCell ⟨b, 4003, none⟩ (.int .i64 x)) := by
  have o : ∀ i, 4003 ≠ i → (w.setCell ⟨b, 4003, none⟩ (.int .i64 x)).cell? ⟨b, i, none⟩ = w.cell? ⟨b, i, none⟩ := fun i hi => World.cell?_setCell_other _ _ _ _ (fun e => hi (by cases e; rfl))
  refine ⟨fun i hi => ?_, ?_, ?_, World.cell?_setCell_same _ _ _ h.torn, fun i => ?_⟩
  · rw [o i (by omega)]; exact h.page i hi
  · rw [o 4001 (by omega)]; exact h.ends
  · rw [o 4002 (by omega)]; exact h.left
  · rw [World.frozen?_setCell]; exact h.free i

/-- torn bytes, cut to 0 to 1024 -/
def clip (t : Int) : Int := min (max t 0) 1024

theorem read_yes (h : DiskIs b pg ends left torn w) (k : Nat) (hk : k < 4001) :
    Calls Try.prog 57 #[.pointer (some ⟨b, 0, none⟩), .int .i64 k] w fun e w' => e = .returned (.tuple #[.string (pg k), .nilIface]) ∧ Below w.heap.size w w' := by
  have hs : (pg k).size ≤ 1024 := Nat.le_of_eq (h.size k hk)
  have HD : Hid (DiskIs b pg ends left torn w) := h
  clear h
  go_enter Try.func57, Try.ntmps57
  go_wp2_with fail
  refine (there_yes k w hk).mono ?_
  rintro _ _ ⟨rfl, rfl⟩
  go_wp2_with fail
  refine (whole_any HD.out k hk).mono ?_
  rintro _ w1 ⟨rfl, hb1⟩
  go_wp2_with fail
  refine (clone_any _ w1 hs).mono ?_
  rintro _ w2 ⟨rfl, hb2⟩
  go_wp2
  go_ret2
  exact ⟨rfl, hb1.trans (hb2.mono hb1.size)⟩

theorem read_no (b : Nat) (k : Int) (w : World) (hk : k < 0 ∨ 4001 ≤ k) :
    Calls Try.prog 57 #[.pointer (some ⟨b, 0, none⟩), .int .i64 k] w fun e w' => e = .returned (.tuple #[.string ⟨#[]⟩, .iface 80 (.int .i64 2)]) ∧ w' = w := by
  go_enter Try.func57, Try.ntmps57
  go_wp2_with fail
  refine (there_no k w hk).mono ?_
  rintro _ _ ⟨rfl, rfl⟩
  go_wp2
  go_ret2
  exact ⟨rfl, rfl⟩

/-- what copy lays of a text -/
theorem run_copy_str {P : Program} (w : World) (dT sT ty elem : TypeId) (g o dLen dCap : Nat) (s : ByteArray)
    (hu : P.underlying dT = some (.slice elem)) (hs : (P.info? elem).map (·.size) = some 1) (hle : s.size ≤ dLen) (hc : ∀ j, j < s.size → (w.cell? ⟨g, o + j, none⟩).isSome = true) (hf : ∀ j, j < s.size → w.frozen? ⟨g, o + j, none⟩ = false) :
    (Builtin.copy_ #[dT, sT] ty #[.slice (some ⟨g, o, none⟩) dLen dCap, .string s]).run P w = .ok (goInt s.size) (w.setCells g o (Lib.byteCells s.data.toList)) := by
  have hlen : (Lib.byteCells s.data.toList).length = s.size := by rw [Lib.byteCells_length, ← Lib.size_eq]
  have hst := run_storeCells_cells (P := P) g o (Lib.byteCells s.data.toList) 0 w (by rw [hlen]; simpa using hc) (by rw [hlen]; simpa using hf) (Lib.byteCells_one _)
  have hmin : Nat.min s.size dLen = s.size := Nat.min_eq_left hle
  have htk : List.take s.size (List.map (fun b : UInt8 => Value.int IntKind.u8 (b.toNat : Int)) s.data.toList) = Lib.byteCells s.data.toList := by
    rw [List.take_of_length_le (by rw [List.length_map, ← Lib.size_eq]; exact Nat.le_refl _)]
    rfl
  simp only [Nat.add_zero] at hst
  cases hq : P.info? elem with
  | none => simp [hq] at hs
  | some i =>
    simp [Builtin.copy_, run_underlying hu, Builtin.lenOf, Builtin.firstCells, sizeOf, typeInfo, hq, hmin]
    rw [htk, hst]
    simp [Result.andThen]

/-- bytes of a text in a new row -/
theorem bytes_of (s : ByteArray) (w : World) : ∃ cap w', (convert 9 54 (.string s)).run Try.prog w = .ok (.slice (some ⟨w.heap.size, 0, none⟩) s.size cap) w' ∧ Below w.heap.size w w' ∧ w'.heap.size = w.heap.size + 1 ∧
    (∀ j (hj : j < s.data.toList.length), w'.cell? ⟨w.heap.size, j, none⟩ = some (.int .u8 (s.data.toList[j].toNat : Int))) ∧ (∀ j, j < s.size → w'.frozen? ⟨w.heap.size, j, none⟩ = false) := by
  have h := run_bytes_of_string (P := Try.prog) w 9 54 5 s Try.underlying9 Try.underlying54 Try.underlying5
  refine ⟨_, _, h, (Below.refl _ w).drew.alloc (Nat.le_refl _) _, ?_, ?_, ?_⟩
  · simp
  · intro j hj
    have hn : (w.drew.alloc (.cells (bytesRow s (grownCap w s.size 0 5)) 5 ((bytesRow s (grownCap w s.size 0 5)).size, (bytesRow s (grownCap w s.size 0 5)).size + 1))).heap[w.heap.size]? = _ := heap_alloc_new w.drew _
    have hj' : j < s.data.size := by simpa using hj
    simp only [World.cell?, hn]
    have hj2 : j < s.size := hj'
    simp [bytesRow, Array.getElem?_append, hj2]
  · intro j hj
    have hn : (w.drew.alloc (.cells (bytesRow s (grownCap w s.size 0 5)) 5 ((bytesRow s (grownCap w s.size 0 5)).size, (bytesRow s (grownCap w s.size 0 5)).size + 1))).heap[w.heap.size]? = _ := heap_alloc_new w.drew _
    have hj' : j < (bytesRow s (grownCap w s.size 0 5)).size := by
      have e : s.data.size = s.size := rfl
      simp [bytesRow]; omega
    simp only [World.frozen?, hn]
    simp
    omega

/-- a page of which torn bytes were written -/
def tornPage (s old : ByteArray) (t : Nat) : ByteArray := ⟨(s.data.toList.take t ++ old.data.toList.drop t).toArray⟩


theorem torn_size (s old : ByteArray) (t : Nat) (hs : s.size = 1024) (ho : old.size = 1024) (ht : t ≤ 1024) : (tornPage s old t).size = 1024 := by
  have e1 : s.data.toList.length = 1024 := by simpa using hs
  have e2 : old.data.toList.length = 1024 := by simpa using ho
  show (s.data.toList.take t ++ old.data.toList.drop t).toArray.size = 1024
  rw [List.size_toArray, List.length_append, List.length_take, List.length_drop, e1, e2]
  omega

/-- copy, and the text that comes of it -/
theorem torn_of (s old : ByteArray) (t B cap : Nat) (w : World) (hs : s.size = 1024) (ho : old.size = 1024) (ht : t ≤ 1024)
    (hc : ∀ j (hj : j < old.data.toList.length), w.cell? ⟨B, j, none⟩ = some (.int .u8 (old.data.toList[j].toNat : Int))) (hf : ∀ j, j < old.size → w.frozen? ⟨B, j, none⟩ = false) :
    ∃ w', (Builtin.copy_ #[54, 9] 3 #[.slice (some ⟨B, 0, none⟩) 1024 cap, .string (s.extract 0 t)]).run Try.prog w = .ok (goInt t) w' ∧ Below B w w' ∧
      (convert 54 9 (.slice (some ⟨B, 0, none⟩) 1024 cap)).run Try.prog w'.drew = .ok (.string (tornPage s old t)) w'.drew := by
  have e1 : s.data.toList.length = 1024 := by simpa using hs
  have e2 : old.data.toList.length = 1024 := by simpa using ho
  have ex : (s.extract 0 t).data.toList = s.data.toList.take t := by simp [ByteArray.data_extract]
  have exs : (s.extract 0 t).size = t := by
    have : (s.extract 0 t).size = (s.extract 0 t).data.toList.length := by simp
    rw [this, ex, List.length_take, e1]; omega
  have h := run_copy_str (P := Try.prog) w 54 9 3 5 B 0 1024 cap (s.extract 0 t) Try.underlying54 (by kernel_rfl) (by omega)
    (fun j hj => by rw [Nat.zero_add, hc j (by omega)]; rfl) (fun j hj => by rw [Nat.zero_add]; exact hf j (by omega))
  rw [exs, ex] at h
  have hlen : (Lib.byteCells (s.data.toList.take t)).length = t := by rw [Lib.byteCells_length, List.length_take, e1]; omega
  refine ⟨_, h, Below.setCells' (Nat.le_refl _) _ _ _ (Below.refl _ _), ?_⟩
  have hl : (s.data.toList.take t ++ old.data.toList.drop t).length = 1024 := by rw [List.length_append, List.length_take, List.length_drop, e1, e2]; omega
  have hb := run_convert_bytes_back (P := Try.prog) (w.setCells B 0 (Lib.byteCells (s.data.toList.take t))).drew 54 9 5 ⟨B, 0, none⟩ cap (s.data.toList.take t ++ old.data.toList.drop t) Try.underlying54 Try.underlying5 Try.underlying9 (fun j hj => by
    rw [Addr.add_lit, Nat.zero_add]
    show (w.setCells B 0 (Lib.byteCells (s.data.toList.take t))).cell? ⟨B, j, none⟩ = _
    by_cases hjt : j < t
    · have := World.cell?_setCells_in B (Lib.byteCells (s.data.toList.take t)) 0 w (fun i hi => by rw [Nat.zero_add, hc i (by omega)]; rfl) j (by omega)
      rw [Nat.zero_add] at this
      rw [this, List.getElem_append_left (by rw [List.length_take, e1]; omega)]
      simp [Lib.byteCells]
    · rw [World.cell?_setCells_out B _ 0 w ⟨B, j, none⟩ (fun _ _ => .inr (by rw [hlen]; show 0 + t ≤ j; omega)), hc j (by omega)]
      have hx : (s.data.toList.take t ++ old.data.toList.drop t)[j]'hj = old.data.toList[j]'(by omega) := by
        apply Option.some.inj
        rw [← List.getElem?_eq_getElem, ← List.getElem?_eq_getElem, List.getElem?_append_right (by rw [List.length_take, e1]; omega), List.getElem?_drop, List.length_take, e1, show t + (j - min t 1024) = j by omega]
      rw [hx])
  rw [hl] at hb
  exact hb

set_option maxRecDepth 100000 in
set_option maxHeartbeats 400000 in
theorem tear_any (t : Nat) (h : DiskIs b pg ends left t w) (ht : t ≤ 1024) (k : Nat) (hk : k < 4001) (s : ByteArray) (hs : s.size = 1024) :
    Calls Try.prog 101 #[.pointer (some ⟨b, 0, none⟩), .int .i64 k, .string s] w fun e w' => e = .returned (.tuple #[]) ∧ DiskIs b (upd pg k (tornPage s (pg k) t)) ends left 0 w' ∧ w.grownBy w' (some b) := by
  have HD : Hid (DiskIs b pg ends left t w) := h
  have hp := h.size k hk
  have hk' : (k : Int) < 4001 := by omega
  clear h
  go_enter Try.func101, Try.ntmps101
  go_wp2_with fail
  refine (whole_any HD.out k hk).mono ?_
  rintro _ w1 ⟨rfl, hb1⟩
  obtain ⟨cap, w2, hcv, hb2, hz2, hc2, hf2⟩ := bytes_of (pg k) w1
  rw [hp] at hcv
  obtain ⟨w3, hcp, hb3, hbk⟩ := torn_of s (pg k) t w1.heap.size cap w2 hs hp ht hc2 hf2
  have D2 := (HD.out.below hb1).below hb2
  have HD3 : Hid _ := (HD.out.below hb1).below (hb2.trans hb3)
  have q1 := D2.torn
  have HP : Hid ((tornPage s (pg k) t).size = 1024) := torn_size s (pg k) t hs hp ht
  have hb : Below w.heap.size w w3 := hb1.trans ((hb2.trans hb3).mono hb1.size)
  have q2 := HD3.out.torn
  have f1 := HD3.out.free k
  have f2 := HD3.out.free 4003
  have q3 : ∃ u, w3.cell? ⟨b, k, none⟩ = some u := by rcases HD3.out.page k hk with ⟨c, _⟩ | ⟨c, _⟩ <;> exact ⟨_, c⟩
  obtain ⟨u, q3⟩ := q3
  have q4 : (w3.setCell ⟨b, k, none⟩ (.string (tornPage s (pg k) t))).cell? ⟨b, 4003, none⟩ = some (.int .i64 t) := by
    rw [World.cell?_setCell_other _ _ _ _ (fun e => by cases e; omega)]; exact q2
  clear D2 HD hb1 hb2 hb3 hc2 hf2
  obtain ⟨tp, htp⟩ : ∃ tp, tornPage s (pg k) t = tp := ⟨_, rfl⟩
  rw [htp] at hbk HP q4
  have HT : Hid _ := htp
  clear htp
  go_wp2_with fail
  go_region
  go_wp2
  go_end0
  refine ⟨rfl, ?_, ?_⟩
  · rw [HT.out]
    exact ((HD3.out.setPage k hk _ HP.out).setTorn 0).drew
  · have hg := ((grown_of_below hb (some b)).trans (grownBy_set _ b k (.string tp))).trans (grownBy_set _ b 4003 (.int .i64 0))
    exact ⟨hg.os, hg.tape, hg.output, hg.size, hg.block⟩
end
end Go.Proofs.Ytjcddeoihjppaaa
namespace Go.Proofs.Ytjcddeoihjppaaa
open Go.RowKit
section
variable {b : Nat} {pg : Nat → ByteArray} {ends : Bool} {left torn : Int} {w : World}

theorem grown_of_drew {w w' : World} (h : Below w.drew.heap.size w.drew w') (row : Option Nat) : w.grownBy w' row := ⟨h.os, h.tape, h.output, h.size, fun k hk _ => h.block k hk⟩

theorem write_range (b : Nat) (k : Int) (s : ByteArray) (w : World) (hk : k < 0 ∨ 4001 ≤ k) :
    Calls Try.prog 62 #[.pointer (some ⟨b, 0, none⟩), .int .i64 k, .string s] w fun e w' => e = .returned (.iface 80 (.int .i64 2)) ∧ w' = w := by
  go_enter Try.func62, Try.ntmps62
  go_wp2_with fail
  refine (there_no k w hk).mono ?_
  rintro _ _ ⟨rfl, rfl⟩
  go_wp2
  go_ret
  exact ⟨rfl, rfl⟩

theorem write_arg (b k : Nat) (s : ByteArray) (w : World) (hk : k < 4001) (hs : s.size = 1) :
    Calls Try.prog 62 #[.pointer (some ⟨b, 0, none⟩), .int .i64 k, .string s] w fun e w' => e = .returned (.iface 80 (.int .i64 1)) ∧ w' = w := by
  go_enter Try.func62, Try.ntmps62
  go_wp2_with fail
  refine (there_yes k w hk).mono ?_
  rintro _ _ ⟨rfl, rfl⟩
  go_wp2
  go_ret
  exact ⟨rfl, rfl⟩

set_option maxRecDepth 100000 in
set_option maxHeartbeats 400000 in
theorem write_off (t : Nat) (h : DiskIs b pg true 0 t w) (ht : t ≤ 1024) (k : Nat) (hk : k < 4001) (s : ByteArray) (hs : s.size = 1024) :
    Calls Try.prog 62 #[.pointer (some ⟨b, 0, none⟩), .int .i64 k, .string s] w fun e w' => e = .returned (.iface 80 (.int .i64 14)) ∧ DiskIs b (upd pg k (tornPage s (pg k) t)) true 0 0 w' ∧ w.grownBy w' (some b) := by
  have HD : Hid (DiskIs b pg true 0 t w) := h
  clear h
  go_enter Try.func62, Try.ntmps62
  go_wp2_with fail
  refine (there_yes k w hk).mono ?_
  rintro _ _ ⟨rfl, rfl⟩
  go_wp2_with fail
  refine (on_any HD.out).mono ?_
  rintro _ _ ⟨rfl, rfl⟩
  go_wp2_with fail
  refine (tear_any t HD.out ht k hk s hs).mono ?_
  rintro _ w1 ⟨rfl, hd1, hg1⟩
  have HD1 : Hid _ := hd1
  have HG1 : Hid _ := hg1
  clear hd1 hg1
  go_wp2
  go_ret
  exact ⟨rfl, HD1.out, HG1.out⟩

set_option maxRecDepth 100000 in
set_option maxHeartbeats 400000 in
theorem write_still (h : DiskIs b pg false left torn w) (k : Nat) (hk : k < 4001) (s : ByteArray) (hs : s.size = 1024) :
    Calls Try.prog 62 #[.pointer (some ⟨b, 0, none⟩), .int .i64 k, .string s] w fun e w' => e = .returned .nilIface ∧ DiskIs b (upd pg k s) false left torn w' ∧ w.grownBy w' (some b) := by
  have hk' : (k : Int) < 4001 := by omega
  have HD : Hid (DiskIs b pg false left torn w) := h
  clear h
  go_enter Try.func62, Try.ntmps62
  go_wp2_with fail
  refine (there_yes k w hk).mono ?_
  rintro _ _ ⟨rfl, rfl⟩
  go_wp2_with fail
  refine (on_any HD.out).mono ?_
  rintro _ _ ⟨rfl, rfl⟩
  go_wp2_with fail
  go_region_with (go_at_call 55; refine (clone_any s _ (by omega)).mono ?_; rintro _ w1 ⟨rfl, hb1⟩; have hd1 := (HD.out.drew).below hb1; obtain ⟨u, q3⟩ : ∃ u, w1.cell? ⟨b, k, none⟩ = some u := (by rcases hd1.page k hk with ⟨c, _⟩ | ⟨c, _⟩ <;> exact ⟨_, c⟩); have f1 := hd1.free k; have q4 := (hd1.setPage k hk s hs).ends; have HD1 : Hid _ := hd1; clear hd1)
  go_wp2
  go_ret
  refine ⟨rfl, HD1.out.setPage k hk s hs, ?_⟩
  exact (grown_of_drew hb1 (some b)).trans (grownBy_set _ b k _)

set_option maxRecDepth 100000 in
set_option maxHeartbeats 400000 in
theorem write_less (h : DiskIs b pg true left torn w) (h0 : 0 < left) (hl : left ≤ 9223372036854775807) (k : Nat) (hk : k < 4001) (s : ByteArray) (hs : s.size = 1024) :
    Calls Try.prog 62 #[.pointer (some ⟨b, 0, none⟩), .int .i64 k, .string s] w fun e w' => e = .returned .nilIface ∧ DiskIs b (upd pg k s) true (left - 1) torn w' ∧ w.grownBy w' (some b) := by
  have hk' : (k : Int) < 4001 := by omega
  have HD : Hid (DiskIs b pg true left torn w) := h
  clear h
  go_enter Try.func62, Try.ntmps62
  go_wp2_with fail
  refine (there_yes k w hk).mono ?_
  rintro _ _ ⟨rfl, rfl⟩
  go_wp2_with fail
  refine (on_any HD.out).mono ?_
  rintro _ _ ⟨rfl, rfl⟩
  go_wp2_with fail
  go_region_with (go_at_call 55; refine (clone_any s _ (by omega)).mono ?_; rintro _ w1 ⟨rfl, hb1⟩; have hd1 := (HD.out.drew).below hb1; obtain ⟨u, q3⟩ : ∃ u, w1.cell? ⟨b, k, none⟩ = some u := (by rcases hd1.page k hk with ⟨c, _⟩ | ⟨c, _⟩ <;> exact ⟨_, c⟩); have f1 := hd1.free k; have q4 := (hd1.setPage k hk s hs).ends; have q5 := (hd1.setPage k hk s hs).left; have f5 := (hd1.setPage k hk s hs).free 4002; have HD1 : Hid _ := hd1; clear hd1)
  go_wp2
  go_ret
  refine ⟨rfl, (HD1.out.setPage k hk s hs).setLeft (left - 1), ?_⟩
  exact ((grown_of_drew hb1 (some b)).trans (grownBy_set _ b k _)).trans (grownBy_set _ b 4002 _)
end
end Go.Proofs.Ytjcddeoihjppaaa
