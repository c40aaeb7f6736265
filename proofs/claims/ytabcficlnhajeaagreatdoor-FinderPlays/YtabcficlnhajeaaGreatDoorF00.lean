/- Texts of the proof of FinderPlays: Base, Pg0, Flags, Head, Rhd. -/
import Derived.Test.YtabcficlnhajeaaGreatDoorProg
import Derived.WalkKit
import Derived.WalkSpells
import Derived.WalkLawsBesides
import Derived.Deep.RegionHeld3
import Derived.Maps.OwnSet
import Derived.Deep.MidRow
import Derived.Maps.Ext
import Derived.Maps.OwnOps
import Derived.Maps.StringElems
import Derived.BigQuiet
import Derived.Laws.BitsLemmas
import Derived.Deep.QuietTactic
namespace Go.Proofs.YtabcficlnhajeaaGreatDoor
open Go.RowKit

theorem ret_int {k : IntKind} {a b : Int} (h : a = b) : Ending.returned (.int k a) = .returned (.int k b) := by rw [h]
theorem ret_bool {a b : Bool} (h : a = b) : Ending.returned (.bool a) = .returned (.bool b) := by rw [h]
theorem Tryz.own : ownKnob Tryz.prog.godebug = none := by kernel_rfl
theorem Tryz.laidOut : laidOutB Tryz.prog = true := by kernel_rfl
theorem cells3 : Tryz.prog.cellsOf 3 = 1 := by kernel_rfl
theorem cells9 : Tryz.prog.cellsOf 9 = 1 := by kernel_rfl
theorem info5 : (Tryz.prog.info? 5).map (fun i => (i.zero, i.size, i.bytes)) = some (some (.int .u8 0), 1, 1) := by kernel_rfl
theorem zero9 (w : World) : (zeroValue 9).run Tryz.prog w = .ok (.string ⟨#[]⟩) w := by kernel_rfl
theorem Below.setCells' {B b : Nat} {a : World} (hB : B ≤ b) : ∀ (vs : List Value) (o : Nat) (w : World), Below B a w → Below B a (w.setCells b o vs)
  | [], _, _, h => h
  | v :: r, o, _, h => Below.setCells' hB r (o + 1) _ (h.setCell (p := ⟨b, o, none⟩) hB v)
end Go.Proofs.YtabcficlnhajeaaGreatDoor
namespace Go.Proofs.YtabcficlnhajeaaGreatDoor
open Go.RowKit Go.Maps

/-- what a call leaves as it was: all but the blocks of S -/
structure Only (S : Nat → Prop) (w w' : World) : Prop where
  os : w'.os = w.os
  tape : w'.tape = w.tape
  output : w'.output = w.output
  size : w.heap.size ≤ w'.heap.size
  block : ∀ k, k < w.heap.size → ¬ S k → w'.heap[k]? = w.heap[k]?

theorem Only.refl (S : Nat → Prop) (w : World) : Only S w w := ⟨rfl, rfl, rfl, Nat.le_refl _, fun _ _ _ => rfl⟩
theorem Only.of_below {S : Nat → Prop} {w w' : World} (h : Below w.heap.size w w') : Only S w w' := ⟨h.os, h.tape, h.output, h.size, fun k hk _ => h.block k hk⟩
theorem Only.of_grown {S : Nat → Prop} {w w' : World} {b : Nat} (h : w.grownBy w' (some b)) (hb : S b) : Only S w w' :=
  ⟨h.os, h.tape, h.output, h.size, fun k hk hs => h.block k hk (fun e => hs (by cases e; exact hb))⟩
theorem Only.trans {S T : Nat → Prop} {w w' w'' : World} (h : Only S w w') (k : Only T w' w'') (hT : ∀ i, T i → S i ∨ w.heap.size ≤ i) : Only S w w'' :=
  ⟨k.os.trans h.os, k.tape.trans h.tape, k.output.trans h.output, Nat.le_trans h.size k.size, fun i hi hs => (k.block i (Nat.lt_of_lt_of_le hi h.size) (fun ht => by
    rcases hT i ht with h1 | h1
    · exact hs h1
    · omega)).trans (h.block i hi hs)⟩
theorem Only.mono {S T : Nat → Prop} {w w' : World} (h : Only S w w') (hT : ∀ i, S i → T i) : Only T w w' :=
  ⟨h.os, h.tape, h.output, h.size, fun i hi hs => h.block i hi (fun k => hs (hT i k))⟩
theorem Only.drew {S : Nat → Prop} {w w' : World} (h : Only S w w') : Only S w w'.drew := ⟨h.os, h.tape, h.output, h.size, h.block⟩
theorem Only.cell {S : Nat → Prop} {w w' : World} (h : Only S w w') {b : Nat} (hb : b < w.heap.size) (hs : ¬ S b) (o : Nat) : w'.cell? ⟨b, o, none⟩ = w.cell? ⟨b, o, none⟩ := World.cell?_of_block (h.block b hb hs)
theorem Only.below {S : Nat → Prop} {B : Nat} {a w w' : World} (h : Below B a w) (k : Only S w w') (hB : B ≤ w.heap.size) (hS : ∀ i, S i → B ≤ i) : Below B a w' :=
  ⟨k.os.trans h.os, k.tape.trans h.tape, k.output.trans h.output, Nat.le_trans h.size k.size, fun i hi => (k.block i (by omega) (fun hs => by have := hS i hs; omega)).trans (h.block i hi)⟩

/-- bits, in cells -/
def flags (f : Nat → Bool) : List Value := (List.range 2000).map fun k => .bool (f k)
/-- roots, in cells -/
def rootsL (rp rn : Nat → Int) : List Value := (List.range 16).map fun k => .int .i64 (if k % 2 = 0 then rp (k / 2) else rn (k / 2))
/-- a state, in cells -/
def stateL (used : Nat → Bool) (rp rn : Nat → Int) (m : Nat) : List Value := flags used ++ (rootsL rp rn ++ [.map (some m)])

theorem flags_len (f : Nat → Bool) : (flags f).length = 2000 := by simp [flags]
theorem rootsL_len (rp rn : Nat → Int) : (rootsL rp rn).length = 16 := by simp [rootsL]
theorem stateL_len (used : Nat → Bool) (rp rn : Nat → Int) (m : Nat) : (stateL used rp rn m).length = 2017 := by
  rw [stateL, List.length_append, flags_len, List.length_append, rootsL_len]; rfl
theorem flags_get (f : Nat → Bool) {k : Nat} (hk : k < 2000) : (flags f)[k]? = some (.bool (f k)) := by
  simp [flags, List.getElem?_map, List.getElem?_range hk]
theorem rootsL_get (rp rn : Nat → Int) {k : Nat} (hk : k < 16) : (rootsL rp rn)[k]? = some (.int .i64 (if k % 2 = 0 then rp (k / 2) else rn (k / 2))) := by
  simp [rootsL, List.getElem?_map, List.getElem?_range hk]
theorem flags_congr {f g : Nat → Bool} (h : ∀ k, k < 2000 → f k = g k) : flags f = flags g :=
  List.map_congr_left fun k hk => by rw [h k (List.mem_range.1 hk)]
theorem rootsL_congr {a b c d : Nat → Int} (h1 : ∀ i, i < 8 → a i = c i) (h2 : ∀ i, i < 8 → b i = d i) : rootsL a b = rootsL c d :=
  List.map_congr_left fun k hk => by
    have := List.mem_range.1 hk
    rw [h1 _ (by omega), h2 _ (by omega)]
theorem stateL_used (used : Nat → Bool) (rp rn : Nat → Int) (m : Nat) {k : Nat} (hk : k < 2000) : (stateL used rp rn m)[k]? = some (.bool (used k)) := by
  rw [stateL, List.getElem?_append_left (by rw [flags_len]; exact hk), flags_get _ hk]
theorem stateL_root (used : Nat → Bool) (rp rn : Nat → Int) (m : Nat) {k : Nat} (hk : k < 16) : (stateL used rp rn m)[2000 + k]? = some (.int .i64 (if k % 2 = 0 then rp (k / 2) else rn (k / 2))) := by
  rw [stateL, List.getElem?_append_right (by rw [flags_len]; omega), flags_len, Nat.add_sub_cancel_left, List.getElem?_append_left (by rw [rootsL_len]; exact hk), rootsL_get _ _ hk]
theorem stateL_map (used : Nat → Bool) (rp rn : Nat → Int) (m : Nat) : (stateL used rp rn m)[2016]? = some (.map (some m)) := by
  rw [stateL, List.getElem?_append_right (by rw [flags_len]; omega), flags_len, List.getElem?_append_right (by rw [rootsL_len]; omega), rootsL_len]; rfl
theorem flags_one (f : Nat → Bool) : ∀ v ∈ flags f, v.oneCell' = true := fun v hv => by
  obtain ⟨k, _, rfl⟩ := List.mem_map.1 hv; rfl
theorem rootsL_one (rp rn : Nat → Int) : ∀ v ∈ rootsL rp rn, v.oneCell' = true := fun v hv => by
  obtain ⟨k, _, rfl⟩ := List.mem_map.1 hv; rfl
theorem stateL_one (used : Nat → Bool) (rp rn : Nat → Int) (m : Nat) : ∀ v ∈ stateL used rp rn m, v.oneCell' = true := fun v hv => by
  rcases List.mem_append.1 hv with h | h
  · exact flags_one _ v h
  · rcases List.mem_append.1 h with h | h
    · exact rootsL_one _ _ v h
    · rw [List.mem_singleton.1 h]; rfl

/-- a pager -/
structure Pg where
  upper : Nat → Bool
  used : Nat → Bool
  rp : Nat → Int
  rn : Nat → Int
  chg : Nat → Option ByteArray
  commits : Int
  down : Bool

/-- its cells -/
def cellOf (p : Pg) (bd bm : Nat) (k : Nat) : Value :=
  if k = 0 then .pointer (some ⟨bd, 0, none⟩) else if k < 2001 then .bool (p.upper (k - 1)) else if k < 4001 then .bool (p.used (k - 2001))
  else if k < 4017 then .int .i64 (if (k - 4001) % 2 = 0 then p.rp ((k - 4001) / 2) else p.rn ((k - 4001) / 2))
  else if k = 4017 then .map (some bm) else if k = 4018 then .int .i64 p.commits else .bool p.down

theorem cellOf_upper (p : Pg) (bd bm : Nat) {k : Nat} (hk : k < 2000) : cellOf p bd bm (1 + k) = .bool (p.upper k) := by
  unfold cellOf
  rw [if_neg (by omega), if_pos (by omega)]; simp [Nat.add_comm 1 k]
theorem cellOf_used (p : Pg) (bd bm : Nat) {k : Nat} (hk : k < 2000) : cellOf p bd bm (2001 + k) = .bool (p.used k) := by
  unfold cellOf
  rw [if_neg (by omega), if_neg (by omega), if_pos (by omega), show 2001 + k - 2001 = k by omega]
theorem cellOf_root (p : Pg) (bd bm : Nat) {k : Nat} (hk : k < 16) : cellOf p bd bm (4001 + k) = .int .i64 (if k % 2 = 0 then p.rp (k / 2) else p.rn (k / 2)) := by
  unfold cellOf
  rw [if_neg (by omega), if_neg (by omega), if_neg (by omega), if_pos (by omega), show 4001 + k - 4001 = k by omega]
theorem cellOf_map (p : Pg) (bd bm : Nat) : cellOf p bd bm 4017 = .map (some bm) := rfl
theorem cellOf_commits (p : Pg) (bd bm : Nat) : cellOf p bd bm 4018 = .int .i64 p.commits := rfl
theorem cellOf_down (p : Pg) (bd bm : Nat) : cellOf p bd bm 4019 = .bool p.down := rfl

/-- block bp has these cells -/
structure Cells (bp bd bm : Nat) (p : Pg) (w : World) : Prop where
  cell : ∀ k, k < 4020 → w.cell? ⟨bp, k, none⟩ = some (cellOf p bd bm k)
  free : ∀ k, w.frozen? ⟨bp, k, none⟩ = false

section
variable {bp bd bm n : Nat} {p : Pg} {w w' : World}

theorem Cells.lt (h : Cells bp bd bm p w) : bp < w.heap.size := World.block_lt_of_cell? w _ (h.cell 0 (by omega))
theorem Cells.block (h : Cells bp bd bm p w) (hb : w'.heap[bp]? = w.heap[bp]?) : Cells bp bd bm p w' :=
  ⟨fun k hk => (World.cell?_of_block hb).trans (h.cell k hk), fun k => (World.frozen?_of_block (a := ⟨bp, k, none⟩) hb).trans (h.free k)⟩
theorem Cells.set (h : Cells bp bd bm p w) {p' : Pg} {bm' o : Nat} {v : Value} (ho : o < 4020) (hv : cellOf p' bd bm' o = v) (hk : ∀ k, k < 4020 → k ≠ o → cellOf p' bd bm' k = cellOf p bd bm k) : Cells bp bd bm' p' (w.setCell ⟨bp, o, none⟩ v) := by
  refine ⟨fun k hl => ?_, fun k => by rw [World.frozen?_setCell]; exact h.free k⟩
  by_cases e : k = o
  · subst e
    rw [World.cell?_setCell_same _ _ _ (h.cell k hl), hv]
  · rw [World.cell?_setCell_other _ _ _ _ (fun e' => e (by cases e'; rfl)), h.cell k hl, hk k hl e]
theorem Cells.setN (h : Cells bp bd bm p w) {p' : Pg} {bm' o : Nat} {vs : List Value} (ho : o + vs.length ≤ 4020) (hv : ∀ j, j < vs.length → vs[j]? = some (cellOf p' bd bm' (o + j))) (hk : ∀ k, k < 4020 → k < o ∨ o + vs.length ≤ k → cellOf p' bd bm' k = cellOf p bd bm k) : Cells bp bd bm' p' (w.setCells bp o vs) := by
  refine ⟨fun k hl => ?_, fun k => by rw [World.frozen?_setCells]; exact h.free k⟩
  by_cases e : k < o ∨ o + vs.length ≤ k
  · rw [World.cell?_setCells_out bp vs o w ⟨bp, k, none⟩ (fun _ _ => e), h.cell k hl, hk k hl e]
  · obtain ⟨j, rfl⟩ : ∃ j, k = o + j := ⟨k - o, by omega⟩
    have hj : j < vs.length := by omega
    rw [World.cell?_setCells_in bp vs o w (fun i hi => by rw [h.cell _ (by omega)]; rfl) j hj, ← hv j hj, List.getElem?_eq_getElem hj]
theorem Cells.there (h : Cells bp bd bm p w) (o n : Nat) (ho : o + n ≤ 4020) : w.there bp o n := fun j hj => ⟨by rw [h.cell _ (by omega)]; rfl, h.free _⟩
theorem Cells.range (h : Cells bp bd bm p w) (o : Nat) (vs : List Value) (ho : o + vs.length ≤ 4020) (hv : ∀ j, j < vs.length → vs[j]? = some (cellOf p bd bm (o + j))) : w.rangeAt bp o vs := fun j v hj => by
  have hl := (List.getElem?_eq_some_iff.1 hj).1
  rw [h.cell _ (by omega), ← hv j hl, hj]
theorem Cells.used (h : Cells bp bd bm p w) : w.rangeAt bp 2001 (flags p.used) :=
  h.range _ _ (by rw [flags_len]; omega) fun j hj => by rw [flags_len] at hj; rw [flags_get _ hj, cellOf_used _ _ _ hj]
theorem Cells.upper (h : Cells bp bd bm p w) : w.rangeAt bp 1 (flags p.upper) :=
  h.range _ _ (by rw [flags_len]; omega) fun j hj => by rw [flags_len] at hj; rw [flags_get _ hj, cellOf_upper _ _ _ hj]
theorem Cells.roots (h : Cells bp bd bm p w) : w.rangeAt bp 4001 (rootsL p.rp p.rn) :=
  h.range _ _ (by rw [rootsL_len]; omega) fun j hj => by rw [rootsL_len] at hj; rw [rootsL_get _ _ hj, cellOf_root _ _ _ hj]
theorem stateL_get (p : Pg) (bd bm : Nat) {j : Nat} (hj : j < 2017) : (stateL p.used p.rp p.rn bm)[j]? = some (cellOf p bd bm (2001 + j)) := by
  by_cases h1 : j < 2000
  · rw [stateL_used _ _ _ _ h1, cellOf_used _ _ _ h1]
  · by_cases h2 : j < 2016
    · obtain ⟨i, rfl⟩ : ∃ i, j = 2000 + i := ⟨j - 2000, by omega⟩
      rw [stateL_root _ _ _ _ (by omega), ← Nat.add_assoc, cellOf_root _ _ _ (by omega)]
    · obtain rfl : j = 2016 := by omega
      rw [stateL_map, cellOf_map]
theorem Cells.state (h : Cells bp bd bm p w) : w.rangeAt bp 2001 (stateL p.used p.rp p.rn bm) :=
  h.range _ _ (by rw [stateL_len]; omega) fun j hj => by rw [stateL_len] at hj; exact stateL_get p bd bm hj
end

/-- how an element of the map of changed pages reads -/
def sheetElem : Value → Option (DataW Unit × List MemPlace)
  | .agg cs => match cs.toList with
    | [.string s] => some (.lit (.string s.data.toList), [])
    | _ => none
  | _ => none
theorem sheetElem_mk (s : ByteArray) : sheetElem (.agg #[.string s]) = some (.lit (.string s.data.toList), []) := rfl
theorem sheetElem_inv {v : Value} {z : DataW Unit × List MemPlace} (h : sheetElem v = some z) : ∃ s : ByteArray, v = .agg #[.string s] ∧ z = (.lit (.string s.data.toList), []) := by
  unfold sheetElem at h
  split at h
  · rename_i cs
    split at h
    · rename_i s hs
      cases h
      refine ⟨s, ?_, rfl⟩
      have : cs = #[.string s] := by
        apply Array.toList_inj.1
        rw [hs]
      rw [this]
    · cases h
  · cases h

/-- a map has these pages -/
structure MapIs (D : DataW Unit) (f : Nat → Option ByteArray) : Prop where
  isMap : IsMap D
  key : ∀ l, Maps.has D l = true → ∃ k : Nat, l = .int .i64 k ∧ k < 2000
  has : ∀ k : Nat, k < 2000 → Maps.has D (.int .i64 k) = (f k).isSome
  elem : ∀ (k : Nat) (s : ByteArray), k < 2000 → f k = some s → ∀ z, D.atKey (.int .i64 k) z = .lit (.string s.data.toList)
  small : ∀ (k : Nat) (s : ByteArray), f k = some s → k < 2000 ∧ s.size = 1024

/-- with one page laid anew, or taken out -/
def put (f : Nat → Option ByteArray) (k : Nat) (s : Option ByteArray) : Nat → Option ByteArray := fun i => if i = k then s else f i

theorem wf_nat (k : Nat) (hk : k < 4001) : (Lit.int .i64 (k : Int)).wf = true := WalkArith.wf_i64 (by omega)
theorem key_ne {i k : Nat} (h : i ≠ k) : (Lit.int .i64 (i : Int)) ≠ .int .i64 k := fun e => h (by injection e with e1 e2; omega)
theorem isKey (k : Nat) : WideAt.IsKeyLit (Lit.int .i64 (k : Int)) := trivial
theorem keyed3 : Keyed Tryz.prog 3 := int_keyed Tryz.underlying3

theorem mapIs_empty : MapIs (.map []) (fun _ => none) :=
  ⟨isMap_empty, fun l h => by simp [Maps.has] at h, fun k _ => rfl, fun k s _ h => (by cases h), fun k s h => (by cases h)⟩
theorem MapIs.put {D : DataW Unit} {f : Nat → Option ByteArray} (h : MapIs D f) (k : Nat) (hk : k < 2000) (s : ByteArray) (hs : s.size = 1024) : MapIs (D.put (.int .i64 k) (.lit (.string s.data.toList))) (put f k (some s)) := by
  refine ⟨h.isMap.put _ _, fun l hl => ?_, fun i hi => ?_, fun i t hi ht z => ?_, fun i t ht => ?_⟩
  · by_cases e : l = .int .i64 k
    · exact ⟨k, e, hk⟩
    · rw [has_put_other e] at hl
      exact h.key l hl
  · by_cases e : i = k
    · subst e; rw [has_put_same h.isMap (isKey i)]; simp [Go.Proofs.YtabcficlnhajeaaGreatDoor.put]
    · rw [has_put_other (key_ne e), h.has i hi]; simp [Go.Proofs.YtabcficlnhajeaaGreatDoor.put, e]
  · by_cases e : i = k
    · subst e
      rw [atKey_put_same h.isMap (isKey i)]
      simp [Go.Proofs.YtabcficlnhajeaaGreatDoor.put] at ht
      rw [ht]
    · rw [atKey_put_other (key_ne e)]
      exact h.elem i t hi (by simpa [Go.Proofs.YtabcficlnhajeaaGreatDoor.put, e] using ht) z
  · by_cases e : i = k
    · subst e
      simp [Go.Proofs.YtabcficlnhajeaaGreatDoor.put] at ht
      rw [← ht]; exact ⟨hk, hs⟩
    · exact h.small i t (by simpa [Go.Proofs.YtabcficlnhajeaaGreatDoor.put, e] using ht)
theorem MapIs.del {D : DataW Unit} {f : Nat → Option ByteArray} (h : MapIs D f) (k : Nat) : MapIs (D.del (.int .i64 k)) (Go.Proofs.YtabcficlnhajeaaGreatDoor.put f k none) := by
  refine ⟨h.isMap.del _, fun l hl => ?_, fun i hi => ?_, fun i t hi ht z => ?_, fun i t ht => ?_⟩
  · by_cases e : l = .int .i64 k
    · rw [e, has_del_same] at hl; cases hl
    · rw [has_del_other e] at hl
      exact h.key l hl
  · by_cases e : i = k
    · subst e; rw [has_del_same]; simp [Go.Proofs.YtabcficlnhajeaaGreatDoor.put]
    · rw [has_del_other (key_ne e), h.has i hi]; simp [Go.Proofs.YtabcficlnhajeaaGreatDoor.put, e]
  · by_cases e : i = k
    · subst e
      simp [Go.Proofs.YtabcficlnhajeaaGreatDoor.put] at ht
    · rw [atKey_del_other (key_ne e)]
      exact h.elem i t hi (by simpa [Go.Proofs.YtabcficlnhajeaaGreatDoor.put, e] using ht) z
  · by_cases e : i = k
    · subst e
      simp [Go.Proofs.YtabcficlnhajeaaGreatDoor.put] at ht
    · exact h.small i t (by simpa [Go.Proofs.YtabcficlnhajeaaGreatDoor.put, e] using ht)

/-- block m is a map of changed pages -/
def Sheets (m n : Nat) (f : Nat → Option ByteArray) (w : World) : Prop := ∃ D : DataW Unit, w.ownsMap Tryz.prog 3 sheetElem m n D ∧ MapIs D f
theorem Sheets.lt {m n : Nat} {f : Nat → Option ByteArray} {w : World} (h : Sheets m n f w) : m < w.heap.size := by obtain ⟨D, hD, _⟩ := h; exact hD.lt
theorem Sheets.block {m n : Nat} {f : Nat → Option ByteArray} {w w' : World} (h : Sheets m n f w) (hb : w'.heap[m]? = w.heap[m]?) : Sheets m n f w' := by
  obtain ⟨D, ⟨es, clock, hm, F, hs, hD⟩, hM⟩ := h
  exact ⟨D, ⟨es, clock, hb.trans hm, F, hs, hD⟩, hM⟩
theorem Sheets.only {S : Nat → Prop} {m n : Nat} {f : Nat → Option ByteArray} {w w' : World} (h : Sheets m n f w) (ho : Only S w w') (hs : ¬ S m) : Sheets m n f w' := h.block (ho.block m h.lt hs)
theorem Sheets.mono {m n n' : Nat} {f : Nat → Option ByteArray} {w : World} (h : Sheets m n f w) (hn : n ≤ n') : Sheets m n' f w := by
  obtain ⟨D, hD, hM⟩ := h
  exact ⟨D, hD.mono hn, hM⟩
theorem Sheets.ne_cell {m n : Nat} {f : Nat → Option ByteArray} {w : World} (h : Sheets m n f w) {b o : Nat} {v : Value} (hc : w.cell? ⟨b, o, none⟩ = some v) : m ≠ b := by
  obtain ⟨D, ⟨es, clock, hm, _⟩, _⟩ := h
  intro e; subst e
  simp [World.cell?, hm] at hc

/-- a pager in memory: its block, its disk's, its map's -/
structure PagerIs (bp bd bm n : Nat) (p : Pg) (w : World) : Prop where
  cells : Cells bp bd bm p w
  own : Sheets bm n p.chg w

section
variable {bp bd bm n : Nat} {p : Pg} {w w' : World}
theorem PagerIs.ne (h : PagerIs bp bd bm n p w) : bm ≠ bp := h.own.ne_cell (h.cells.cell 0 (by omega))
theorem PagerIs.lt (h : PagerIs bp bd bm n p w) : bp < w.heap.size := h.cells.lt
theorem PagerIs.mlt (h : PagerIs bp bd bm n p w) : bm < w.heap.size := h.own.lt
theorem PagerIs.only {S : Nat → Prop} (h : PagerIs bp bd bm n p w) (ho : Only S w w') (h1 : ¬ S bp) (h2 : ¬ S bm) : PagerIs bp bd bm n p w' := ⟨h.cells.block (ho.block bp h.lt h1), h.own.only ho h2⟩
theorem PagerIs.below (h : PagerIs bp bd bm n p w) (hb : Below w.heap.size w w') : PagerIs bp bd bm n p w' := h.only (Only.of_below (S := fun _ => False) hb) (fun e => e) (fun e => e)
theorem PagerIs.drew (h : PagerIs bp bd bm n p w) : PagerIs bp bd bm n p w.drew := ⟨h.cells.block rfl, h.own.block rfl⟩
theorem PagerIs.mono (h : PagerIs bp bd bm n p w) {n' : Nat} (hn : n ≤ n') : PagerIs bp bd bm n' p w := ⟨h.cells, h.own.mono hn⟩
end
end Go.Proofs.YtabcficlnhajeaaGreatDoor
namespace Go.Proofs.YtabcficlnhajeaaGreatDoor
open Go.RowKit Go.Maps

theorem size40 : (Tryz.prog.info? 82).map (·.size) = some 2000 := by kernel_rfl
theorem zeros40 : Tryz.zeroCells82 = (flags fun _ => false).toArray := by kernel_rfl

/-- a bit of a text -/
def bitOf (s : ByteArray) (k : Nat) : Bool := (s.data.toList.getD (k / 8) 0).toNat.testBit (k % 8)

/-- a row of bits -/
structure Bits (B : Nat) (f : Nat → Bool) (w : World) : Prop where
  cell : ∀ j, j < 2000 → w.cell? ⟨B, j, none⟩ = some (.bool (f j))
  free : ∀ j, w.frozen? ⟨B, j, none⟩ = false

theorem Bits.range {B : Nat} {f : Nat → Bool} {w : World} (h : Bits B f w) : w.rangeAt B 0 (flags f) := fun j v hj => by
  have hl := (List.getElem?_eq_some_iff.1 hj).1
  rw [flags_len] at hl
  rw [flags_get _ hl] at hj
  rw [Nat.zero_add, h.cell j hl, hj]

theorem and_bit : ∀ (v : Fin 256) (i : Fin 8), (bits BinOp.and IntKind.u8 ((v.val : Int) / 2 ^ i.val) 1 == 1) = v.val.testBit i.val := by decide +kernel
theorem or_bit : ∀ (v : Fin 256) (i : Fin 8), bits BinOp.or IntKind.u8 (v.val : Int) (IntKind.u8.wrap (1 * 2 ^ i.val)) = ((v.val ||| 2 ^ i.val : Nat) : Int) ∧ (v.val ||| 2 ^ i.val) < 256 := by decide +kernel

theorem bit_at (s : ByteArray) (k : Nat) (h : k / 8 < s.size) : (bits BinOp.and IntKind.u8 (((s[k / 8]).toNat : Int) / 2 ^ (k % 8)) 1 == 1) = bitOf s k := by
  have := and_bit ⟨(s[k / 8]).toNat, (s[k / 8]).toNat_lt⟩ ⟨k % 8, by omega⟩
  rw [this]
  have hl : k / 8 < s.data.toList.length := by simpa using h
  simp only [bitOf, List.getD_eq_getElem?_getD, List.getElem?_eq_getElem hl, Option.getD_some]
  rfl

theorem size_flags (f : Nat → Bool) : (Tryz.prog.info? 82).map (·.size) = some (flags f).length := by rw [flags_len]; exact size40
theorem size_flagsA (f : Nat → Bool) : (Tryz.prog.info? 82).map (·.size) = some (flags f).toArray.size := by rw [List.size_toArray, flags_len]; exact size40

theorem results_cell_of {P : Program} {fn : Func} {p : Tmp} {ty : TypeId} {v : Value} (h : fn.results = #[.cell p ty]) (tmps : Array Value) (w : World) (a : Addr) (hp : tmps.getD p undef = .pointer (some a)) (hl : (loadVar ty a).run P w = .ok v w) :
    (results fn tmps).run P w = .ok v w := by
  have hp' : tmps[p]?.getD undef = .pointer (some a) := by simpa [Array.getD_eq_getD_getElem?] using hp
  simp [results, h, hp', asAddr, hl]

set_option maxRecDepth 100000 in
set_option maxHeartbeats 400000 in
theorem readFlags_any (s : ByteArray) (hs : 250 ≤ s.size) (hm : s.size ≤ 1024) (w : World) :
    Calls Tryz.prog 92 #[.string s] w fun e w' => e = .returned (.agg (flags (bitOf s)).toArray) ∧ Below w.heap.size w w' := by
  have hz := Tryz.zeroValue82
  go_enter Tryz.func92, Tryz.ntmps92
  go_wp2_with fail
  clear hz
  go_loopw [4] (fun i wr => ∃ k : Nat, k ≤ 2000 ∧ i = .int .i64 k ∧ Hid (Bits w.heap.size (fun j => decide (j < k) && bitOf s j) wr) ∧ Hid (Below w.heap.size w wr)) (fun i _ => 2000 - (intOf i).toNat)
  case atStart =>
    have hn : (w.alloc (.cells Tryz.zeroCells82 82)).heap[w.heap.size]? = some (.cells Tryz.zeroCells82 82) := heap_alloc_new w _
    refine ⟨0, by omega, rfl, ⟨fun j hj => ?_, fun j => by simp only [World.frozen?, hn]; simp⟩, (Below.refl _ _).alloc (Nat.le_refl _) _⟩
    rw [cell_of_row _ _ _ _ _ _ hn, zeros40]
    have := flags_get (fun _ => false) hj
    simpa using this
  case round =>
    obtain ⟨k, hk, rfl, HC, HB⟩ := hrel
    by_cases hlt : k < 2000
    · have h1 : (k : Int) < 2000 := by omega
      have h2 : k / 8 < s.size := by omega
      have q := HC.out.cell k hlt
      have f := HC.out.free k
      have hbit := bit_at s k h2
      go_wp2
      go_roundw
      case rel =>
        refine ⟨k + 1, by omega, by go_num, ⟨fun j hj => ?_, fun j => by rw [World.frozen?_setCell]; exact HC.out.free j⟩, HB.out.setCell (p := ⟨w.heap.size, k, none⟩) (Nat.le_refl _) _⟩
        by_cases e : j = k
        · subst e
          rw [World.cell?_setCell_same _ _ _ q]
          simp
        · rw [World.cell?_setCell_other _ _ _ _ (fun e' => e (by cases e'; rfl)), HC.out.cell j hj]
          have : decide (j < k) = decide (j < k + 1) := by simp; omega
          rw [this]
      case measure => simp [intOf]; omega
    · have hk2 : k = 2000 := by omega
      have h1 : (k : Int) = 2000 := by omega
      have hr : wr.rangeAt w.heap.size 0 (flags (bitOf s)) := by
        rw [flags_congr (g := fun j => decide (j < k) && bitOf s j) (fun j hj => by simp; omega)]
        exact HC.out.range
      have ht : wr.there w.heap.size 0 (flags (bitOf s)).toArray.size := fun j hj => by
        simp [flags_len] at hj
        rw [Nat.zero_add]
        exact ⟨by rw [HC.out.cell j hj]; rfl, HC.out.free j⟩
      have hl2 := run_loadVar_mid (P := Tryz.prog) (wr.setCells w.heap.size 0 (flags (bitOf s)).toArray.toList) w.heap.size 0 82 _ _ (World.rangeAt_setCells_same _ _ _ _ (by simpa using ht)) Tryz.underlying82 rfl (size_flags _)
      have hb : Hid (Below w.heap.size w (wr.setCells w.heap.size 0 (flags (bitOf s)).toArray.toList)) := Below.setCells' (Nat.le_refl _) _ _ _ HB.out
      have hs1 := size_flags (bitOf s)
      have hs2 := size_flagsA (bitOf s)
      have ho := all_oneCell_toArray (flags_one (bitOf s))
      obtain ⟨fs, hfs⟩ : ∃ fs, flags (bitOf s) = fs := ⟨_, rfl⟩
      rw [hfs] at hr ht hl2 hb hs1 hs2 ho
      have HF : Hid (flags (bitOf s) = fs) := hfs
      clear hfs
      have HR : Hid _ := hr
      have HT : Hid _ := ht
      clear hr ht
      go_wp2_with (first | (refine wpList_load_mid rfl 82 _ rfl _ 0 rfl fs _ HR.out Tryz.underlying82 rfl hs1 ?_) | (refine wpList_store_mid rfl 82 _ _ rfl _ 0 fs.toArray rfl rfl HT.out hs2 ho ?_))
      exact bodyPost_ret (v := .agg fs.toArray) (results_cell_of Tryz.results92 _ _ _ rfl hl2) rfl ⟨by rw [HF.out], hb.out⟩
end Go.Proofs.YtabcficlnhajeaaGreatDoor
namespace Go.Proofs.YtabcficlnhajeaaGreatDoor
open Go.RowKit Go.Maps

/-- where a page lies -/
def placeF (k : Nat) (up : Bool) : Nat := if up then 2000 + k else k
theorem place_any (k : Nat) (hk : k < 2000) (up : Bool) (w : World) :
    Calls Tryz.prog 64 #[.int .i64 k, .bool up] w fun e w' => e = .returned (.int .i64 (placeF k up)) ∧ w' = w := by
  go_enter Tryz.func64, Tryz.ntmps64
  cases up
  · go_wp2
    go_ret
    exact ⟨rfl, rfl⟩
  · go_wp2
    go_ret
    exact ⟨ret_int (by simp [placeF]), rfl⟩

theorem below_any (n b : Int) (w : World) :
    Calls Tryz.prog 66 #[.int .i64 n, .int .i64 b] w fun e w' => e = .returned (.bool (decide (0 ≤ n) && decide (n < b))) ∧ w' = w := by
  go_enter Tryz.func66, Tryz.ntmps66
  by_cases h0 : 0 ≤ n
  · go_wp2
    go_ret
    exact ⟨ret_bool (by simp [h0]), rfl⟩
  · go_wp2
    go_ret
    exact ⟨ret_bool (by rw [decide_eq_false (show ¬ 0 ≤ n by omega)]; rfl), rfl⟩

theorem rootAt_any (i : Nat) (hi : i < 8) (w : World) :
    Calls Tryz.prog 94 #[.int .i64 i] w fun e w' => e = .returned (.int .i64 (500 + 4 * (i : Int))) ∧ w' = w := by
  go_enter Tryz.func94, Tryz.ntmps94
  go_wp2
  go_ret
  exact ⟨ret_int (by go_num), rfl⟩

/-- two bytes, as a number -/
def numOf (s : ByteArray) (k : Nat) : Int := ((s.data.toList.getD k 0).toNat * 256 + (s.data.toList.getD (k + 1) 0).toNat : Nat)
theorem numOf_lt (s : ByteArray) (k : Nat) : 0 ≤ numOf s k ∧ numOf s k < 65536 := by
  unfold numOf
  have h1 := (s.data.toList.getD k 0).toNat_lt
  have h2 := (s.data.toList.getD (k + 1) 0).toNat_lt
  omega
theorem wraps_i64 (n : Int) (h₀ : 0 ≤ n) (h₁ : n < 2 ^ 63) : IntKind.i64.wrap n = n := by rw [IntKind.wrap_i64]; omega
theorem wrap64_small (n : Int) (h0 : 0 ≤ n) (h1 : n < 9223372036854775808) : wrap64 n = n := by simp only [wrap64]; omega
theorem or_i64 (a b : UInt8) : bits BinOp.or IntKind.i64 (wrap64 (wrap64 (a.toNat : Int) * 256)) (wrap64 (b.toNat : Int)) = ((a.toNat * 256 + b.toNat : Nat) : Int) := by
  have h1 := a.toNat_lt
  have h2 := b.toNat_lt
  rw [wrap64_small (a.toNat : Int) (by omega) (by omega), wrap64_small (b.toNat : Int) (by omega) (by omega), wrap64_small _ (by omega) (by omega), bits_join IntKind.i64 63 (by decide) wraps_i64 8 _ _ (by omega) (by omega) (by omega) (by omega) (by omega) (by omega)]
  omega
theorem readNumber_any (s : ByteArray) (h2 : 2 ≤ s.size) (w : World) :
    Calls Tryz.prog 93 #[.string s] w fun e w' => e = .returned (.int .i64 (numOf s 0)) ∧ ∃ n, w' = w.drewN n := by
  have h0 : 0 < s.size := by omega
  have h1 : 1 < s.size := by omega
  have h1' : (1 : Int) < (s.size : Int) := by omega
  have h0' : (0 : Int) < (s.size : Int) := by omega
  go_enter Tryz.func93, Tryz.ntmps93
  go_wp2
  go_quiet (fail)
  go_wp2
  go_ret
  have e0 : s.data.toList.getD 0 0 = s[0] := by
    have hl : 0 < s.data.toList.length := by simpa using h0
    rw [List.getD_eq_getElem?_getD, List.getElem?_eq_getElem hl]; rfl
  have e1 : s.data.toList.getD 1 0 = s[1] := by
    have hl : 1 < s.data.toList.length := by simpa using h1
    rw [List.getD_eq_getElem?_getD, List.getElem?_eq_getElem hl]; rfl
  refine ⟨ret_int ?_, _, rfl⟩
  unfold numOf
  rw [e0, e1]
  exact or_i64 _ _
end Go.Proofs.YtabcficlnhajeaaGreatDoor
namespace Go.Proofs.YtabcficlnhajeaaGreatDoor
open Go.RowKit Go.Maps

theorem size43 : (Tryz.prog.info? 85).map (·.size) = some 16 := by kernel_rfl
def zeros43 : Array Value := #[.int .i64 0, .int .i64 0, .int .i64 0, .int .i64 0, .int .i64 0, .int .i64 0, .int .i64 0, .int .i64 0, .int .i64 0, .int .i64 0, .int .i64 0, .int .i64 0, .int .i64 0, .int .i64 0, .int .i64 0, .int .i64 0]
theorem zeros43_is : zeros43 = (rootsL (fun _ => 0) (fun _ => 0)).toArray := by kernel_rfl
theorem size_roots (a b : Nat → Int) : (Tryz.prog.info? 85).map (·.size) = some (rootsL a b).length := by rw [rootsL_len]; exact size43
theorem size_rootsA (a b : Nat → Int) : (Tryz.prog.info? 85).map (·.size) = some (rootsL a b).toArray.size := by rw [List.size_toArray, rootsL_len]; exact size43

/-- what a head's page says -/
def usedOf (s : ByteArray) (k : Nat) : Bool := decide (0 < k) && bitOf s k
def upperOf (s : ByteArray) (k : Nat) : Bool := bitOf s (k + 2000)
def rpOf (s : ByteArray) (i : Nat) : Int := numOf s (500 + 4 * i)
def rnOf (s : ByteArray) (i : Nat) : Int := numOf s (502 + 4 * i)

theorem ext_list (s : ByteArray) (a b : Nat) : (s.extract a b).data.toList = (s.data.toList.drop a).take (b - a) := by
  rw [ByteArray.data_extract, Array.toList_extract, List.extract_eq_take_drop]
theorem ext_size (s : ByteArray) (a b : Nat) (h : b ≤ s.size) : (s.extract a b).size = b - a := by
  rw [ByteArray.size_extract]; omega
theorem ext_getD (s : ByteArray) (a b k : Nat) (hk : a + k < b) : (s.extract a b).data.toList.getD k 0 = s.data.toList.getD (a + k) 0 := by
  rw [ext_list, List.getD_eq_getElem?_getD, List.getElem?_take_of_lt (by omega), List.getElem?_drop, ← List.getD_eq_getElem?_getD]
theorem bitOf_low (s : ByteArray) {k : Nat} (hk : k < 2000) : bitOf (s.extract 0 250) k = bitOf s k := by
  unfold bitOf
  rw [ext_getD _ _ _ _ (by omega), Nat.zero_add]
theorem bitOf_high (s : ByteArray) {k : Nat} (hk : k < 2000) : bitOf (s.extract 250 1024) k = upperOf s k := by
  unfold upperOf bitOf
  rw [ext_getD _ _ _ _ (by omega), show 250 + k / 8 = (k + 2000) / 8 by omega, show k % 8 = (k + 2000) % 8 by omega]
theorem numOf_ext (s : ByteArray) (a b : Nat) (h : a + 1 < b) : numOf (s.extract a b) 0 = numOf s a := by
  unfold numOf
  rw [ext_getD _ _ _ _ (by omega), ext_getD _ _ _ _ (by omega), Nat.add_zero]

/-- roots in a row -/
structure RootRow (B : Nat) (a b : Nat → Int) (w : World) : Prop where
  cell : ∀ j, j < 16 → w.cell? ⟨B, j, none⟩ = some (.int .i64 (if j % 2 = 0 then a (j / 2) else b (j / 2)))
  free : ∀ j, w.frozen? ⟨B, j, none⟩ = false
theorem RootRow.range {B : Nat} {a b : Nat → Int} {w : World} (h : RootRow B a b w) : w.rangeAt B 0 (rootsL a b) := fun j v hj => by
  have hl := (List.getElem?_eq_some_iff.1 hj).1
  rw [rootsL_len] at hl
  rw [rootsL_get _ _ hl] at hj
  rw [Nat.zero_add, h.cell j hl, hj]
theorem Bits.block {B : Nat} {f : Nat → Bool} {w w' : World} (h : Bits B f w) (hb : w'.heap[B]? = w.heap[B]?) : Bits B f w' :=
  ⟨fun k hk => (World.cell?_of_block hb).trans (h.cell k hk), fun k => (World.frozen?_of_block (a := ⟨B, k, none⟩) hb).trans (h.free k)⟩
theorem RootRow.block {B : Nat} {a b : Nat → Int} {w w' : World} (h : RootRow B a b w) (hb : w'.heap[B]? = w.heap[B]?) : RootRow B a b w' :=
  ⟨fun k hk => (World.cell?_of_block hb).trans (h.cell k hk), fun k => (World.frozen?_of_block (a := ⟨B, k, none⟩) hb).trans (h.free k)⟩
theorem Bits.there {B : Nat} {f : Nat → Bool} {w : World} (h : Bits B f w) {n : Nat} (hn : n = 2000) : w.there B 0 n := fun j hj => by
  rw [Nat.zero_add]; exact ⟨by rw [h.cell j (by omega)]; rfl, h.free j⟩
theorem RootRow.there {B : Nat} {a b : Nat → Int} {w : World} (h : RootRow B a b w) {n : Nat} (hn : n = 16) : w.there B 0 n := fun j hj => by
  rw [Nat.zero_add]; exact ⟨by rw [h.cell j (by omega)]; rfl, h.free j⟩

/-- what is known within readHead -/
structure H3 (w wr : World) (f g : Nat → Bool) (a b : Nat → Int) : Prop where
  used : Bits w.heap.size f wr
  upper : Bits (w.heap.size + 1) g wr
  roots : RootRow (w.heap.size + 1 + 1) a b wr
  below : Below w.heap.size w wr
  size : w.heap.size + 3 ≤ wr.heap.size

section
variable {w wr wx : World} {f g : Nat → Bool} {a b : Nat → Int}
theorem H3.later (h : H3 w wr f g a b) (hb : Below wr.heap.size wr wx) : H3 w wx f g a b := by
  have := h.size
  exact ⟨h.used.block (hb.block _ (by omega)), h.upper.block (hb.block _ (by omega)), h.roots.block (hb.block _ (by omega)), h.below.trans (hb.mono (by omega)), Nat.le_trans h.size hb.size⟩
theorem H3.drewN (h : H3 w wr f g a b) (n : Nat) : H3 w (wr.drewN n) f g a b :=
  ⟨h.used.block rfl, h.upper.block rfl, h.roots.block rfl, h.below.trans ⟨rfl, rfl, rfl, Nat.le_refl _, fun _ _ => rfl⟩, h.size⟩

theorem H3.start (w : World) : H3 w (((w.alloc (.cells Tryz.zeroCells82 82)).alloc (.cells Tryz.zeroCells82 82)).alloc (.cells zeros43 85)) (fun _ => false) (fun _ => false) (fun _ => 0) (fun _ => 0) := by
  have hn1 : (w.alloc (.cells Tryz.zeroCells82 82)).heap[w.heap.size]? = some (.cells Tryz.zeroCells82 82) := heap_alloc_new w _
  have hs1 : (w.alloc (.cells Tryz.zeroCells82 82)).heap.size = w.heap.size + 1 := World.size_alloc _ _
  have hn2 : ((w.alloc (.cells Tryz.zeroCells82 82)).alloc (.cells Tryz.zeroCells82 82)).heap[w.heap.size + 1]? = some (.cells Tryz.zeroCells82 82) := by rw [← hs1]; exact heap_alloc_new _ _
  have hs2 : ((w.alloc (.cells Tryz.zeroCells82 82)).alloc (.cells Tryz.zeroCells82 82)).heap.size = w.heap.size + 1 + 1 := by rw [World.size_alloc, hs1]
  have hn3 : (((w.alloc (.cells Tryz.zeroCells82 82)).alloc (.cells Tryz.zeroCells82 82)).alloc (.cells zeros43 85)).heap[w.heap.size + 1 + 1]? = some (.cells zeros43 85) := by rw [← hs2]; exact heap_alloc_new _ _
  have b1 : Below w.heap.size w (w.alloc (.cells Tryz.zeroCells82 82)) := (Below.refl _ _).alloc (Nat.le_refl _) _
  have b2 : Below (w.heap.size + 1) (w.alloc (.cells Tryz.zeroCells82 82)) ((w.alloc (.cells Tryz.zeroCells82 82)).alloc (.cells Tryz.zeroCells82 82)) := by rw [← hs1]; exact (Below.refl _ _).alloc (Nat.le_refl _) _
  have b3 : Below (w.heap.size + 1 + 1) ((w.alloc (.cells Tryz.zeroCells82 82)).alloc (.cells Tryz.zeroCells82 82)) (((w.alloc (.cells Tryz.zeroCells82 82)).alloc (.cells Tryz.zeroCells82 82)).alloc (.cells zeros43 85)) := by rw [← hs2]; exact (Below.refl _ _).alloc (Nat.le_refl _) _
  have bits0 : ∀ (B : Nat) (wz : World), wz.heap[B]? = some (.cells Tryz.zeroCells82 82) → Bits B (fun _ => false) wz := fun B wz hB => by
    refine ⟨fun j hj => ?_, fun j => by simp only [World.frozen?, hB]; simp⟩
    rw [cell_of_row _ _ _ _ _ _ hB, zeros40]
    have := flags_get (fun _ => false) hj
    simpa using this
  have c1 := bits0 _ _ hn1
  have c2 := bits0 _ _ hn2
  refine ⟨(c1.block (b2.block _ (by omega))).block (b3.block _ (by omega)), c2.block (b3.block _ (by omega)), ?_, b1.trans ((b2.mono (by omega)).trans (b3.mono (by omega))), by rw [World.size_alloc, hs2]; omega⟩
  refine ⟨fun j hj => ?_, fun j => by simp only [World.frozen?, hn3]; simp⟩
  rw [cell_of_row _ _ _ _ _ _ hn3, zeros43_is]
  have := rootsL_get (fun _ => 0) (fun _ => 0) hj
  simpa using this

set_option maxRecDepth 100000 in
theorem H3.store0 (h : H3 w wr f g a b) {f' : Nat → Bool} {vs : List Value} (hv : vs = flags f') : H3 w (wr.setCells w.heap.size 0 vs) f' g a b := by
  subst hv
  have hs := h.size
  refine ⟨⟨fun j hj => ?_, fun j => by rw [World.frozen?_setCells]; exact h.used.free j⟩, ⟨fun j hj => ?_, fun j => by rw [World.frozen?_setCells]; exact h.upper.free j⟩, ⟨fun j hj => ?_, fun j => by rw [World.frozen?_setCells]; exact h.roots.free j⟩, Below.setCells' (Nat.le_refl _) _ _ _ h.below, Nat.le_trans hs (Below.setCells' (B := 0) (Nat.zero_le _) _ _ _ (Below.refl 0 wr)).size⟩
  · have hj' : j < (flags f').length := by rw [flags_len]; exact hj
    have := World.cell?_setCells_in w.heap.size (flags f') 0 wr (fun i hi => by rw [flags_len] at hi; rw [Nat.zero_add, h.used.cell i hi]; rfl) j hj'
    rw [Nat.zero_add] at this
    rw [this, ← List.getElem?_eq_getElem hj', flags_get _ hj]
  · rw [World.cell?_setCells_out _ _ _ _ _ (fun e => by simp only at e; omega), h.upper.cell j hj]
  · rw [World.cell?_setCells_out _ _ _ _ _ (fun e => by simp only at e; omega), h.roots.cell j hj]
set_option maxRecDepth 100000 in
theorem H3.store1 (h : H3 w wr f g a b) {g' : Nat → Bool} {vs : List Value} (hv : vs = flags g') : H3 w (wr.setCells (w.heap.size + 1) 0 vs) f g' a b := by
  subst hv
  have hs := h.size
  refine ⟨⟨fun j hj => ?_, fun j => by rw [World.frozen?_setCells]; exact h.used.free j⟩, ⟨fun j hj => ?_, fun j => by rw [World.frozen?_setCells]; exact h.upper.free j⟩, ⟨fun j hj => ?_, fun j => by rw [World.frozen?_setCells]; exact h.roots.free j⟩, Below.setCells' (by omega) _ _ _ h.below, Nat.le_trans hs (Below.setCells' (B := 0) (Nat.zero_le _) _ _ _ (Below.refl 0 wr)).size⟩
  · rw [World.cell?_setCells_out _ _ _ _ _ (fun e => by simp only at e; omega), h.used.cell j hj]
  · have hj' : j < (flags g').length := by rw [flags_len]; exact hj
    have := World.cell?_setCells_in (w.heap.size + 1) (flags g') 0 wr (fun i hi => by rw [flags_len] at hi; rw [Nat.zero_add, h.upper.cell i hi]; rfl) j hj'
    rw [Nat.zero_add] at this
    rw [this, ← List.getElem?_eq_getElem hj', flags_get _ hj]
  · rw [World.cell?_setCells_out _ _ _ _ _ (fun e => by simp only at e; omega), h.roots.cell j hj]
set_option maxRecDepth 100000 in
theorem H3.store2 (h : H3 w wr f g a b) {a' b' : Nat → Int} {vs : List Value} (hv : vs = rootsL a' b') : H3 w (wr.setCells (w.heap.size + 1 + 1) 0 vs) f g a' b' := by
  subst hv
  have hs := h.size
  refine ⟨⟨fun j hj => ?_, fun j => by rw [World.frozen?_setCells]; exact h.used.free j⟩, ⟨fun j hj => ?_, fun j => by rw [World.frozen?_setCells]; exact h.upper.free j⟩, ⟨fun j hj => ?_, fun j => by rw [World.frozen?_setCells]; exact h.roots.free j⟩, Below.setCells' (by omega) _ _ _ h.below, Nat.le_trans hs (Below.setCells' (B := 0) (Nat.zero_le _) _ _ _ (Below.refl 0 wr)).size⟩
  · rw [World.cell?_setCells_out _ _ _ _ _ (fun e => by simp only at e; omega), h.used.cell j hj]
  · rw [World.cell?_setCells_out _ _ _ _ _ (fun e => by simp only at e; omega), h.upper.cell j hj]
  · have hj' : j < (rootsL a' b').length := by rw [rootsL_len]; exact hj
    have := World.cell?_setCells_in (w.heap.size + 1 + 1) (rootsL a' b') 0 wr (fun i hi => by rw [rootsL_len] at hi; rw [Nat.zero_add, h.roots.cell i hi]; rfl) j hj'
    rw [Nat.zero_add] at this
    rw [this, ← List.getElem?_eq_getElem hj', rootsL_get _ _ hj]
theorem H3.zero (h : H3 w wr f g a b) : H3 w (wr.setCell ⟨w.heap.size, 0, none⟩ (.bool false)) (fun k => decide (0 < k) && f k) g a b := by
  have hs := h.size
  refine ⟨⟨fun j hj => ?_, fun j => by rw [World.frozen?_setCell]; exact h.used.free j⟩, ⟨fun j hj => ?_, fun j => by rw [World.frozen?_setCell]; exact h.upper.free j⟩, ⟨fun j hj => ?_, fun j => by rw [World.frozen?_setCell]; exact h.roots.free j⟩, h.below.setCell (p := ⟨w.heap.size, 0, none⟩) (Nat.le_refl _) _, by rw [World.size_setCell]; exact hs⟩
  · by_cases e : j = 0
    · subst e
      rw [World.cell?_setCell_same _ _ _ (h.used.cell 0 hj)]; rfl
    · rw [World.cell?_setCell_other _ _ _ _ (fun e' => e (by cases e'; rfl)), h.used.cell j hj, decide_eq_true (show 0 < j by omega)]; rfl
  · rw [World.cell?_setCell_other _ _ _ _ (fun e' => by injection e' with e1 e2; omega), h.upper.cell j hj]
  · rw [World.cell?_setCell_other _ _ _ _ (fun e' => by injection e' with e1 e2; omega), h.roots.cell j hj]
theorem H3.root (h : H3 w wr f g a b) {k : Nat} {x y : Int} {a' b' : Nat → Int} (h1 : a' k = x) (h2 : b' k = y) (h3 : ∀ j, j ≠ k → a' j = a j) (h4 : ∀ j, j ≠ k → b' j = b j) :
    H3 w ((wr.setCell ⟨w.heap.size + 1 + 1, k * 2, none⟩ (.int .i64 x)).setCell ⟨w.heap.size + 1 + 1, k * 2 + 1, none⟩ (.int .i64 y)) f g a' b' := by
  have hs := h.size
  refine ⟨⟨fun j hj => ?_, fun j => by rw [World.frozen?_setCell, World.frozen?_setCell]; exact h.used.free j⟩, ⟨fun j hj => ?_, fun j => by rw [World.frozen?_setCell, World.frozen?_setCell]; exact h.upper.free j⟩, ⟨fun j hj => ?_, fun j => by rw [World.frozen?_setCell, World.frozen?_setCell]; exact h.roots.free j⟩, (h.below.setCell (p := ⟨w.heap.size + 1 + 1, k * 2, none⟩) (by show w.heap.size ≤ w.heap.size + 1 + 1; omega) _).setCell (p := ⟨w.heap.size + 1 + 1, k * 2 + 1, none⟩) (by show w.heap.size ≤ w.heap.size + 1 + 1; omega) _, by rw [World.size_setCell, World.size_setCell]; exact hs⟩
  · rw [World.cell?_setCell_other _ _ _ _ (fun e' => by injection e' with e1 e2; omega), World.cell?_setCell_other _ _ _ _ (fun e' => by injection e' with e1 e2; omega), h.used.cell j hj]
  · rw [World.cell?_setCell_other _ _ _ _ (fun e' => by injection e' with e1 e2; omega), World.cell?_setCell_other _ _ _ _ (fun e' => by injection e' with e1 e2; omega), h.upper.cell j hj]
  · by_cases e2 : j = k * 2 + 1
    · subst e2
      rw [World.cell?_setCell_same _ _ _ (by rw [World.cell?_setCell_other _ _ _ _ (fun e' => by injection e' with e1 e2; omega)]; exact h.roots.cell _ hj), if_neg (by omega), show (k * 2 + 1) / 2 = k by omega, h2]
    · rw [World.cell?_setCell_other _ _ _ _ (fun e' => e2 (by injection e' with e1 e3; omega))]
      by_cases e1 : j = k * 2
      · subst e1
        rw [World.cell?_setCell_same _ _ _ (h.roots.cell _ hj), if_pos (by omega), show (k * 2) / 2 = k by omega, h1]
      · rw [World.cell?_setCell_other _ _ _ _ (fun e' => e1 (by injection e' with e3 e4; omega)), h.roots.cell j hj]
        by_cases e : j % 2 = 0
        · rw [if_pos e, if_pos e, h3 _ (by omega)]
        · rw [if_neg e, if_neg e, h4 _ (by omega)]
theorem H3.drew (h : H3 w wr f g a b) : H3 w wr.drew f g a b :=
  ⟨h.used.block rfl, h.upper.block rfl, h.roots.block rfl, h.below.trans ⟨rfl, rfl, rfl, Nat.le_refl _, fun _ _ => rfl⟩, h.size⟩
theorem H3.same (h : H3 w wr f g a b) (j : Nat) {v : Value} (hj : j < 16) (hv : v = .int .i64 (if j % 2 = 0 then a (j / 2) else b (j / 2))) : H3 w (wr.setCell ⟨w.heap.size + 1 + 1, j, none⟩ v) f g a b := by
  subst hv
  refine ⟨⟨fun i hi => ?_, fun i => by rw [World.frozen?_setCell]; exact h.used.free i⟩, ⟨fun i hi => ?_, fun i => by rw [World.frozen?_setCell]; exact h.upper.free i⟩, ⟨fun i hi => ?_, fun i => by rw [World.frozen?_setCell]; exact h.roots.free i⟩, h.below.setCell (p := ⟨w.heap.size + 1 + 1, j, none⟩) (by show w.heap.size ≤ w.heap.size + 1 + 1; omega) _, by rw [World.size_setCell]; exact h.size⟩
  · rw [World.cell?_setCell_other _ _ _ _ (fun e' => by injection e' with e1 e2; omega), h.used.cell i hi]
  · rw [World.cell?_setCell_other _ _ _ _ (fun e' => by injection e' with e1 e2; omega), h.upper.cell i hi]
  · by_cases e : i = j
    · subst e
      rw [World.cell?_setCell_same _ _ _ (h.roots.cell _ hj)]
    · rw [World.cell?_setCell_other _ _ _ _ (fun e' => e (by injection e' with e1 e2; omega)), h.roots.cell i hi]

/-- what the last region of readHead reads -/
def Seen (w : World) (fs gs : List Value) (a b : Nat → Int) (wx : World) : Prop :=
  wx.rangeAt w.heap.size 0 fs ∧ wx.rangeAt (w.heap.size + 1) 0 gs ∧ wx.there w.heap.size 0 fs.length ∧ wx.there (w.heap.size + 1) 0 gs.length ∧ wx.cell? ⟨w.heap.size + 1 + 1, 0, none⟩ = some (.int .i64 (a 0)) ∧ wx.frozen? ⟨w.heap.size + 1 + 1, 0, none⟩ = false ∧ wx.cell? ⟨w.heap.size + 1 + 1, 1, none⟩ = some (.int .i64 (b 0)) ∧ wx.frozen? ⟨w.heap.size + 1 + 1, 1, none⟩ = false ∧ wx.cell? ⟨w.heap.size + 1 + 1, 2, none⟩ = some (.int .i64 (a 1)) ∧ wx.frozen? ⟨w.heap.size + 1 + 1, 2, none⟩ = false ∧ wx.cell? ⟨w.heap.size + 1 + 1, 3, none⟩ = some (.int .i64 (b 1)) ∧ wx.frozen? ⟨w.heap.size + 1 + 1, 3, none⟩ = false ∧ wx.cell? ⟨w.heap.size + 1 + 1, 4, none⟩ = some (.int .i64 (a 2)) ∧ wx.frozen? ⟨w.heap.size + 1 + 1, 4, none⟩ = false ∧ wx.cell? ⟨w.heap.size + 1 + 1, 5, none⟩ = some (.int .i64 (b 2)) ∧ wx.frozen? ⟨w.heap.size + 1 + 1, 5, none⟩ = false ∧ wx.cell? ⟨w.heap.size + 1 + 1, 6, none⟩ = some (.int .i64 (a 3)) ∧ wx.frozen? ⟨w.heap.size + 1 + 1, 6, none⟩ = false ∧ wx.cell? ⟨w.heap.size + 1 + 1, 7, none⟩ = some (.int .i64 (b 3)) ∧ wx.frozen? ⟨w.heap.size + 1 + 1, 7, none⟩ = false ∧ wx.cell? ⟨w.heap.size + 1 + 1, 8, none⟩ = some (.int .i64 (a 4)) ∧ wx.frozen? ⟨w.heap.size + 1 + 1, 8, none⟩ = false ∧ wx.cell? ⟨w.heap.size + 1 + 1, 9, none⟩ = some (.int .i64 (b 4)) ∧ wx.frozen? ⟨w.heap.size + 1 + 1, 9, none⟩ = false ∧ wx.cell? ⟨w.heap.size + 1 + 1, 10, none⟩ = some (.int .i64 (a 5)) ∧ wx.frozen? ⟨w.heap.size + 1 + 1, 10, none⟩ = false ∧ wx.cell? ⟨w.heap.size + 1 + 1, 11, none⟩ = some (.int .i64 (b 5)) ∧ wx.frozen? ⟨w.heap.size + 1 + 1, 11, none⟩ = false ∧ wx.cell? ⟨w.heap.size + 1 + 1, 12, none⟩ = some (.int .i64 (a 6)) ∧ wx.frozen? ⟨w.heap.size + 1 + 1, 12, none⟩ = false ∧ wx.cell? ⟨w.heap.size + 1 + 1, 13, none⟩ = some (.int .i64 (b 6)) ∧ wx.frozen? ⟨w.heap.size + 1 + 1, 13, none⟩ = false ∧ wx.cell? ⟨w.heap.size + 1 + 1, 14, none⟩ = some (.int .i64 (a 7)) ∧ wx.frozen? ⟨w.heap.size + 1 + 1, 14, none⟩ = false ∧ wx.cell? ⟨w.heap.size + 1 + 1, 15, none⟩ = some (.int .i64 (b 7)) ∧ wx.frozen? ⟨w.heap.size + 1 + 1, 15, none⟩ = false
theorem H3.seen (h : H3 w wr f g a b) : Seen w (flags f) (flags g) a b wr :=
  ⟨h.used.range, h.upper.range, h.used.there (flags_len _), h.upper.there (flags_len _), h.roots.cell 0 (by omega), h.roots.free 0, h.roots.cell 1 (by omega), h.roots.free 1, h.roots.cell 2 (by omega), h.roots.free 2, h.roots.cell 3 (by omega), h.roots.free 3, h.roots.cell 4 (by omega), h.roots.free 4, h.roots.cell 5 (by omega), h.roots.free 5, h.roots.cell 6 (by omega), h.roots.free 6, h.roots.cell 7 (by omega), h.roots.free 7, h.roots.cell 8 (by omega), h.roots.free 8, h.roots.cell 9 (by omega), h.roots.free 9, h.roots.cell 10 (by omega), h.roots.free 10, h.roots.cell 11 (by omega), h.roots.free 11, h.roots.cell 12 (by omega), h.roots.free 12, h.roots.cell 13 (by omega), h.roots.free 13, h.roots.cell 14 (by omega), h.roots.free 14, h.roots.cell 15 (by omega), h.roots.free 15⟩
end
end Go.Proofs.YtabcficlnhajeaaGreatDoor
