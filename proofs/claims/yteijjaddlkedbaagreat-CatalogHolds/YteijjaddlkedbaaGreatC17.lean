/- Texts of the proof of CatalogHolds: Shc, Cat1, Cpr, Cpc. -/
import Derived.Test.YteijjaddlkedbaaGreatC16
import Derived.Shelf.Strings.Builder1
import Derived.Shelf.Strings.Builder2
import Derived.Shelf.Strings.BuilderF
import Derived.Shelf.Strings.BuilderK
import Derived.Shelf.Strings.Builder2Cap
import Derived.Shelf.LaysM
import Derived.Shelf.Strconv.Clone
import Derived.Shelf.Strings.Search1
import Derived.Shelf.Strings.Search2
import Derived.Shelf.Strings.Search3
import Derived.Shelf.Strings.Cut
import Derived.Shelf.Strings.Shaped
import Derived.Shelf.Strings.Prefix
import Derived.Shelf.Bits.Mul64
import Derived.Shelf.Strings.Repeat
import Derived.Shelf.Strings.BuilderCap
import Derived.Shelf.Slices.Turned
import Derived.Ground.Names2Prog
import Derived.Shelf.Slices.ReverseS
import Derived.Shelf.Slices.Cells
import Derived.Ground.SlgnProg
import Derived.Shelf.SlicesE.Reverse
import Derived.Test.YteijjaddlkedbaaGreatProg
namespace Go.Proofs
open Go.Shelf
def Tryz.lays144_ren : Go.Shelf.Ren := ⟨fun | 144 => 57 | 143 => 83 | 219 => 84 | 217 => 106 | 225 => 107 | 224 => 108 | 267 => 109 | 266 => 120 | 314 => 121 | n => n, fun | 9 => 9 | 4 => 4 | 3 => 3 | 5 => 5 | 46 => 59 | 146 => 178 | 51 => 177 | n => n, fun | 1 => 0 | n => n⟩
theorem Tryz.lays144 : Go.Proofs.Lays.n144 Tryz.prog Tryz.lays144_ren := {
  mixed := by kernel_rfl
  f143 := Tryz.func83.trans (congrArg some (by kernel_rfl))
  f144 := Tryz.func57.trans (congrArg some (by kernel_rfl))
  f217 := Tryz.func106.trans (congrArg some (by kernel_rfl))
  f219 := Tryz.func84.trans (congrArg some (by kernel_rfl))
  f224 := Tryz.func108.trans (congrArg some (by kernel_rfl))
  f225 := Tryz.func107.trans (congrArg some (by kernel_rfl))
  f266 := Tryz.func120.trans (congrArg some (by kernel_rfl))
  f267 := Tryz.func109.trans (congrArg some (by kernel_rfl))
  f314 := Tryz.func121.trans (congrArg some (by kernel_rfl))
  t3 := Tryz.underlying3
  a3 := Tryz.isAgg3
  z3 := Tryz.sizeOf3
  v3 := Tryz.zeroValue3
  t4 := Tryz.underlying4
  a4 := Tryz.isAgg4
  z4 := Tryz.sizeOf4
  v4 := Tryz.zeroValue4
  t5 := Tryz.underlying5
  a5 := Tryz.isAgg5
  z5 := Tryz.sizeOf5
  v5 := Tryz.zeroValue5
  t9 := Tryz.underlying9
  a9 := Tryz.isAgg9
  z9 := Tryz.sizeOf9
  v9 := Tryz.zeroValue9
  t46 := Tryz.underlying59
  a46 := Tryz.isAgg59
  z46 := Tryz.sizeOf59
  v46 := Tryz.zeroValue59
  t51 := Tryz.underlying177
  a51 := Tryz.isAgg177
  z51 := Tryz.sizeOf177
  v51 := Tryz.zeroValue177
  t146 := Tryz.underlying178
  a146 := Tryz.isAgg178
  z146 := Tryz.sizeOf178
  v146 := Tryz.zeroValue178
  g1 := by kernel_rfl }
open Go.RowKit Go.Lib in
/-- strings.Contains: "Contains reports whether substr is within s.": AT A substr OF ONE BYTE c: IT RETURNS 'decide (0 ≤ Lib.indexByte s c)'; the world is as it was. (LAID: no walk: one application.) -/
theorem Tryz.strings_Contains_one (s : ByteArray) (c : UInt8) (w : World) :
    Calls Tryz.prog 57 #[.string s, .string ⟨#[c]⟩] w fun e w' => e = .returned (.bool (decide (0 ≤ Lib.indexByte s.data.toList c))) ∧ w' = w := Any.strings_Contains_one Tryz.lays144 s c w
open Go.RowKit Go.Lib in
/-- strings.Contains: "Contains reports whether substr is within s.": IT RETURNS 'Lib.contains s substr'; the world is as it was. (LAID: no walk: one application.) -/
theorem Tryz.strings_Contains (s sub : ByteArray) (m : Int) (w : World) (hs : s.size < 4294967281) (hm : w.cell? ⟨0, 0, none⟩ = some (.int .i64 m)) :
    Calls Tryz.prog 57 #[.string s, .string sub] w fun e w' => e = .returned (.bool (Lib.contains s.data.toList sub.data.toList)) ∧ w' = w := Any.strings_Contains Tryz.lays144 s sub m w hs hm
def Tryz.lays145_ren : Go.Shelf.Ren := ⟨fun | 145 => 35 | 220 => 58 | 219 => 84 | 217 => 106 | 225 => 107 | 224 => 108 | 267 => 109 | 266 => 120 | 314 => 121 | n => n, fun | 9 => 9 | 4 => 4 | 59 => 104 | 3 => 3 | 5 => 5 | 46 => 59 | 146 => 178 | 51 => 177 | n => n, fun | 1 => 0 | n => n⟩
theorem Tryz.lays145 : Go.Proofs.Lays.n145 Tryz.prog Tryz.lays145_ren := {
  mixed := by kernel_rfl
  f145 := Tryz.func35.trans (congrArg some (by kernel_rfl))
  f217 := Tryz.func106.trans (congrArg some (by kernel_rfl))
  f219 := Tryz.func84.trans (congrArg some (by kernel_rfl))
  f220 := Tryz.func58.trans (congrArg some (by kernel_rfl))
  f224 := Tryz.func108.trans (congrArg some (by kernel_rfl))
  f225 := Tryz.func107.trans (congrArg some (by kernel_rfl))
  f266 := Tryz.func120.trans (congrArg some (by kernel_rfl))
  f267 := Tryz.func109.trans (congrArg some (by kernel_rfl))
  f314 := Tryz.func121.trans (congrArg some (by kernel_rfl))
  t3 := Tryz.underlying3
  a3 := Tryz.isAgg3
  z3 := Tryz.sizeOf3
  v3 := Tryz.zeroValue3
  t4 := Tryz.underlying4
  a4 := Tryz.isAgg4
  z4 := Tryz.sizeOf4
  v4 := Tryz.zeroValue4
  t5 := Tryz.underlying5
  a5 := Tryz.isAgg5
  z5 := Tryz.sizeOf5
  v5 := Tryz.zeroValue5
  t9 := Tryz.underlying9
  a9 := Tryz.isAgg9
  z9 := Tryz.sizeOf9
  v9 := Tryz.zeroValue9
  t46 := Tryz.underlying59
  a46 := Tryz.isAgg59
  z46 := Tryz.sizeOf59
  v46 := Tryz.zeroValue59
  t51 := Tryz.underlying177
  a51 := Tryz.isAgg177
  z51 := Tryz.sizeOf177
  v51 := Tryz.zeroValue177
  t59 := Tryz.underlying104
  a59 := Tryz.isAgg104
  z59 := Tryz.sizeOf104
  v59 := Tryz.zeroValue104
  t146 := Tryz.underlying178
  a146 := Tryz.isAgg178
  z146 := Tryz.sizeOf178
  v146 := Tryz.zeroValue178
  g1 := by kernel_rfl }
open Go.RowKit Go.Lib in
/-- strings.Cut: "Cut slices s around the first instance of sep, returning the text before and after sep. The found result reports whether sep appears in s. If sep does not appear in s, cut returns s, "", false.": IT RETURNS 'Lib.cut s sep'; the world is as it was but for the count of draws. (LAID: no walk: one application.) -/
theorem Tryz.strings_Cut (s sep : ByteArray) (m : Int) (w : World) (hs : s.size < 4294967281) (hm : w.cell? ⟨0, 0, none⟩ = some (.int .i64 m)) :
    Calls Tryz.prog 35 #[.string s, .string sep] w fun e w' => e = .returned (.tuple #[.string ⟨(Lib.cut s.data.toList sep.data.toList).1.toArray⟩, .string ⟨(Lib.cut s.data.toList sep.data.toList).2.1.toArray⟩, .bool (Lib.cut s.data.toList sep.data.toList).2.2]) ∧ ∃ n, w' = w.drewN n := Any.strings_Cut Tryz.lays145 s sep m w hs hm
def Tryz.lays109_ren : Go.Shelf.Ren := ⟨fun | 109 => 49 | n => n, fun | 31 => 22 | 9 => 9 | 3 => 3 | 0 => 0 | 4 => 4 | n => n, fun | n => n⟩
theorem Tryz.lays109 : Go.Proofs.Lays.n109 Tryz.prog Tryz.lays109_ren := {
  mixed := by kernel_rfl
  f109 := Tryz.func49.trans (congrArg some (by kernel_rfl))
  t0 := Tryz.underlying0
  a0 := Tryz.isAgg0
  z0 := Tryz.sizeOf0
  v0 := Tryz.zeroValue0
  t3 := Tryz.underlying3
  a3 := Tryz.isAgg3
  z3 := Tryz.sizeOf3
  v3 := Tryz.zeroValue3
  t4 := Tryz.underlying4
  a4 := Tryz.isAgg4
  z4 := Tryz.sizeOf4
  v4 := Tryz.zeroValue4
  t9 := Tryz.underlying9
  a9 := Tryz.isAgg9
  z9 := Tryz.sizeOf9
  v9 := Tryz.zeroValue9
  t31 := Tryz.underlying22
  a31 := Tryz.isAgg22
  z31 := Tryz.sizeOf22
  v31 := Tryz.zeroValue22 }
open Go.Lib in
/-- slices.Index at []string: "Index returns the index of the first occurrence of v in s, or -1 if not present.": IT RETURNS 'Lib.idxOfS (the elements) v'; the world is as it was. 'zs': what the cells behind the slice's address hold (its spare capacity too, if you have it); 'zs.take n': its elements. (LAID: no walk: one application.) -/
theorem Tryz.slices_Index_string (b off n c : Nat) (zs : List ByteArray) (x : ByteArray) (w : World) (hz : n ≤ zs.length) (hbig : n ≤ 9223372036854775807) (hc : ∀ j, j < zs.length → w.cell? ⟨b, off + j, none⟩ = some (.string (zs.getD j ByteArray.empty))) :
    Calls Tryz.prog 49 #[.slice (some ⟨b, off, none⟩) n c, .string x] w fun e w' => e = .returned (.int .i64 (Lib.idxOfS (zs.take n) x)) ∧ w' = w := Any.slices_Index_string Tryz.lays109 b off n c zs x w hz hbig hc
open Go.Lib in
/-- The same at a slice of length 0, a nil one too: no cell is known, none is asked for. (LAID: no walk: one application.) -/
theorem Tryz.slices_Index_string_empty (a : Option Addr) (c : Nat) (x : ByteArray) (w : World) :
    Calls Tryz.prog 49 #[.slice a 0 c, .string x] w fun e w' => e = .returned (.int .i64 (Lib.idxOfS [] x)) ∧ w' = w := Any.slices_Index_string_empty Tryz.lays109 a c x w
def Tryz.lays110_ren : Go.Shelf.Ren := ⟨fun | 110 => 27 | 109 => 49 | n => n, fun | 31 => 22 | 9 => 9 | 4 => 4 | 3 => 3 | 0 => 0 | n => n, fun | n => n⟩
theorem Tryz.lays110 : Go.Proofs.Lays.n110 Tryz.prog Tryz.lays110_ren := {
  mixed := by kernel_rfl
  f109 := Tryz.func49.trans (congrArg some (by kernel_rfl))
  f110 := Tryz.func27.trans (congrArg some (by kernel_rfl))
  t0 := Tryz.underlying0
  a0 := Tryz.isAgg0
  z0 := Tryz.sizeOf0
  v0 := Tryz.zeroValue0
  t3 := Tryz.underlying3
  a3 := Tryz.isAgg3
  z3 := Tryz.sizeOf3
  v3 := Tryz.zeroValue3
  t4 := Tryz.underlying4
  a4 := Tryz.isAgg4
  z4 := Tryz.sizeOf4
  v4 := Tryz.zeroValue4
  t9 := Tryz.underlying9
  a9 := Tryz.isAgg9
  z9 := Tryz.sizeOf9
  v9 := Tryz.zeroValue9
  t31 := Tryz.underlying22
  a31 := Tryz.isAgg22
  z31 := Tryz.sizeOf22
  v31 := Tryz.zeroValue22 }
open Go.Lib in
/-- slices.Contains at []string: "Contains reports whether v is present in s.": IT RETURNS 'Lib.containsS (the elements) v', which is true just where v is among them ('Lib.containsS_iff'); the world is as it was. ITS CALLEE slices.Index IS MET BY ITS OWN CONTRACT OFF THE SHELF (lay that first): no loop is walked here. (LAID: no walk: one application.) -/
theorem Tryz.slices_Contains_string (b off n c : Nat) (zs : List ByteArray) (x : ByteArray) (w : World) (hz : n ≤ zs.length) (hbig : n ≤ 9223372036854775807) (hc : ∀ j, j < zs.length → w.cell? ⟨b, off + j, none⟩ = some (.string (zs.getD j ByteArray.empty))) :
    Calls Tryz.prog 27 #[.slice (some ⟨b, off, none⟩) n c, .string x] w fun e w' => e = .returned (.bool (Lib.containsS (zs.take n) x)) ∧ w' = w := Any.slices_Contains_string Tryz.lays110 b off n c zs x w hz hbig hc
open Go.Lib in
/-- The same at a slice of length 0, a nil one too. (LAID: no walk: one application.) -/
theorem Tryz.slices_Contains_string_empty (a : Option Addr) (c : Nat) (x : ByteArray) (w : World) :
    Calls Tryz.prog 27 #[.slice a 0 c, .string x] w fun e w' => e = .returned (.bool false) ∧ w' = w := Any.slices_Contains_string_empty Tryz.lays110 a c x w
end Go.Proofs
namespace Go.Proofs.YteijjaddlkedbaaGreat
open Go.RowKit Go.Maps

set_option maxRecDepth 100000 in
theorem isName_any (s : ByteArray) (w : World) : Calls Tryz.prog 33 #[.string s] w fun e w' => e = .returned (.bool (nameB s)) ∧ w' = w := by
  by_cases h0 : s.size = 0
  · obtain rfl := size_zero h0
    go_enter Tryz.func33, Tryz.ntmps33
    go_wp2
    go_ret
    exact ⟨ret_bool rfl, rfl⟩
  · have hne : ¬ s = ⟨#[]⟩ := fun e => h0 (by rw [e]; rfl)
    have hl : ¬ s.toList = [] := fun e => h0 (by
      rw [ByteArray.toList_eq] at e
      have := congrArg List.length e
      rw [Array.length_toList] at this
      exact this)
    have hle : s.toList.isEmpty = false := by
      cases e : s.toList with
      | nil => exact absurd e hl
      | cons a b => rfl
    have HLE : Hid (s.toList.isEmpty = false) := hle
    clear hle
    by_cases h16 : s.size ≤ 16
    · have i1 : (s.size : Int) ≤ 16 := by omega
      go_enter Tryz.func33, Tryz.ntmps33
      go_wp2_with fail
      refine (Tryz.strings_Contains_one s 0 w).mono ?_
      rintro _ w9 ⟨rfl, h9⟩
      obtain rfl := h9.symm
      clear h9
      obtain ⟨c, hc⟩ : ∃ c, decide (0 ≤ Lib.indexByte s.data.toList 0) = c := ⟨_, rfl⟩
      rw [hc]
      have HC : Hid (nameB s = !c) := by
        show nameB s = _
        unfold nameB
        rw [hc]
        simp [h16]
        omega
      clear hc
      go_wp2
      go_ret
      exact ⟨ret_bool (by rw [HC.out, HLE.out]; rfl), rfl⟩
    · have i1 : ¬ (s.size : Int) ≤ 16 := by omega
      go_enter Tryz.func33, Tryz.ntmps33
      go_wp2
      go_ret
      exact ⟨ret_bool (by unfold nameB; simp [h16]), rfl⟩
end Go.Proofs.YteijjaddlkedbaaGreat
namespace Go.Proofs.YteijjaddlkedbaaGreat
open Go.RowKit Go.Maps

theorem has_any {B : Nat} {vi : Value} {l : List ByteArray} (x : ByteArray) (w : World) (h : NRow B vi l w) : Calls Tryz.prog 27 #[vi, .string x] w fun e w' => e = .returned (.bool (Lib.containsS l x)) ∧ w' = w := by
  by_cases h0 : l.length = 0
  · obtain rfl := List.length_eq_zero_iff.1 h0
    obtain ⟨a, c, e⟩ := row_slice h
    rw [e]
    exact (Tryz.slices_Contains_string_empty a c x w).mono (fun e w' ⟨h1, h2⟩ => ⟨h1, h2⟩)
  · obtain ⟨g, cap, rfl, _, _⟩ := World.ownsRow.form h (by omega)
    have hm : l.length ≤ 9223372036854775807 := by
      rcases h.2 with ⟨e, _⟩ | ⟨_, _, _, e, _, _, h4, h5, _⟩
      · cases e
      · cases e; simp only [maxLen] at h5; omega
    have := Tryz.slices_Contains_string g 0 l.length cap l x w (Nat.le_refl _) hm (fun j hj => by
      rw [Nat.zero_add, World.ownsRow.cellAt h j (by omega), List.getElem?_map, List.getElem?_eq_getElem hj, List.getD_eq_getElem?_getD, List.getElem?_eq_getElem hj]
      rfl)
    rw [List.take_length] at this
    exact this
theorem URow.drew {B : Nat} {v : Value} {l : List UInt8} {w : World} (h : URow B v l w) : URow B v l w.drew := World.ownsRow.drew h
def headL (id : Nat) : List UInt8 := [byteI (id : Int), 0, 0, 0, 0, 0, 0, 0, 1]
theorem info5b : ∃ i0 : TypeInfo, Tryz.prog.info? 5 = some i0 ∧ i0.zero = some (.int .u8 0) ∧ i0.size = 1 ∧ i0.bytes = 1 := by
  have h : (Tryz.prog.info? 5).map (fun i => (i.zero, i.size, i.bytes)) = some (some (.int .u8 0), 1, 1) := by kernel_rfl
  cases hq : Tryz.prog.info? 5 with
  | none => rw [hq] at h; simp at h
  | some i => rw [hq] at h; simp at h; exact ⟨i, rfl, h.1, h.2.1, h.2.2⟩
/-- what headPair keeps -/
structure Hp (w0 : World) (xs : List Value) (b : Value) (l : List UInt8) (w : World) : Prop where
  row : URow (w0.heap.size + 2) b l w
  box : VarN w0.heap.size xs w
  res : VarN (w0.heap.size + 1) [.string ⟨#[]⟩, .string ⟨#[]⟩] w
  below : Below w0.heap.size w0 w
theorem Hp.step {w wr w' : World} {xs : List Value} {b v' : Value} {l : List UInt8} (h : Hp w xs b l wr) (x : UInt8) (hO : w'.ownsRow (w.heap.size + 2) 5 1 v' (l.length + 1) (u8s l ++ [.int .u8 (x.toNat : Nat)])) (hG : (wr.alloc (.cells #[.int .u8 (x.toNat : Nat)] 5)).grownBy w' b.ownBlock) : Hp w xs v' (l ++ [x]) w' := by
  have hn : ∀ k, b.ownBlock = some k → w.heap.size + 2 ≤ k := fun k e => (World.ownsRow.lt h.row k e).1
  have hb : Below wr.heap.size wr (wr.alloc (.cells #[.int .u8 (x.toNat : Nat)] 5)) := (Below.refl _ _).alloc (Nat.le_refl _) _
  have h1 := h.box.below hb
  have h2 := h.res.below hb
  refine ⟨?_, h1.block (hG.block _ h1.lt (fun e => by have := hn _ e.symm; omega)), h2.block (hG.block _ h2.lt (fun e => by have := hn _ e.symm; omega)), (h.below.alloc h.below.size _).grown hG (by have := h.below.size; simp; omega) (fun k e => by have := hn k e; omega)⟩
  show World.ownsRow _ _ _ _ _ _ _
  rw [List.length_append, show u8s (l ++ [x]) = u8s l ++ u8s [x] from List.map_append]
  exact hO
set_option maxRecDepth 100000 in
set_option maxHeartbeats 1000000 in
theorem headPair_any (nm : ByteArray) (id : Nat) (hid : id < 256) (hnm : nm.size ≤ 1000) (a1 a2 : Option Addr) (l1 c1 l2 c2 : Nat) (w : World) :
    Calls Tryz.prog 40 #[.agg #[.int .i64 (id : Nat), .int .i64 1, .string nm, .slice a1 l1 c1, .slice a2 l2 c2]] w fun e w' => e = .returned (.agg #[.string (startB nm), .string (headI id)]) ∧ Below w.heap.size w w' := by
  have hw : (id : Int) % 256 = (id : Int) := by omega
  obtain ⟨W1, hW1⟩ : ∃ W1, (w.alloc (.cells #[.int .i64 (id : Nat), .int .i64 1, .string nm, .slice a1 l1 c1, .slice a2 l2 c2] 52)).alloc (.cells #[.string ⟨#[]⟩, .string ⟨#[]⟩] 89) = W1 := ⟨_, rfl⟩
  have hs1 : W1.heap.size = w.heap.size + 2 := by rw [← hW1]; simp
  have hb1 : Below w.heap.size w W1 := by rw [← hW1]; exact ((Below.refl _ w).alloc (Nat.le_refl _) _).alloc (by simp) _
  have hv1 : VarN w.heap.size [.int .i64 (id : Nat), .int .i64 1, .string nm, .slice a1 l1 c1, .slice a2 l2 c2] W1 := by rw [← hW1]; exact (VarN.new w #[.int .i64 (id : Nat), .int .i64 1, .string nm, .slice a1 l1 c1, .slice a2 l2 c2] 52 (by simp)).below ((Below.refl _ _).alloc (Nat.le_refl _) _)
  have hv2 : VarN (w.heap.size + 1) [.string ⟨#[]⟩, .string ⟨#[]⟩] W1 := by
    have := VarN.new (w.alloc (.cells #[.int .i64 (id : Nat), .int .i64 1, .string nm, .slice a1 l1 c1, .slice a2 l2 c2] 52)) #[.string ⟨#[]⟩, .string ⟨#[]⟩] 89 (by simp)
    rw [World.size_alloc, hW1] at this
    exact this
  have HP : Hid (Hp w [.int .i64 (id : Nat), .int .i64 1, .string nm, .slice a1 l1 c1, .slice a2 l2 c2] (.slice (some ⟨w.heap.size + 2, 0, none⟩) 1 1) ((headL id).take 1) (W1.alloc (.cells #[.int .u8 (id : Nat)] 5))) := by
    have hb : Below W1.heap.size W1 (W1.alloc (.cells #[.int .u8 (id : Nat)] 5)) := (Below.refl _ _).alloc (Nat.le_refl _) _
    refine ⟨?_, hv1.below hb, hv2.below hb, hb1.trans (hb.mono hb1.size)⟩
    have := World.ownsRow_lit (base := w.heap.size + 2) (e := 5) (size := 1) W1 #[.int .u8 (id : Nat)] 1 (by omega) (by decide) rfl
    show World.ownsRow _ _ _ _ _ _ _
    have e : u8s ((headL id).take 1) = [.int .u8 (id : Nat)] := by
      show [Value.int .u8 ((byteI (id : Int)).toNat : Nat)] = _
      rw [byteI_small hid]
    rw [e, ← hs1]
    rw [← hs1] at this
    exact this
  obtain ⟨q0, q1, q2, q3, q4⟩ := hv1.c5
  obtain ⟨i0, hi, hz0, hz1, hz2⟩ := info5b
  clear hv1 hv2 hb1
  go_enter Tryz.func40, Tryz.ntmps40
  go_wp2_with fail
  clear q0 q1 q2 q3 q4 hW1
  go_loopw [3, 4] (fun b s wr => ∃ j : Nat, j ≤ 8 ∧ s = .int .i64 (56 - 8 * (j : Int)) ∧ Hid (Hp w [.int .i64 (id : Nat), .int .i64 1, .string nm, .slice a1 l1 c1, .slice a2 l2 c2] b ((headL id).take (j + 1)) wr)) (fun _ s _ => (intOf s + 9).toNat)
  case atStart => exact ⟨0, Nat.zero_le _, rfl, HP⟩
  case round =>
    clear HP
    obtain ⟨j, hj, rfl, HP⟩ := hrel
    obtain ⟨q0, q1, q2, q3, q4⟩ := HP.out.box.c5
    have hcase : j = 0 ∨ j = 1 ∨ j = 2 ∨ j = 3 ∨ j = 4 ∨ j = 5 ∨ j = 6 ∨ j = 7 ∨ j = 8 := by omega
    rcases hcase with rfl | rfl | rfl | rfl | rfl | rfl | rfl | rfl | rfl
    · have HO2 : Hid _ := World.ownsRow.alloc HP.out.row (.cells #[.int .u8 0] 5)
      have hll : (List.take (0 + 1) (headL id)).length = 1 := rfl
      go_wp2_with (at_builtin; refine wpList_append_own _ rfl _ _ 123 rfl (w.heap.size + 2) 5 i0 (.int .u8 0) 1 1 Tryz.underlying123 hi hz0 hz1 hz2 rfl (by decide) _ _ _ rfl HO2.out ⟨wr.heap.size, 0, none⟩ 1 1 [.int .u8 0] rfl rfl (news_oneV wr _ 5) (by intro u hu; simp at hu; subst hu; rfl) (by rw [hll]; decide) (by rw [hll]; decide) (by have := HP.out.res.lt; rw [World.size_alloc]; omega) ?_; intro v' w' hO hG hN)
      exact ⟨⟨1, by decide, by rfl, HP.out.step 0 hO hG⟩, by decide⟩
    · have HO2 : Hid _ := World.ownsRow.alloc HP.out.row (.cells #[.int .u8 0] 5)
      have hll : (List.take (1 + 1) (headL id)).length = 2 := rfl
      go_wp2_with (at_builtin; refine wpList_append_own _ rfl _ _ 123 rfl (w.heap.size + 2) 5 i0 (.int .u8 0) 1 1 Tryz.underlying123 hi hz0 hz1 hz2 rfl (by decide) _ _ _ rfl HO2.out ⟨wr.heap.size, 0, none⟩ 1 1 [.int .u8 0] rfl rfl (news_oneV wr _ 5) (by intro u hu; simp at hu; subst hu; rfl) (by rw [hll]; decide) (by rw [hll]; decide) (by have := HP.out.res.lt; rw [World.size_alloc]; omega) ?_; intro v' w' hO hG hN)
      exact ⟨⟨2, by decide, by rfl, HP.out.step 0 hO hG⟩, by decide⟩
    · have HO2 : Hid _ := World.ownsRow.alloc HP.out.row (.cells #[.int .u8 0] 5)
      have hll : (List.take (2 + 1) (headL id)).length = 3 := rfl
      go_wp2_with (at_builtin; refine wpList_append_own _ rfl _ _ 123 rfl (w.heap.size + 2) 5 i0 (.int .u8 0) 1 1 Tryz.underlying123 hi hz0 hz1 hz2 rfl (by decide) _ _ _ rfl HO2.out ⟨wr.heap.size, 0, none⟩ 1 1 [.int .u8 0] rfl rfl (news_oneV wr _ 5) (by intro u hu; simp at hu; subst hu; rfl) (by rw [hll]; decide) (by rw [hll]; decide) (by have := HP.out.res.lt; rw [World.size_alloc]; omega) ?_; intro v' w' hO hG hN)
      exact ⟨⟨3, by decide, by rfl, HP.out.step 0 hO hG⟩, by decide⟩
    · have HO2 : Hid _ := World.ownsRow.alloc HP.out.row (.cells #[.int .u8 0] 5)
      have hll : (List.take (3 + 1) (headL id)).length = 4 := rfl
      go_wp2_with (at_builtin; refine wpList_append_own _ rfl _ _ 123 rfl (w.heap.size + 2) 5 i0 (.int .u8 0) 1 1 Tryz.underlying123 hi hz0 hz1 hz2 rfl (by decide) _ _ _ rfl HO2.out ⟨wr.heap.size, 0, none⟩ 1 1 [.int .u8 0] rfl rfl (news_oneV wr _ 5) (by intro u hu; simp at hu; subst hu; rfl) (by rw [hll]; decide) (by rw [hll]; decide) (by have := HP.out.res.lt; rw [World.size_alloc]; omega) ?_; intro v' w' hO hG hN)
      exact ⟨⟨4, by decide, by rfl, HP.out.step 0 hO hG⟩, by decide⟩
    · have HO2 : Hid _ := World.ownsRow.alloc HP.out.row (.cells #[.int .u8 0] 5)
      have hll : (List.take (4 + 1) (headL id)).length = 5 := rfl
      go_wp2_with (at_builtin; refine wpList_append_own _ rfl _ _ 123 rfl (w.heap.size + 2) 5 i0 (.int .u8 0) 1 1 Tryz.underlying123 hi hz0 hz1 hz2 rfl (by decide) _ _ _ rfl HO2.out ⟨wr.heap.size, 0, none⟩ 1 1 [.int .u8 0] rfl rfl (news_oneV wr _ 5) (by intro u hu; simp at hu; subst hu; rfl) (by rw [hll]; decide) (by rw [hll]; decide) (by have := HP.out.res.lt; rw [World.size_alloc]; omega) ?_; intro v' w' hO hG hN)
      exact ⟨⟨5, by decide, by rfl, HP.out.step 0 hO hG⟩, by decide⟩
    · have HO2 : Hid _ := World.ownsRow.alloc HP.out.row (.cells #[.int .u8 0] 5)
      have hll : (List.take (5 + 1) (headL id)).length = 6 := rfl
      go_wp2_with (at_builtin; refine wpList_append_own _ rfl _ _ 123 rfl (w.heap.size + 2) 5 i0 (.int .u8 0) 1 1 Tryz.underlying123 hi hz0 hz1 hz2 rfl (by decide) _ _ _ rfl HO2.out ⟨wr.heap.size, 0, none⟩ 1 1 [.int .u8 0] rfl rfl (news_oneV wr _ 5) (by intro u hu; simp at hu; subst hu; rfl) (by rw [hll]; decide) (by rw [hll]; decide) (by have := HP.out.res.lt; rw [World.size_alloc]; omega) ?_; intro v' w' hO hG hN)
      exact ⟨⟨6, by decide, by rfl, HP.out.step 0 hO hG⟩, by decide⟩
    · have HO2 : Hid _ := World.ownsRow.alloc HP.out.row (.cells #[.int .u8 0] 5)
      have hll : (List.take (6 + 1) (headL id)).length = 7 := rfl
      go_wp2_with (at_builtin; refine wpList_append_own _ rfl _ _ 123 rfl (w.heap.size + 2) 5 i0 (.int .u8 0) 1 1 Tryz.underlying123 hi hz0 hz1 hz2 rfl (by decide) _ _ _ rfl HO2.out ⟨wr.heap.size, 0, none⟩ 1 1 [.int .u8 0] rfl rfl (news_oneV wr _ 5) (by intro u hu; simp at hu; subst hu; rfl) (by rw [hll]; decide) (by rw [hll]; decide) (by have := HP.out.res.lt; rw [World.size_alloc]; omega) ?_; intro v' w' hO hG hN)
      exact ⟨⟨7, by decide, by rfl, HP.out.step 0 hO hG⟩, by decide⟩
    · have HO2 : Hid _ := World.ownsRow.alloc HP.out.row (.cells #[.int .u8 1] 5)
      have hll : (List.take (7 + 1) (headL id)).length = 8 := rfl
      go_wp2_with (at_builtin; refine wpList_append_own _ rfl _ _ 123 rfl (w.heap.size + 2) 5 i0 (.int .u8 0) 1 1 Tryz.underlying123 hi hz0 hz1 hz2 rfl (by decide) _ _ _ rfl HO2.out ⟨wr.heap.size, 0, none⟩ 1 1 [.int .u8 1] rfl rfl (news_oneV wr _ 5) (by intro u hu; simp at hu; subst hu; rfl) (by rw [hll]; decide) (by rw [hll]; decide) (by have := HP.out.res.lt; rw [World.size_alloc]; omega) ?_; intro v' w' hO hG hN)
      exact ⟨⟨8, by decide, by rfl, HP.out.step 1 hO hG⟩, by decide⟩
    · have hcv : (convert 123 9 u3).run Tryz.prog wr.drew = .ok (.string (headI id)) wr.drew := text_of (l := headL id) (URow.drew HP.out.row) (by simp [headL])
      have S0 : Hid (wr.drew.cell? ⟨w.heap.size, 2, none⟩ = some (.string nm) ∧ (convert 123 9 u3).run Tryz.prog wr.drew = .ok (.string (headI id)) wr.drew) := ⟨q2, hcv⟩
      have f0 := HP.out.res.free 0
      have f1 := HP.out.res.free 1
      have d0 := HP.out.res.cell 0 (by simp)
      have d1 := HP.out.res.cell 1 (by simp)
      clear q0 q1 q2 q3 q4 hcv
      go_wp2_with fail
      refine wp_region_late (S := fun wx => wx.cell? ⟨w.heap.size, 2, none⟩ = some (.string nm) ∧ (convert 123 9 u3).run Tryz.prog wx = .ok (.string (headI id)) wx) (js := 7) (by kernel_rfl) (S0.out) ?_
      intro g0
      refine wpAnyL_take (i := 0) (oi := { dst := some 21, op := Op.fieldAddr 52 (Operand.tmp 1) 2, type := 0, pos := "pair.go:41", after := #[], guard := none }) (v := .pointer (some ⟨w.heap.size, 2, none⟩)) rfl (by kernel_rfl) (by kernel_rfl) (by kernel_rfl) (fun _ _ _ h => h) (by decide) (by kernel_rfl) (Or.inl ⟨by rfl, fun wx _ => by go_simp⟩) g0 ?_
      simp only [Act.put, List.setIfInBounds_toArray, List.set_cons_zero, List.set_cons_succ]
      refine wpAnyL_take (i := 1) (oi := { dst := some 22, op := Op.fieldAddr 46 (Operand.tmp 21) 0, type := 0, pos := "pair.go:41", after := #[{ on := 0, ground := Ground.data }], guard := none }) (v := .pointer (some ⟨w.heap.size, 2, none⟩)) rfl (by kernel_rfl) (by kernel_rfl) (by kernel_rfl) (fun _ _ _ h => h) (by decide) (by kernel_rfl) (Or.inl ⟨by rfl, fun wx _ => by go_simp⟩) g0 ?_
      simp only [Act.put, List.setIfInBounds_toArray, List.set_cons_zero, List.set_cons_succ]
      refine wpAnyL_take (i := 2) (oi := { dst := some 23, op := Op.load 9 (Operand.tmp 22), type := 9, pos := "pair.go:41", after := #[{ on := 1, ground := Ground.data }], guard := none }) (v := .string nm) rfl (by kernel_rfl) (by kernel_rfl) (by kernel_rfl) (fun _ _ _ h => h) (by decide) (by kernel_rfl) (Or.inl ⟨by rfl, fun wx h => by have h8 := h.1; go_simp⟩) g0 ?_
      simp only [Act.put, List.setIfInBounds_toArray, List.set_cons_zero, List.set_cons_succ]
      refine wpAnyL_take (i := 4) (oi := { dst := some 25, op := Op.move (Operand.tmp 3), type := 123, pos := "pair.go:41", after := #[], guard := none }) (v := u3) rfl (by kernel_rfl) (by kernel_rfl) (by kernel_rfl) (fun _ _ _ h => h) (by decide) (by kernel_rfl) (Or.inl ⟨by rfl, fun wx _ => by go_simp⟩) g0 ?_
      simp only [Act.put, List.setIfInBounds_toArray, List.set_cons_zero, List.set_cons_succ]
      refine wpAnyL_take (i := 5) (oi := { dst := some 26, op := Op.convert 123 9 (Operand.tmp 25), type := 9, pos := "pair.go:41", after := #[{ on := 4, ground := Ground.data }], guard := none }) (v := .string (headI id)) rfl (by kernel_rfl) (by kernel_rfl) (by kernel_rfl) (fun _ _ _ h => h) (by decide) (by kernel_rfl) (Or.inl ⟨by rfl, fun wx h => by have h8 := h.2; go_simp⟩) g0 ?_
      simp only [Act.put, List.setIfInBounds_toArray, List.set_cons_zero, List.set_cons_succ]
      refine wpAnyL_one (i := 3) (o := { dst := some 24, op := Op.call { callee := Callee.value (Operand.func 24), args := #[Operand.tmp 23], argTypes := #[9] }, type := 9, pos := "pair.go:41", after := #[{ on := 2, ground := Ground.data }], guard := none }) (by kernel_rfl) rfl (by decide) (by rfl) (fun K hK => ?_)
      go_simp
      refine (start_any nm (by omega) _).mono ?_
      rintro _ w9 ⟨rfl, h9⟩
      obtain rfl := h9.symm
      clear h9
      refine hK.out _ _ (g0) (fun g1 => ?_)
      clear hK K
      try simp only [Act.put, List.setIfInBounds_toArray, List.set_cons_zero, List.set_cons_succ]
      refine wpAnyL_take (i := 6) (oi := { dst := some 27, op := Op.build 89 #[(0, Operand.tmp 24), (1, Operand.tmp 26)], type := 89, pos := "pair.go:41", after := #[{ on := 3, ground := Ground.data }, { on := 5, ground := Ground.data }], guard := none }) (v := .agg #[.string (startB nm), .string (headI id)]) rfl (by kernel_rfl) (by kernel_rfl) (by kernel_rfl) (fun _ _ _ h => h) (by decide) (by kernel_rfl) (Or.inl ⟨by rfl, fun wx _ => by go_simp⟩) g1 ?_
      simp only [Act.put, List.setIfInBounds_toArray, List.set_cons_zero, List.set_cons_succ]
      refine wpAnyL_last (o := { dst := none, op := Op.store 89 (Operand.tmp 2) (Operand.tmp 27), type := 0, pos := "pair.go:41", after := #[{ on := 6, ground := Ground.data }, { on := 3, ground := Ground.chain }, { on := 0, ground := Ground.phase }, { on := 1, ground := Ground.phase }, { on := 2, ground := Ground.phase }, { on := 3, ground := Ground.phase }, { on := 4, ground := Ground.phase }, { on := 5, ground := Ground.phase }, { on := 6, ground := Ground.phase }], guard := none }) (by kernel_rfl) (by kernel_rfl) rfl (by rfl) (fun K hK => ?_)
      go_simp
      refine hK.out _ _ ?_
      clear hK K
      try simp only [Act.put, List.setIfInBounds_toArray, List.set_cons_zero, List.set_cons_succ]
      go_wp2
      exact bodyPost_ret (v := .agg #[.string (startB nm), .string (headI id)]) (results_cell_of Tryz.results40 _ _ _ rfl (load89 ((HP.out.res.drew.set 0 _).set 1 _))) rfl ⟨rfl, (HP.out.below.drew.setCell (Nat.le_succ _) _).setCell (Nat.le_succ _) _⟩
end Go.Proofs.YteijjaddlkedbaaGreat
namespace Go.Proofs.YteijjaddlkedbaaGreat
open Go.RowKit Go.Maps

theorem row_set2 {B g : Nat} {e : TypeId} {size n : Nat} {v u1 u2 : Value} {xs : List Value} {o1 o2 : Nat} {w : World} (h : w.ownsRow B e size v n xs) (hg : v.ownBlock ≠ some g) : ((w.setCell ⟨g, o1, none⟩ u1).setCell ⟨g, o2, none⟩ u2).ownsRow B e size v n xs := by
  have hG : ∀ (w : World) (o : Nat) (u : Value), w.grownBy (w.setCell ⟨g, o, none⟩ u) (some g) := fun w o u => ⟨rfl, rfl, rfl, by simp, fun k _ hk => heap_setCell_other w ⟨g, o, none⟩ k u (fun e => hk (by simp [e]))⟩
  exact World.ownsRow.kept (World.ownsRow.kept h (hG _ _ _) (.inr hg)) (hG _ _ _) (.inr hg)
theorem urow_one (w : World) (x : UInt8) {v : Int} (hv : v = (x.toNat : Int)) : URow 0 (.slice (some ⟨w.heap.size, 0, none⟩) 1 1) [x] (w.alloc (.cells #[.int .u8 v] 5)) := by
  subst hv
  exact World.ownsRow_lit (base := 0) (e := 5) (size := 1) w #[.int .u8 (x.toNat : Nat)] 1 (Nat.zero_le _) (by decide) rfl
theorem urow_four (w : World) (a b c d : UInt8) {p q r s : Int} (h1 : p = (a.toNat : Int)) (h2 : q = (b.toNat : Int)) (h3 : r = (c.toNat : Int)) (h4 : s = (d.toNat : Int)) : URow 0 (.slice (some ⟨w.heap.size, 0, none⟩) 4 4) [a, b, c, d] (w.alloc (.cells #[.int .u8 p, .int .u8 q, .int .u8 r, .int .u8 s] 5)) := by
  subst h1 h2 h3 h4
  exact World.ownsRow_lit (base := 0) (e := 5) (size := 1) w #[.int .u8 (a.toNat : Nat), .int .u8 (b.toNat : Nat), .int .u8 (c.toNat : Nat), .int .u8 (d.toNat : Nat)] 4 (Nat.zero_le _) (by decide) rfl
set_option maxRecDepth 100000 in
set_option maxHeartbeats 4000000 in
theorem columnPair_any {B Bi i : Nat} {vc : Value} {ai : Option Addr} {li ci : Nat} {cs : List Col} {is_ : List ByteArray} (nm : ByteArray) (w : World) (h : CRow B vc cs w) (hi : NRow Bi (.slice ai li ci) is_ w) (hil : i < cs.length) (h6 : i < 200) (hnm : nm.size ≤ 1000) (hk : cs[i].kd < 256) (hcn : cs[i].nm.size ≤ 1000) (hix : Lib.containsS is_ cs[i].nm = cs[i].ix) :
    Calls Tryz.prog 28 #[.agg #[.string nm, vc, .slice ai li ci], .int .i64 (i : Nat)] w fun e w' => e = .returned (.agg #[.string (colK nm i), .string (colI cs[i])]) ∧ Below w.heap.size w w' := by
  obtain ⟨g, cap, hv, hg1, hg2, k0, k1, k2, k3, hix0⟩ := h.at hil
  obtain ⟨n, hn⟩ : ∃ n, cs.length = n := ⟨_, rfl⟩
  rw [hn] at hv hil
  have hixx := hix0 n hil
  subst hv
  obtain ⟨c, hc⟩ : ∃ c, cs[i] = c := ⟨_, rfl⟩
  rw [hc] at k0 k1 k2 k3 hix hk hcn
  rw [hc]
  obtain ⟨W3, hW3⟩ : ∃ W3, ((w.alloc (.cells #[.string nm, .slice (some ⟨g, 0, none⟩) n cap, .slice ai li ci] 46)).alloc (.cells #[.string ⟨#[]⟩, .string ⟨#[]⟩] 89)).alloc (.cells #[.string c.nm, .int .i64 (c.kd : Nat), .bool c.mu, .bool c.wo] 43) = W3 := ⟨_, rfl⟩
  have hb3 : Below w.heap.size w W3 := by rw [← hW3]; exact (((Below.refl _ w).alloc (Nat.le_refl _) _).alloc (by simp) _).alloc (by simp; omega) _
  have v2 : VarN w.heap.size [.string nm, .slice (some ⟨g, 0, none⟩) n cap, .slice ai li ci] W3 := by
    rw [← hW3]
    exact ((VarN.new w #[.string nm, .slice (some ⟨g, 0, none⟩) n cap, .slice ai li ci] 46 (by simp)).below ((Below.refl _ _).alloc (Nat.le_refl _) _)).below ((Below.refl _ _).alloc (Nat.le_refl _) _)
  have v4 : VarN (w.heap.size + 1) [.string ⟨#[]⟩, .string ⟨#[]⟩] W3 := by
    have := (VarN.new (w.alloc (.cells #[.string nm, .slice (some ⟨g, 0, none⟩) n cap, .slice ai li ci] 46)) #[.string ⟨#[]⟩, .string ⟨#[]⟩] 89 (by simp)).below ((Below.refl _ _).alloc (Nat.le_refl _) (.cells #[.string c.nm, .int .i64 (c.kd : Nat), .bool c.mu, .bool c.wo] 43))
    rw [World.size_alloc, hW3] at this
    exact this
  have v5 : VarN (w.heap.size + 1 + 1) [.string c.nm, .int .i64 (c.kd : Nat), .bool c.mu, .bool c.wo] W3 := by
    have := VarN.new ((w.alloc (.cells #[.string nm, .slice (some ⟨g, 0, none⟩) n cap, .slice ai li ci] 46)).alloc (.cells #[.string ⟨#[]⟩, .string ⟨#[]⟩] 89)) #[.string c.nm, .int .i64 (c.kd : Nat), .bool c.mu, .bool c.wo] 43 (by simp)
    rw [World.size_alloc, World.size_alloc, hW3] at this
    exact this
  have HI3 : Hid (NRow Bi (.slice ai li ci) is_ W3.drew) := (hi.below hb3).below (Below.refl _ _).drew
  have HB3 : Hid _ := hb3
  have HS3 : Hid (w.heap.size + 1 < W3.heap.size) := v4.lt
  have s0 : VarN (w.heap.size + 1 + 1) [.string c.nm, .int .i64 (c.kd : Nat), .bool c.mu, .bool c.wo] W3.drew ∧ VarN (w.heap.size) [.string nm, .slice (some ⟨g, 0, none⟩) n cap, .slice ai li ci] W3.drew := ⟨v5.drew, v2.drew⟩
  have HV4 : Hid _ := v4
  have HKW : Hid (IntKind.u8.wrap (c.kd : Int) = (c.kd : Int)) := by show _ = _; rw [wrap_u8]; omega
  have HIX : Hid _ := hix
  have HKB : Hid ((c.kd : Int) = ((byteI (c.kd : Int)).toNat : Int)) := by show _ = _; rw [byteI_small hk]
  have HIW : Hid (IntKind.i64.wrap ((i : Int) + 1) = (i : Int) + 1) := wraps_i64 _ (by omega) (by omega)
  have HIU : Hid (IntKind.u8.wrap ((i : Int) + 1) = (i : Int) + 1) := by show _ = _; rw [wrap_u8]; omega
  have HIB : Hid ((i : Int) + 1 = ((byteI ((i : Int) + 1)).toNat : Int)) := by show _ = _; rw [byteI_succ (by omega)]; simp
  have HS1 : Hid (Op.stringOp .add (startB nm) ⟨#[byteI ((i : Int) + 1)]⟩ = pure (.string (colK nm i))) := str_long (startB nm) ⟨#[byteI ((i : Int) + 1)]⟩ (by rw [startB_size]; show nm.size + 1 + 1 ≤ _; omega)
  have HS2 : Hid (Op.stringOp .add ⟨#[byteI (c.kd : Int), markU c.mu, markU c.wo, markU c.ix]⟩ c.nm = pure (.string (colI c))) := str_long _ c.nm (by show 4 + c.nm.size ≤ _; omega)
  clear h hi hb3 v2 v4 v5 hix hix0 hn hc
  go_enter Tryz.func28, Tryz.ntmps28
  go_wp2_with fail
  clear k0 k1 k2 k3 hixx hW3
  refine wp_region_held_drew (S := fun wx => VarN (w.heap.size + 1 + 1) [.string c.nm, .int .i64 (c.kd : Nat), .bool c.mu, .bool c.wo] wx ∧ VarN (w.heap.size) [.string nm, .slice (some ⟨g, 0, none⟩) n cap, .slice ai li ci] wx) (by kernel_rfl) s0 ?_
  intro _
  refine wpAnyH_take (i := 0) (oi := { dst := some 12, op := Op.fieldAddr 43 (Operand.tmp 5) 1, type := 0, pos := "pair.go:47", after := #[], guard := none }) (v := .pointer (some ⟨w.heap.size + 1 + 1, 1, none⟩)) rfl (by kernel_rfl) (by kernel_rfl) (by kernel_rfl) (fun _ _ _ h => h) (Or.inl ⟨by rfl, fun wx _ => by go_simp⟩) s0 ?_
  simp only [Act.put, List.setIfInBounds_toArray, List.set_cons_zero, List.set_cons_succ]
  refine wpAnyH_take (i := 1) (oi := { dst := some 13, op := Op.load 3 (Operand.tmp 12), type := 3, pos := "pair.go:47", after := #[{ on := 0, ground := Ground.data }], guard := none }) (v := .int .i64 (c.kd : Nat)) rfl (by kernel_rfl) (by kernel_rfl) (by kernel_rfl) (fun _ _ _ h => h) (Or.inl ⟨by rfl, fun wx h => by have h8 := h.1.c4.2.1; go_simp⟩) s0 ?_
  simp only [Act.put, List.setIfInBounds_toArray, List.set_cons_zero, List.set_cons_succ]
  refine wpAnyH_take (i := 2) (oi := { dst := some 14, op := Op.convert 3 5 (Operand.tmp 13), type := 5, pos := "pair.go:47", after := #[{ on := 1, ground := Ground.data }], guard := none }) (v := .int .u8 (c.kd : Nat)) rfl (by kernel_rfl) (by kernel_rfl) (by kernel_rfl) (fun _ _ _ h => h) (Or.inl ⟨by rfl, fun wx h => by have h8 := HKW.out; go_simp⟩) s0 ?_
  simp only [Act.put, List.setIfInBounds_toArray, List.set_cons_zero, List.set_cons_succ]
  refine wpAnyH_take (i := 3) (oi := { dst := some 15, op := Op.fieldAddr 43 (Operand.tmp 5) 2, type := 0, pos := "pair.go:47", after := #[], guard := none }) (v := .pointer (some ⟨w.heap.size + 1 + 1, 2, none⟩)) rfl (by kernel_rfl) (by kernel_rfl) (by kernel_rfl) (fun _ _ _ h => h) (Or.inl ⟨by rfl, fun wx _ => by go_simp⟩) s0 ?_
  simp only [Act.put, List.setIfInBounds_toArray, List.set_cons_zero, List.set_cons_succ]
  refine wpAnyH_take (i := 4) (oi := { dst := some 16, op := Op.load 4 (Operand.tmp 15), type := 4, pos := "pair.go:47", after := #[{ on := 3, ground := Ground.data }], guard := none }) (v := .bool c.mu) rfl (by kernel_rfl) (by kernel_rfl) (by kernel_rfl) (fun _ _ _ h => h) (Or.inl ⟨by rfl, fun wx h => by have h8 := h.1.c4.2.2.1; go_simp⟩) s0 ?_
  simp only [Act.put, List.setIfInBounds_toArray, List.set_cons_zero, List.set_cons_succ]
  refine wpAnyH_take (i := 6) (oi := { dst := some 18, op := Op.fieldAddr 43 (Operand.tmp 5) 3, type := 0, pos := "pair.go:47", after := #[], guard := none }) (v := .pointer (some ⟨w.heap.size + 1 + 1, 3, none⟩)) rfl (by kernel_rfl) (by kernel_rfl) (by kernel_rfl) (fun _ _ _ h => h) (Or.inl ⟨by rfl, fun wx _ => by go_simp⟩) s0 ?_
  simp only [Act.put, List.setIfInBounds_toArray, List.set_cons_zero, List.set_cons_succ]
  refine wpAnyH_take (i := 7) (oi := { dst := some 19, op := Op.load 4 (Operand.tmp 18), type := 4, pos := "pair.go:47", after := #[{ on := 6, ground := Ground.data }], guard := none }) (v := .bool c.wo) rfl (by kernel_rfl) (by kernel_rfl) (by kernel_rfl) (fun _ _ _ h => h) (Or.inl ⟨by rfl, fun wx h => by have h8 := h.1.c4.2.2.2; go_simp⟩) s0 ?_
  simp only [Act.put, List.setIfInBounds_toArray, List.set_cons_zero, List.set_cons_succ]
  refine wpAnyH_take (i := 9) (oi := { dst := some 21, op := Op.fieldAddr 46 (Operand.tmp 2) 2, type := 0, pos := "pair.go:47", after := #[], guard := none }) (v := .pointer (some ⟨w.heap.size, 2, none⟩)) rfl (by kernel_rfl) (by kernel_rfl) (by kernel_rfl) (fun _ _ _ h => h) (Or.inl ⟨by rfl, fun wx _ => by go_simp⟩) s0 ?_
  simp only [Act.put, List.setIfInBounds_toArray, List.set_cons_zero, List.set_cons_succ]
  refine wpAnyH_take (i := 10) (oi := { dst := some 22, op := Op.load 22 (Operand.tmp 21), type := 22, pos := "pair.go:47", after := #[{ on := 9, ground := Ground.data }], guard := none }) (v := .slice ai li ci) rfl (by kernel_rfl) (by kernel_rfl) (by kernel_rfl) (fun _ _ _ h => h) (Or.inl ⟨by rfl, fun wx h => by have h8 := h.2.c3.2.2; go_simp⟩) s0 ?_
  simp only [Act.put, List.setIfInBounds_toArray, List.set_cons_zero, List.set_cons_succ]
  refine wpAnyH_take (i := 11) (oi := { dst := some 23, op := Op.fieldAddr 43 (Operand.tmp 5) 0, type := 0, pos := "pair.go:47", after := #[], guard := none }) (v := .pointer (some ⟨w.heap.size + 1 + 1, 0, none⟩)) rfl (by kernel_rfl) (by kernel_rfl) (by kernel_rfl) (fun _ _ _ h => h) (Or.inl ⟨by rfl, fun wx _ => by go_simp⟩) s0 ?_
  simp only [Act.put, List.setIfInBounds_toArray, List.set_cons_zero, List.set_cons_succ]
  refine wpAnyH_take (i := 12) (oi := { dst := some 24, op := Op.load 9 (Operand.tmp 23), type := 9, pos := "pair.go:47", after := #[{ on := 11, ground := Ground.data }], guard := none }) (v := .string c.nm) rfl (by kernel_rfl) (by kernel_rfl) (by kernel_rfl) (fun _ _ _ h => h) (Or.inl ⟨by rfl, fun wx h => by have h8 := h.1.c4.1; go_simp⟩) s0 ?_
  simp only [Act.put, List.setIfInBounds_toArray, List.set_cons_zero, List.set_cons_succ]
  refine wpAnyH_ready (rs := [5]) (by kernel_rfl) (by decide) (AllReadyH.cons (o := { dst := some 17, op := Op.call { callee := Callee.value (Operand.func 50), args := #[Operand.tmp 16], argTypes := #[4] }, type := 5, pos := "pair.go:47", after := #[{ on := 4, ground := Ground.data }], guard := none }) rfl (fun K hK => ?_) AllReadyH.nil)
  rw [if_pos (by rfl)]
  go_simp
  refine (mark_any c.mu _).mono ?_
  rintro _ w9 ⟨rfl, h9⟩
  obtain rfl := h9.symm
  clear h9
  refine hK.out _ _ (s0) (fun _ => ?_)
  clear hK K
  try simp only [Act.put, List.setIfInBounds_toArray, List.set_cons_zero, List.set_cons_succ]
  refine wpAnyH_ready (rs := [8]) (by kernel_rfl) (by decide) (AllReadyH.cons (o := { dst := some 20, op := Op.call { callee := Callee.value (Operand.func 50), args := #[Operand.tmp 19], argTypes := #[4] }, type := 5, pos := "pair.go:47", after := #[{ on := 7, ground := Ground.data }, { on := 5, ground := Ground.chain }], guard := none }) rfl (fun K hK => ?_) AllReadyH.nil)
  rw [if_pos (by rfl)]
  go_simp
  refine (mark_any c.wo _).mono ?_
  rintro _ w9 ⟨rfl, h9⟩
  obtain rfl := h9.symm
  clear h9
  refine hK.out _ _ (s0) (fun _ => ?_)
  clear hK K
  try simp only [Act.put, List.setIfInBounds_toArray, List.set_cons_zero, List.set_cons_succ]
  refine wpAnyH_ready (rs := [13]) (by kernel_rfl) (by decide) (AllReadyH.cons (o := { dst := some 25, op := Op.call { callee := Callee.value (Operand.func 27), args := #[Operand.tmp 22, Operand.tmp 24], argTypes := #[22, 9] }, type := 4, pos := "pair.go:47", after := #[{ on := 10, ground := Ground.data }, { on := 12, ground := Ground.data }, { on := 8, ground := Ground.chain }], guard := none }) rfl (fun K hK => ?_) AllReadyH.nil)
  rw [if_pos (by rfl)]
  go_simp
  refine (has_any c.nm _ HI3.out).mono ?_
  rintro _ w9 ⟨rfl, h9⟩
  obtain rfl := h9.symm
  clear h9
  rw [HIX.out]
  refine hK.out _ _ (s0) (fun _ => ?_)
  clear hK K
  try simp only [Act.put, List.setIfInBounds_toArray, List.set_cons_zero, List.set_cons_succ]
  refine wpAnyH_ready (rs := [14]) (by kernel_rfl) (by decide) (AllReadyH.cons (o := { dst := some 26, op := Op.call { callee := Callee.value (Operand.func 50), args := #[Operand.tmp 25], argTypes := #[4] }, type := 5, pos := "pair.go:47", after := #[{ on := 13, ground := Ground.data }, { on := 13, ground := Ground.chain }], guard := none }) rfl (fun K hK => ?_) AllReadyH.nil)
  rw [if_pos (by rfl)]
  go_simp
  refine (mark_any c.ix _).mono ?_
  rintro _ w9 ⟨rfl, h9⟩
  obtain rfl := h9.symm
  clear h9
  refine hK.out _ _ (s0) (fun _ => ?_)
  clear hK K
  try simp only [Act.put, List.setIfInBounds_toArray, List.set_cons_zero, List.set_cons_succ]
  refine wpAnyH_ready (rs := [15]) (by kernel_rfl) (by decide) (AllReadyH.cons (o := { dst := some 27, op := Op.buildSlice 123 4 #[(0, Operand.tmp 14), (1, Operand.tmp 17), (2, Operand.tmp 20), (3, Operand.tmp 26)], type := 123, pos := "pair.go:47", after := #[{ on := 2, ground := Ground.data }, { on := 5, ground := Ground.data }, { on := 8, ground := Ground.data }, { on := 14, ground := Ground.data }], guard := none }) rfl (fun K hK => ?_) AllReadyH.nil)
  rw [if_pos (by rfl)]
  go_simp
  obtain ⟨W4, hW4⟩ : ∃ W4, (W3.alloc (.cells #[.int .u8 (c.kd : Nat), .int .u8 (markN c.mu), .int .u8 (markN c.wo), .int .u8 (markN c.ix)] 5)).drew = W4 := ⟨_, rfl⟩
  have hb4 : Below W3.drew.heap.size W3.drew W4 := by rw [← hW4]; exact (Below.refl _ _).alloc (Nat.le_refl _) _
  have s4 : VarN (w.heap.size + 1 + 1) [.string c.nm, .int .i64 (c.kd : Nat), .bool c.mu, .bool c.wo] W4 ∧ VarN (w.heap.size) [.string nm, .slice (some ⟨g, 0, none⟩) n cap, .slice ai li ci] W4 := ⟨s0.1.below hb4, s0.2.below hb4⟩
  try rw [hW4]
  refine hK.out _ _ (s4) (fun _ => ?_)
  clear hK K
  try simp only [Act.put, List.setIfInBounds_toArray, List.set_cons_zero, List.set_cons_succ]
  refine wpAnyH_take (i := 16) (oi := { dst := some 6, op := Op.assign (Operand.tmp 27), type := 123, pos := "pair.go:47", after := #[{ on := 15, ground := Ground.data }, { on := 14, ground := Ground.chain }, { on := 0, ground := Ground.phase }, { on := 1, ground := Ground.phase }, { on := 2, ground := Ground.phase }, { on := 3, ground := Ground.phase }, { on := 4, ground := Ground.phase }, { on := 5, ground := Ground.phase }, { on := 6, ground := Ground.phase }, { on := 7, ground := Ground.phase }, { on := 8, ground := Ground.phase }, { on := 9, ground := Ground.phase }, { on := 10, ground := Ground.phase }, { on := 11, ground := Ground.phase }, { on := 12, ground := Ground.phase }, { on := 13, ground := Ground.phase }, { on := 14, ground := Ground.phase }, { on := 15, ground := Ground.phase }], guard := none }) (v := .slice (some ⟨W3.heap.size, 0, none⟩) 4 4) rfl (by kernel_rfl) (by kernel_rfl) (by kernel_rfl) (fun _ _ _ h => h) (Or.inl ⟨by rfl, fun wx _ => by go_simp⟩) s4 ?_
  simp only [Act.put, List.setIfInBounds_toArray, List.set_cons_zero, List.set_cons_succ]
  refine wpAnyH_done (by kernel_rfl) ?_ _
  have HB4 : Hid (Below w.heap.size w W4) := HB3.out.drew.trans (hb4.mono HB3.out.size)
  have k0 : VarN (w.heap.size + 1 + 1) [.string c.nm, .int .i64 (c.kd : Nat), .bool c.mu, .bool c.wo] W4.drew ∧ VarN (w.heap.size) [.string nm, .slice (some ⟨g, 0, none⟩) n cap, .slice ai li ci] W4.drew ∧ URow 0 (.slice (some ⟨W3.heap.size, 0, none⟩) 4 4) [byteI (c.kd : Int), markU c.mu, markU c.wo, markU c.ix] W4.drew := ⟨s4.1.drew, s4.2.drew, URow.drew (by rw [← hW4]; exact urow_four W3.drew _ _ _ _ HKB.out (markU_nat _).symm (markU_nat _).symm (markU_nat _).symm)⟩
  have HV5 : Hid (VarN (w.heap.size + 1) [.string ⟨#[]⟩, .string ⟨#[]⟩] W4.drew) := (HV4.out.drew.below hb4).drew
  have HS4 : Hid (w.heap.size + 1 < W4.heap.size) := HV5.out.lt
  clear hW4 s0 s4 HI3 HKW HIX hb4
  go_wp2_with fail
  refine wp_region_held_drew (S := fun wx => VarN (w.heap.size + 1 + 1) [.string c.nm, .int .i64 (c.kd : Nat), .bool c.mu, .bool c.wo] wx ∧ VarN (w.heap.size) [.string nm, .slice (some ⟨g, 0, none⟩) n cap, .slice ai li ci] wx ∧ URow 0 (.slice (some ⟨W3.heap.size, 0, none⟩) 4 4) [byteI (c.kd : Int), markU c.mu, markU c.wo, markU c.ix] wx) (by kernel_rfl) k0 ?_
  intro _
  refine wpAnyH_take (i := 0) (oi := { dst := some 28, op := Op.fieldAddr 46 (Operand.tmp 2) 0, type := 0, pos := "pair.go:48", after := #[], guard := none }) (v := .pointer (some ⟨w.heap.size, 0, none⟩)) rfl (by kernel_rfl) (by kernel_rfl) (by kernel_rfl) (fun _ _ _ h => h) (Or.inl ⟨by rfl, fun wx _ => by go_simp⟩) k0 ?_
  simp only [Act.put, List.setIfInBounds_toArray, List.set_cons_zero, List.set_cons_succ]
  refine wpAnyH_take (i := 1) (oi := { dst := some 29, op := Op.load 9 (Operand.tmp 28), type := 9, pos := "pair.go:48", after := #[{ on := 0, ground := Ground.data }], guard := none }) (v := .string nm) rfl (by kernel_rfl) (by kernel_rfl) (by kernel_rfl) (fun _ _ _ h => h) (Or.inl ⟨by rfl, fun wx h => by have h8 := h.2.1.c3.1; go_simp⟩) k0 ?_
  simp only [Act.put, List.setIfInBounds_toArray, List.set_cons_zero, List.set_cons_succ]
  refine wpAnyH_take (i := 3) (oi := { dst := some 31, op := Op.move (Operand.tmp 1), type := 3, pos := "pair.go:48", after := #[], guard := none }) (v := .int .i64 (i : Nat)) rfl (by kernel_rfl) (by kernel_rfl) (by kernel_rfl) (fun _ _ _ h => h) (Or.inl ⟨by rfl, fun wx _ => by go_simp⟩) k0 ?_
  simp only [Act.put, List.setIfInBounds_toArray, List.set_cons_zero, List.set_cons_succ]
  refine wpAnyH_take (i := 4) (oi := { dst := some 32, op := Op.binOp BinOp.add 3 (Operand.tmp 31) (Operand.const (Value.int IntKind.i64 1)) 3, type := 3, pos := "pair.go:48", after := #[{ on := 3, ground := Ground.data }], guard := none }) (v := .int .i64 ((i : Int) + 1)) rfl (by kernel_rfl) (by kernel_rfl) (by kernel_rfl) (fun _ _ _ h => h) (Or.inl ⟨by rfl, fun wx h => by have h8 := HIW.out; go_simp⟩) k0 ?_
  simp only [Act.put, List.setIfInBounds_toArray, List.set_cons_zero, List.set_cons_succ]
  refine wpAnyH_take (i := 5) (oi := { dst := some 33, op := Op.convert 3 5 (Operand.tmp 32), type := 5, pos := "pair.go:48", after := #[{ on := 4, ground := Ground.data }], guard := none }) (v := .int .u8 ((i : Int) + 1)) rfl (by kernel_rfl) (by kernel_rfl) (by kernel_rfl) (fun _ _ _ h => h) (Or.inl ⟨by rfl, fun wx h => by have h8 := HIU.out; go_simp⟩) k0 ?_
  simp only [Act.put, List.setIfInBounds_toArray, List.set_cons_zero, List.set_cons_succ]
  refine wpAnyH_take (i := 9) (oi := { dst := some 37, op := Op.move (Operand.tmp 6), type := 123, pos := "pair.go:48", after := #[], guard := none }) (v := .slice (some ⟨W3.heap.size, 0, none⟩) 4 4) rfl (by kernel_rfl) (by kernel_rfl) (by kernel_rfl) (fun _ _ _ h => h) (Or.inl ⟨by rfl, fun wx _ => by go_simp⟩) k0 ?_
  simp only [Act.put, List.setIfInBounds_toArray, List.set_cons_zero, List.set_cons_succ]
  refine wpAnyH_take (i := 10) (oi := { dst := some 38, op := Op.convert 123 9 (Operand.tmp 37), type := 9, pos := "pair.go:48", after := #[{ on := 9, ground := Ground.data }], guard := none }) (v := .string ⟨#[byteI (c.kd : Int), markU c.mu, markU c.wo, markU c.ix]⟩) rfl (by kernel_rfl) (by kernel_rfl) (by kernel_rfl) (fun _ _ _ h => h) (Or.inl ⟨by rfl, fun wx h => by have h8 := text_of h.2.2 (by simp); go_simp⟩) k0 ?_
  simp only [Act.put, List.setIfInBounds_toArray, List.set_cons_zero, List.set_cons_succ]
  refine wpAnyH_take (i := 11) (oi := { dst := some 39, op := Op.fieldAddr 43 (Operand.tmp 5) 0, type := 0, pos := "pair.go:48", after := #[], guard := none }) (v := .pointer (some ⟨w.heap.size + 1 + 1, 0, none⟩)) rfl (by kernel_rfl) (by kernel_rfl) (by kernel_rfl) (fun _ _ _ h => h) (Or.inl ⟨by rfl, fun wx _ => by go_simp⟩) k0 ?_
  simp only [Act.put, List.setIfInBounds_toArray, List.set_cons_zero, List.set_cons_succ]
  refine wpAnyH_take (i := 12) (oi := { dst := some 40, op := Op.load 9 (Operand.tmp 39), type := 9, pos := "pair.go:48", after := #[{ on := 11, ground := Ground.data }], guard := none }) (v := .string c.nm) rfl (by kernel_rfl) (by kernel_rfl) (by kernel_rfl) (fun _ _ _ h => h) (Or.inl ⟨by rfl, fun wx h => by have h8 := h.1.c4.1; go_simp⟩) k0 ?_
  simp only [Act.put, List.setIfInBounds_toArray, List.set_cons_zero, List.set_cons_succ]
  refine wpAnyH_take (i := 13) (oi := { dst := some 41, op := Op.binOp BinOp.add 9 (Operand.tmp 38) (Operand.tmp 40) 9, type := 9, pos := "pair.go:48", after := #[{ on := 10, ground := Ground.data }, { on := 12, ground := Ground.data }], guard := none }) (v := .string (colI c)) rfl (by kernel_rfl) (by kernel_rfl) (by kernel_rfl) (fun _ _ _ h => h) (Or.inl ⟨by rfl, fun wx h => by have h8 := HS2.out; go_simp⟩) k0 ?_
  simp only [Act.put, List.setIfInBounds_toArray, List.set_cons_zero, List.set_cons_succ]
  refine wpAnyH_ready (rs := [2, 6]) (by kernel_rfl) (by decide) (AllReadyH.cons (o := { dst := some 30, op := Op.call { callee := Callee.value (Operand.func 24), args := #[Operand.tmp 29], argTypes := #[9] }, type := 9, pos := "pair.go:48", after := #[{ on := 1, ground := Ground.data }], guard := none }) rfl (fun K hK => ?_) (AllReadyH.cons (o := { dst := some 34, op := Op.buildSlice 123 1 #[(0, Operand.tmp 33)], type := 123, pos := "pair.go:48", after := #[{ on := 5, ground := Ground.data }], guard := none }) rfl (fun K hK => ?_) AllReadyH.nil))
  · rw [if_pos (by rfl)]
    go_simp
    refine (start_any nm (by omega) _).mono ?_
    rintro _ w9 ⟨rfl, h9⟩
    obtain rfl := h9.symm
    clear h9
    refine hK.out _ _ k0 (fun _ => ?_)
    clear hK K
    try simp only [Act.put, List.setIfInBounds_toArray, List.set_cons_zero, List.set_cons_succ]
    refine wpAnyH_ready (rs := [6]) (by kernel_rfl) (by decide) (AllReadyH.cons (o := { dst := some 34, op := Op.buildSlice 123 1 #[(0, Operand.tmp 33)], type := 123, pos := "pair.go:48", after := #[{ on := 5, ground := Ground.data }], guard := none }) rfl (fun K hK => ?_) AllReadyH.nil)
    rw [if_pos (by rfl)]
    go_simp
    obtain ⟨W5, hW5⟩ : ∃ W5, (W4.alloc (.cells #[.int .u8 ((i : Int) + 1)] 5)).drew = W5 := ⟨_, rfl⟩
    have hb5 : Below W4.drew.heap.size W4.drew W5 := by rw [← hW5]; exact (Below.refl _ _).alloc (Nat.le_refl _) _
    have k5 : VarN (w.heap.size + 1 + 1) [.string c.nm, .int .i64 (c.kd : Nat), .bool c.mu, .bool c.wo] W5 ∧ VarN (w.heap.size) [.string nm, .slice (some ⟨g, 0, none⟩) n cap, .slice ai li ci] W5 ∧ URow 0 (.slice (some ⟨W3.heap.size, 0, none⟩) 4 4) [byteI (c.kd : Int), markU c.mu, markU c.wo, markU c.ix] W5 := ⟨k0.1.below hb5, k0.2.1.below hb5, row_below k0.2.2 hb5⟩
    have v45 : VarN (w.heap.size + 1) [.string ⟨#[]⟩, .string ⟨#[]⟩] W5 := HV5.out.below hb5
    have HB5 : Hid (Below w.heap.size w W5) := HB4.out.drew.trans (hb5.mono HB4.out.size)
    have u5 : URow 0 (.slice (some ⟨W4.heap.size, 0, none⟩) 1 1) [byteI ((i : Int) + 1)] W5 := by rw [← hW5]; exact urow_one W4.drew _ HIB.out
    try rw [hW5]
    refine hK.out _ _ k5 (fun _ => ?_)
    clear hK K
    try simp only [Act.put, List.setIfInBounds_toArray, List.set_cons_zero, List.set_cons_succ]
    refine wpAnyH_strong (S' := fun wx => (VarN (w.heap.size + 1 + 1) [.string c.nm, .int .i64 (c.kd : Nat), .bool c.mu, .bool c.wo] wx ∧ VarN (w.heap.size) [.string nm, .slice (some ⟨g, 0, none⟩) n cap, .slice ai li ci] wx ∧ URow 0 (.slice (some ⟨W3.heap.size, 0, none⟩) 4 4) [byteI (c.kd : Int), markU c.mu, markU c.wo, markU c.ix] wx) ∧ URow 0 (.slice (some ⟨W4.heap.size, 0, none⟩) 1 1) [byteI ((i : Int) + 1)] wx) (fun _ h => h.1) _ _ _ _ ?_
    have kk := And.intro k5 u5
    refine wpAnyH_take (i := 7) (oi := { dst := some 35, op := Op.convert 123 9 (Operand.tmp 34), type := 9, pos := "pair.go:48", after := #[{ on := 6, ground := Ground.data }], guard := none }) (v := .string ⟨#[byteI ((i : Int) + 1)]⟩) rfl (by kernel_rfl) (by kernel_rfl) (by kernel_rfl) (fun _ _ _ h => h) (Or.inl ⟨by rfl, fun wx h => by have h8 := text_of h.2 (by simp); go_simp⟩) kk ?_
    simp only [Act.put, List.setIfInBounds_toArray, List.set_cons_zero, List.set_cons_succ]
    refine wpAnyH_take (i := 8) (oi := { dst := some 36, op := Op.binOp BinOp.add 9 (Operand.tmp 30) (Operand.tmp 35) 9, type := 9, pos := "pair.go:48", after := #[{ on := 2, ground := Ground.data }, { on := 7, ground := Ground.data }], guard := none }) (v := .string (colK nm i)) rfl (by kernel_rfl) (by kernel_rfl) (by kernel_rfl) (fun _ _ _ h => h) (Or.inl ⟨by rfl, fun wx h => by have h8 := HS1.out; go_simp⟩) kk ?_
    simp only [Act.put, List.setIfInBounds_toArray, List.set_cons_zero, List.set_cons_succ]
    refine wpAnyH_take (i := 14) (oi := { dst := some 42, op := Op.build 89 #[(0, Operand.tmp 36), (1, Operand.tmp 41)], type := 89, pos := "pair.go:48", after := #[{ on := 8, ground := Ground.data }, { on := 13, ground := Ground.data }], guard := none }) (v := .agg #[.string (colK nm i), .string (colI c)]) rfl (by kernel_rfl) (by kernel_rfl) (by kernel_rfl) (fun _ _ _ h => h) (Or.inl ⟨by rfl, fun wx _ => by go_simp⟩) kk ?_
    simp only [Act.put, List.setIfInBounds_toArray, List.set_cons_zero, List.set_cons_succ]
    refine wpAnyH_ready (rs := [15]) (by kernel_rfl) (by decide) (AllReadyH.cons (o := { dst := none, op := Op.store 89 (Operand.tmp 4) (Operand.tmp 42), type := 0, pos := "pair.go:48", after := #[{ on := 14, ground := Ground.data }, { on := 2, ground := Ground.chain }, { on := 0, ground := Ground.phase }, { on := 1, ground := Ground.phase }, { on := 2, ground := Ground.phase }, { on := 3, ground := Ground.phase }, { on := 4, ground := Ground.phase }, { on := 5, ground := Ground.phase }, { on := 6, ground := Ground.phase }, { on := 7, ground := Ground.phase }, { on := 8, ground := Ground.phase }, { on := 9, ground := Ground.phase }, { on := 10, ground := Ground.phase }, { on := 11, ground := Ground.phase }, { on := 12, ground := Ground.phase }, { on := 13, ground := Ground.phase }, { on := 14, ground := Ground.phase }], guard := none }) rfl (fun K hK => ?_) AllReadyH.nil)
    rw [if_pos (by rfl)]
    have f0 := v45.free 0
    have f1 := v45.free 1
    have d0 := v45.cell 0 (by simp)
    have d1 := v45.cell 1 (by simp)
    go_simp
    have hv6 := (v45.set 0 (.string (colK nm i))).set 1 (.string (colI c))
    refine hK.out _ _ ⟨⟨(kk.1.1.far (by omega)).far (by omega), (kk.1.2.1.far (by omega)).far (by omega), row_set2 kk.1.2.2 (fun e => by simp only [Value.ownBlock, Option.some.injEq] at e; have := HS3.out; omega)⟩, row_set2 kk.2 (fun e => by simp only [Value.ownBlock, Option.some.injEq] at e; have := HS4.out; omega)⟩ (fun _ => ?_)
    clear hK K
    try simp only [Act.put, List.setIfInBounds_toArray, List.set_cons_zero, List.set_cons_succ]
    refine wpAnyH_done (by kernel_rfl) ?_ _
    go_wp2
    exact bodyPost_ret (v := .agg #[.string (colK nm i), .string (colI c)]) (results_cell_of Tryz.results28 _ _ _ rfl (load89 hv6)) rfl ⟨rfl, (HB5.out.setCell (Nat.le_succ _) _).setCell (Nat.le_succ _) _⟩
  · rw [if_pos (by rfl)]
    go_simp
    obtain ⟨W5, hW5⟩ : ∃ W5, (W4.alloc (.cells #[.int .u8 ((i : Int) + 1)] 5)).drew = W5 := ⟨_, rfl⟩
    have hb5 : Below W4.drew.heap.size W4.drew W5 := by rw [← hW5]; exact (Below.refl _ _).alloc (Nat.le_refl _) _
    have k5 : VarN (w.heap.size + 1 + 1) [.string c.nm, .int .i64 (c.kd : Nat), .bool c.mu, .bool c.wo] W5 ∧ VarN (w.heap.size) [.string nm, .slice (some ⟨g, 0, none⟩) n cap, .slice ai li ci] W5 ∧ URow 0 (.slice (some ⟨W3.heap.size, 0, none⟩) 4 4) [byteI (c.kd : Int), markU c.mu, markU c.wo, markU c.ix] W5 := ⟨k0.1.below hb5, k0.2.1.below hb5, row_below k0.2.2 hb5⟩
    have v45 : VarN (w.heap.size + 1) [.string ⟨#[]⟩, .string ⟨#[]⟩] W5 := HV5.out.below hb5
    have HB5 : Hid (Below w.heap.size w W5) := HB4.out.drew.trans (hb5.mono HB4.out.size)
    have u5 : URow 0 (.slice (some ⟨W4.heap.size, 0, none⟩) 1 1) [byteI ((i : Int) + 1)] W5 := by rw [← hW5]; exact urow_one W4.drew _ HIB.out
    try rw [hW5]
    refine hK.out _ _ k5 (fun _ => ?_)
    clear hK K
    try simp only [Act.put, List.setIfInBounds_toArray, List.set_cons_zero, List.set_cons_succ]
    refine wpAnyH_strong (S' := fun wx => (VarN (w.heap.size + 1 + 1) [.string c.nm, .int .i64 (c.kd : Nat), .bool c.mu, .bool c.wo] wx ∧ VarN (w.heap.size) [.string nm, .slice (some ⟨g, 0, none⟩) n cap, .slice ai li ci] wx ∧ URow 0 (.slice (some ⟨W3.heap.size, 0, none⟩) 4 4) [byteI (c.kd : Int), markU c.mu, markU c.wo, markU c.ix] wx) ∧ URow 0 (.slice (some ⟨W4.heap.size, 0, none⟩) 1 1) [byteI ((i : Int) + 1)] wx) (fun _ h => h.1) _ _ _ _ ?_
    have kk := And.intro k5 u5
    refine wpAnyH_take (i := 7) (oi := { dst := some 35, op := Op.convert 123 9 (Operand.tmp 34), type := 9, pos := "pair.go:48", after := #[{ on := 6, ground := Ground.data }], guard := none }) (v := .string ⟨#[byteI ((i : Int) + 1)]⟩) rfl (by kernel_rfl) (by kernel_rfl) (by kernel_rfl) (fun _ _ _ h => h) (Or.inl ⟨by rfl, fun wx h => by have h8 := text_of h.2 (by simp); go_simp⟩) kk ?_
    simp only [Act.put, List.setIfInBounds_toArray, List.set_cons_zero, List.set_cons_succ]
    refine wpAnyH_ready (rs := [2]) (by kernel_rfl) (by decide) (AllReadyH.cons (o := { dst := some 30, op := Op.call { callee := Callee.value (Operand.func 24), args := #[Operand.tmp 29], argTypes := #[9] }, type := 9, pos := "pair.go:48", after := #[{ on := 1, ground := Ground.data }], guard := none }) rfl (fun K hK => ?_) AllReadyH.nil)
    rw [if_pos (by rfl)]
    go_simp
    refine (start_any nm (by omega) _).mono ?_
    rintro _ w9 ⟨rfl, h9⟩
    obtain rfl := h9.symm
    clear h9
    refine hK.out _ _ kk (fun _ => ?_)
    clear hK K
    try simp only [Act.put, List.setIfInBounds_toArray, List.set_cons_zero, List.set_cons_succ]
    refine wpAnyH_take (i := 8) (oi := { dst := some 36, op := Op.binOp BinOp.add 9 (Operand.tmp 30) (Operand.tmp 35) 9, type := 9, pos := "pair.go:48", after := #[{ on := 2, ground := Ground.data }, { on := 7, ground := Ground.data }], guard := none }) (v := .string (colK nm i)) rfl (by kernel_rfl) (by kernel_rfl) (by kernel_rfl) (fun _ _ _ h => h) (Or.inl ⟨by rfl, fun wx h => by have h8 := HS1.out; go_simp⟩) kk ?_
    simp only [Act.put, List.setIfInBounds_toArray, List.set_cons_zero, List.set_cons_succ]
    refine wpAnyH_take (i := 14) (oi := { dst := some 42, op := Op.build 89 #[(0, Operand.tmp 36), (1, Operand.tmp 41)], type := 89, pos := "pair.go:48", after := #[{ on := 8, ground := Ground.data }, { on := 13, ground := Ground.data }], guard := none }) (v := .agg #[.string (colK nm i), .string (colI c)]) rfl (by kernel_rfl) (by kernel_rfl) (by kernel_rfl) (fun _ _ _ h => h) (Or.inl ⟨by rfl, fun wx _ => by go_simp⟩) kk ?_
    simp only [Act.put, List.setIfInBounds_toArray, List.set_cons_zero, List.set_cons_succ]
    refine wpAnyH_ready (rs := [15]) (by kernel_rfl) (by decide) (AllReadyH.cons (o := { dst := none, op := Op.store 89 (Operand.tmp 4) (Operand.tmp 42), type := 0, pos := "pair.go:48", after := #[{ on := 14, ground := Ground.data }, { on := 2, ground := Ground.chain }, { on := 0, ground := Ground.phase }, { on := 1, ground := Ground.phase }, { on := 2, ground := Ground.phase }, { on := 3, ground := Ground.phase }, { on := 4, ground := Ground.phase }, { on := 5, ground := Ground.phase }, { on := 6, ground := Ground.phase }, { on := 7, ground := Ground.phase }, { on := 8, ground := Ground.phase }, { on := 9, ground := Ground.phase }, { on := 10, ground := Ground.phase }, { on := 11, ground := Ground.phase }, { on := 12, ground := Ground.phase }, { on := 13, ground := Ground.phase }, { on := 14, ground := Ground.phase }], guard := none }) rfl (fun K hK => ?_) AllReadyH.nil)
    rw [if_pos (by rfl)]
    have f0 := v45.free 0
    have f1 := v45.free 1
    have d0 := v45.cell 0 (by simp)
    have d1 := v45.cell 1 (by simp)
    go_simp
    have hv6 := (v45.set 0 (.string (colK nm i))).set 1 (.string (colI c))
    refine hK.out _ _ ⟨⟨(kk.1.1.far (by omega)).far (by omega), (kk.1.2.1.far (by omega)).far (by omega), row_set2 kk.1.2.2 (fun e => by simp only [Value.ownBlock, Option.some.injEq] at e; have := HS3.out; omega)⟩, row_set2 kk.2 (fun e => by simp only [Value.ownBlock, Option.some.injEq] at e; have := HS4.out; omega)⟩ (fun _ => ?_)
    clear hK K
    try simp only [Act.put, List.setIfInBounds_toArray, List.set_cons_zero, List.set_cons_succ]
    refine wpAnyH_done (by kernel_rfl) ?_ _
    go_wp2
    exact bodyPost_ret (v := .agg #[.string (colK nm i), .string (colI c)]) (results_cell_of Tryz.results28 _ _ _ rfl (load89 hv6)) rfl ⟨rfl, (HB5.out.setCell (Nat.le_succ _) _).setCell (Nat.le_succ _) _⟩
end Go.Proofs.YteijjaddlkedbaaGreat
