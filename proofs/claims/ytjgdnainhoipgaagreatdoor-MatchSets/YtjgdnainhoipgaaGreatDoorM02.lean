/- Texts of the proof of MatchSets: Rhd, Rhw, Pg, Load, Loa2, Opn. -/
import Derived.Test.YtjgdnainhoipgaaGreatDoorM01
import Derived.Carry
namespace Go.Proofs.YtjgdnainhoipgaaGreatDoor
open Go.RowKit Go.Maps

theorem size43 : (Tryz.prog.info? 73).map (·.size) = some 16 := by kernel_rfl
def zeros43 : Array Value := #[.int .i64 0, .int .i64 0, .int .i64 0, .int .i64 0, .int .i64 0, .int .i64 0, .int .i64 0, .int .i64 0, .int .i64 0, .int .i64 0, .int .i64 0, .int .i64 0, .int .i64 0, .int .i64 0, .int .i64 0, .int .i64 0]
theorem zeros43_is : zeros43 = (rootsL (fun _ => 0) (fun _ => 0)).toArray := by kernel_rfl
theorem size_roots (a b : Nat → Int) : (Tryz.prog.info? 73).map (·.size) = some (rootsL a b).length := by rw [rootsL_len]; exact size43
theorem size_rootsA (a b : Nat → Int) : (Tryz.prog.info? 73).map (·.size) = some (rootsL a b).toArray.size := by rw [List.size_toArray, rootsL_len]; exact size43

/-- what a head's page says -/
def usedOf (s : ByteArray) (k : Nat) : Bool := decide (0 < k) && bitOf s k
def upperOf (s : ByteArray) (k : Nat) : Bool := bitOf s (k + 2000)
def rpOf (s : ByteArray) (i : Nat) : Int := numOf s (500 + 4 * i)
def rnOf (s : ByteArray) (i : Nat) : Int := numOf s (502 + 4 * i)

theorem ext_list (s : ByteArray) (a b : Nat) : (s.extract a b).data.toList = (s.data.toList.drop a).take (b - a) := by
  rw [ByteArray.data_extract, Array.toList_extract, List.extract_eq_take_drop]
theorem ext_size (s : ByteArray) (a b : Nat) (h : b ≤ s.size) : (s.extract a b).size = b - a := by
  rw [ByteArray.size_extract]; omega
theorem ext_getD (s : ByteArray) (a b k : Nat) (hk : a + k < b) : (s.extract a b).data.toList.getD k 0 = s.data.toList.getD (a + k) 0 := by
  rw [ext_list, List.getD_eq_getElem?_getD, List.getElem?_take_of_lt (by omega), List.getElem?_drop, ← List.getD_eq_getElem?_getD]
theorem bitOf_low (s : ByteArray) {k : Nat} (hk : k < 2000) : bitOf (s.extract 0 250) k = bitOf s k := by
  unfold bitOf
  rw [ext_getD _ _ _ _ (by omega), Nat.zero_add]
theorem bitOf_high (s : ByteArray) {k : Nat} (hk : k < 2000) : bitOf (s.extract 250 1024) k = upperOf s k := by
  unfold upperOf bitOf
  rw [ext_getD _ _ _ _ (by omega), show 250 + k / 8 = (k + 2000) / 8 by omega, show k % 8 = (k + 2000) % 8 by omega]
theorem numOf_ext (s : ByteArray) (a b : Nat) (h : a + 1 < b) : numOf (s.extract a b) 0 = numOf s a := by
  unfold numOf
  rw [ext_getD _ _ _ _ (by omega), ext_getD _ _ _ _ (by omega), Nat.add_zero]

/-- roots in a row -/
structure RootRow (B : Nat) (a b : Nat → Int) (w : World) : Prop where
  cell : ∀ j, j < 16 → w.cell? ⟨B, j, none⟩ = some (.int .i64 (if j % 2 = 0 then a (j / 2) else b (j / 2)))
  free : ∀ j, w.frozen? ⟨B, j, none⟩ = false
theorem RootRow.range {B : Nat} {a b : Nat → Int} {w : World} (h : RootRow B a b w) : w.rangeAt B 0 (rootsL a b) := fun j v hj => by
  have hl := (List.getElem?_eq_some_iff.1 hj).1
  rw [rootsL_len] at hl
  rw [rootsL_get _ _ hl] at hj
  rw [Nat.zero_add, h.cell j hl, hj]
theorem Bits.block {B : Nat} {f : Nat → Bool} {w w' : World} (h : Bits B f w) (hb : w'.heap[B]? = w.heap[B]?) : Bits B f w' :=
  ⟨fun k hk => (World.cell?_of_block hb).trans (h.cell k hk), fun k => (World.frozen?_of_block (a := ⟨B, k, none⟩) hb).trans (h.free k)⟩
theorem RootRow.block {B : Nat} {a b : Nat → Int} {w w' : World} (h : RootRow B a b w) (hb : w'.heap[B]? = w.heap[B]?) : RootRow B a b w' :=
  ⟨fun k hk => (World.cell?_of_block hb).trans (h.cell k hk), fun k => (World.frozen?_of_block (a := ⟨B, k, none⟩) hb).trans (h.free k)⟩
theorem Bits.there {B : Nat} {f : Nat → Bool} {w : World} (h : Bits B f w) {n : Nat} (hn : n = 2000) : w.there B 0 n := fun j hj => by
  rw [Nat.zero_add]; exact ⟨by rw [h.cell j (by omega)]; rfl, h.free j⟩
theorem RootRow.there {B : Nat} {a b : Nat → Int} {w : World} (h : RootRow B a b w) {n : Nat} (hn : n = 16) : w.there B 0 n := fun j hj => by
  rw [Nat.zero_add]; exact ⟨by rw [h.cell j (by omega)]; rfl, h.free j⟩

/-- what is known within readHead -/
structure H3 (w wr : World) (f g : Nat → Bool) (a b : Nat → Int) : Prop where
  used : Bits w.heap.size f wr
  upper : Bits (w.heap.size + 1) g wr
  roots : RootRow (w.heap.size + 1 + 1) a b wr
  below : Below w.heap.size w wr
  size : w.heap.size + 3 ≤ wr.heap.size

section
variable {w wr wx : World} {f g : Nat → Bool} {a b : Nat → Int}
theorem H3.later (h : H3 w wr f g a b) (hb : Below wr.heap.size wr wx) : H3 w wx f g a b := by
  have := h.size
  exact ⟨h.used.block (hb.block _ (by omega)), h.upper.block (hb.block _ (by omega)), h.roots.block (hb.block _ (by omega)), h.below.trans (hb.mono (by omega)), Nat.le_trans h.size hb.size⟩
theorem H3.drewN (h : H3 w wr f g a b) (n : Nat) : H3 w (wr.drewN n) f g a b :=
  ⟨h.used.block rfl, h.upper.block rfl, h.roots.block rfl, h.below.trans ⟨rfl, rfl, rfl, Nat.le_refl _, fun _ _ => rfl⟩, h.size⟩

theorem H3.start (w : World) : H3 w (((w.alloc (.cells Tryz.zeroCells70 70)).alloc (.cells Tryz.zeroCells70 70)).alloc (.cells zeros43 73)) (fun _ => false) (fun _ => false) (fun _ => 0) (fun _ => 0) := by
  have hn1 : (w.alloc (.cells Tryz.zeroCells70 70)).heap[w.heap.size]? = some (.cells Tryz.zeroCells70 70) := heap_alloc_new w _
  have hs1 : (w.alloc (.cells Tryz.zeroCells70 70)).heap.size = w.heap.size + 1 := World.size_alloc _ _
  have hn2 : ((w.alloc (.cells Tryz.zeroCells70 70)).alloc (.cells Tryz.zeroCells70 70)).heap[w.heap.size + 1]? = some (.cells Tryz.zeroCells70 70) := by rw [← hs1]; exact heap_alloc_new _ _
  have hs2 : ((w.alloc (.cells Tryz.zeroCells70 70)).alloc (.cells Tryz.zeroCells70 70)).heap.size = w.heap.size + 1 + 1 := by rw [World.size_alloc, hs1]
  have hn3 : (((w.alloc (.cells Tryz.zeroCells70 70)).alloc (.cells Tryz.zeroCells70 70)).alloc (.cells zeros43 73)).heap[w.heap.size + 1 + 1]? = some (.cells zeros43 73) := by rw [← hs2]; exact heap_alloc_new _ _
  have b1 : Below w.heap.size w (w.alloc (.cells Tryz.zeroCells70 70)) := (Below.refl _ _).alloc (Nat.le_refl _) _
  have b2 : Below (w.heap.size + 1) (w.alloc (.cells Tryz.zeroCells70 70)) ((w.alloc (.cells Tryz.zeroCells70 70)).alloc (.cells Tryz.zeroCells70 70)) := by rw [← hs1]; exact (Below.refl _ _).alloc (Nat.le_refl _) _
  have b3 : Below (w.heap.size + 1 + 1) ((w.alloc (.cells Tryz.zeroCells70 70)).alloc (.cells Tryz.zeroCells70 70)) (((w.alloc (.cells Tryz.zeroCells70 70)).alloc (.cells Tryz.zeroCells70 70)).alloc (.cells zeros43 73)) := by rw [← hs2]; exact (Below.refl _ _).alloc (Nat.le_refl _) _
  have bits0 : ∀ (B : Nat) (wz : World), wz.heap[B]? = some (.cells Tryz.zeroCells70 70) → Bits B (fun _ => false) wz := fun B wz hB => by
    refine ⟨fun j hj => ?_, fun j => by simp only [World.frozen?, hB]; simp⟩
    rw [cell_of_row _ _ _ _ _ _ hB, zeros40]
    have := flags_get (fun _ => false) hj
    simpa using this
  have c1 := bits0 _ _ hn1
  have c2 := bits0 _ _ hn2
  refine ⟨(c1.block (b2.block _ (by omega))).block (b3.block _ (by omega)), c2.block (b3.block _ (by omega)), ?_, b1.trans ((b2.mono (by omega)).trans (b3.mono (by omega))), by rw [World.size_alloc, hs2]; omega⟩
  refine ⟨fun j hj => ?_, fun j => by simp only [World.frozen?, hn3]; simp⟩
  rw [cell_of_row _ _ _ _ _ _ hn3, zeros43_is]
  have := rootsL_get (fun _ => 0) (fun _ => 0) hj
  simpa using this

set_option maxRecDepth 100000 in
theorem H3.store0 (h : H3 w wr f g a b) {f' : Nat → Bool} {vs : List Value} (hv : vs = flags f') : H3 w (wr.setCells w.heap.size 0 vs) f' g a b := by
  subst hv
  have hs := h.size
  refine ⟨⟨fun j hj => ?_, fun j => by rw [World.frozen?_setCells]; exact h.used.free j⟩, ⟨fun j hj => ?_, fun j => by rw [World.frozen?_setCells]; exact h.upper.free j⟩, ⟨fun j hj => ?_, fun j => by rw [World.frozen?_setCells]; exact h.roots.free j⟩, Below.setCells' (Nat.le_refl _) _ _ _ h.below, Nat.le_trans hs (Below.setCells' (B := 0) (Nat.zero_le _) _ _ _ (Below.refl 0 wr)).size⟩
  · have hj' : j < (flags f').length := by rw [flags_len]; exact hj
    have := World.cell?_setCells_in w.heap.size (flags f') 0 wr (fun i hi => by rw [flags_len] at hi; rw [Nat.zero_add, h.used.cell i hi]; rfl) j hj'
    rw [Nat.zero_add] at this
    rw [this, ← List.getElem?_eq_getElem hj', flags_get _ hj]
  · rw [World.cell?_setCells_out _ _ _ _ _ (fun e => by simp only at e; omega), h.upper.cell j hj]
  · rw [World.cell?_setCells_out _ _ _ _ _ (fun e => by simp only at e; omega), h.roots.cell j hj]
set_option maxRecDepth 100000 in
theorem H3.store1 (h : H3 w wr f g a b) {g' : Nat → Bool} {vs : List Value} (hv : vs = flags g') : H3 w (wr.setCells (w.heap.size + 1) 0 vs) f g' a b := by
  subst hv
  have hs := h.size
  refine ⟨⟨fun j hj => ?_, fun j => by rw [World.frozen?_setCells]; exact h.used.free j⟩, ⟨fun j hj => ?_, fun j => by rw [World.frozen?_setCells]; exact h.upper.free j⟩, ⟨fun j hj => ?_, fun j => by rw [World.frozen?_setCells]; exact h.roots.free j⟩, Below.setCells' (by omega) _ _ _ h.below, Nat.le_trans hs (Below.setCells' (B := 0) (Nat.zero_le _) _ _ _ (Below.refl 0 wr)).size⟩
  · rw [World.cell?_setCells_out _ _ _ _ _ (fun e => by simp only at e; omega), h.used.cell j hj]
  · have hj' : j < (flags g').length := by rw [flags_len]; exact hj
    have := World.cell?_setCells_in (w.heap.size + 1) (flags g') 0 wr (fun i hi => by rw [flags_len] at hi; rw [Nat.zero_add, h.upper.cell i hi]; rfl) j hj'
    rw [Nat.zero_add] at this
    rw [this, ← List.getElem?_eq_getElem hj', flags_get _ hj]
  · rw [World.cell?_setCells_out _ _ _ _ _ (fun e => by simp only at e; omega), h.roots.cell j hj]
set_option maxRecDepth 100000 in
theorem H3.store2 (h : H3 w wr f g a b) {a' b' : Nat → Int} {vs : List Value} (hv : vs = rootsL a' b') : H3 w (wr.setCells (w.heap.size + 1 + 1) 0 vs) f g a' b' := by
  subst hv
  have hs := h.size
  refine ⟨⟨fun j hj => ?_, fun j => by rw [World.frozen?_setCells]; exact h.used.free j⟩, ⟨fun j hj => ?_, fun j => by rw [World.frozen?_setCells]; exact h.upper.free j⟩, ⟨fun j hj => ?_, fun j => by rw [World.frozen?_setCells]; exact h.roots.free j⟩, Below.setCells' (by omega) _ _ _ h.below, Nat.le_trans hs (Below.setCells' (B := 0) (Nat.zero_le _) _ _ _ (Below.refl 0 wr)).size⟩
  · rw [World.cell?_setCells_out _ _ _ _ _ (fun e => by simp only at e; omega), h.used.cell j hj]
  · rw [World.cell?_setCells_out _ _ _ _ _ (fun e => by simp only at e; omega), h.upper.cell j hj]
  · have hj' : j < (rootsL a' b').length := by rw [rootsL_len]; exact hj
    have := World.cell?_setCells_in (w.heap.size + 1 + 1) (rootsL a' b') 0 wr (fun i hi => by rw [rootsL_len] at hi; rw [Nat.zero_add, h.roots.cell i hi]; rfl) j hj'
    rw [Nat.zero_add] at this
    rw [this, ← List.getElem?_eq_getElem hj', rootsL_get _ _ hj]
theorem H3.zero (h : H3 w wr f g a b) : H3 w (wr.setCell ⟨w.heap.size, 0, none⟩ (.bool false)) (fun k => decide (0 < k) && f k) g a b := by
  have hs := h.size
  refine ⟨⟨fun j hj => ?_, fun j => by rw [World.frozen?_setCell]; exact h.used.free j⟩, ⟨fun j hj => ?_, fun j => by rw [World.frozen?_setCell]; exact h.upper.free j⟩, ⟨fun j hj => ?_, fun j => by rw [World.frozen?_setCell]; exact h.roots.free j⟩, h.below.setCell (p := ⟨w.heap.size, 0, none⟩) (Nat.le_refl _) _, by rw [World.size_setCell]; exact hs⟩
  · by_cases e : j = 0
    · subst e
      rw [World.cell?_setCell_same _ _ _ (h.used.cell 0 hj)]; rfl
    · rw [World.cell?_setCell_other _ _ _ _ (fun e' => e (by cases e'; rfl)), h.used.cell j hj, decide_eq_true (show 0 < j by omega)]; rfl
  · rw [World.cell?_setCell_other _ _ _ _ (fun e' => by injection e' with e1 e2; omega), h.upper.cell j hj]
  · rw [World.cell?_setCell_other _ _ _ _ (fun e' => by injection e' with e1 e2; omega), h.roots.cell j hj]
theorem H3.root (h : H3 w wr f g a b) {k : Nat} {x y : Int} {a' b' : Nat → Int} (h1 : a' k = x) (h2 : b' k = y) (h3 : ∀ j, j ≠ k → a' j = a j) (h4 : ∀ j, j ≠ k → b' j = b j) :
    H3 w ((wr.setCell ⟨w.heap.size + 1 + 1, k * 2, none⟩ (.int .i64 x)).setCell ⟨w.heap.size + 1 + 1, k * 2 + 1, none⟩ (.int .i64 y)) f g a' b' := by
  have hs := h.size
  refine ⟨⟨fun j hj => ?_, fun j => by rw [World.frozen?_setCell, World.frozen?_setCell]; exact h.used.free j⟩, ⟨fun j hj => ?_, fun j => by rw [World.frozen?_setCell, World.frozen?_setCell]; exact h.upper.free j⟩, ⟨fun j hj => ?_, fun j => by rw [World.frozen?_setCell, World.frozen?_setCell]; exact h.roots.free j⟩, (h.below.setCell (p := ⟨w.heap.size + 1 + 1, k * 2, none⟩) (by show w.heap.size ≤ w.heap.size + 1 + 1; omega) _).setCell (p := ⟨w.heap.size + 1 + 1, k * 2 + 1, none⟩) (by show w.heap.size ≤ w.heap.size + 1 + 1; omega) _, by rw [World.size_setCell, World.size_setCell]; exact hs⟩
  · rw [World.cell?_setCell_other _ _ _ _ (fun e' => by injection e' with e1 e2; omega), World.cell?_setCell_other _ _ _ _ (fun e' => by injection e' with e1 e2; omega), h.used.cell j hj]
  · rw [World.cell?_setCell_other _ _ _ _ (fun e' => by injection e' with e1 e2; omega), World.cell?_setCell_other _ _ _ _ (fun e' => by injection e' with e1 e2; omega), h.upper.cell j hj]
  · by_cases e2 : j = k * 2 + 1
    · subst e2
      rw [World.cell?_setCell_same _ _ _ (by rw [World.cell?_setCell_other _ _ _ _ (fun e' => by injection e' with e1 e2; omega)]; exact h.roots.cell _ hj), if_neg (by omega), show (k * 2 + 1) / 2 = k by omega, h2]
    · rw [World.cell?_setCell_other _ _ _ _ (fun e' => e2 (by injection e' with e1 e3; omega))]
      by_cases e1 : j = k * 2
      · subst e1
        rw [World.cell?_setCell_same _ _ _ (h.roots.cell _ hj), if_pos (by omega), show (k * 2) / 2 = k by omega, h1]
      · rw [World.cell?_setCell_other _ _ _ _ (fun e' => e1 (by injection e' with e3 e4; omega)), h.roots.cell j hj]
        by_cases e : j % 2 = 0
        · rw [if_pos e, if_pos e, h3 _ (by omega)]
        · rw [if_neg e, if_neg e, h4 _ (by omega)]
theorem H3.drew (h : H3 w wr f g a b) : H3 w wr.drew f g a b :=
  ⟨h.used.block rfl, h.upper.block rfl, h.roots.block rfl, h.below.trans ⟨rfl, rfl, rfl, Nat.le_refl _, fun _ _ => rfl⟩, h.size⟩
theorem H3.same (h : H3 w wr f g a b) (j : Nat) {v : Value} (hj : j < 16) (hv : v = .int .i64 (if j % 2 = 0 then a (j / 2) else b (j / 2))) : H3 w (wr.setCell ⟨w.heap.size + 1 + 1, j, none⟩ v) f g a b := by
  subst hv
  refine ⟨⟨fun i hi => ?_, fun i => by rw [World.frozen?_setCell]; exact h.used.free i⟩, ⟨fun i hi => ?_, fun i => by rw [World.frozen?_setCell]; exact h.upper.free i⟩, ⟨fun i hi => ?_, fun i => by rw [World.frozen?_setCell]; exact h.roots.free i⟩, h.below.setCell (p := ⟨w.heap.size + 1 + 1, j, none⟩) (by show w.heap.size ≤ w.heap.size + 1 + 1; omega) _, by rw [World.size_setCell]; exact h.size⟩
  · rw [World.cell?_setCell_other _ _ _ _ (fun e' => by injection e' with e1 e2; omega), h.used.cell i hi]
  · rw [World.cell?_setCell_other _ _ _ _ (fun e' => by injection e' with e1 e2; omega), h.upper.cell i hi]
  · by_cases e : i = j
    · subst e
      rw [World.cell?_setCell_same _ _ _ (h.roots.cell _ hj)]
    · rw [World.cell?_setCell_other _ _ _ _ (fun e' => e (by injection e' with e1 e2; omega)), h.roots.cell i hi]

end
end Go.Proofs.YtjgdnainhoipgaaGreatDoor
namespace Go.Proofs.YtjgdnainhoipgaaGreatDoor
open Go.RowKit Go.Maps

theorem results_cells3 {P : Program} {fn : Func} {p0 p1 p2 : Tmp} {t0 t1 t2 : TypeId} {v0 v1 v2 : Value} (h : fn.results = #[.cell p0 t0, .cell p1 t1, .cell p2 t2]) (tmps : Array Value) (w : World) (a0 a1 a2 : Addr)
    (hp0 : tmps.getD p0 undef = .pointer (some a0)) (hp1 : tmps.getD p1 undef = .pointer (some a1)) (hp2 : tmps.getD p2 undef = .pointer (some a2))
    (hl0 : (loadVar t0 a0).run P w = .ok v0 w) (hl1 : (loadVar t1 a1).run P w = .ok v1 w) (hl2 : (loadVar t2 a2).run P w = .ok v2 w) :
    (results fn tmps).run P w = .ok (.tuple #[v0, v1, v2]) w := by
  have e0 : tmps[p0]?.getD undef = .pointer (some a0) := by simpa [Array.getD_eq_getD_getElem?] using hp0
  have e1 : tmps[p1]?.getD undef = .pointer (some a1) := by simpa [Array.getD_eq_getD_getElem?] using hp1
  have e2 : tmps[p2]?.getD undef = .pointer (some a2) := by simpa [Array.getD_eq_getD_getElem?] using hp2
  simp [results, h, e0, e1, e2, asAddr, hl0, hl1, hl2]

set_option maxRecDepth 100000 in
set_option maxHeartbeats 1600000 in
theorem readHead_any (s : ByteArray) (hs : s.size = 1024) (w : World) :
    Calls Tryz.prog 52 #[.string s] w fun e w' => e = .returned (.tuple #[.agg (flags (usedOf s)).toArray, .agg (flags (upperOf s)).toArray, .agg (rootsL (rpOf s) (rnOf s)).toArray]) ∧ Below w.heap.size w w' := by
  have hz := Tryz.zeroValue70
  have hz3 := Tryz.zeroValue73
  have h250 : 250 ≤ s.size := by omega
  go_enter Tryz.func52, Tryz.ntmps52
  go_wp2_with fail
  clear hz hz3
  have h0 := H3.start w
  have e1 : (s.extract 0 250).size = 250 := by rw [ext_size _ _ _ (by omega)]
  have e2 : (s.extract 250 1024).size = 774 := by rw [ext_size _ _ _ (by omega)]
  refine (readFlags_any (s.extract 0 250) (by omega) (by omega) _).mono ?_
  rintro _ w1 ⟨rfl, hb1⟩
  have h1 : H3 w w1 _ _ _ _ := h0.later hb1
  clear h0 hb1
  obtain ⟨fs, hfs⟩ : ∃ fs, flags (bitOf (s.extract 0 250)) = fs := ⟨_, rfl⟩
  rw [hfs]
  have hs2 : (Tryz.prog.info? 70).map (·.size) = some fs.toArray.size := by rw [← hfs]; exact size_flagsA _
  have ho := all_oneCell_toArray (show ∀ v ∈ fs, v.oneCell' = true by rw [← hfs]; exact flags_one _)
  have HT : Hid (w1.there w.heap.size 0 fs.toArray.size) := h1.used.there (by rw [← hfs, List.size_toArray, flags_len])
  have h2 : H3 w (w1.setCells w.heap.size 0 fs) (bitOf s) _ _ _ := h1.store0 (by rw [← hfs]; exact flags_congr fun k hk => bitOf_low s hk)
  have q0 := h2.used.cell 0 (by omega)
  have f0 := h2.used.free 0
  have H2 : Hid _ := h2
  clear h2 h1 hfs
  go_wp2_with (refine wpList_store_mid rfl 70 _ _ rfl _ 0 fs.toArray rfl rfl HT.out hs2 ho ?_)
  clear q0 f0 HT ho hs2
  have h3 := H2.out.zero
  clear H2
  refine (readFlags_any (s.extract 250 1024) (by omega) (by omega) _).mono ?_
  rintro _ w2 ⟨rfl, hb2⟩
  have h4 : H3 w w2 _ _ _ _ := h3.later hb2
  clear h3 hb2
  obtain ⟨gs, hgs⟩ : ∃ gs, flags (bitOf (s.extract 250 1024)) = gs := ⟨_, rfl⟩
  rw [hgs]
  have hs2 : (Tryz.prog.info? 70).map (·.size) = some gs.toArray.size := by rw [← hgs]; exact size_flagsA _
  have ho := all_oneCell_toArray (show ∀ v ∈ gs, v.oneCell' = true by rw [← hgs]; exact flags_one _)
  have HT : Hid (w2.there (w.heap.size + 1) 0 gs.toArray.size) := h4.upper.there (by rw [← hgs, List.size_toArray, flags_len])
  have H5 : Hid (H3 w (w2.setCells (w.heap.size + 1) 0 gs) (usedOf s) (upperOf s) (fun _ => 0) (fun _ => 0)) := h4.store1 (by rw [← hgs]; exact flags_congr fun k hk => bitOf_high s hk)
  clear h4 hgs
  go_wp2_with (refine wpList_store_mid rfl 70 _ _ rfl _ 0 gs.toArray rfl rfl HT.out hs2 ho ?_)
  clear HT hs2 ho e1 e2
  go_loopw [13] (fun i wr => ∃ k : Nat, k ≤ 8 ∧ i = .int .i64 k ∧ Hid (H3 w wr (usedOf s) (upperOf s) (fun j => if j < k then rpOf s j else 0) (fun j => if j < k then rnOf s j else 0))) (fun i _ => 8 - (intOf i).toNat)
  case atStart =>
    exact ⟨0, by omega, rfl, by simpa using H5⟩
  case round =>
    obtain ⟨k, hk, rfl, HC⟩ := hrel
    by_cases hlt : k < 8
    · have h1 : (k : Int) < 8 := by omega
      have g1 : (500 + 4 * (k : Int)) ≤ (s.size : Int) := by omega
      have g2 : (500 + 4 * (k : Int) + 2) ≤ (s.size : Int) := by omega
      go_wp2_with fail
      refine (rootAt_any k hlt _).mono ?_
      rintro _ wa ⟨rfl, hw⟩
      subst wa
      go_wp2_with fail
      refine (readNumber_any (s.extract (500 + 4 * k) 1024) (by rw [ext_size _ _ _ (by omega)]; omega) _).mono ?_
      rintro _ wa ⟨rfl, n1, hw⟩
      subst wa
      rw [numOf_ext _ _ _ (by omega)]
      go_wp2_with fail
      refine (rootAt_any k hlt _).mono ?_
      rintro _ wa ⟨rfl, hw⟩
      subst wa
      go_wp2_with fail
      refine (readNumber_any (s.extract (500 + 4 * k + 2) 1024) (by rw [ext_size _ _ _ (by omega)]; omega) _).mono ?_
      rintro _ wa ⟨rfl, n2, hw⟩
      rw [numOf_ext _ _ _ (by omega)]
      have HX : Hid (H3 w wa (usedOf s) (upperOf s) (fun j => if j < k then rpOf s j else 0) (fun j => if j < k then rnOf s j else 0)) := by
        rw [hw]; exact (HC.out.drewN n1).drewN n2
      clear HC hw
      have f1 := HX.out.roots.free (k * 2)
      have f2 := HX.out.roots.free (k * 2 + 1)
      have q1 := HX.out.roots.cell (k * 2) (by omega)
      have q2 := HX.out.roots.cell (k * 2 + 1) (by omega)
      go_wp2
      go_roundw
      case rel =>
        refine ⟨k + 1, by omega, by go_num, HX.out.root ?_ ?_ ?_ ?_⟩
        · show (if k < k + 1 then rpOf s k else 0) = _
          rw [if_pos (by omega)]; rfl
        · show (if k < k + 1 then rnOf s k else 0) = _
          rw [if_pos (by omega), rnOf, show 502 + 4 * k = 500 + 4 * k + 2 by omega]
        · intro j hj
          show (if j < k + 1 then rpOf s j else 0) = if j < k then rpOf s j else 0
          by_cases e : j < k
          · rw [if_pos e, if_pos (by omega)]
          · rw [if_neg e, if_neg (by omega)]
        · intro j hj
          show (if j < k + 1 then rnOf s j else 0) = if j < k then rnOf s j else 0
          by_cases e : j < k
          · rw [if_pos e, if_pos (by omega)]
          · rw [if_neg e, if_neg (by omega)]
      case measure => simp [intOf]; omega
    · have h1 : (k : Int) = 8 := by omega
      go_wp2_with fail
      clear H5
      have hk8 : k = 8 := by omega
      have HX : Hid (H3 w wr (usedOf s) (upperOf s) (rpOf s) (rnOf s)) := by
        have h9 := HC.out
        refine ⟨h9.used, h9.upper, ⟨fun j hj => ?_, h9.roots.free⟩, h9.below, h9.size⟩
        rw [h9.roots.cell j hj, if_pos (show j / 2 < k by omega), if_pos (show j / 2 < k by omega)]
      clear HC
      obtain ⟨A, hA⟩ : ∃ A, rpOf s = A := ⟨_, rfl⟩
      obtain ⟨B, hB⟩ : ∃ B, rnOf s = B := ⟨_, rfl⟩
      rw [hA, hB] at HX
      obtain ⟨F, hF⟩ : ∃ F, flags (usedOf s) = F := ⟨_, rfl⟩
      obtain ⟨G, hG⟩ : ∃ G, flags (upperOf s) = G := ⟨_, rfl⟩
      obtain ⟨R, hR⟩ : ∃ R, rootsL A B = R := ⟨_, rfl⟩
      have hsF : (Tryz.prog.info? 70).map (·.size) = some F.length := by rw [← hF]; exact size_flags _
      have hsG : (Tryz.prog.info? 70).map (·.size) = some G.length := by rw [← hG]; exact size_flags _
      have hsR : (Tryz.prog.info? 73).map (·.size) = some R.length := by rw [← hR]; exact size_roots _ _
      have hoF := all_oneCell_toArray (show ∀ v ∈ F, v.oneCell' = true by rw [← hF]; exact flags_one _)
      have hoG := all_oneCell_toArray (show ∀ v ∈ G, v.oneCell' = true by rw [← hG]; exact flags_one _)
      have hoR := all_oneCell_toArray (show ∀ v ∈ R, v.oneCell' = true by rw [← hR]; exact rootsL_one _ _)
      have lF : F.toArray.size = 2000 := by rw [← hF, List.size_toArray, flags_len]
      have lG : G.toArray.size = 2000 := by rw [← hG, List.size_toArray, flags_len]
      have lR : R.toArray.size = 16 := by rw [← hR, List.size_toArray, rootsL_len]
      have rF : ∀ wx, H3 w wx (usedOf s) (upperOf s) A B → wx.rangeAt w.heap.size 0 F := fun wx h => by rw [← hF]; exact h.used.range
      have rG : ∀ wx, H3 w wx (usedOf s) (upperOf s) A B → wx.rangeAt (w.heap.size + 1) 0 G := fun wx h => by rw [← hG]; exact h.upper.range
      have rR : ∀ wx, H3 w wx (usedOf s) (upperOf s) A B → wx.rangeAt (w.heap.size + 1 + 1) 0 R := fun wx h => by rw [← hR]; exact h.roots.range
      have sF : ∀ wx, H3 w wx (usedOf s) (upperOf s) A B → H3 w (wx.setCells w.heap.size 0 F.toArray.toList) (usedOf s) (upperOf s) A B := fun wx h => h.store0 hF.symm
      have sG : ∀ wx, H3 w wx (usedOf s) (upperOf s) A B → H3 w (wx.setCells (w.heap.size + 1) 0 G.toArray.toList) (usedOf s) (upperOf s) A B := fun wx h => h.store1 hG.symm
      have sR : ∀ wx, H3 w wx (usedOf s) (upperOf s) A B → H3 w (wx.setCells (w.heap.size + 1 + 1) 0 R.toArray.toList) (usedOf s) (upperOf s) A B := fun wx h => h.store2 hR.symm
      have hend : ∀ wx, H3 w wx (usedOf s) (upperOf s) A B → Hid (Below w.heap.size w wx) := fun wx h => h.below
      have HE : Hid (flags (usedOf s) = F ∧ flags (upperOf s) = G ∧ rootsL (rpOf s) (rnOf s) = R) := ⟨hF, hG, by rw [hA, hB, hR]⟩
      clear hF hG hA hB hR h1 hk8
      refine wp_region_held_drew (S := fun wx => H3 w wx (usedOf s) (upperOf s) A B) (by kernel_rfl) HX.out.drew ?_
      intro g0
      refine wpAnyH_take (i := 0) rfl (by kernel_rfl) (by kernel_rfl) (by kernel_rfl) (fun _ _ _ h => h) (yieldsIf_load_mid (by rfl) 70 _ rfl _ 0 rfl F _ (fun wx h => rF wx h) Tryz.underlying70 rfl hsF) g0 ?_
      simp only [Act.put, List.setIfInBounds_toArray]
      refine wpAnyH_take (i := 1) rfl (by kernel_rfl) (by kernel_rfl) (by kernel_rfl) (fun _ _ _ h => h) (yieldsIf_load_mid (by rfl) 70 _ rfl _ 0 rfl G _ (fun wx h => rG wx h) Tryz.underlying70 rfl hsG) g0 ?_
      simp only [Act.put]
      refine wpAnyH_take (i := 2) rfl (by kernel_rfl) (by kernel_rfl) (by kernel_rfl) (fun _ _ _ h => h) (yieldsIf_load_mid (by rfl) 73 _ rfl _ 0 rfl R _ (fun wx h => rR wx h) Tryz.underlying73 rfl hsR) g0 ?_
      simp only [Act.put]
      refine wpAnyH_ready (rs := [3]) (by kernel_rfl) (by decide) (AllReadyH.cons rfl (fun K hK => ?_) AllReadyH.nil)
      rw [if_pos (by rfl)]
      refine wp_store_mid 70 _ _ rfl _ 0 F.toArray rfl rfl (g0.used.there lF) (by rw [List.size_toArray]; exact hsF) hoF ?_
      have g1 := sF _ g0
      refine hK.out _ _ g1 (fun _ => ?_)
      clear hK K
      simp only [Act.put]
      refine wpAnyH_ready (rs := [4]) (by kernel_rfl) (by decide) (AllReadyH.cons rfl (fun K hK => ?_) AllReadyH.nil)
      rw [if_pos (by rfl)]
      refine wp_store_mid 70 _ _ rfl _ 0 G.toArray rfl rfl (g1.upper.there lG) (by rw [List.size_toArray]; exact hsG) hoG ?_
      have g2 := sG _ g1
      refine hK.out _ _ g2 (fun _ => ?_)
      clear hK K
      simp only [Act.put]
      refine wpAnyH_ready (rs := [5]) (by kernel_rfl) (by decide) (AllReadyH.cons rfl (fun K hK => ?_) AllReadyH.nil)
      rw [if_pos (by rfl)]
      refine wp_store_mid 73 _ _ rfl _ 0 R.toArray rfl rfl (g2.roots.there lR) (by rw [List.size_toArray]; exact hsR) hoR ?_
      have g3 := sR _ g2
      refine hK.out _ _ g3 (fun _ => ?_)
      clear hK K
      simp only [Act.put]
      refine wpAnyH_done (by kernel_rfl) ?_ _
      generalize ((wr.drew.setCells w.heap.size 0 F.toArray.toList).setCells (w.heap.size + 1) 0 G.toArray.toList).setCells (w.heap.size + 1 + 1) 0 R.toArray.toList = wz at *
      have l0 := run_loadVar_mid (P := Tryz.prog) wz w.heap.size 0 70 F _ (rF _ g3) Tryz.underlying70 rfl hsF
      have l1 := run_loadVar_mid (P := Tryz.prog) wz (w.heap.size + 1) 0 70 G _ (rG _ g3) Tryz.underlying70 rfl hsG
      have l2 := run_loadVar_mid (P := Tryz.prog) wz (w.heap.size + 1 + 1) 0 73 R _ (rR _ g3) Tryz.underlying73 rfl hsR
      have HB := hend _ g3
      clear rF rG rR sF sG sR hend g0 g1 g2 g3
      go_wp2_with fail
      exact bodyPost_ret (v := .tuple #[.agg F.toArray, .agg G.toArray, .agg R.toArray]) (results_cells3 Tryz.results52 _ _ _ _ _ rfl rfl rfl l0 l1 l2) rfl ⟨by rw [HE.out.1, HE.out.2.1, HE.out.2.2], HB.out⟩
end Go.Proofs.YtjgdnainhoipgaaGreatDoor
namespace Go.Proofs.YtjgdnainhoipgaaGreatDoor
open Go.RowKit Go.Maps

theorem Prg.only {S : Nat → Prop} {b : Nat} {s : St} {w w' : World} (h : Prg b s w) (ho : Only S w w') (hs : ¬ S b) : Prg b s w' := DiskIs.block h (ho.block b (DiskIs.lt h) hs)
theorem Prg.below {b : Nat} {s : St} {w w' : World} (h : Prg b s w) (hb : Below w.heap.size w w') : Prg b s w' := DiskIs.below h hb
theorem Prg.drew {b : Nat} {s : St} {w : World} (h : Prg b s w) : Prg b s w.drew := DiskIs.block h rfl
theorem PagerIs.nd {bp bd bm n : Nat} {p : Pg} {s : St} {w : World} (h : PagerIs bp bd bm n p w) (k : Prg bd s w) : bp ≠ bd := fun e => by
  subst e
  have h1 := h.cells.cell 0 (by omega)
  rcases DiskIs.page k 0 (by omega) with ⟨h2, _⟩ | ⟨h2, _⟩ <;> (rw [h1] at h2; cases h2)
theorem PagerIs.md {bp bd bm n : Nat} {p : Pg} {s : St} {w : World} (h : PagerIs bp bd bm n p w) (k : Prg bd s w) : bm ≠ bd := h.own.ne_cell (DiskIs.ends k)
end Go.Proofs.YtjgdnainhoipgaaGreatDoor
namespace Go.Proofs.YtjgdnainhoipgaaGreatDoor
open Go.RowKit Go.Maps

/-- block bp has these 4,020 cells -/
structure Row (bp : Nat) (v : Nat → Value) (w : World) : Prop where
  cell : ∀ k, k < 4020 → w.cell? ⟨bp, k, none⟩ = some (v k)
  free : ∀ k, w.frozen? ⟨bp, k, none⟩ = false
section
variable {bp : Nat} {v : Nat → Value} {w w' : World}
theorem Row.lt (h : Row bp v w) : bp < w.heap.size := World.block_lt_of_cell? w _ (h.cell 0 (by omega))
theorem Row.block (h : Row bp v w) (hb : w'.heap[bp]? = w.heap[bp]?) : Row bp v w' :=
  ⟨fun k hk => (World.cell?_of_block hb).trans (h.cell k hk), fun k => (World.frozen?_of_block (a := ⟨bp, k, none⟩) hb).trans (h.free k)⟩
theorem Row.below (h : Row bp v w) (hb : Below w.heap.size w w') : Row bp v w' := h.block (hb.block _ h.lt)
theorem Row.there (h : Row bp v w) (o n : Nat) (ho : o + n ≤ 4020) : w.there bp o n := fun j hj => ⟨by rw [h.cell _ (by omega)]; rfl, h.free _⟩
/-- with a row of cells laid anew -/
def over (v : Nat → Value) (o : Nat) (vs : List Value) : Nat → Value := fun k => if o ≤ k then (vs[k - o]?).getD (v k) else v k
theorem Row.setN (h : Row bp v w) (o : Nat) (vs : List Value) (ho : o + vs.length ≤ 4020) : Row bp (over v o vs) (w.setCells bp o vs) := by
  refine ⟨fun k hl => ?_, fun k => by rw [World.frozen?_setCells]; exact h.free k⟩
  by_cases e : k < o ∨ o + vs.length ≤ k
  · rw [World.cell?_setCells_out bp vs o w ⟨bp, k, none⟩ (fun _ _ => e), h.cell k hl]
    congr 1
    unfold over
    split
    · rw [List.getElem?_eq_none (by omega)]; rfl
    · rfl
  · obtain ⟨j, rfl⟩ : ∃ j, k = o + j := ⟨k - o, by omega⟩
    have hj : j < vs.length := by omega
    rw [World.cell?_setCells_in bp vs o w (fun i hi => by rw [h.cell _ (by omega)]; rfl) j hj]
    unfold over
    rw [if_pos (by omega), show o + j - o = j by omega, List.getElem?_eq_getElem hj]; rfl
theorem Row.set (h : Row bp v w) (o : Nat) (x : Value) (ho : o < 4020) : Row bp (over v o [x]) (w.setCell ⟨bp, o, none⟩ x) := by
  refine ⟨fun k hl => ?_, fun k => by rw [World.frozen?_setCell]; exact h.free k⟩
  by_cases e : k = o
  · subst e
    rw [World.cell?_setCell_same _ _ _ (h.cell k hl)]
    unfold over
    rw [if_pos (Nat.le_refl _), Nat.sub_self]; rfl
  · rw [World.cell?_setCell_other _ _ _ _ (fun e' => e (by injection e' with e1 e2; omega)), h.cell k hl]
    congr 1
    unfold over
    split
    · rw [List.getElem?_eq_none (by simp; omega)]; rfl
    · rfl
theorem over_in (v : Nat → Value) (o : Nat) (vs : List Value) {j : Nat} {x : Value} (h : vs[j]? = some x) : over v o vs (o + j) = x := by
  unfold over
  rw [if_pos (by omega), show o + j - o = j by omega, h]; rfl
theorem over_out (v : Nat → Value) (o : Nat) (vs : List Value) {k : Nat} (h : k < o ∨ o + vs.length ≤ k) : over v o vs k = v k := by
  unfold over
  split
  · rw [List.getElem?_eq_none (by omega)]; rfl
  · rfl
end
theorem Row.cells {bp bd bm : Nat} {p : Pg} {v : Nat → Value} {w : World} (h : Row bp v w) (hv : ∀ k, k < 4020 → v k = cellOf p bd bm k) : Cells bp bd bm p w :=
  ⟨fun k hk => by rw [h.cell k hk, hv k hk], h.free⟩
theorem Cells.row {bp bd bm : Nat} {p : Pg} {w : World} (h : Cells bp bd bm p w) : Row bp (cellOf p bd bm) w := ⟨h.cell, h.free⟩

theorem Only.set (bp o : Nat) (v : Value) (w : World) : Only (fun b => b = bp) w (w.setCell ⟨bp, o, none⟩ v) := Only.of_grown (grownBy_set w bp o v) rfl
theorem Only.setCells (bp : Nat) : ∀ (vs : List Value) (o : Nat) (w : World), Only (fun b => b = bp) w (w.setCells bp o vs)
  | [], _, w => Only.refl _ w
  | v :: r, o, w => (Only.set bp o v w).trans (Only.setCells bp r (o + 1) (w.setCell ⟨bp, o, none⟩ v)) (fun _ h => .inl h)
theorem Only.alloc (bp : Nat) (o : Obj) (w : World) : Only (fun b => b = bp) w (w.alloc o) := Only.of_below ((Below.refl _ _).alloc (Nat.le_refl _) _)

/-- which page is the head -/
def headOf (pg : Nat → ByteArray) : ByteArray := pg (placeF 0 ((pg 4000).data.toList.getD 0 0 != 0))
/-- what is committed to a disk -/
def loaded (pg : Nat → ByteArray) (commits : Int) (down : Bool) : Pg :=
  ⟨upperOf (headOf pg), usedOf (headOf pg), rpOf (headOf pg), rnOf (headOf pg), fun _ => none, commits, down⟩
end Go.Proofs.YtjgdnainhoipgaaGreatDoor
namespace Go.Proofs.YtjgdnainhoipgaaGreatDoor
open Go.RowKit Go.Maps

theorem placeF_lt (k : Nat) (hk : k < 2000) (b : Bool) : placeF k b < 4001 := by unfold placeF; split <;> omega

theorem headOf_is (pg : Nat → ByteArray) (h : 0 < (pg 4000).size) : pg (placeF 0 (((pg 4000)[0].toNat : Int) != 0)) = headOf pg := by
  unfold headOf
  have e0 : (pg 4000).data.toList.getD 0 0 = (pg 4000)[0] := by
    have hl : 0 < (pg 4000).data.toList.length := by simpa using h
    rw [List.getD_eq_getElem?_getD, List.getElem?_eq_getElem hl]; rfl
  rw [e0]
  congr 2
  by_cases e : (pg 4000)[0] = 0
  · rw [e]; rfl
  · have h1 : ((pg 4000)[0] != 0) = true := by simpa using e
    have h2 : ((pg 4000)[0]).toNat ≠ 0 := fun h3 => e (by apply UInt8.toNat_inj.1; rw [h3]; rfl)
    rw [h1]
    simp only [bne_iff_ne, ne_eq]
    omega

/-- the cells that a load leaves -/
theorem loaded_cells {bd bm : Nat} {v : Nat → Value} (pg : Nat → ByteArray) (c : Int) (d : Bool) (hv0 : v 0 = .pointer (some ⟨bd, 0, none⟩)) (h18 : v 4018 = .int .i64 c) (h19 : v 4019 = .bool d) (F G R : List Value)
    (hF : flags (usedOf (headOf pg)) = F) (hG : flags (upperOf (headOf pg)) = G) (hR : rootsL (rpOf (headOf pg)) (rnOf (headOf pg)) = R) (k : Nat) (hk : k < 4020) :
    over (over (over (over v 2001 F) 1 G) 4001 R) 4017 [.map (some bm)] k = cellOf (loaded pg c d) bd bm k := by
  have lF : F.length = 2000 := by rw [← hF, flags_len]
  have lG : G.length = 2000 := by rw [← hG, flags_len]
  have lR : R.length = 16 := by rw [← hR, rootsL_len]
  by_cases h0 : k = 0
  · subst h0
    rw [over_out _ _ _ (by omega), over_out _ _ _ (by omega), over_out _ _ _ (by omega), over_out _ _ _ (by omega), hv0]; rfl
  by_cases h1 : k < 2001
  · obtain ⟨j, rfl⟩ : ∃ j, k = 1 + j := ⟨k - 1, by omega⟩
    rw [over_out _ _ _ (by omega), over_out _ _ _ (by omega), over_in (x := .bool (upperOf (headOf pg) j)) _ _ _ (by rw [← hG, flags_get _ (by omega)]), cellOf_upper _ _ _ (by omega)]; rfl
  by_cases h2 : k < 4001
  · obtain ⟨j, rfl⟩ : ∃ j, k = 2001 + j := ⟨k - 2001, by omega⟩
    rw [over_out _ _ _ (by omega), over_out _ _ _ (by omega), over_out _ _ _ (by omega), over_in (x := .bool (usedOf (headOf pg) j)) _ _ _ (by rw [← hF, flags_get _ (by omega)]), cellOf_used _ _ _ (by omega)]; rfl
  by_cases h3 : k < 4017
  · obtain ⟨j, rfl⟩ : ∃ j, k = 4001 + j := ⟨k - 4001, by omega⟩
    rw [over_out _ _ _ (by omega), over_in (x := .int .i64 (if j % 2 = 0 then rpOf (headOf pg) (j / 2) else rnOf (headOf pg) (j / 2))) _ _ _ (by rw [← hR, rootsL_get _ _ (by omega)]), cellOf_root _ _ _ (by omega)]; rfl
  by_cases h4 : k = 4017
  · subst h4
    exact over_in _ 4017 _ (j := 0) rfl
  rw [over_out _ _ _ (by simp; omega), over_out _ _ _ (by omega), over_out _ _ _ (by omega), over_out _ _ _ (by omega)]
  by_cases h5 : k = 4018
  · subst h5; rw [h18]; rfl
  · obtain rfl : k = 4019 := by omega
    rw [h19]; rfl

set_option maxRecDepth 100000 in
set_option maxHeartbeats 800000 in
theorem load_any {bp bd : Nat} {v : Nat → Value} {s : St} {w : World} (hR : Row bp v w) (hv0 : v 0 = .pointer (some ⟨bd, 0, none⟩)) (c : Int) (d : Bool) (h18 : v 4018 = .int .i64 c) (h19 : v 4019 = .bool d) (hD : Prg bd s w) (hne : bp ≠ bd) :
    Calls Tryz.prog 25 #[.pointer (some ⟨bp, 0, none⟩)] w fun e w' => e = .returned (.tuple #[]) ∧ (∃ bm, w.heap.size ≤ bm ∧ PagerIs bp bd bm 0 (loaded s.pg c d) w') ∧ Prg bd s w' ∧ Only (fun b => b = bp) w w' := by
  have q0 := hR.cell 0 (by omega)
  rw [hv0] at q0
  have HR : Hid _ := hR
  have HD : Hid _ := hD
  clear hR hD
  go_enter Tryz.func25, Tryz.ntmps25
  go_wp2_with fail
  refine (read_yes HD.out 4000 (by omega)).mono ?_
  rintro _ w1 ⟨rfl, hb1⟩
  have hT : (s.pg 4000).size = 1024 := page_of_sizes HD.out 4000 (by omega)
  have hT0 : 0 < (s.pg 4000).size := by omega
  have hT0' : (0 : Int) < ((s.pg 4000).size : Int) := by omega
  have HK : Hid (∀ wx, Below w1.heap.size w1 wx → wx.cell? ⟨bp, 0, none⟩ = some (.pointer (some ⟨bd, 0, none⟩))) := fun wx hx => by
    rw [hx.cell (p := ⟨bp, 0, none⟩) (by have := HR.out.lt; have := hb1.size; show bp < _; omega), hb1.cell (p := ⟨bp, 0, none⟩) HR.out.lt]; exact q0
  have HDx : Hid (∀ wx, Below w1.heap.size w1 wx → Prg bd s wx) := fun wx hx => (HD.out.below hb1).below hx
  have q1 := HK.out _ (Below.refl _ _)
  go_wp2_with fail
  go_region_held3 (fun wx => wx.cell? ⟨bp, 0, none⟩ = some (.pointer (some ⟨bd, 0, none⟩))) (first | exact HK.out _ HB.out | exact HK.out _ (Below.refl _ _).drew) (first | (go_at_call 51; refine (place_any 0 (by omega) _ _).mono ?_; rintro _ wy ⟨rfl, hwy⟩; subst wy) | (go_at_call 50; refine (read_yes (HDx.out _ (Below.refl _ _).drew) _ (placeF_lt 0 (by omega) _)).mono ?_; rintro _ wy ⟨rfl, hb⟩; have HB : Hid (Below w1.heap.size w1 wy) := (Below.refl _ w1).drew.trans hb))
  obtain ⟨P, hP⟩ : ∃ P, s.pg (placeF 0 (((s.pg 4000)[0].toNat : Int) != 0)) = P := ⟨_, rfl⟩
  have hPs : P.size = 1024 := by rw [← hP]; exact page_of_sizes HD.out _ (placeF_lt 0 (by omega) _)
  have HP : Hid (P = headOf s.pg) := by rw [← hP]; exact headOf_is s.pg hT0
  rw [hP]
  clear hP
  have hmm := @run_makeMap Tryz.prog
  go_wp2_with fail
  refine (readHead_any P hPs _).mono ?_
  rintro _ w2 ⟨rfl, hb2⟩
  have hb3 : Below w.heap.size w w2 := hb1.trans ((HB.out.trans (hb2.mono HB.out.size)).mono hb1.size)
  have hr2 : Row bp v w2 := HR.out.below hb3
  have hd2 : Prg bd s w2 := HD.out.below hb3
  obtain ⟨F, hF⟩ : ∃ F, flags (usedOf P) = F := ⟨_, rfl⟩
  obtain ⟨G, hG⟩ : ∃ G, flags (upperOf P) = G := ⟨_, rfl⟩
  obtain ⟨R, hR⟩ : ∃ R, rootsL (rpOf P) (rnOf P) = R := ⟨_, rfl⟩
  have lF : F.length = 2000 := by rw [← hF, flags_len]
  have lG : G.length = 2000 := by rw [← hG, flags_len]
  have lR : R.length = 16 := by rw [← hR, rootsL_len]
  have sF : (Tryz.prog.info? 70).map (·.size) = some F.toArray.size := by rw [← hF]; exact size_flagsA _
  have sG : (Tryz.prog.info? 70).map (·.size) = some G.toArray.size := by rw [← hG]; exact size_flagsA _
  have sR : (Tryz.prog.info? 73).map (·.size) = some R.toArray.size := by rw [← hR]; exact size_rootsA _ _
  have oF := all_oneCell_toArray (show ∀ v ∈ F, v.oneCell' = true by rw [← hF]; exact flags_one _)
  have oG := all_oneCell_toArray (show ∀ v ∈ G, v.oneCell' = true by rw [← hG]; exact flags_one _)
  have oR := all_oneCell_toArray (show ∀ v ∈ R, v.oneCell' = true by rw [← hR]; exact rootsL_one _ _)
  have r3 := hr2.setN 2001 F (by omega)
  have r4 := r3.setN 1 G (by omega)
  have r5 := r4.setN 4001 R (by omega)
  have T0 : Hid (w2.there bp 2001 F.toArray.size) := hr2.there _ _ (by rw [List.size_toArray]; omega)
  have T1 : Hid ((w2.setCells bp 2001 F).there bp 1 G.toArray.size) := r3.there _ _ (by rw [List.size_toArray]; omega)
  have T2 : Hid (((w2.setCells bp 2001 F).setCells bp 1 G).there bp 4001 R.toArray.size) := r4.there _ _ (by rw [List.size_toArray]; omega)
  rw [hF, hG, hR]
  have HE : Hid (flags (usedOf P) = F ∧ flags (upperOf P) = G ∧ rootsL (rpOf P) (rnOf P) = R) := ⟨hF, hG, hR⟩
  have HL : Hid (F.length = 2000 ∧ G.length = 2000 ∧ R.length = 16) := ⟨lF, lG, lR⟩
  have H5 : Hid _ := r5
  have r6 := r5.below ((Below.refl _ _).alloc (o := .map #[] 0) (Nat.le_refl _))
  have q17 := r6.cell 4017 (by omega)
  have f17 := r6.free 4017
  have H6 : Hid _ := r6.set 4017 (.map (some (((w2.setCells bp 2001 F).setCells bp 1 G).setCells bp 4001 R).heap.size)) (by omega)
  have HD2 : Hid _ := hd2
  have HB3 : Hid _ := hb3
  clear r6 hF hG hR lF lG lR r3 r4 r5 hr2 hd2 hb2 hb3 hb1 HB q1
  go_wp2_with (first | (refine wpList_store_mid rfl 70 _ _ rfl bp 2001 F.toArray rfl rfl T0.out sF oF ?_) | (refine wpList_store_mid rfl 70 _ _ rfl bp 1 G.toArray rfl rfl T1.out sG oG ?_) | (refine wpList_store_mid rfl 73 _ _ rfl bp 4001 R.toArray rfl rfl T2.out sR oR ?_))
  go_end0
  have hs4 : w2.heap.size ≤ (((w2.setCells bp 2001 F).setCells bp 1 G).setCells bp 4001 R).heap.size := Nat.le_trans (Only.setCells bp F 2001 w2).size (Nat.le_trans (Only.setCells bp G 1 _).size (Only.setCells bp R 4001 _).size)
  have ho : Only (fun b => b = bp) w2 (((w2.setCells bp 2001 F).setCells bp 1 G).setCells bp 4001 R) := ((Only.setCells bp F 2001 w2).trans (Only.setCells bp G 1 _) (fun _ h => .inl h)).trans (Only.setCells bp R 4001 _) (fun _ h => .inl h)
  have hown := World.ownsMap_made (H := Unit) (((w2.setCells bp 2001 F).setCells bp 1 G).setCells bp 4001 R) Tryz.prog 3 sheetElem
  generalize (((w2.setCells bp 2001 F).setCells bp 1 G).setCells bp 4001 R) = w4 at *
  have ho2 : Only (fun b => b = bp) w4 ((w4.alloc (.map #[] 0)).setCell ⟨bp, 4017, none⟩ (.map (some w4.heap.size))) := (Only.alloc bp _ w4).trans (Only.set bp 4017 _ _) (fun _ h => .inl h)
  have ho3 := ho.trans ho2 (fun _ h => .inl h)
  have hbp : bp < w2.heap.size := Nat.lt_of_lt_of_le HR.out.lt HB3.out.size
  have hs := HB3.out.size
  refine ⟨rfl, ⟨w4.heap.size, by omega, ?_, ?_⟩, Prg.only (s := s) HD2.out ho3 (fun e => hne e.symm), (Only.of_below HB3.out).trans ho3 (fun _ h => .inl h)⟩
  · have := HP.out
    subst this
    exact H6.out.cells (fun k hk => loaded_cells s.pg c d hv0 h18 h19 F G R HE.out.1 HE.out.2.1 HE.out.2.2 k hk)
  · have hS : Sheets w4.heap.size 0 (fun _ => none) (w4.alloc (.map #[] 0)) := ⟨_, hown, mapIs_empty⟩
    exact hS.only (Only.set bp 4017 _ _) (fun e => by omega)
end Go.Proofs.YtjgdnainhoipgaaGreatDoor
namespace Go.Proofs.YtjgdnainhoipgaaGreatDoor
open Go.RowKit Go.Maps

theorem size76 : Tryz.zeroCells78.size = 4020 := by kernel_rfl
theorem zero76_19 : Tryz.zeroCells78[4019]? = some (.bool false) := by kernel_rfl
/-- a pager as it is made -/
theorem made_facts (bd : Nat) (A : Array Value) (hA : (Tryz.zeroCells78.setIfInBounds 0 (.pointer (some ⟨bd, 0, none⟩))).setIfInBounds 4018 (.int .i64 1) = A) :
    A.size = 4020 ∧ A[0]? = some (.pointer (some ⟨bd, 0, none⟩)) ∧ A[4018]? = some (.int .i64 1) ∧ A[4019]? = some (.bool false) := by
  subst hA
  refine ⟨by rw [Array.size_setIfInBounds, Array.size_setIfInBounds, size76], ?_, ?_, ?_⟩
  · rw [Array.getElem?_setIfInBounds_ne (by omega), Array.getElem?_setIfInBounds_self_of_lt (by rw [size76]; omega)]
  · rw [Array.getElem?_setIfInBounds_self_of_lt (by rw [Array.size_setIfInBounds, size76]; omega)]
  · rw [Array.getElem?_setIfInBounds_ne (by omega), Array.getElem?_setIfInBounds_ne (by omega), zero76_19]
theorem made_row (A : Array Value) (hs : A.size = 4020) (w : World) : Row w.heap.size (fun k => (A[k]?).getD undef) (w.alloc (.cells A 78)) := by
  have hn : (w.alloc (.cells A 78)).heap[w.heap.size]? = some (.cells A 78) := heap_alloc_new w _
  refine ⟨fun k hk => ?_, fun k => by simp only [World.frozen?, hn]; simp⟩
  rw [cell_of_row _ _ _ _ _ _ hn]
  have hl : k < A.size := by rw [hs]; exact hk
  show A[k]? = some ((A[k]?).getD undef)
  rw [Array.getElem?_eq_getElem hl]; rfl

set_option maxRecDepth 100000 in
set_option maxHeartbeats 800000 in
theorem open_any {bd : Nat} {s : St} {w : World} (hD : Prg bd s w) :
    Calls Tryz.prog 10 #[.pointer (some ⟨bd, 0, none⟩)] w fun e w' => ∃ bp bm, e = .returned (.tuple #[.pointer (some ⟨bp, 0, none⟩), .nilIface]) ∧ w.heap.size ≤ bp ∧ w.heap.size ≤ bm ∧ PagerIs bp bd bm 0 (loaded s.pg 1 false) w' ∧ Prg bd s w' ∧ Below w.heap.size w w' := by
  have HD : Hid _ := hD
  clear hD
  go_enter Tryz.func10, Tryz.ntmps10
  go_wp2_with fail
  obtain ⟨A, hA⟩ : ∃ A, (Tryz.zeroCells78.setIfInBounds 0 (.pointer (some ⟨bd, 0, none⟩))).setIfInBounds 4018 (.int .i64 1) = A := ⟨_, rfl⟩
  rw [hA]
  obtain ⟨a1, a2, a3, a4⟩ := made_facts bd A hA
  clear hA
  have hr := made_row A a1 w
  have hd : Prg bd s (w.alloc (.cells A 78)) := Prg.below (s := s) HD.out ((Below.refl _ _).alloc (Nat.le_refl _) _)
  have hlt : bd < w.heap.size := DiskIs.lt HD.out
  refine (load_any (bp := w.heap.size) (bd := bd) (s := s) hr (by rw [a2]; rfl) 1 false (by rw [a3]; rfl) (by rw [a4]; rfl) hd (by omega)).mono ?_
  rintro _ w1 ⟨rfl, ⟨bm, hbm, hP⟩, hD1, hO⟩
  have hsz : (w.alloc (.cells A 78)).heap.size = w.heap.size + 1 := World.size_alloc _ _
  have HB : Hid (Below w.heap.size w w1) := Only.below ((Below.refl _ _).alloc (o := .cells A 78) (Nat.le_refl _)) hO (by omega) (fun i hi => by omega)
  have HP : Hid _ := hP
  have HD1 : Hid _ := hD1
  have HM : Hid (w.heap.size ≤ bm) := by rw [hsz] at hbm; exact (by omega : w.heap.size ≤ bm)
  clear hP hD1 hO hr hd hbm a1 a2 a3 a4
  go_wp2
  go_ret2
  exact ⟨w.heap.size, bm, rfl, Nat.le_refl _, HM.out, HP.out, HD1.out, HB.out⟩
end Go.Proofs.YtjgdnainhoipgaaGreatDoor
