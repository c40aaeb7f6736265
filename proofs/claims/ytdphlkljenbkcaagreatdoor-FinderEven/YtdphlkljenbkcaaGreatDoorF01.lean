/- Texts of the proof of FinderEven: Disk, Tear, Write, State, Pg, Load, Loa2, Opn, Sml, Srt, Mpl, Rdp, Wrp. -/
import Derived.Test.YtdphlkljenbkcaaGreatDoorF00
import Derived.Laws.IdiomCopy
import Derived.Laws.IdiomStrings
import Derived.Carry
namespace Go.Proofs.YtdphlkljenbkcaaGreatDoor
open Go.RowKit

/-- a page of noughts -/
def zeros : ByteArray := ⟨(List.replicate 1024 (0 : UInt8)).toArray⟩
theorem zeros_size : zeros.size = 1024 := by
  show (List.replicate 1024 (0 : UInt8)).toArray.size = 1024
  rw [List.size_toArray, List.length_replicate]

theorem not_empty {s : ByteArray} (h : s.size = 1024) : s.toList.isEmpty = false := by
  rw [ByteArray.toList_eq]
  cases hl : s.data.toList with
  | nil => have : s.size = s.data.toList.length := by simp
           rw [hl, h] at this; cases this
  | cons a l => rfl

/-- block b is a disk with these pages -/
structure DiskIs (b : Nat) (pg : Nat → ByteArray) (ends : Bool) (left torn : Int) (w : World) : Prop where
  page : ∀ k, k < 4001 → (w.cell? ⟨b, k, none⟩ = some (.string (pg k)) ∧ (pg k).size = 1024) ∨ (w.cell? ⟨b, k, none⟩ = some (.string ⟨#[]⟩) ∧ pg k = zeros)
  ends : w.cell? ⟨b, 4001, none⟩ = some (.bool ends)
  left : w.cell? ⟨b, 4002, none⟩ = some (.int .i64 left)
  torn : w.cell? ⟨b, 4003, none⟩ = some (.int .i64 torn)
  free : ∀ k, w.frozen? ⟨b, k, none⟩ = false

theorem grown_of_below {w w' : World} (h : Below w.heap.size w w') (row : Option Nat) : w.grownBy w' row := ⟨h.os, h.tape, h.output, h.size, fun k hk _ => h.block k hk⟩

theorem DiskIs.lt {b : Nat} {pg : Nat → ByteArray} {ends : Bool} {left torn : Int} {w : World} (h : DiskIs b pg ends left torn w) : b < w.heap.size := World.block_lt_of_cell? w _ h.ends

theorem DiskIs.size {b : Nat} {pg : Nat → ByteArray} {ends : Bool} {left torn : Int} {w : World} (h : DiskIs b pg ends left torn w) (k : Nat) (hk : k < 4001) : (pg k).size = 1024 := by
  rcases h.page k hk with ⟨_, h1⟩ | ⟨_, h1⟩
  · exact h1
  · rw [h1, zeros_size]

theorem DiskIs.block {b : Nat} {pg : Nat → ByteArray} {ends : Bool} {left torn : Int} {w w' : World} (h : DiskIs b pg ends left torn w) (hb : w'.heap[b]? = w.heap[b]?) : DiskIs b pg ends left torn w' := by
  have c : ∀ k, w'.cell? ⟨b, k, none⟩ = w.cell? ⟨b, k, none⟩ := fun k => World.cell?_of_block hb
  refine ⟨fun k hk => ?_, ?_, ?_, ?_, fun k => ?_⟩
  · rw [c]; exact h.page k hk
  · rw [c]; exact h.ends
  · rw [c]; exact h.left
  · rw [c]; exact h.torn
  · exact (World.frozen?_of_block (a := ⟨b, k, none⟩) hb).trans (h.free k)

theorem DiskIs.grown {b : Nat} {pg : Nat → ByteArray} {ends : Bool} {left torn : Int} {w w' : World} {row : Option Nat} (h : DiskIs b pg ends left torn w) (hg : w.grownBy w' row) (hne : some b ≠ row) : DiskIs b pg ends left torn w' :=
  h.block (hg.block b h.lt hne)

theorem DiskIs.below {b : Nat} {pg : Nat → ByteArray} {ends : Bool} {left torn : Int} {w w' : World} (h : DiskIs b pg ends left torn w) (hb : Below w.heap.size w w') : DiskIs b pg ends left torn w' :=
  h.block (hb.block b h.lt)

theorem DiskIs.drew {b : Nat} {pg : Nat → ByteArray} {ends : Bool} {left torn : Int} {w : World} (h : DiskIs b pg ends left torn w) : DiskIs b pg ends left torn w.drew := h.block rfl

theorem there_yes (k : Nat) (w : World) (hk : k < 4001) : Calls Tryz.prog 75 #[.int .i64 k] w fun e w' => e = .returned (.bool true) ∧ w' = w := by
  have h1 : (k : Int) < 4001 := by omega
  go_enter Tryz.func75, Tryz.ntmps75
  go_wp2
  go_ret
  exact ⟨ret_bool (by simp), rfl⟩

theorem there_no (k : Int) (w : World) (hk : k < 0 ∨ 4001 ≤ k) : Calls Tryz.prog 75 #[.int .i64 k] w fun e w' => e = .returned (.bool false) ∧ w' = w := by
  by_cases h0 : 0 ≤ k
  · have h1 : ¬ k < 4001 := by omega
    go_enter Tryz.func75, Tryz.ntmps75
    go_wp2
    go_ret
    exact ⟨ret_bool (by simp), rfl⟩
  · go_enter Tryz.func75, Tryz.ntmps75
    go_wp2
    go_ret
    exact ⟨ret_bool (by simp), rfl⟩

theorem clone_any (s : ByteArray) (w : World) (hs : s.size ≤ 1024) : Calls Tryz.prog 60 #[.string s] w fun e w' => e = .returned (.string s) ∧ Below w.heap.size w w' := by
  go_enter Tryz.func60, Tryz.ntmps60
  go_wp2_with fail
  refine (lib_clone s w (by omega)).mono ?_
  rintro _ w1 ⟨rfl, hb⟩
  go_wp2
  go_ret
  exact ⟨rfl, hb⟩

theorem zeros_any (w : World) : Calls Tryz.prog 106 #[.string ⟨#[0]⟩, .int .i64 1024] w fun e w' => e = .returned (.string zeros) ∧ Below w.heap.size w w' := by
  have h := lib_repeat ⟨#[0]⟩ 1024 w (by omega) (by show 1 * 1024 ≤ _; omega)
  have e : Lib.repeatL (ByteArray.mk #[0]).data.toList 1024 = List.replicate 1024 0 := by
    show Lib.repeatL [0] 1024 = _
    have h1 : ([0] : List UInt8) = List.replicate 1 0 := rfl
    rw [h1, Lib.repeatL_replicate, Nat.mul_one]
  rw [e] at h
  exact h

set_option maxHeartbeats 400000 in
theorem whole_any {b : Nat} {pg : Nat → ByteArray} {ends : Bool} {left torn : Int} {w : World} (h : DiskIs b pg ends left torn w) (k : Nat) (hk : k < 4001) :
    Calls Tryz.prog 76 #[.pointer (some ⟨b, 0, none⟩), .int .i64 k] w fun e w' => e = .returned (.string (pg k)) ∧ Below w.heap.size w w' := by
  have h1 : (k : Int) < 4001 := by omega
  rcases h.page k hk with ⟨c, hs⟩ | ⟨c, hz⟩
  · clear h
    have hne := not_empty hs
    generalize pg k = s at *
    go_enter Tryz.func76, Tryz.ntmps76
    go_wp2
    go_ret
    exact ⟨rfl, Below.refl _ _⟩
  · rw [hz]
    clear h
    go_enter Tryz.func76, Tryz.ntmps76
    go_wp2_with fail
    refine (zeros_any w).mono ?_
    rintro _ w1 ⟨rfl, hb⟩
    go_wp2
    go_ret
    exact ⟨rfl, hb⟩
end Go.Proofs.YtdphlkljenbkcaaGreatDoor
namespace Go.Proofs.YtdphlkljenbkcaaGreatDoor
open Go.RowKit

/-- the pages, with one laid anew -/
def upd (pg : Nat → ByteArray) (k : Nat) (s : ByteArray) : Nat → ByteArray := fun i => if i = k then s else pg i

section
variable {b : Nat} {pg : Nat → ByteArray} {ends : Bool} {left torn : Int} {w : World}

theorem grownBy_set (W : World) (b o : Nat) (v : Value) : W.grownBy (W.setCell ⟨b, o, none⟩ v) (some b) :=
  ⟨rfl, rfl, rfl, by simp [World.setCell], fun k _ hk => Below.heap_setCell W ⟨b, o, none⟩ v k (fun e => hk (by rw [e]))⟩

theorem DiskIs.setPage (h : DiskIs b pg ends left torn w) (k : Nat) (hk : k < 4001) (s : ByteArray) (hs : s.size = 1024) : DiskIs b (upd pg k s) ends left torn (w.setCell ⟨b, k, none⟩ (.string s)) := by
  have o : ∀ i, k ≠ i → (w.setCell ⟨b, k, none⟩ (.string s)).cell? ⟨b, i, none⟩ = w.cell? ⟨b, i, none⟩ := fun i hi => World.cell?_setCell_other _ _ _ _ (fun e => hi (by cases e; rfl))
  refine ⟨fun i hi => ?_, ?_, ?_, ?_, fun i => ?_⟩
  · by_cases e : i = k
    · subst e
      have hc : ∃ u, w.cell? ⟨b, i, none⟩ = some u := by
        rcases h.page i hk with ⟨c, _⟩ | ⟨c, _⟩ <;> exact ⟨_, c⟩
      obtain ⟨u, hu⟩ := hc
      exact .inl ⟨by rw [World.cell?_setCell_same _ _ _ hu]; simp [upd], by simp [upd, hs]⟩
    · rw [o i (Ne.symm e)]
      simpa [upd, e] using h.page i hi
  · rw [o 4001 (by omega)]; exact h.ends
  · rw [o 4002 (by omega)]; exact h.left
  · rw [o 4003 (by omega)]; exact h.torn
  · rw [World.frozen?_setCell]; exact h.free i

theorem DiskIs.setEnds (h : DiskIs b pg ends left torn w) (x : Bool) : DiskIs b pg x left torn (w.setCell ⟨b, 4001, none⟩ (.bool x)) := by
  have o : ∀ i, 4001 ≠ i → (w.setCell ⟨b, 4001, none⟩ (.bool x)).cell? ⟨b, i, none⟩ = w.cell? ⟨b, i, none⟩ := fun i hi => World.cell?_setCell_other _ _ _ _ (fun e => hi (by cases e; rfl))
  refine ⟨fun i hi => ?_, World.cell?_setCell_same _ _ _ h.ends, ?_, ?_, fun i => ?_⟩
  · rw [o i (by omega)]; exact h.page i hi
  · rw [o 4002 (by omega)]; exact h.left
  · rw [o 4003 (by omega)]; exact h.torn
  · rw [World.frozen?_setCell]; exact h.free i

theorem DiskIs.setLeft (h : DiskIs b pg ends left torn w) (x : Int) : DiskIs b pg ends x torn (w.setCell ⟨b, 4002, none⟩ (.int .i64 x)) := by
  have o : ∀ i, 4002 ≠ i → (w.setCell ⟨b, 4002, none⟩ (.int .i64 x)).cell? ⟨b, i, none⟩ = w.cell? ⟨b, i, none⟩ := fun i hi => World.cell?_setCell_other _ _ _ _ (fun e => hi (by cases e; rfl))
  refine ⟨fun i hi => ?_, ?_, World.cell?_setCell_same _ _ _ h.left, ?_, fun i => ?_⟩
  · rw [o i (by omega)]; exact h.page i hi
  · rw [o 4001 (by omega)]; exact h.ends
  · rw [o 4003 (by omega)]; exact h.torn
  · rw [World.frozen?_setCell]; exact h.free i

theorem DiskIs.setTorn (h : DiskIs b pg ends left torn w) (x : Int) : DiskIs b pg ends left x (w.setCell ⟨b, 4003, none⟩ (.int .i64 x)) := by
  have o : ∀ i, 4003 ≠ i → (w.setCell ⟨b, 4003, none⟩ (.int .i64 x)).cell? ⟨b, i, none⟩ = w.cell? ⟨b, i, none⟩ := fun i hi => World.cell?_setCell_other _ _ _ _ (fun e => hi (by cases e; rfl))
  refine ⟨fun i hi => ?_, ?_, ?_, World.cell?_setCell_same _ _ _ h.torn, fun i => ?_⟩
  · rw [o i (by omega)]; exact h.page i hi
  · rw [o 4001 (by omega)]; exact h.ends
  · rw [o 4002 (by omega)]; exact h.left
  · rw [World.frozen?_setCell]; exact h.free i

/-- torn bytes, cut to 0 to 1024 -/
def clip (t : Int) : Int := min (max t 0) 1024

theorem read_yes (h : DiskIs b pg ends left torn w) (k : Nat) (hk : k < 4001) :
    Calls Tryz.prog 53 #[.pointer (some ⟨b, 0, none⟩), .int .i64 k] w fun e w' => e = .returned (.tuple #[.string (pg k), .nilIface]) ∧ Below w.heap.size w w' := by
  have hs : (pg k).size ≤ 1024 := Nat.le_of_eq (h.size k hk)
  have HD : Hid (DiskIs b pg ends left torn w) := h
  clear h
  go_enter Tryz.func53, Tryz.ntmps53
  go_wp2_with fail
  refine (there_yes k w hk).mono ?_
  rintro _ _ ⟨rfl, rfl⟩
  go_wp2_with fail
  refine (whole_any HD.out k hk).mono ?_
  rintro _ w1 ⟨rfl, hb1⟩
  go_wp2_with fail
  refine (clone_any _ w1 hs).mono ?_
  rintro _ w2 ⟨rfl, hb2⟩
  go_wp2
  go_ret2
  exact ⟨rfl, hb1.trans (hb2.mono hb1.size)⟩

theorem read_no (b : Nat) (k : Int) (w : World) (hk : k < 0 ∨ 4001 ≤ k) :
    Calls Tryz.prog 53 #[.pointer (some ⟨b, 0, none⟩), .int .i64 k] w fun e w' => e = .returned (.tuple #[.string ⟨#[]⟩, .iface 57 (.int .i64 2)]) ∧ w' = w := by
  go_enter Tryz.func53, Tryz.ntmps53
  go_wp2_with fail
  refine (there_no k w hk).mono ?_
  rintro _ _ ⟨rfl, rfl⟩
  go_wp2
  go_ret2
  exact ⟨rfl, rfl⟩

/-- what copy lays of a text -/
theorem run_copy_str {P : Program} (w : World) (dT sT ty elem : TypeId) (g o dLen dCap : Nat) (s : ByteArray)
    (hu : P.underlying dT = some (.slice elem)) (hs : (P.info? elem).map (·.size) = some 1) (hle : s.size ≤ dLen) (hc : ∀ j, j < s.size → (w.cell? ⟨g, o + j, none⟩).isSome = true) (hf : ∀ j, j < s.size → w.frozen? ⟨g, o + j, none⟩ = false) :
    (Builtin.copy_ #[dT, sT] ty #[.slice (some ⟨g, o, none⟩) dLen dCap, .string s]).run P w = .ok (goInt s.size) (w.setCells g o (Lib.byteCells s.data.toList)) := by
  have hlen : (Lib.byteCells s.data.toList).length = s.size := by rw [Lib.byteCells_length, ← Lib.size_eq]
  have hst := run_storeCells_cells (P := P) g o (Lib.byteCells s.data.toList) 0 w (by rw [hlen]; simpa using hc) (by rw [hlen]; simpa using hf) (Lib.byteCells_one _)
  have hmin : Nat.min s.size dLen = s.size := Nat.min_eq_left hle
  have htk : List.take s.size (List.map (fun b : UInt8 => Value.int IntKind.u8 (b.toNat : Int)) s.data.toList) = Lib.byteCells s.data.toList := by
    rw [List.take_of_length_le (by rw [List.length_map, ← Lib.size_eq]; exact Nat.le_refl _)]
    rfl
  simp only [Nat.add_zero] at hst
  cases hq : P.info? elem with
  | none => simp [hq] at hs
  | some i =>
    simp [Builtin.copy_, run_underlying hu, Builtin.lenOf, Builtin.firstCells, sizeOf, typeInfo, hq, hmin]
    rw [htk, hst]
    simp [Result.andThen]

/-- bytes of a text in a new row -/
theorem bytes_of (s : ByteArray) (w : World) : ∃ cap w', (convert 9 119 (.string s)).run Tryz.prog w = .ok (.slice (some ⟨w.heap.size, 0, none⟩) s.size cap) w' ∧ Below w.heap.size w w' ∧ w'.heap.size = w.heap.size + 1 ∧
    (∀ j (hj : j < s.data.toList.length), w'.cell? ⟨w.heap.size, j, none⟩ = some (.int .u8 (s.data.toList[j].toNat : Int))) ∧ (∀ j, j < s.size → w'.frozen? ⟨w.heap.size, j, none⟩ = false) := by
  have h := run_bytes_of_string (P := Tryz.prog) w 9 119 5 s Tryz.underlying9 Tryz.underlying119 Tryz.underlying5
  refine ⟨_, _, h, (Below.refl _ w).drew.alloc (Nat.le_refl _) _, ?_, ?_, ?_⟩
  · simp
  · intro j hj
    have hn : (w.drew.alloc (.cells (bytesRow s (grownCap w s.size 0 5)) 5 ((bytesRow s (grownCap w s.size 0 5)).size, (bytesRow s (grownCap w s.size 0 5)).size + 1))).heap[w.heap.size]? = _ := heap_alloc_new w.drew _
    have hj' : j < s.data.size := by simpa using hj
    simp only [World.cell?, hn]
    have hj2 : j < s.size := hj'
    simp [bytesRow, Array.getElem?_append, hj2]
  · intro j hj
    have hn : (w.drew.alloc (.cells (bytesRow s (grownCap w s.size 0 5)) 5 ((bytesRow s (grownCap w s.size 0 5)).size, (bytesRow s (grownCap w s.size 0 5)).size + 1))).heap[w.heap.size]? = _ := heap_alloc_new w.drew _
    have hj' : j < (bytesRow s (grownCap w s.size 0 5)).size := by
      have e : s.data.size = s.size := rfl
      simp [bytesRow]; omega
    simp only [World.frozen?, hn]
    simp
    omega

/-- a page of which torn bytes were written -/
def tornPage (s old : ByteArray) (t : Nat) : ByteArray := ⟨(s.data.toList.take t ++ old.data.toList.drop t).toArray⟩


theorem torn_size (s old : ByteArray) (t : Nat) (hs : s.size = 1024) (ho : old.size = 1024) (ht : t ≤ 1024) : (tornPage s old t).size = 1024 := by
  have e1 : s.data.toList.length = 1024 := by simpa using hs
  have e2 : old.data.toList.length = 1024 := by simpa using ho
  show (s.data.toList.take t ++ old.data.toList.drop t).toArray.size = 1024
  rw [List.size_toArray, List.length_append, List.length_take, List.length_drop, e1, e2]
  omega

/-- copy, and the text that comes of it -/
theorem torn_of (s old : ByteArray) (t B cap : Nat) (w : World) (hs : s.size = 1024) (ho : old.size = 1024) (ht : t ≤ 1024)
    (hc : ∀ j (hj : j < old.data.toList.length), w.cell? ⟨B, j, none⟩ = some (.int .u8 (old.data.toList[j].toNat : Int))) (hf : ∀ j, j < old.size → w.frozen? ⟨B, j, none⟩ = false) :
    ∃ w', (Builtin.copy_ #[119, 9] 3 #[.slice (some ⟨B, 0, none⟩) 1024 cap, .string (s.extract 0 t)]).run Tryz.prog w = .ok (goInt t) w' ∧ Below B w w' ∧
      (convert 119 9 (.slice (some ⟨B, 0, none⟩) 1024 cap)).run Tryz.prog w'.drew = .ok (.string (tornPage s old t)) w'.drew := by
  have e1 : s.data.toList.length = 1024 := by simpa using hs
  have e2 : old.data.toList.length = 1024 := by simpa using ho
  have ex : (s.extract 0 t).data.toList = s.data.toList.take t := by simp [ByteArray.data_extract]
  have exs : (s.extract 0 t).size = t := by
    have : (s.extract 0 t).size = (s.extract 0 t).data.toList.length := by simp
    rw [this, ex, List.length_take, e1]; omega
  have h := run_copy_str (P := Tryz.prog) w 119 9 3 5 B 0 1024 cap (s.extract 0 t) Tryz.underlying119 (by kernel_rfl) (by omega)
    (fun j hj => by rw [Nat.zero_add, hc j (by omega)]; rfl) (fun j hj => by rw [Nat.zero_add]; exact hf j (by omega))
  rw [exs, ex] at h
  have hlen : (Lib.byteCells (s.data.toList.take t)).length = t := by rw [Lib.byteCells_length, List.length_take, e1]; omega
  refine ⟨_, h, Below.setCells' (Nat.le_refl _) _ _ _ (Below.refl _ _), ?_⟩
  have hl : (s.data.toList.take t ++ old.data.toList.drop t).length = 1024 := by rw [List.length_append, List.length_take, List.length_drop, e1, e2]; omega
  have hb := run_convert_bytes_back (P := Tryz.prog) (w.setCells B 0 (Lib.byteCells (s.data.toList.take t))).drew 119 9 5 ⟨B, 0, none⟩ cap (s.data.toList.take t ++ old.data.toList.drop t) Tryz.underlying119 Tryz.underlying5 Tryz.underlying9 (fun j hj => by
    rw [Addr.add_lit, Nat.zero_add]
    show (w.setCells B 0 (Lib.byteCells (s.data.toList.take t))).cell? ⟨B, j, none⟩ = _
    by_cases hjt : j < t
    · have := World.cell?_setCells_in B (Lib.byteCells (s.data.toList.take t)) 0 w (fun i hi => by rw [Nat.zero_add, hc i (by omega)]; rfl) j (by omega)
      rw [Nat.zero_add] at this
      rw [this, List.getElem_append_left (by rw [List.length_take, e1]; omega)]
      simp [Lib.byteCells]
    · rw [World.cell?_setCells_out B _ 0 w ⟨B, j, none⟩ (fun _ _ => .inr (by rw [hlen]; show 0 + t ≤ j; omega)), hc j (by omega)]
      have hx : (s.data.toList.take t ++ old.data.toList.drop t)[j]'hj = old.data.toList[j]'(by omega) := by
        apply Option.some.inj
        rw [← List.getElem?_eq_getElem, ← List.getElem?_eq_getElem, List.getElem?_append_right (by rw [List.length_take, e1]; omega), List.getElem?_drop, List.length_take, e1, show t + (j - min t 1024) = j by omega]
      rw [hx])
  rw [hl] at hb
  exact hb

end
end Go.Proofs.YtdphlkljenbkcaaGreatDoor
namespace Go.Proofs.YtdphlkljenbkcaaGreatDoor
open Go.RowKit
section
variable {b : Nat} {pg : Nat → ByteArray} {ends : Bool} {left torn : Int} {w : World}

theorem grown_of_drew {w w' : World} (h : Below w.drew.heap.size w.drew w') (row : Option Nat) : w.grownBy w' row := ⟨h.os, h.tape, h.output, h.size, fun k hk _ => h.block k hk⟩

end
end Go.Proofs.YtdphlkljenbkcaaGreatDoor
namespace Go.Proofs.YtdphlkljenbkcaaGreatDoor
open Go.RowKit

/-- what a disk has -/
structure St where
  pg : Nat → ByteArray
  ends : Bool
  left : Int
  torn : Nat

structure St.Ok (s : St) : Prop where
  torn : s.torn ≤ 1024
  low : s.ends = true → 0 ≤ s.left
  high : s.left ≤ 9223372036854775807

/-- whether there is power -/
def St.pow (s : St) : Bool := !s.ends || decide (0 < s.left)

def inside (k : Int) : Bool := decide (0 ≤ k) && decide (k < 4001)

/-- what a write of a whole page tells -/
def St.code (s : St) (k : Int) : Int := if inside k then (if s.pow then 0 else 14) else 2
/-- what it leaves -/
def St.wr (s : St) (k : Int) (p : ByteArray) : St :=
  if inside k then
    (if s.pow then ⟨upd s.pg k.toNat p, s.ends, if s.ends then s.left - 1 else s.left, s.torn⟩
     else ⟨upd s.pg k.toNat (tornPage p (s.pg k.toNat) s.torn), s.ends, s.left, 0⟩)
  else s

def St.cut (s : St) (writes t : Int) : St := ⟨s.pg, decide (0 ≤ writes), writes, (clip t).toNat⟩

theorem St.Ok.wr {s : St} (h : s.Ok) (k : Int) (p : ByteArray) : (s.wr k p).Ok := by
  obtain ⟨pg, ends, left, torn⟩ := s
  have h1 := h.torn
  have h2 := h.low
  have h3 := h.high
  simp only at h1 h2 h3
  unfold St.wr
  split
  · split
    · rename_i hp
      cases ends
      · exact ⟨h1, (fun e => by cases e), h3⟩
      · have : 0 < left := by simpa [St.pow] using hp
        exact ⟨h1, fun _ => by show 0 ≤ left - 1; omega, by show left - 1 ≤ _; omega⟩
    · exact ⟨Nat.zero_le _, h2, h3⟩
  · exact h

theorem clip_le (t : Int) : 0 ≤ clip t ∧ clip t ≤ 1024 := by unfold clip; omega
theorem St.Ok.cut {s : St} (writes t : Int) (h : writes ≤ 9223372036854775807) : (s.cut writes t).Ok := by
  have := clip_le t
  exact ⟨by show (clip t).toNat ≤ 1024; omega, fun e => by simpa [St.cut] using e, h⟩

/-- block b is the program's disk in this state -/
def Prg (b : Nat) (s : St) (w : World) : Prop := DiskIs b s.pg s.ends s.left s.torn w
/-- the error of a code -/
def ErrNo (E : Value) (n : Int) : Prop := (E = .nilIface ∧ n = 0) ∨ E = .iface 57 (.int .i64 n)
theorem errIs_zero : ErrNo .nilIface 0 := .inl ⟨rfl, rfl⟩
theorem errIs_no (n : Int) : ErrNo (.iface 57 (.int .i64 n)) n := .inr rfl

theorem outside_of {k : Int} (h : inside k = false) : k < 0 ∨ 4001 ≤ k := by
  simp [inside] at h
  omega
theorem inside_of {k : Int} (h : inside k = true) : ∃ n : Nat, k = n ∧ n < 4001 := by
  simp [inside] at h
  exact ⟨k.toNat, by omega, by omega⟩

theorem page_of_sizes {b : Nat} {s : St} {w : World} (h : Prg b s w) (k : Nat) (hk : k < 4001) : (s.pg k).size = 1024 := DiskIs.size h k hk

theorem zero44 : Tryz.zeroCells50.toList = List.replicate 4001 (.string ⟨#[]⟩) ++ [.bool false, .int .i64 0, .int .i64 0] := by kernel_rfl

/-- a disk's zero value -/
theorem disk_new (w : World) : Prg w.heap.size ⟨fun _ => zeros, false, 0, 0⟩ (w.alloc (.cells Tryz.zeroCells50 50)) := by
  have hn : (w.alloc (.cells Tryz.zeroCells50 50)).heap[w.heap.size]? = some (.cells Tryz.zeroCells50 50) := heap_alloc_new w _
  have hc : ∀ k : Nat, (w.alloc (.cells Tryz.zeroCells50 50)).cell? ⟨w.heap.size, k, none⟩ = Tryz.zeroCells50[k]? := fun k => by simp only [World.cell?, hn]; simp
  have hl : ∀ k : Nat, Tryz.zeroCells50[k]? = (List.replicate 4001 (Value.string ⟨#[]⟩) ++ [Value.bool false, Value.int .i64 0, Value.int .i64 0])[k]? := fun (k : Nat) => by rw [← zero44, Array.getElem?_toList]
  refine ⟨fun k hk => .inr ⟨?_, rfl⟩, ?_, ?_, ?_, fun k => ?_⟩
  · rw [hc, hl, List.getElem?_append_left (by rw [List.length_replicate]; exact hk), List.getElem?_replicate, if_pos hk]
  · rw [hc, hl, List.getElem?_append_right (by rw [List.length_replicate]; omega), List.length_replicate]; rfl
  · rw [hc, hl, List.getElem?_append_right (by rw [List.length_replicate]; omega), List.length_replicate]; rfl
  · rw [hc, hl, List.getElem?_append_right (by rw [List.length_replicate]; omega), List.length_replicate]; rfl
  · simp only [World.frozen?, hn]; simp
end Go.Proofs.YtdphlkljenbkcaaGreatDoor
namespace Go.Proofs.YtdphlkljenbkcaaGreatDoor
open Go.RowKit Go.Maps

theorem Prg.only {S : Nat → Prop} {b : Nat} {s : St} {w w' : World} (h : Prg b s w) (ho : Only S w w') (hs : ¬ S b) : Prg b s w' := DiskIs.block h (ho.block b (DiskIs.lt h) hs)
theorem Prg.below {b : Nat} {s : St} {w w' : World} (h : Prg b s w) (hb : Below w.heap.size w w') : Prg b s w' := DiskIs.below h hb
theorem Prg.drew {b : Nat} {s : St} {w : World} (h : Prg b s w) : Prg b s w.drew := DiskIs.block h rfl
theorem PagerIs.nd {bp bd bm n : Nat} {p : Pg} {s : St} {w : World} (h : PagerIs bp bd bm n p w) (k : Prg bd s w) : bp ≠ bd := fun e => by
  subst e
  have h1 := h.cells.cell 0 (by omega)
  rcases DiskIs.page k 0 (by omega) with ⟨h2, _⟩ | ⟨h2, _⟩ <;> (rw [h1] at h2; cases h2)
theorem PagerIs.md {bp bd bm n : Nat} {p : Pg} {s : St} {w : World} (h : PagerIs bp bd bm n p w) (k : Prg bd s w) : bm ≠ bd := h.own.ne_cell (DiskIs.ends k)
end Go.Proofs.YtdphlkljenbkcaaGreatDoor
namespace Go.Proofs.YtdphlkljenbkcaaGreatDoor
open Go.RowKit Go.Maps

/-- block bp has these 4,020 cells -/
structure Row (bp : Nat) (v : Nat → Value) (w : World) : Prop where
  cell : ∀ k, k < 4020 → w.cell? ⟨bp, k, none⟩ = some (v k)
  free : ∀ k, w.frozen? ⟨bp, k, none⟩ = false
section
variable {bp : Nat} {v : Nat → Value} {w w' : World}
theorem Row.lt (h : Row bp v w) : bp < w.heap.size := World.block_lt_of_cell? w _ (h.cell 0 (by omega))
theorem Row.block (h : Row bp v w) (hb : w'.heap[bp]? = w.heap[bp]?) : Row bp v w' :=
  ⟨fun k hk => (World.cell?_of_block hb).trans (h.cell k hk), fun k => (World.frozen?_of_block (a := ⟨bp, k, none⟩) hb).trans (h.free k)⟩
theorem Row.below (h : Row bp v w) (hb : Below w.heap.size w w') : Row bp v w' := h.block (hb.block _ h.lt)
theorem Row.there (h : Row bp v w) (o n : Nat) (ho : o + n ≤ 4020) : w.there bp o n := fun j hj => ⟨by rw [h.cell _ (by omega)]; rfl, h.free _⟩
/-- with a row of cells laid anew -/
def over (v : Nat → Value) (o : Nat) (vs : List Value) : Nat → Value := fun k => if o ≤ k then (vs[k - o]?).getD (v k) else v k
theorem Row.setN (h : Row bp v w) (o : Nat) (vs : List Value) (ho : o + vs.length ≤ 4020) : Row bp (over v o vs) (w.setCells bp o vs) := by
  refine ⟨fun k hl => ?_, fun k => by rw [World.frozen?_setCells]; exact h.free k⟩
  by_cases e : k < o ∨ o + vs.length ≤ k
  · rw [World.cell?_setCells_out bp vs o w ⟨bp, k, none⟩ (fun _ _ => e), h.cell k hl]
    congr 1
    unfold over
    split
    · rw [List.getElem?_eq_none (by omega)]; rfl
    · rfl
  · obtain ⟨j, rfl⟩ : ∃ j, k = o + j := ⟨k - o, by omega⟩
    have hj : j < vs.length := by omega
    rw [World.cell?_setCells_in bp vs o w (fun i hi => by rw [h.cell _ (by omega)]; rfl) j hj]
    unfold over
    rw [if_pos (by omega), show o + j - o = j by omega, List.getElem?_eq_getElem hj]; rfl
theorem Row.set (h : Row bp v w) (o : Nat) (x : Value) (ho : o < 4020) : Row bp (over v o [x]) (w.setCell ⟨bp, o, none⟩ x) := by
  refine ⟨fun k hl => ?_, fun k => by rw [World.frozen?_setCell]; exact h.free k⟩
  by_cases e : k = o
  · subst e
    rw [World.cell?_setCell_same _ _ _ (h.cell k hl)]
    unfold over
    rw [if_pos (Nat.le_refl _), Nat.sub_self]; rfl
  · rw [World.cell?_setCell_other _ _ _ _ (fun e' => e (by injection e' with e1 e2; omega)), h.cell k hl]
    congr 1
    unfold over
    split
    · rw [List.getElem?_eq_none (by simp; omega)]; rfl
    · rfl
theorem over_in (v : Nat → Value) (o : Nat) (vs : List Value) {j : Nat} {x : Value} (h : vs[j]? = some x) : over v o vs (o + j) = x := by
  unfold over
  rw [if_pos (by omega), show o + j - o = j by omega, h]; rfl
theorem over_out (v : Nat → Value) (o : Nat) (vs : List Value) {k : Nat} (h : k < o ∨ o + vs.length ≤ k) : over v o vs k = v k := by
  unfold over
  split
  · rw [List.getElem?_eq_none (by omega)]; rfl
  · rfl
end
theorem Row.cells {bp bd bm : Nat} {p : Pg} {v : Nat → Value} {w : World} (h : Row bp v w) (hv : ∀ k, k < 4020 → v k = cellOf p bd bm k) : Cells bp bd bm p w :=
  ⟨fun k hk => by rw [h.cell k hk, hv k hk], h.free⟩
theorem Cells.row {bp bd bm : Nat} {p : Pg} {w : World} (h : Cells bp bd bm p w) : Row bp (cellOf p bd bm) w := ⟨h.cell, h.free⟩

theorem Only.set (bp o : Nat) (v : Value) (w : World) : Only (fun b => b = bp) w (w.setCell ⟨bp, o, none⟩ v) := Only.of_grown (grownBy_set w bp o v) rfl
theorem Only.setCells (bp : Nat) : ∀ (vs : List Value) (o : Nat) (w : World), Only (fun b => b = bp) w (w.setCells bp o vs)
  | [], _, w => Only.refl _ w
  | v :: r, o, w => (Only.set bp o v w).trans (Only.setCells bp r (o + 1) (w.setCell ⟨bp, o, none⟩ v)) (fun _ h => .inl h)
theorem Only.alloc (bp : Nat) (o : Obj) (w : World) : Only (fun b => b = bp) w (w.alloc o) := Only.of_below ((Below.refl _ _).alloc (Nat.le_refl _) _)

/-- which page is the head -/
def headOf (pg : Nat → ByteArray) : ByteArray := pg (placeF 0 ((pg 4000).data.toList.getD 0 0 != 0))
/-- what is committed to a disk -/
def loaded (pg : Nat → ByteArray) (commits : Int) (down : Bool) : Pg :=
  ⟨upperOf (headOf pg), usedOf (headOf pg), rpOf (headOf pg), rnOf (headOf pg), fun _ => none, commits, down⟩
end Go.Proofs.YtdphlkljenbkcaaGreatDoor
namespace Go.Proofs.YtdphlkljenbkcaaGreatDoor
open Go.RowKit Go.Maps

theorem placeF_lt (k : Nat) (hk : k < 2000) (b : Bool) : placeF k b < 4001 := by unfold placeF; split <;> omega

theorem headOf_is (pg : Nat → ByteArray) (h : 0 < (pg 4000).size) : pg (placeF 0 (((pg 4000)[0].toNat : Int) != 0)) = headOf pg := by
  unfold headOf
  have e0 : (pg 4000).data.toList.getD 0 0 = (pg 4000)[0] := by
    have hl : 0 < (pg 4000).data.toList.length := by simpa using h
    rw [List.getD_eq_getElem?_getD, List.getElem?_eq_getElem hl]; rfl
  rw [e0]
  congr 2
  by_cases e : (pg 4000)[0] = 0
  · rw [e]; rfl
  · have h1 : ((pg 4000)[0] != 0) = true := by simpa using e
    have h2 : ((pg 4000)[0]).toNat ≠ 0 := fun h3 => e (by apply UInt8.toNat_inj.1; rw [h3]; rfl)
    rw [h1]
    simp only [bne_iff_ne, ne_eq]
    omega

/-- the cells that a load leaves -/
theorem loaded_cells {bd bm : Nat} {v : Nat → Value} (pg : Nat → ByteArray) (c : Int) (d : Bool) (hv0 : v 0 = .pointer (some ⟨bd, 0, none⟩)) (h18 : v 4018 = .int .i64 c) (h19 : v 4019 = .bool d) (F G R : List Value)
    (hF : flags (usedOf (headOf pg)) = F) (hG : flags (upperOf (headOf pg)) = G) (hR : rootsL (rpOf (headOf pg)) (rnOf (headOf pg)) = R) (k : Nat) (hk : k < 4020) :
    over (over (over (over v 2001 F) 1 G) 4001 R) 4017 [.map (some bm)] k = cellOf (loaded pg c d) bd bm k := by
  have lF : F.length = 2000 := by rw [← hF, flags_len]
  have lG : G.length = 2000 := by rw [← hG, flags_len]
  have lR : R.length = 16 := by rw [← hR, rootsL_len]
  by_cases h0 : k = 0
  · subst h0
    rw [over_out _ _ _ (by omega), over_out _ _ _ (by omega), over_out _ _ _ (by omega), over_out _ _ _ (by omega), hv0]; rfl
  by_cases h1 : k < 2001
  · obtain ⟨j, rfl⟩ : ∃ j, k = 1 + j := ⟨k - 1, by omega⟩
    rw [over_out _ _ _ (by omega), over_out _ _ _ (by omega), over_in (x := .bool (upperOf (headOf pg) j)) _ _ _ (by rw [← hG, flags_get _ (by omega)]), cellOf_upper _ _ _ (by omega)]; rfl
  by_cases h2 : k < 4001
  · obtain ⟨j, rfl⟩ : ∃ j, k = 2001 + j := ⟨k - 2001, by omega⟩
    rw [over_out _ _ _ (by omega), over_out _ _ _ (by omega), over_out _ _ _ (by omega), over_in (x := .bool (usedOf (headOf pg) j)) _ _ _ (by rw [← hF, flags_get _ (by omega)]), cellOf_used _ _ _ (by omega)]; rfl
  by_cases h3 : k < 4017
  · obtain ⟨j, rfl⟩ : ∃ j, k = 4001 + j := ⟨k - 4001, by omega⟩
    rw [over_out _ _ _ (by omega), over_in (x := .int .i64 (if j % 2 = 0 then rpOf (headOf pg) (j / 2) else rnOf (headOf pg) (j / 2))) _ _ _ (by rw [← hR, rootsL_get _ _ (by omega)]), cellOf_root _ _ _ (by omega)]; rfl
  by_cases h4 : k = 4017
  · subst h4
    exact over_in _ 4017 _ (j := 0) rfl
  rw [over_out _ _ _ (by simp; omega), over_out _ _ _ (by omega), over_out _ _ _ (by omega), over_out _ _ _ (by omega)]
  by_cases h5 : k = 4018
  · subst h5; rw [h18]; rfl
  · obtain rfl : k = 4019 := by omega
    rw [h19]; rfl

set_option maxRecDepth 100000 in
set_option maxHeartbeats 800000 in
theorem load_any {bp bd : Nat} {v : Nat → Value} {s : St} {w : World} (hR : Row bp v w) (hv0 : v 0 = .pointer (some ⟨bd, 0, none⟩)) (c : Int) (d : Bool) (h18 : v 4018 = .int .i64 c) (h19 : v 4019 = .bool d) (hD : Prg bd s w) (hne : bp ≠ bd) :
    Calls Tryz.prog 32 #[.pointer (some ⟨bp, 0, none⟩)] w fun e w' => e = .returned (.tuple #[]) ∧ (∃ bm, w.heap.size ≤ bm ∧ PagerIs bp bd bm 0 (loaded s.pg c d) w') ∧ Prg bd s w' ∧ Only (fun b => b = bp) w w' := by
  have q0 := hR.cell 0 (by omega)
  rw [hv0] at q0
  have HR : Hid _ := hR
  have HD : Hid _ := hD
  clear hR hD
  go_enter Tryz.func32, Tryz.ntmps32
  go_wp2_with fail
  refine (read_yes HD.out 4000 (by omega)).mono ?_
  rintro _ w1 ⟨rfl, hb1⟩
  have hT : (s.pg 4000).size = 1024 := page_of_sizes HD.out 4000 (by omega)
  have hT0 : 0 < (s.pg 4000).size := by omega
  have hT0' : (0 : Int) < ((s.pg 4000).size : Int) := by omega
  have HK : Hid (∀ wx, Below w1.heap.size w1 wx → wx.cell? ⟨bp, 0, none⟩ = some (.pointer (some ⟨bd, 0, none⟩))) := fun wx hx => by
    rw [hx.cell (p := ⟨bp, 0, none⟩) (by have := HR.out.lt; have := hb1.size; show bp < _; omega), hb1.cell (p := ⟨bp, 0, none⟩) HR.out.lt]; exact q0
  have HDx : Hid (∀ wx, Below w1.heap.size w1 wx → Prg bd s wx) := fun wx hx => (HD.out.below hb1).below hx
  have q1 := HK.out _ (Below.refl _ _)
  go_wp2_with fail
  go_region_held3 (fun wx => wx.cell? ⟨bp, 0, none⟩ = some (.pointer (some ⟨bd, 0, none⟩))) (first | exact HK.out _ HB.out | exact HK.out _ (Below.refl _ _).drew) (first | (go_at_call 54; refine (place_any 0 (by omega) _ _).mono ?_; rintro _ wy ⟨rfl, hwy⟩; subst wy) | (go_at_call 53; refine (read_yes (HDx.out _ (Below.refl _ _).drew) _ (placeF_lt 0 (by omega) _)).mono ?_; rintro _ wy ⟨rfl, hb⟩; have HB : Hid (Below w1.heap.size w1 wy) := (Below.refl _ w1).drew.trans hb))
  obtain ⟨P, hP⟩ : ∃ P, s.pg (placeF 0 (((s.pg 4000)[0].toNat : Int) != 0)) = P := ⟨_, rfl⟩
  have hPs : P.size = 1024 := by rw [← hP]; exact page_of_sizes HD.out _ (placeF_lt 0 (by omega) _)
  have HP : Hid (P = headOf s.pg) := by rw [← hP]; exact headOf_is s.pg hT0
  rw [hP]
  clear hP
  have hmm := @run_makeMap Tryz.prog
  go_wp2_with fail
  refine (readHead_any P hPs _).mono ?_
  rintro _ w2 ⟨rfl, hb2⟩
  have hb3 : Below w.heap.size w w2 := hb1.trans ((HB.out.trans (hb2.mono HB.out.size)).mono hb1.size)
  have hr2 : Row bp v w2 := HR.out.below hb3
  have hd2 : Prg bd s w2 := HD.out.below hb3
  obtain ⟨F, hF⟩ : ∃ F, flags (usedOf P) = F := ⟨_, rfl⟩
  obtain ⟨G, hG⟩ : ∃ G, flags (upperOf P) = G := ⟨_, rfl⟩
  obtain ⟨R, hR⟩ : ∃ R, rootsL (rpOf P) (rnOf P) = R := ⟨_, rfl⟩
  have lF : F.length = 2000 := by rw [← hF, flags_len]
  have lG : G.length = 2000 := by rw [← hG, flags_len]
  have lR : R.length = 16 := by rw [← hR, rootsL_len]
  have sF : (Tryz.prog.info? 73).map (·.size) = some F.toArray.size := by rw [← hF]; exact size_flagsA _
  have sG : (Tryz.prog.info? 73).map (·.size) = some G.toArray.size := by rw [← hG]; exact size_flagsA _
  have sR : (Tryz.prog.info? 76).map (·.size) = some R.toArray.size := by rw [← hR]; exact size_rootsA _ _
  have oF := all_oneCell_toArray (show ∀ v ∈ F, v.oneCell' = true by rw [← hF]; exact flags_one _)
  have oG := all_oneCell_toArray (show ∀ v ∈ G, v.oneCell' = true by rw [← hG]; exact flags_one _)
  have oR := all_oneCell_toArray (show ∀ v ∈ R, v.oneCell' = true by rw [← hR]; exact rootsL_one _ _)
  have r3 := hr2.setN 2001 F (by omega)
  have r4 := r3.setN 1 G (by omega)
  have r5 := r4.setN 4001 R (by omega)
  have T0 : Hid (w2.there bp 2001 F.toArray.size) := hr2.there _ _ (by rw [List.size_toArray]; omega)
  have T1 : Hid ((w2.setCells bp 2001 F).there bp 1 G.toArray.size) := r3.there _ _ (by rw [List.size_toArray]; omega)
  have T2 : Hid (((w2.setCells bp 2001 F).setCells bp 1 G).there bp 4001 R.toArray.size) := r4.there _ _ (by rw [List.size_toArray]; omega)
  rw [hF, hG, hR]
  have HE : Hid (flags (usedOf P) = F ∧ flags (upperOf P) = G ∧ rootsL (rpOf P) (rnOf P) = R) := ⟨hF, hG, hR⟩
  have HL : Hid (F.length = 2000 ∧ G.length = 2000 ∧ R.length = 16) := ⟨lF, lG, lR⟩
  have H5 : Hid _ := r5
  have r6 := r5.below ((Below.refl _ _).alloc (o := .map #[] 0) (Nat.le_refl _))
  have q17 := r6.cell 4017 (by omega)
  have f17 := r6.free 4017
  have H6 : Hid _ := r6.set 4017 (.map (some (((w2.setCells bp 2001 F).setCells bp 1 G).setCells bp 4001 R).heap.size)) (by omega)
  have HD2 : Hid _ := hd2
  have HB3 : Hid _ := hb3
  clear r6 hF hG hR lF lG lR r3 r4 r5 hr2 hd2 hb2 hb3 hb1 HB q1
  go_wp2_with (first | (refine wpList_store_mid rfl 73 _ _ rfl bp 2001 F.toArray rfl rfl T0.out sF oF ?_) | (refine wpList_store_mid rfl 73 _ _ rfl bp 1 G.toArray rfl rfl T1.out sG oG ?_) | (refine wpList_store_mid rfl 76 _ _ rfl bp 4001 R.toArray rfl rfl T2.out sR oR ?_))
  go_end0
  have hs4 : w2.heap.size ≤ (((w2.setCells bp 2001 F).setCells bp 1 G).setCells bp 4001 R).heap.size := Nat.le_trans (Only.setCells bp F 2001 w2).size (Nat.le_trans (Only.setCells bp G 1 _).size (Only.setCells bp R 4001 _).size)
  have ho : Only (fun b => b = bp) w2 (((w2.setCells bp 2001 F).setCells bp 1 G).setCells bp 4001 R) := ((Only.setCells bp F 2001 w2).trans (Only.setCells bp G 1 _) (fun _ h => .inl h)).trans (Only.setCells bp R 4001 _) (fun _ h => .inl h)
  have hown := World.ownsMap_made (H := Unit) (((w2.setCells bp 2001 F).setCells bp 1 G).setCells bp 4001 R) Tryz.prog 3 sheetElem
  generalize (((w2.setCells bp 2001 F).setCells bp 1 G).setCells bp 4001 R) = w4 at *
  have ho2 : Only (fun b => b = bp) w4 ((w4.alloc (.map #[] 0)).setCell ⟨bp, 4017, none⟩ (.map (some w4.heap.size))) := (Only.alloc bp _ w4).trans (Only.set bp 4017 _ _) (fun _ h => .inl h)
  have ho3 := ho.trans ho2 (fun _ h => .inl h)
  have hbp : bp < w2.heap.size := Nat.lt_of_lt_of_le HR.out.lt HB3.out.size
  have hs := HB3.out.size
  refine ⟨rfl, ⟨w4.heap.size, by omega, ?_, ?_⟩, Prg.only (s := s) HD2.out ho3 (fun e => hne e.symm), (Only.of_below HB3.out).trans ho3 (fun _ h => .inl h)⟩
  · have := HP.out
    subst this
    exact H6.out.cells (fun k hk => loaded_cells s.pg c d hv0 h18 h19 F G R HE.out.1 HE.out.2.1 HE.out.2.2 k hk)
  · have hS : Sheets w4.heap.size 0 (fun _ => none) (w4.alloc (.map #[] 0)) := ⟨_, hown, mapIs_empty⟩
    exact hS.only (Only.set bp 4017 _ _) (fun e => by omega)
end Go.Proofs.YtdphlkljenbkcaaGreatDoor
namespace Go.Proofs.YtdphlkljenbkcaaGreatDoor
open Go.RowKit Go.Maps

theorem open_nil (w : World) : Calls Tryz.prog 15 #[.pointer none] w fun e w' => e = .returned (.tuple #[.pointer none, .iface 57 (.int .i64 7)]) ∧ w' = w := by
  go_enter Tryz.func15, Tryz.ntmps15
  go_wp2
  go_ret2
  exact ⟨rfl, rfl⟩

theorem size76 : Tryz.zeroCells81.size = 4020 := by kernel_rfl
theorem zero76_19 : Tryz.zeroCells81[4019]? = some (.bool false) := by kernel_rfl
/-- a pager as it is made -/
theorem made_facts (bd : Nat) (A : Array Value) (hA : (Tryz.zeroCells81.setIfInBounds 0 (.pointer (some ⟨bd, 0, none⟩))).setIfInBounds 4018 (.int .i64 1) = A) :
    A.size = 4020 ∧ A[0]? = some (.pointer (some ⟨bd, 0, none⟩)) ∧ A[4018]? = some (.int .i64 1) ∧ A[4019]? = some (.bool false) := by
  subst hA
  refine ⟨by rw [Array.size_setIfInBounds, Array.size_setIfInBounds, size76], ?_, ?_, ?_⟩
  · rw [Array.getElem?_setIfInBounds_ne (by omega), Array.getElem?_setIfInBounds_self_of_lt (by rw [size76]; omega)]
  · rw [Array.getElem?_setIfInBounds_self_of_lt (by rw [Array.size_setIfInBounds, size76]; omega)]
  · rw [Array.getElem?_setIfInBounds_ne (by omega), Array.getElem?_setIfInBounds_ne (by omega), zero76_19]
theorem made_row (A : Array Value) (hs : A.size = 4020) (w : World) : Row w.heap.size (fun k => (A[k]?).getD undef) (w.alloc (.cells A 81)) := by
  have hn : (w.alloc (.cells A 81)).heap[w.heap.size]? = some (.cells A 81) := heap_alloc_new w _
  refine ⟨fun k hk => ?_, fun k => by simp only [World.frozen?, hn]; simp⟩
  rw [cell_of_row _ _ _ _ _ _ hn]
  have hl : k < A.size := by rw [hs]; exact hk
  show A[k]? = some ((A[k]?).getD undef)
  rw [Array.getElem?_eq_getElem hl]; rfl

set_option maxRecDepth 100000 in
set_option maxHeartbeats 800000 in
theorem open_any {bd : Nat} {s : St} {w : World} (hD : Prg bd s w) :
    Calls Tryz.prog 15 #[.pointer (some ⟨bd, 0, none⟩)] w fun e w' => ∃ bp bm, e = .returned (.tuple #[.pointer (some ⟨bp, 0, none⟩), .nilIface]) ∧ w.heap.size ≤ bp ∧ w.heap.size ≤ bm ∧ PagerIs bp bd bm 0 (loaded s.pg 1 false) w' ∧ Prg bd s w' ∧ Below w.heap.size w w' := by
  have HD : Hid _ := hD
  clear hD
  go_enter Tryz.func15, Tryz.ntmps15
  go_wp2_with fail
  obtain ⟨A, hA⟩ : ∃ A, (Tryz.zeroCells81.setIfInBounds 0 (.pointer (some ⟨bd, 0, none⟩))).setIfInBounds 4018 (.int .i64 1) = A := ⟨_, rfl⟩
  rw [hA]
  obtain ⟨a1, a2, a3, a4⟩ := made_facts bd A hA
  clear hA
  have hr := made_row A a1 w
  have hd : Prg bd s (w.alloc (.cells A 81)) := Prg.below (s := s) HD.out ((Below.refl _ _).alloc (Nat.le_refl _) _)
  have hlt : bd < w.heap.size := DiskIs.lt HD.out
  refine (load_any (bp := w.heap.size) (bd := bd) (s := s) hr (by rw [a2]; rfl) 1 false (by rw [a3]; rfl) (by rw [a4]; rfl) hd (by omega)).mono ?_
  rintro _ w1 ⟨rfl, ⟨bm, hbm, hP⟩, hD1, hO⟩
  have hsz : (w.alloc (.cells A 81)).heap.size = w.heap.size + 1 := World.size_alloc _ _
  have HB : Hid (Below w.heap.size w w1) := Only.below ((Below.refl _ _).alloc (o := .cells A 81) (Nat.le_refl _)) hO (by omega) (fun i hi => by omega)
  have HP : Hid _ := hP
  have HD1 : Hid _ := hD1
  have HM : Hid (w.heap.size ≤ bm) := by rw [hsz] at hbm; exact (by omega : w.heap.size ≤ bm)
  clear hP hD1 hO hr hd hbm a1 a2 a3 a4
  go_wp2
  go_ret2
  exact ⟨w.heap.size, bm, rfl, Nat.le_refl _, HM.out, HP.out, HD1.out, HB.out⟩
end Go.Proofs.YtdphlkljenbkcaaGreatDoor
namespace Go.Proofs.YtdphlkljenbkcaaGreatDoor
open Go.RowKit Go.Maps

section
variable {bp bd bm n : Nat} {p : Pg} {s : St} {w : World}

theorem down_any (h : Cells bp bd bm p w) : Calls Tryz.prog 67 #[.pointer (some ⟨bp, 0, none⟩)] w fun e w' => e = .returned (.bool p.down) ∧ w' = w := by
  have q := h.cell 4019 (by omega)
  rw [cellOf_down] at q
  clear h
  go_enter Tryz.func67, Tryz.ntmps67
  go_wp2
  go_ret
  exact ⟨rfl, rfl⟩

/-- the error of a code -/
def errV (n : Int) : Value := if n = 0 then .nilIface else .iface 57 (.int .i64 n)
/-- what keeps a page from being read or changed -/
def Pg.code (p : Pg) (k : Int) : Int := if 0 ≤ k ∧ k < 2000 ∧ p.used k.toNat = true then (if p.down then 6 else 0) else 2
theorem Pg.code_no {p : Pg} {k : Int} (h : ¬ (0 ≤ k ∧ k < 2000 ∧ p.used k.toNat = true)) : p.code k = 2 := if_neg h
theorem Pg.code_yes {p : Pg} {k : Int} (h : 0 ≤ k ∧ k < 2000 ∧ p.used k.toNat = true) : p.code k = if p.down then 6 else 0 := if_pos h

set_option maxRecDepth 100000 in
set_option maxHeartbeats 400000 in
theorem reach_any (h : Cells bp bd bm p w) (k : Int) : Calls Tryz.prog 100 #[.pointer (some ⟨bp, 0, none⟩), .int .i64 k] w fun e w' => ∃ E, e = .returned E ∧ E = errV (p.code k) ∧ w' = w := by
  by_cases h0 : 0 ≤ k ∧ k < 2000
  · obtain ⟨j, rfl⟩ : ∃ j : Nat, k = j := ⟨k.toNat, by omega⟩
    have hj : j < 2000 := by omega
    have h1 : (j : Int) < 2000 := by omega
    have q := h.cell (2001 + j) (by omega)
    rw [cellOf_used _ _ _ hj] at q
    have q2 := h.cell 4019 (by omega)
    rw [cellOf_down] at q2
    clear h
    cases hu : p.used j
    · rw [hu] at q
      rw [Pg.code_no (fun e => by rw [Int.toNat_natCast, hu] at e; cases e.2.2)]
      go_enter Tryz.func100, Tryz.ntmps100
      go_wp2_with fail
      refine (below_any j 2000 w).mono ?_
      rintro _ wa ⟨rfl, hw⟩
      subst wa
      rw [decide_eq_true (show (0 : Int) ≤ j by omega), decide_eq_true h1]
      go_wp2
      go_ret
      exact ⟨_, rfl, rfl, rfl⟩
    · rw [hu] at q
      rw [Pg.code_yes ⟨by omega, h1, by rw [Int.toNat_natCast]; exact hu⟩]
      cases hd : p.down
      · rw [hd] at q2
        go_enter Tryz.func100, Tryz.ntmps100
        go_wp2_with fail
        refine (below_any j 2000 w).mono ?_
        rintro _ wa ⟨rfl, hw⟩
        subst wa
        rw [decide_eq_true (show (0 : Int) ≤ j by omega), decide_eq_true h1]
        go_wp2
        go_ret
        exact ⟨_, rfl, rfl, rfl⟩
      · rw [hd] at q2
        go_enter Tryz.func100, Tryz.ntmps100
        go_wp2_with fail
        refine (below_any j 2000 w).mono ?_
        rintro _ wa ⟨rfl, hw⟩
        subst wa
        rw [decide_eq_true (show (0 : Int) ≤ j by omega), decide_eq_true h1]
        go_wp2
        go_ret
        exact ⟨_, rfl, rfl, rfl⟩
  · clear h
    rw [Pg.code_no (fun e => h0 ⟨e.1, e.2.1⟩)]
    have hb : (decide (0 ≤ k) && decide (k < 2000)) = false := by
      cases hx : (decide (0 ≤ k) && decide (k < 2000))
      · rfl
      · simp at hx; exact absurd hx h0
    go_enter Tryz.func100, Tryz.ntmps100
    go_wp2_with fail
    refine (below_any k 2000 w).mono ?_
    rintro _ wa ⟨rfl, hw⟩
    subst wa
    rw [hb]
    go_wp2
    go_ret
    exact ⟨_, rfl, rfl, rfl⟩

/-- what Root tells -/
theorem root_yes (h : Cells bp bd bm p w) (i : Nat) (hi : i < 8) : Calls Tryz.prog 33 #[.pointer (some ⟨bp, 0, none⟩), .int .i64 i] w fun e w' => e = .returned (.tuple #[.int .i64 (p.rp i), .int .i64 (p.rn i), .nilIface]) ∧ Below w.heap.size w w' := by
  have h1 : (i : Int) < 8 := by omega
  have q1 := h.cell (4001 + i * 2) (by omega)
  have q2 := h.cell (4001 + i * 2 + 1) (by omega)
  rw [cellOf_root _ _ _ (by omega), if_pos (by omega), show i * 2 / 2 = i by omega] at q1
  rw [show 4001 + i * 2 + 1 = 4001 + (i * 2 + 1) by omega, cellOf_root _ _ _ (by omega), if_neg (by omega), show (i * 2 + 1) / 2 = i by omega, ← Nat.add_assoc] at q2
  clear h
  go_enter Tryz.func33, Tryz.ntmps33
  go_wp2_with fail
  refine (below_any i 8 w).mono ?_
  rintro _ wa ⟨rfl, hw⟩
  subst wa
  rw [decide_eq_true (show (0 : Int) ≤ i by omega), decide_eq_true h1]
  go_wp2
  go_quiet (fail)
  go_wp2
  go_ret3
  exact ⟨rfl, ((Below.refl _ _).alloc (Nat.le_refl _) _).trans ⟨rfl, rfl, rfl, Nat.le_refl _, fun _ _ => rfl⟩⟩

theorem root_no (i : Int) (hi : ¬ (0 ≤ i ∧ i < 8)) (w : World) : Calls Tryz.prog 33 #[.pointer (some ⟨bp, 0, none⟩), .int .i64 i] w fun e w' => e = .returned (.tuple #[.int .i64 0, .int .i64 0, .iface 57 (.int .i64 2)]) ∧ w' = w := by
  have hb : (decide (0 ≤ i) && decide (i < 8)) = false := by
    cases hx : (decide (0 ≤ i) && decide (i < 8))
    · rfl
    · simp at hx; exact absurd hx hi
  go_enter Tryz.func33, Tryz.ntmps33
  go_wp2_with fail
  refine (below_any i 8 w).mono ?_
  rintro _ wa ⟨rfl, hw⟩
  subst wa
  rw [hb]
  go_wp2
  go_ret3
  exact ⟨rfl, rfl⟩
end
end Go.Proofs.YtdphlkljenbkcaaGreatDoor
namespace Go.Proofs.YtdphlkljenbkcaaGreatDoor
open Go.RowKit Go.Maps

theorem over_same (v : Nat → Value) (o : Nat) (x : Value) : over v o [x] o = x := over_in v o [x] (j := 0) rfl
/-- a number from 0 to below a bound -/
def inB (k b : Int) : Bool := decide (0 ≤ k) && decide (k < b)
def Pg.setRoot (p : Pg) (i : Nat) (k t : Int) : Pg := { p with rp := fun j => if j = i then k else p.rp j, rn := fun j => if j = i then t else p.rn j }

section
variable {bp bd bm n : Nat} {p : Pg} {s : St} {w : World}

theorem Cells.setRoot (h : Cells bp bd bm p w) (i : Nat) (hi : i < 8) (k t : Int) : Cells bp bd bm (p.setRoot i k t) ((w.setCell ⟨bp, 4001 + i * 2, none⟩ (.int .i64 k)).setCell ⟨bp, 4001 + i * 2 + 1, none⟩ (.int .i64 t)) := by
  have h1 := (h.row.set (4001 + i * 2) (.int .i64 k) (by omega)).set (4001 + i * 2 + 1) (.int .i64 t) (by omega)
  refine h1.cells fun j hj => ?_
  by_cases e2 : j = 4001 + i * 2 + 1
  · subst e2
    rw [over_same, show 4001 + i * 2 + 1 = 4001 + (i * 2 + 1) by omega, cellOf_root _ _ _ (by omega), if_neg (by omega), show (i * 2 + 1) / 2 = i by omega]
    simp [Pg.setRoot]
  · rw [over_out _ _ _ (by simp; omega)]
    by_cases e1 : j = 4001 + i * 2
    · subst e1
      rw [over_same, cellOf_root _ _ _ (by omega), if_pos (by omega), show (i * 2) / 2 = i by omega]
      simp [Pg.setRoot]
    · rw [over_out _ _ _ (by simp; omega)]
      by_cases e3 : 4001 ≤ j ∧ j < 4017
      · obtain ⟨m, rfl⟩ : ∃ m, j = 4001 + m := ⟨j - 4001, by omega⟩
        rw [cellOf_root _ _ _ (by omega), cellOf_root _ _ _ (by omega)]
        by_cases e : m % 2 = 0
        · rw [if_pos e, if_pos e]
          simp only [Pg.setRoot]
          rw [if_neg (by omega)]
        · rw [if_neg e, if_neg e]
          simp only [Pg.setRoot]
          rw [if_neg (by omega)]
      · unfold cellOf
        by_cases a0 : j = 0
        · rw [if_pos a0, if_pos a0]
        rw [if_neg a0, if_neg a0]
        by_cases a1 : j < 2001
        · rw [if_pos a1, if_pos a1]; rfl
        rw [if_neg a1, if_neg a1]
        by_cases a2 : j < 4001
        · rw [if_pos a2, if_pos a2]; rfl
        rw [if_neg a2, if_neg a2, if_neg (show ¬ j < 4017 by omega), if_neg (show ¬ j < 4017 by omega)]; rfl

set_option maxRecDepth 100000 in
set_option maxHeartbeats 400000 in
theorem setRoot_yes (h : Cells bp bd bm p w) (hd : p.down = false) (i : Nat) (hi : i < 8) (k t : Int) (hk : inB k 2000 = true) (ht : inB t 65536 = true) :
    Calls Tryz.prog 126 #[.pointer (some ⟨bp, 0, none⟩), .int .i64 i, .int .i64 k, .int .i64 t] w fun e w' => e = .returned .nilIface ∧ Cells bp bd bm (p.setRoot i k t) w' ∧ Only (fun b => b = bp) w w' := by
  have h1 : (i : Int) < 8 := by omega
  have q := h.cell 4019 (by omega)
  rw [cellOf_down, hd] at q
  have q1 := h.cell (4001 + i * 2) (by omega)
  have q2 := h.cell (4001 + i * 2 + 1) (by omega)
  have f1 := h.free (4001 + i * 2)
  have f2 := h.free (4001 + i * 2 + 1)
  have HC : Hid _ := h.setRoot i hi k t
  clear h
  go_enter Tryz.func126, Tryz.ntmps126
  go_wp2_with fail
  refine (below_any i 8 w).mono ?_
  rintro _ wa ⟨rfl, hw⟩
  subst wa
  rw [decide_eq_true (show (0 : Int) ≤ i by omega), decide_eq_true h1]
  go_wp2_with fail
  refine (below_any k 2000 w).mono ?_
  rintro _ wa ⟨rfl, hw⟩
  subst wa
  rw [show (decide (0 ≤ k) && decide (k < 2000)) = true from hk]
  go_wp2_with fail
  refine (below_any t 65536 w).mono ?_
  rintro _ wa ⟨rfl, hw⟩
  subst wa
  rw [show (decide (0 ≤ t) && decide (t < 65536)) = true from ht]
  go_wp2
  go_ret
  exact ⟨rfl, HC.out, (Only.set bp _ _ w).trans (Only.set bp _ _ _) (fun _ h => .inl h)⟩

set_option maxHeartbeats 400000 in
theorem setRoot_no (w : World) (i k t : Int) (hn : ¬ (inB i 8 = true ∧ inB k 2000 = true ∧ inB t 65536 = true)) :
    Calls Tryz.prog 126 #[.pointer (some ⟨bp, 0, none⟩), .int .i64 i, .int .i64 k, .int .i64 t] w fun e w' => e = .returned (.iface 57 (.int .i64 2)) ∧ w' = w := by
  cases hi : inB i 8
  · go_enter Tryz.func126, Tryz.ntmps126
    go_wp2_with fail
    refine (below_any i 8 w).mono ?_
    rintro _ wa ⟨rfl, hw⟩
    subst wa
    rw [show (decide (0 ≤ i) && decide (i < 8)) = false from hi]
    go_wp2
    go_ret
    exact ⟨rfl, rfl⟩
  · cases hk : inB k 2000
    · go_enter Tryz.func126, Tryz.ntmps126
      go_wp2_with fail
      refine (below_any i 8 w).mono ?_
      rintro _ wa ⟨rfl, hw⟩
      subst wa
      rw [show (decide (0 ≤ i) && decide (i < 8)) = true from hi]
      go_wp2_with fail
      refine (below_any k 2000 w).mono ?_
      rintro _ wa ⟨rfl, hw⟩
      subst wa
      rw [show (decide (0 ≤ k) && decide (k < 2000)) = false from hk]
      go_wp2
      go_ret
      exact ⟨rfl, rfl⟩
    · have ht : inB t 65536 = false := by
        cases e : inB t 65536
        · rfl
        · exact absurd ⟨hi, hk, e⟩ hn
      go_enter Tryz.func126, Tryz.ntmps126
      go_wp2_with fail
      refine (below_any i 8 w).mono ?_
      rintro _ wa ⟨rfl, hw⟩
      subst wa
      rw [show (decide (0 ≤ i) && decide (i < 8)) = true from hi]
      go_wp2_with fail
      refine (below_any k 2000 w).mono ?_
      rintro _ wa ⟨rfl, hw⟩
      subst wa
      rw [show (decide (0 ≤ k) && decide (k < 2000)) = true from hk]
      go_wp2_with fail
      refine (below_any t 65536 w).mono ?_
      rintro _ wa ⟨rfl, hw⟩
      subst wa
      rw [show (decide (0 ≤ t) && decide (t < 65536)) = false from ht]
      go_wp2
      go_ret
      exact ⟨rfl, rfl⟩
end
end Go.Proofs.YtdphlkljenbkcaaGreatDoor
namespace Go.Proofs.YtdphlkljenbkcaaGreatDoor
open Go.RowKit Go.Maps

theorem key_of (k : Nat) (hk : k < 2000) : keyOf Tryz.prog 3 (.int .i64 k) = some (.int .i64 k) := keyOf_int_mk Tryz.underlying3 (wf_nat k (by omega))
theorem zero86 (w : World) : (zeroValue 163).run Tryz.prog w = .ok (.agg #[.string ⟨#[]⟩]) w := by kernel_rfl
theorem bytes_inj {a b : ByteArray} (h : a.data.toList = b.data.toList) : a = b := by
  cases a; cases b
  congr
  exact Array.toList_inj.1 h

section
variable {ops : Array Oper} {rest : List Oper} {o : Oper} {a : Act} {Q : Exit → Act → World → Prop} {bm n : Nat} {f : Nat → Option ByteArray}
theorem look_sheet (w : World) (hg : o.guard = none) (m x : Operand) (hop : o.op = Op.lookup 77 m x true) (hS : Sheets bm n f w) (k : Nat) (hk : k < 2000) (hm : a.eval m = .map (some bm)) (hx : a.eval x = .int .i64 k)
    (hK : wpList Tryz.prog ops Q rest (a.put o.dst (.tuple #[.agg #[.string ((f k).getD ⟨#[]⟩)], .bool (f k).isSome])) w) : wpList Tryz.prog ops Q (o :: rest) a w := by
  obtain ⟨D, hD, hM⟩ := hS
  refine wpList_lookup_own_ok w hg m x 77 hop 3 163 keyed3 Tryz.underlying77 sheetElem (zero86 w) (.lit (.string [])) [] rfl bm n D hm hD _ _ hx (key_of k hk) ?_
  intro v ps hv
  obtain ⟨s, rfl, hz⟩ := sheetElem_inv hv
  have h1 := congrArg Prod.fst hz
  simp only at h1
  rw [hM.has k hk]
  cases hf : f k with
  | none =>
    rw [atKey_of_not_has (by rw [hM.has k hk, hf]; rfl)] at h1
    injection h1 with h2
    injection h2 with h3
    have : s = ⟨#[]⟩ := bytes_inj (by rw [← h3])
    rw [hf] at hK
    rw [this]; exact hK
  | some t =>
    rw [hM.elem k t hk hf] at h1
    injection h1 with h2
    injection h2 with h3
    have : s = t := (bytes_inj h3).symm
    rw [hf] at hK
    rw [this]; exact hK

theorem put_sheet (w : World) (hg : o.guard = none) (m x v : Operand) (hop : o.op = Op.mapUpdate 77 m x v) (hS : Sheets bm n f w) (hn : n < 1000000) (k : Nat) (hk : k < 2000) (s : ByteArray) (hs : s.size = 1024) (hm : a.eval m = .map (some bm)) (hx : a.eval x = .int .i64 k) (hv : a.eval v = .agg #[.string s])
    (hK : ∀ w', Sheets bm (n + 1) (put f k (some s)) w' → Only (fun b => b = bm) w w' → wpList Tryz.prog ops Q rest (a.put o.dst undef) w') : wpList Tryz.prog ops Q (o :: rest) a w := by
  obtain ⟨D, hD, hM⟩ := hS
  refine wpList_mapUpdate_own w hg m x v 77 hop 3 163 keyed3 Tryz.underlying77 sheetElem bm n D hm hD (Nat.lt_trans hn (by decide)) _ _ _ hx hv (key_of k hk) _ _ (sheetElem_mk s) ?_
  intro w' h1 h2
  exact hK w' ⟨_, h1, hM.put k hk s hs⟩ (Only.of_grown h2 rfl)

theorem del_sheet (w : World) (hg : o.guard = none) (m x : Operand) (hop : o.op = Op.call { callee := Callee.builtin Builtin.delete, args := #[m, x], argTypes := #[77, 3] }) (hS : Sheets bm n f w) (k : Nat) (hk : k < 2000) (hm : a.eval m = .map (some bm)) (hx : a.eval x = .int .i64 k)
    (hK : ∀ w', Sheets bm n (put f k none) w' → Only (fun b => b = bm) w w' → wpList Tryz.prog ops Q rest (a.put o.dst (.tuple #[])) w') : wpList Tryz.prog ops Q (o :: rest) a w := by
  obtain ⟨D, hD, hM⟩ := hS
  refine wpList_delete_own w hg m x 77 3 hop 163 keyed3 Tryz.underlying77 sheetElem bm n D hm hD _ _ hx (key_of k hk) ?_
  intro w' h1 h2
  exact hK w' ⟨_, h1, hM.del k⟩ (Only.of_grown h2.grown rfl)
end
end Go.Proofs.YtdphlkljenbkcaaGreatDoor
namespace Go.Proofs.YtdphlkljenbkcaaGreatDoor
open Go.RowKit Go.Maps

/-- what a page in use has -/
def Pg.text (p : Pg) (pg : Nat → ByteArray) (k : Nat) : ByteArray := (p.chg k).getD (pg (placeF k (p.upper k)))

section
variable {bp bd bm n : Nat} {p : Pg} {s : St} {w : World}

theorem no_iff (p : Pg) (k : Int) : p.code k = 2 ∨ (∃ j : Nat, k = j ∧ j < 2000 ∧ p.used j = true) := by
  by_cases e : 0 ≤ k ∧ k < 2000 ∧ p.used k.toNat = true
  · exact .inr ⟨k.toNat, by omega, by omega, e.2.2⟩
  · exact .inl (Pg.code_no e)
theorem code_ok {p : Pg} {j : Nat} (hd : p.down = false) (hj : j < 2000) (hu : p.used j = true) : p.code j = 0 := by
  rw [Pg.code_yes ⟨by omega, by omega, by rw [Int.toNat_natCast]; exact hu⟩, hd]; rfl

set_option maxRecDepth 100000 in
theorem readp_no (h : Cells bp bd bm p w) (k : Int) (hc : p.code k = 2) :
    Calls Tryz.prog 68 #[.pointer (some ⟨bp, 0, none⟩), .int .i64 k] w fun e w' => e = .returned (.tuple #[.string ⟨#[]⟩, .iface 57 (.int .i64 2)]) ∧ w' = w := by
  have HC : Hid (Cells bp bd bm p w) := h
  clear h
  go_enter Tryz.func68, Tryz.ntmps68
  go_wp2_with fail
  refine (reach_any HC.out k).mono ?_
  rintro _ wa ⟨E, rfl, hE, hw⟩
  subst wa
  rw [hc] at hE
  obtain rfl : E = .iface 57 (.int .i64 2) := hE
  go_wp2
  go_ret2
  exact ⟨rfl, rfl⟩

set_option maxRecDepth 100000 in
set_option maxHeartbeats 400000 in
theorem readp_yes (h : PagerIs bp bd bm n p w) (hD : Prg bd s w) (hd : p.down = false) (j : Nat) (hj : j < 2000) (hu : p.used j = true) :
    Calls Tryz.prog 68 #[.pointer (some ⟨bp, 0, none⟩), .int .i64 j] w fun e w' => e = .returned (.tuple #[.string (p.text s.pg j), .nilIface]) ∧ Below w.heap.size w w' := by
  have HP : Hid (PagerIs bp bd bm n p w) := h
  have HD : Hid (Prg bd s w) := hD
  have q0 := h.cells.cell 0 (by omega)
  rw [show cellOf p bd bm 0 = .pointer (some ⟨bd, 0, none⟩) from rfl] at q0
  have q1 := h.cells.cell 4017 (by omega)
  rw [cellOf_map] at q1
  have q2 := h.cells.cell (1 + j) (by omega)
  rw [cellOf_upper _ _ _ hj] at q2
  have h1 : (j : Int) < 2000 := by omega
  clear h hD
  go_enter Tryz.func68, Tryz.ntmps68
  go_wp2_with fail
  refine (reach_any HP.out.cells j).mono ?_
  rintro _ wa ⟨E, rfl, hE, hw⟩
  subst wa
  rw [code_ok hd hj hu] at hE
  obtain rfl : E = .nilIface := hE
  cases hf : p.chg j with
  | some t =>
    have ht : t.size = 1024 := by
      obtain ⟨D, _, hM⟩ := HP.out.own
      exact (hM.small j t hf).2
    go_wp2_with (refine look_sheet _ rfl _ _ rfl HP.out.own j hj rfl rfl ?_; rw [hf])
    refine (clone_any t _ (by omega)).mono ?_
    rintro _ w1 ⟨rfl, hb⟩
    have HB : Hid (Below w.heap.size w w1) := ((Below.refl _ w).alloc (o := .cells #[.string t] 163) (Nat.le_refl _)).trans (hb.mono (by rw [World.size_alloc]; omega))
    clear hb
    go_wp2
    go_ret2
    exact ⟨by rw [Pg.text, hf]; rfl, HB.out⟩
  | none =>
    go_wp2_with (refine look_sheet _ rfl _ _ rfl HP.out.own j hj rfl rfl ?_; rw [hf])
    have HK : Hid (∀ wx, Below w.heap.size w wx → wx.cell? ⟨bp, 0, none⟩ = some (.pointer (some ⟨bd, 0, none⟩)) ∧ wx.cell? ⟨bp, 1 + j, none⟩ = some (.bool (p.upper j))) := fun wx hx =>
      ⟨by rw [hx.cell (p := ⟨bp, 0, none⟩) HP.out.lt]; exact q0, by rw [hx.cell (p := ⟨bp, 1 + j, none⟩) HP.out.lt]; exact q2⟩
    have HDx : Hid (∀ wx, Below w.heap.size w wx → Prg bd s wx) := fun wx hx => Prg.below HD.out hx
    have HB0 : Hid (Below w.heap.size w (w.alloc (.cells #[.string ⟨#[]⟩] 163)).drew) := ((Below.refl _ w).alloc (o := .cells #[.string ⟨#[]⟩] 163) (Nat.le_refl _)).drew
    have hlt := placeF_lt j hj (p.upper j)
    go_region_held3 (fun wx => wx.cell? ⟨bp, 0, none⟩ = some (.pointer (some ⟨bd, 0, none⟩)) ∧ wx.cell? ⟨bp, 1 + j, none⟩ = some (.bool (p.upper j))) (first | exact HK.out _ HB.out | exact HK.out _ HB0.out) (first | (go_at_call 54; refine (place_any j hj _ _).mono ?_; rintro _ wy ⟨rfl, hwy⟩; subst wy) | (go_at_call 53; refine (read_yes (HDx.out _ HB0.out) _ hlt).mono ?_; rintro _ wy ⟨rfl, hb⟩; have HB : Hid (Below w.heap.size w wy) := HB0.out.trans (hb.mono HB0.out.size)))
    go_wp2
    go_ret2
    exact ⟨by rw [Pg.text, hf]; rfl, HB.out⟩
end
end Go.Proofs.YtdphlkljenbkcaaGreatDoor
namespace Go.Proofs.YtdphlkljenbkcaaGreatDoor
open Go.RowKit Go.Maps

theorem store_sheet {bm n : Nat} {f : Nat → Option ByteArray} {w : World} (hS : Sheets bm n f w) (hn : n < 1000000) (k : Nat) (hk : k < 2000) (s : ByteArray) (hs : s.size = 1024) :
    ∃ w', (Instr.mapUpdate 77 (.map (some bm)) (.int .i64 k) (.agg #[.string s])).run Tryz.prog w = .ok () w' ∧ Sheets bm (n + 1) (put f k (some s)) w' ∧ Only (fun b => b = bm) w w' := by
  obtain ⟨D, hD, hM⟩ := hS
  obtain ⟨w', h1, h2, h3⟩ := hD.store keyed3 Tryz.underlying77 (Nat.lt_trans hn (by decide)) (key_of k hk) (sheetElem_mk s)
  exact ⟨w', h1, ⟨_, h2, hM.put k hk s hs⟩, Only.of_grown h3.grown rfl⟩

def Pg.write (p : Pg) (k : Nat) (s : ByteArray) : Pg := { p with chg := put p.chg k (some s) }
def Pg.free (p : Pg) (k : Nat) : Pg := { p with used := fun i => if i = k then false else p.used i, chg := put p.chg k none }
theorem Cells.chg {bp bd bm : Nat} {p : Pg} {w : World} (h : Cells bp bd bm p w) (f : Nat → Option ByteArray) : Cells bp bd bm { p with chg := f } w := ⟨fun k hk => h.cell k hk, h.free⟩

section
variable {bp bd bm n : Nat} {p : Pg} {s : St} {w : World}

theorem writep_no (h : Cells bp bd bm p w) (k : Int) (hc : p.code k = 2) (t : ByteArray) :
    Calls Tryz.prog 139 #[.pointer (some ⟨bp, 0, none⟩), .int .i64 k, .string t] w fun e w' => e = .returned (.iface 57 (.int .i64 2)) ∧ w' = w := by
  have HC : Hid (Cells bp bd bm p w) := h
  clear h
  go_enter Tryz.func139, Tryz.ntmps139
  go_wp2_with fail
  refine (reach_any HC.out k).mono ?_
  rintro _ wa ⟨E, rfl, hE, hw⟩
  subst wa
  rw [hc] at hE
  obtain rfl : E = .iface 57 (.int .i64 2) := hE
  go_wp2
  go_ret
  exact ⟨rfl, rfl⟩

theorem writep_arg (h : Cells bp bd bm p w) (hd : p.down = false) (j : Nat) (hj : j < 2000) (hu : p.used j = true) (t : ByteArray) (ht : t.size ≠ 1024) :
    Calls Tryz.prog 139 #[.pointer (some ⟨bp, 0, none⟩), .int .i64 j, .string t] w fun e w' => e = .returned (.iface 57 (.int .i64 1)) ∧ w' = w := by
  have HC : Hid (Cells bp bd bm p w) := h
  have h1 : ¬ ((t.size : Int) = 1024) := by omega
  clear h
  go_enter Tryz.func139, Tryz.ntmps139
  go_wp2_with fail
  refine (reach_any HC.out j).mono ?_
  rintro _ wa ⟨E, rfl, hE, hw⟩
  subst wa
  rw [code_ok hd hj hu] at hE
  obtain rfl : E = .nilIface := hE
  go_wp2
  go_ret
  exact ⟨rfl, rfl⟩

set_option maxRecDepth 100000 in
set_option maxHeartbeats 400000 in
theorem writep_yes (h : PagerIs bp bd bm n p w) (hn : n < 1000000) (hd : p.down = false) (j : Nat) (hj : j < 2000) (hu : p.used j = true) (t : ByteArray) (ht : t.size = 1024) :
    Calls Tryz.prog 139 #[.pointer (some ⟨bp, 0, none⟩), .int .i64 j, .string t] w fun e w' => e = .returned .nilIface ∧ PagerIs bp bd bm (n + 1) (p.write j t) w' ∧ Only (fun b => b = bm) w w' := by
  have HP : Hid (PagerIs bp bd bm n p w) := h
  have q1 := h.cells.cell 4017 (by omega)
  rw [cellOf_map] at q1
  have h1 : (t.size : Int) = 1024 := by omega
  have hne := h.ne
  clear h
  go_enter Tryz.func139, Tryz.ntmps139
  go_wp2_with fail
  refine (reach_any HP.out.cells j).mono ?_
  rintro _ wa ⟨E, rfl, hE, hw⟩
  subst wa
  rw [code_ok hd hj hu] at hE
  obtain rfl : E = .nilIface := hE
  go_wp2_with fail
  have HK : Hid (∀ wx, Only (fun b => b = bm) w wx → wx.cell? ⟨bp, 4017, none⟩ = some (.map (some bm))) := fun wx hx => by rw [hx.cell HP.out.lt (fun e => hne e.symm)]; exact q1
  have HB0 : Hid (Only (fun b => b = bm) w w.drew) := (Only.refl _ w).drew
  go_region_held3 (fun wx => wx.cell? ⟨bp, 4017, none⟩ = some (.map (some bm))) (first | exact HK.out _ HO2.out | exact HK.out _ HO.out | exact HK.out _ HB0.out) (first | (go_at_call 60; refine (clone_any t _ (by omega)).mono ?_; rintro _ wy ⟨rfl, hb⟩; have HO : Hid (Only (fun b => b = bm) w wy) := (Only.of_below ((Below.refl _ w).drew.trans hb)); obtain ⟨w2, hst, hs2, ho2⟩ := store_sheet (HP.out.own.block (Below.block ((Below.refl _ w).drew.trans hb) _ HP.out.own.lt)) hn j hj t ht; have HO2 : Hid (Only (fun b => b = bm) w w2) := HO.out.trans ho2 (fun _ h => .inl h); have HS2 : Hid _ := hs2; clear hs2 ho2 hb))
  go_wp2
  go_ret
  exact ⟨rfl, ⟨(HP.out.cells.block (HO2.out.block bp HP.out.lt (fun e => hne e.symm))).chg _, HS2.out⟩, HO2.out⟩

set_option maxRecDepth 100000 in
theorem freep_no (h : Cells bp bd bm p w) (k : Int) (hc : p.code k = 2) :
    Calls Tryz.prog 137 #[.pointer (some ⟨bp, 0, none⟩), .int .i64 k] w fun e w' => e = .returned (.iface 57 (.int .i64 2)) ∧ w' = w := by
  have HC : Hid (Cells bp bd bm p w) := h
  clear h
  go_enter Tryz.func137, Tryz.ntmps137
  go_wp2_with fail
  refine (reach_any HC.out k).mono ?_
  rintro _ wa ⟨E, rfl, hE, hw⟩
  subst wa
  rw [hc] at hE
  obtain rfl : E = .iface 57 (.int .i64 2) := hE
  go_wp2
  go_ret
  exact ⟨rfl, rfl⟩

theorem Cells.setUsed (h : Cells bp bd bm p w) (j : Nat) (hj : j < 2000) (b : Bool) : Cells bp bd bm { p with used := fun i => if i = j then b else p.used i } (w.setCell ⟨bp, 2001 + j, none⟩ (.bool b)) := by
  refine (h.row.set (2001 + j) (.bool b) (by omega)).cells fun k hk => ?_
  by_cases e : k = 2001 + j
  · subst e
    rw [over_same, cellOf_used _ _ _ hj]; simp
  · rw [over_out _ _ _ (by simp; omega)]
    by_cases e2 : 2001 ≤ k ∧ k < 4001
    · obtain ⟨m, rfl⟩ : ∃ m, k = 2001 + m := ⟨k - 2001, by omega⟩
      rw [cellOf_used _ _ _ (by omega), cellOf_used _ _ _ (by omega)]
      simp only
      rw [if_neg (by omega)]
    · unfold cellOf
      by_cases a0 : k = 0
      · rw [if_pos a0, if_pos a0]
      rw [if_neg a0, if_neg a0]
      by_cases a1 : k < 2001
      · rw [if_pos a1, if_pos a1]
      rw [if_neg a1, if_neg a1, if_neg (show ¬ k < 4001 by omega), if_neg (show ¬ k < 4001 by omega)]

set_option maxRecDepth 100000 in
set_option maxHeartbeats 400000 in
theorem freep_yes (h : PagerIs bp bd bm n p w) (hd : p.down = false) (j : Nat) (hj : j < 2000) (hu : p.used j = true) :
    Calls Tryz.prog 137 #[.pointer (some ⟨bp, 0, none⟩), .int .i64 j] w fun e w' => e = .returned .nilIface ∧ PagerIs bp bd bm n (p.free j) w' ∧ Only (fun b => b = bp ∨ b = bm) w w' := by
  have HP : Hid (PagerIs bp bd bm n p w) := h
  have h1 : (j : Int) < 2000 := by omega
  have q2 := h.cells.cell (2001 + j) (by omega)
  have f2 := h.cells.free (2001 + j)
  have hC := h.cells.setUsed j hj false
  have q1 := hC.cell 4017 (by omega)
  rw [cellOf_map] at q1
  have hne := h.ne
  have HS : Hid (Sheets bm n p.chg (w.setCell ⟨bp, 2001 + j, none⟩ (.bool false))) := h.own.only (Only.set bp _ _ w) hne
  have HC : Hid _ := hC
  clear h hC
  go_enter Tryz.func137, Tryz.ntmps137
  go_wp2_with fail
  refine (reach_any HP.out.cells j).mono ?_
  rintro _ wa ⟨E, rfl, hE, hw⟩
  subst wa
  rw [code_ok hd hj hu] at hE
  obtain rfl : E = .nilIface := hE
  go_wp2_with (refine del_sheet _ rfl _ _ rfl HS.out j hj rfl rfl ?_; intro w2 hs2 ho2; have HS2 : Hid _ := hs2; have HO2 : Hid _ := ho2; clear hs2 ho2)
  go_ret
  refine ⟨rfl, ⟨(HC.out.block (HO2.out.block bp (by rw [World.size_setCell]; exact HP.out.lt) (fun e => hne e.symm))).chg _, HS2.out⟩, ((Only.set bp _ _ w).mono (fun i hi => .inl hi)).trans HO2.out (fun i hi => .inl (.inr hi))⟩
end
end Go.Proofs.YtdphlkljenbkcaaGreatDoor
