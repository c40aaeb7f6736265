/- The contracts of Cut, Read and tear. -/
import Derived.Test.YthmladfoaajklaaDoorDisk
import Derived.Laws.IdiomCopy
import Derived.Laws.IdiomStrings
namespace Go.Proofs.YthmladfoaajklaaDoor
open Go.RowKit

/-- the pages, with one laid anew -/
def upd (pg : Nat → ByteArray) (k : Nat) (s : ByteArray) : Nat → ByteArray := fun i => if i = k then s else pg i

section
variable {b : Nat} {pg : Nat → ByteArray} {ends : Bool} {left torn : Int} {w : World}

theorem grownBy_set (W : World) (b o : Nat) (v : Value) : W.grownBy (W.setCell ⟨b, o, none⟩ v) (some b) :=
  ⟨rfl, rfl, rfl, by simp [World.setCell], fun k _ hk => Below.heap_setCell W ⟨b, o, none⟩ v k (fun e => hk (by rw [e]))⟩

theorem DiskIs.setPage (h : DiskIs b pg ends left torn w) (k : Nat) (hk : k < 4001) (s : ByteArray) (hs : s.size = 1024) : DiskIs b (upd pg k s) ends left torn (w.setCell ⟨b, k, none⟩ (.string s)) := by
  have o : ∀ i, k ≠ i → (w.setCell ⟨b, k, none⟩ (.string s)).cell? ⟨b, i, none⟩ = w.cell? ⟨b, i, none⟩ := fun i hi => World.cell?_setCell_other _ _ _ _ (fun e => hi (by cases e; rfl))
  refine ⟨fun i hi => ?_, ?_, ?_, ?_, fun i => ?_⟩
  · by_cases e : i = k
    · subst e
      have hc : ∃ u, w.cell? ⟨b, i, none⟩ = some u := by
        rcases h.page i hk with ⟨c, _⟩ | ⟨c, _⟩ <;> exact ⟨_, c⟩
      obtain ⟨u, hu⟩ := hc
      exact .inl ⟨by rw [World.cell?_setCell_same _ _ _ hu]; simp [upd], by simp [upd, hs]⟩
    · rw [o i (Ne.symm e)]
      simpa [upd, e] using h.page i hi
  · rw [o 4001 (by omega)]; exact h.ends
  · rw [o 4002 (by omega)]; exact h.left
  · rw [o 4003 (by omega)]; exact h.torn
  · rw [World.frozen?_setCell]; exact h.free i

theorem DiskIs.setEnds (h : DiskIs b pg ends left torn w) (x : Bool) : DiskIs b pg x left torn (w.setCell ⟨b, 4001, none⟩ (.bool x)) := by
  have o : ∀ i, 4001 ≠ i → (w.setCell ⟨b, 4001, none⟩ (.bool x)).cell? ⟨b, i, none⟩ = w.cell? ⟨b, i, none⟩ := fun i hi => World.cell?_setCell_other _ _ _ _ (fun e => hi (by cases e; rfl))
  refine ⟨fun i hi => ?_, World.cell?_setCell_same _ _ _ h.ends, ?_, ?_, fun i => ?_⟩
  · rw [o i (by omega)]; exact h.page i hi
  · rw [o 4002 (by omega)]; exact h.left
  · rw [o 4003 (by omega)]; exact h.torn
  · rw [World.frozen?_setCell]; exact h.free i

theorem DiskIs.setLeft (h : DiskIs b pg ends left torn w) (x : Int) : DiskIs b pg ends x torn (w.setCell ⟨b, 4002, none⟩ (.int .i64 x)) := by
  have o : ∀ i, 4002 ≠ i → (w.setCell ⟨b, 4002, none⟩ (.int .i64 x)).cell? ⟨b, i, none⟩ = w.cell? ⟨b, i, none⟩ := fun i hi => World.cell?_setCell_other _ _ _ _ (fun e => hi (by cases e; rfl))
  refine ⟨fun i hi => ?_, ?_, World.cell?_setCell_same _ _ _ h.left, ?_, fun i => ?_⟩
  · rw [o i (by omega)]; exact h.page i hi
  · rw [o 4001 (by omega)]; exact h.ends
  · rw [o 4003 (by omega)]; exact h.torn
  · rw [World.frozen?_setCell]; exact h.free i

theorem DiskIs.setTorn (h : DiskIs b pg ends left torn w) (x : Int) : DiskIs b pg ends left x (w.setCell ⟨b, 4003, none⟩ (.int .i64 x)) := by
  have o : ∀ i, 4003 ≠ i → (w.setCell ⟨b, 4003, none⟩ (.int .i64 x)).cell? ⟨b, i, none⟩ = w.cell? ⟨b, i, none⟩ := fun i hi => World.cell?_setCell_other _ _ _ _ (fun e => hi (by cases e; rfl))
  refine ⟨fun i hi => ?_, ?_, ?_, World.cell?_setCell_same _ _ _ h.torn, fun i => ?_⟩
  · rw [o i (by omega)]; exact h.page i hi
  · rw [o 4001 (by omega)]; exact h.ends
  · rw [o 4002 (by omega)]; exact h.left
  · rw [World.frozen?_setCell]; exact h.free i

/-- torn bytes, cut to 0 to 1024 -/
def clip (t : Int) : Int := min (max t 0) 1024

set_option maxHeartbeats 400000 in
theorem cut_any (h : DiskIs b pg ends left torn w) (writes t : Int) :
    Calls Tryd.prog 18 #[.pointer (some ⟨b, 0, none⟩), .int .i64 writes, .int .i64 t] w fun e w' => e = .returned (.tuple #[]) ∧ DiskIs b pg (decide (0 ≤ writes)) writes (clip t) w' ∧ w.grownBy w' (some b) := by
  have q1 := h.ends
  have q2 := h.left
  have q3 := h.torn
  have f1 := h.free 4001
  have f2 := h.free 4002
  have f3 := h.free 4003
  have HD : Hid _ := ((h.setEnds (decide (0 ≤ writes))).setLeft writes).setTorn (clip t)
  have HG : Hid _ := ((grownBy_set w b 4001 (.bool (decide (0 ≤ writes)))).trans (grownBy_set _ b 4002 (.int .i64 writes))).trans (grownBy_set _ b 4003 (.int .i64 (clip t)))
  clear h
  go_enter Tryd.func18, Tryd.ntmps18
  go_wp2
  go_end0
  exact ⟨rfl, HD.out, HG.out⟩

theorem read_yes (h : DiskIs b pg ends left torn w) (k : Nat) (hk : k < 4001) :
    Calls Tryd.prog 20 #[.pointer (some ⟨b, 0, none⟩), .int .i64 k] w fun e w' => e = .returned (.tuple #[.string (pg k), .nilIface]) ∧ Below w.heap.size w w' := by
  have hs : (pg k).size ≤ 1024 := Nat.le_of_eq (h.size k hk)
  have HD : Hid (DiskIs b pg ends left torn w) := h
  clear h
  go_enter Tryd.func20, Tryd.ntmps20
  go_wp2_with fail
  refine (there_yes k w hk).mono ?_
  rintro _ _ ⟨rfl, rfl⟩
  go_wp2_with fail
  refine (whole_any HD.out k hk).mono ?_
  rintro _ w1 ⟨rfl, hb1⟩
  go_wp2_with fail
  refine (clone_any _ w1 hs).mono ?_
  rintro _ w2 ⟨rfl, hb2⟩
  go_wp2
  go_ret2
  exact ⟨rfl, hb1.trans (hb2.mono hb1.size)⟩

theorem read_no (b : Nat) (k : Int) (w : World) (hk : k < 0 ∨ 4001 ≤ k) :
    Calls Tryd.prog 20 #[.pointer (some ⟨b, 0, none⟩), .int .i64 k] w fun e w' => e = .returned (.tuple #[.string ⟨#[]⟩, .iface 24 (.int .i64 2)]) ∧ w' = w := by
  go_enter Tryd.func20, Tryd.ntmps20
  go_wp2_with fail
  refine (there_no k w hk).mono ?_
  rintro _ _ ⟨rfl, rfl⟩
  go_wp2
  go_ret2
  exact ⟨rfl, rfl⟩

/-- what copy lays of a text -/
theorem run_copy_str {P : Program} (w : World) (dT sT ty elem : TypeId) (g o dLen dCap : Nat) (s : ByteArray)
    (hu : P.underlying dT = some (.slice elem)) (hs : (P.info? elem).map (·.size) = some 1) (hle : s.size ≤ dLen) (hc : ∀ j, j < s.size → (w.cell? ⟨g, o + j, none⟩).isSome = true) (hf : ∀ j, j < s.size → w.frozen? ⟨g, o + j, none⟩ = false) :
    (Builtin.copy_ #[dT, sT] ty #[.slice (some ⟨g, o, none⟩) dLen dCap, .string s]).run P w = .ok (goInt s.size) (w.setCells g o (Lib.byteCells s.data.toList)) := by
  have hlen : (Lib.byteCells s.data.toList).length = s.size := by rw [Lib.byteCells_length, ← Lib.size_eq]
  have hst := run_storeCells_cells (P := P) g o (Lib.byteCells s.data.toList) 0 w (by rw [hlen]; simpa using hc) (by rw [hlen]; simpa using hf) (Lib.byteCells_one _)
  have hmin : Nat.min s.size dLen = s.size := Nat.min_eq_left hle
  have htk : List.take s.size (List.map (fun b : UInt8 => Value.int IntKind.u8 (b.toNat : Int)) s.data.toList) = Lib.byteCells s.data.toList := by
    rw [List.take_of_length_le (by rw [List.length_map, ← Lib.size_eq]; exact Nat.le_refl _)]
    rfl
  simp only [Nat.add_zero] at hst
  cases hq : P.info? elem with
  | none => simp [hq] at hs
  | some i =>
    simp [Builtin.copy_, run_underlying hu, Builtin.lenOf, Builtin.firstCells, sizeOf, typeInfo, hq, hmin]
    rw [htk, hst]
    simp [Result.andThen]

/-- bytes of a text in a new row -/
theorem bytes_of (s : ByteArray) (w : World) : ∃ cap w', (convert 9 66 (.string s)).run Tryd.prog w = .ok (.slice (some ⟨w.heap.size, 0, none⟩) s.size cap) w' ∧ Below w.heap.size w w' ∧ w'.heap.size = w.heap.size + 1 ∧
    (∀ j (hj : j < s.data.toList.length), w'.cell? ⟨w.heap.size, j, none⟩ = some (.int .u8 (s.data.toList[j].toNat : Int))) ∧ (∀ j, j < s.size → w'.frozen? ⟨w.heap.size, j, none⟩ = false) := by
  have h := run_bytes_of_string (P := Tryd.prog) w 9 66 5 s Tryd.underlying9 Tryd.underlying66 Tryd.underlying5
  refine ⟨_, _, h, (Below.refl _ w).drew.alloc (Nat.le_refl _) _, ?_, ?_, ?_⟩
  · simp
  · intro j hj
    have hn : (w.drew.alloc (.cells (bytesRow s (grownCap w s.size 0 5)) 5 ((bytesRow s (grownCap w s.size 0 5)).size, (bytesRow s (grownCap w s.size 0 5)).size + 1))).heap[w.heap.size]? = _ := heap_alloc_new w.drew _
    have hj' : j < s.data.size := by simpa using hj
    simp only [World.cell?, hn]
    have hj2 : j < s.size := hj'
    simp [bytesRow, Array.getElem?_append, hj2]
  · intro j hj
    have hn : (w.drew.alloc (.cells (bytesRow s (grownCap w s.size 0 5)) 5 ((bytesRow s (grownCap w s.size 0 5)).size, (bytesRow s (grownCap w s.size 0 5)).size + 1))).heap[w.heap.size]? = _ := heap_alloc_new w.drew _
    have hj' : j < (bytesRow s (grownCap w s.size 0 5)).size := by
      have e : s.data.size = s.size := rfl
      simp [bytesRow]; omega
    simp only [World.frozen?, hn]
    simp
    omega

/-- a page of which torn bytes were written -/
def tornPage (s old : ByteArray) (t : Nat) : ByteArray := ⟨(s.data.toList.take t ++ old.data.toList.drop t).toArray⟩

theorem Below.setCells' {B b : Nat} {a : World} (hB : B ≤ b) : ∀ (vs : List Value) (o : Nat) (w : World), Below B a w → Below B a (w.setCells b o vs)
  | [], _, _, h => h
  | v :: r, o, _, h => Below.setCells' hB r (o + 1) _ (h.setCell (p := ⟨b, o, none⟩) hB v)

theorem torn_size (s old : ByteArray) (t : Nat) (hs : s.size = 1024) (ho : old.size = 1024) (ht : t ≤ 1024) : (tornPage s old t).size = 1024 := by
  have e1 : s.data.toList.length = 1024 := by simpa using hs
  have e2 : old.data.toList.length = 1024 := by simpa using ho
  show (s.data.toList.take t ++ old.data.toList.drop t).toArray.size = 1024
  rw [List.size_toArray, List.length_append, List.length_take, List.length_drop, e1, e2]
  omega

/-- copy, and the text that comes of it -/
theorem torn_of (s old : ByteArray) (t B cap : Nat) (w : World) (hs : s.size = 1024) (ho : old.size = 1024) (ht : t ≤ 1024)
    (hc : ∀ j (hj : j < old.data.toList.length), w.cell? ⟨B, j, none⟩ = some (.int .u8 (old.data.toList[j].toNat : Int))) (hf : ∀ j, j < old.size → w.frozen? ⟨B, j, none⟩ = false) :
    ∃ w', (Builtin.copy_ #[66, 9] 3 #[.slice (some ⟨B, 0, none⟩) 1024 cap, .string (s.extract 0 t)]).run Tryd.prog w = .ok (goInt t) w' ∧ Below B w w' ∧
      (convert 66 9 (.slice (some ⟨B, 0, none⟩) 1024 cap)).run Tryd.prog w'.drew = .ok (.string (tornPage s old t)) w'.drew := by
  have e1 : s.data.toList.length = 1024 := by simpa using hs
  have e2 : old.data.toList.length = 1024 := by simpa using ho
  have ex : (s.extract 0 t).data.toList = s.data.toList.take t := by simp [ByteArray.data_extract]
  have exs : (s.extract 0 t).size = t := by
    have : (s.extract 0 t).size = (s.extract 0 t).data.toList.length := by simp
    rw [this, ex, List.length_take, e1]; omega
  have h := run_copy_str (P := Tryd.prog) w 66 9 3 5 B 0 1024 cap (s.extract 0 t) Tryd.underlying66 (by kernel_rfl) (by omega)
    (fun j hj => by rw [Nat.zero_add, hc j (by omega)]; rfl) (fun j hj => by rw [Nat.zero_add]; exact hf j (by omega))
  rw [exs, ex] at h
  have hlen : (Lib.byteCells (s.data.toList.take t)).length = t := by rw [Lib.byteCells_length, List.length_take, e1]; omega
  refine ⟨_, h, Below.setCells' (Nat.le_refl _) _ _ _ (Below.refl _ _), ?_⟩
  have hl : (s.data.toList.take t ++ old.data.toList.drop t).length = 1024 := by rw [List.length_append, List.length_take, List.length_drop, e1, e2]; omega
  have hb := run_convert_bytes_back (P := Tryd.prog) (w.setCells B 0 (Lib.byteCells (s.data.toList.take t))).drew 66 9 5 ⟨B, 0, none⟩ cap (s.data.toList.take t ++ old.data.toList.drop t) Tryd.underlying66 Tryd.underlying5 Tryd.underlying9 (fun j hj => by
    rw [Addr.add_lit, Nat.zero_add]
    show (w.setCells B 0 (Lib.byteCells (s.data.toList.take t))).cell? ⟨B, j, none⟩ = _
    by_cases hjt : j < t
    · have := World.cell?_setCells_in B (Lib.byteCells (s.data.toList.take t)) 0 w (fun i hi => by rw [Nat.zero_add, hc i (by omega)]; rfl) j (by omega)
      rw [Nat.zero_add] at this
      rw [this, List.getElem_append_left (by rw [List.length_take, e1]; omega)]
      simp [Lib.byteCells]
    · rw [World.cell?_setCells_out B _ 0 w ⟨B, j, none⟩ (fun _ _ => .inr (by rw [hlen]; show 0 + t ≤ j; omega)), hc j (by omega)]
      have hx : (s.data.toList.take t ++ old.data.toList.drop t)[j]'hj = old.data.toList[j]'(by omega) := by
        apply Option.some.inj
        rw [← List.getElem?_eq_getElem, ← List.getElem?_eq_getElem, List.getElem?_append_right (by rw [List.length_take, e1]; omega), List.getElem?_drop, List.length_take, e1, show t + (j - min t 1024) = j by omega]
      rw [hx])
  rw [hl] at hb
  exact hb

set_option maxRecDepth 100000 in
set_option maxHeartbeats 400000 in
theorem tear_any (t : Nat) (h : DiskIs b pg ends left t w) (ht : t ≤ 1024) (k : Nat) (hk : k < 4001) (s : ByteArray) (hs : s.size = 1024) :
    Calls Tryd.prog 36 #[.pointer (some ⟨b, 0, none⟩), .int .i64 k, .string s] w fun e w' => e = .returned (.tuple #[]) ∧ DiskIs b (upd pg k (tornPage s (pg k) t)) ends left 0 w' ∧ w.grownBy w' (some b) := by
  have HD : Hid (DiskIs b pg ends left t w) := h
  have hp := h.size k hk
  have hk' : (k : Int) < 4001 := by omega
  clear h
  go_enter Tryd.func36, Tryd.ntmps36
  go_wp2_with fail
  refine (whole_any HD.out k hk).mono ?_
  rintro _ w1 ⟨rfl, hb1⟩
  obtain ⟨cap, w2, hcv, hb2, hz2, hc2, hf2⟩ := bytes_of (pg k) w1
  rw [hp] at hcv
  obtain ⟨w3, hcp, hb3, hbk⟩ := torn_of s (pg k) t w1.heap.size cap w2 hs hp ht hc2 hf2
  have D2 := (HD.out.below hb1).below hb2
  have HD3 : Hid _ := (HD.out.below hb1).below (hb2.trans hb3)
  have q1 := D2.torn
  have HP : Hid ((tornPage s (pg k) t).size = 1024) := torn_size s (pg k) t hs hp ht
  have hb : Below w.heap.size w w3 := hb1.trans ((hb2.trans hb3).mono hb1.size)
  have q2 := HD3.out.torn
  have f1 := HD3.out.free k
  have f2 := HD3.out.free 4003
  have q3 : ∃ u, w3.cell? ⟨b, k, none⟩ = some u := by rcases HD3.out.page k hk with ⟨c, _⟩ | ⟨c, _⟩ <;> exact ⟨_, c⟩
  obtain ⟨u, q3⟩ := q3
  have q4 : (w3.setCell ⟨b, k, none⟩ (.string (tornPage s (pg k) t))).cell? ⟨b, 4003, none⟩ = some (.int .i64 t) := by
    rw [World.cell?_setCell_other _ _ _ _ (fun e => by cases e; omega)]; exact q2
  clear D2 HD hb1 hb2 hb3 hc2 hf2
  obtain ⟨tp, htp⟩ : ∃ tp, tornPage s (pg k) t = tp := ⟨_, rfl⟩
  rw [htp] at hbk HP q4
  have HT : Hid _ := htp
  clear htp
  go_wp2_with fail
  go_region
  go_wp2
  go_end0
  refine ⟨rfl, ?_, ?_⟩
  · rw [HT.out]
    exact ((HD3.out.setPage k hk _ HP.out).setTorn 0).drew
  · have hg := ((grown_of_below hb (some b)).trans (grownBy_set _ b k (.string tp))).trans (grownBy_set _ b 4003 (.int .i64 0))
    exact ⟨hg.os, hg.tape, hg.output, hg.size, hg.block⟩
end
end Go.Proofs.YthmladfoaajklaaDoor
