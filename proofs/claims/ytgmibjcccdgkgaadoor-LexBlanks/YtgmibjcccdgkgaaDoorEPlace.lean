/- The contracts of Tell, Place, is and bare. -/
import Derived.Test.YtgmibjcccdgkgaaDoorEAs3
namespace Go.Proofs.YtgmibjcccdgkgaaDoor
open Go.RowKit Go.Extern.Stop Go.Stop Go.Extern

def HG (w : World) : Prop := w.cell? ⟨4, 0, none⟩ = some (.iface 115 (.agg #[.pointer (some ⟨7, 30, none⟩)]))
theorem HG.lt {w : World} (h : HG w) : 4 < w.heap.size := World.block_lt_of_cell? w _ h
theorem HG.below {w w' : World} {B : Nat} (h : HG w) (hb : Below B w w') (hB : 4 < B) : HG w' := (hb.cell (p := ⟨4, 0, none⟩) hB).trans h

theorem tell_nil (w : World) : Calls Tryd.prog 39 #[.nilIface] w fun e w' => e = .returned (.int .i64 0) ∧ w' = w := by
  go_enter Tryd.func39, Tryd.ntmps39
  go_wp2
  go_ret
  exact ⟨rfl, rfl⟩

set_option maxRecDepth 100000 in
set_option maxHeartbeats 1000000 in
theorem tell_hit (n : Int) (w : World) (hg : HG w) : Calls Tryd.prog 39 #[.iface 23 (.int .i64 n)] w fun e w' => e = .returned (.int .i64 n) ∧ Below w.heap.size w w' := by
  have hg2 : (w.alloc (.cells #[.int .i64 0] 23)).cell? ⟨4, 0, none⟩ = some (.iface 115 (.agg #[.pointer (some ⟨7, 30, none⟩)])) := by
    rw [World.cell?_alloc_lt _ _ ⟨4, 0, none⟩ hg.lt]; exact hg
  have HGH : Hid _ := hg2
  clear hg2 hg
  go_enter Tryd.func39, Tryd.ntmps39
  go_wp2_with fail
  refine (as31_hit n ⟨w.heap.size, 0, none⟩ (.int .i64 0) _ HGH.out (by simp) (by simp)).mono ?_
  rintro _ w1 ⟨rfl, hc, hb1⟩
  have hb : Below w.heap.size w w1 := ((Below.refl _ w).alloc (Nat.le_refl _) _).trans hb1
  clear hb1
  go_wp2
  go_ret
  exact ⟨rfl, hb⟩

set_option maxRecDepth 100000 in
set_option maxHeartbeats 1000000 in
theorem tell_at (b : Nat) (n : Int) (w : World) (hg : HG w) (hb : w.cell? ⟨b, 0, none⟩ = some (.int .i64 n)) : Calls Tryd.prog 39 #[.iface 59 (.pointer (some ⟨b, 0, none⟩))] w fun e w' => e = .returned (.int .i64 n) ∧ Below w.heap.size w w' := by
  have hg2 : (w.alloc (.cells #[.int .i64 0] 23)).cell? ⟨4, 0, none⟩ = some (.iface 115 (.agg #[.pointer (some ⟨7, 30, none⟩)])) := by
    rw [World.cell?_alloc_lt _ _ ⟨4, 0, none⟩ hg.lt]; exact hg
  have hb2 : (w.alloc (.cells #[.int .i64 0] 23)).cell? ⟨b, 0, none⟩ = some (.int .i64 n) := by
    rw [World.cell?_alloc_lt _ _ ⟨b, 0, none⟩ (World.block_lt_of_cell? w _ hb)]; exact hb
  have HGH : Hid _ := hg2
  have HB : Hid _ := hb2
  clear hg2 hg hb2 hb
  go_enter Tryd.func39, Tryd.ntmps39
  go_wp2_with fail
  refine (as31_at b n ⟨w.heap.size, 0, none⟩ (.int .i64 0) _ HGH.out (by simp) (by simp) HB.out).mono ?_
  rintro _ w1 ⟨rfl, hc, hb1⟩
  have hb : Below w.heap.size w w1 := ((Below.refl _ w).alloc (Nat.le_refl _) _).trans hb1
  clear hb1
  go_wp2
  go_ret
  exact ⟨rfl, hb⟩

theorem Tryd.ta46n (n : Int) (w : World) : (Instr.typeAssert (.iface 23 (.int .i64 n)) 30 59 true).run Tryd.prog w = .ok (.tuple #[.pointer none, .bool false]) w := by kernel_rfl
theorem Tryd.ta60n (n : Int) (w : World) : (Instr.typeAssert (.iface 23 (.int .i64 n)) 30 74 true).run Tryd.prog w = .ok (.tuple #[.nilIface, .bool false]) w := run_typeAssert_lacksB Tryd.underlying74 (by kernel_rfl) (by kernel_rfl) _ _ w
theorem Tryd.ta46y (b : Nat) (w : World) : (Instr.typeAssert (.iface 59 (.pointer (some ⟨b, 0, none⟩))) 30 59 true).run Tryd.prog w = .ok (.tuple #[.pointer (some ⟨b, 0, none⟩), .bool true]) w := by kernel_rfl

set_option maxHeartbeats 1000000 in
theorem place_nil (w : World) : Calls Tryd.prog 23 #[.nilIface] w fun e w' => e = .returned (.tuple #[.int .i64 0, .int .i64 (-1)]) ∧ Below w.heap.size w w' := by
  go_enter Tryd.func23, Tryd.ntmps23
  go_wp2_with (go_at_call 39; refine (tell_nil _).mono ?_; rintro _ _ ⟨rfl, rfl⟩)
  refine wp_loop_rounds 1 ?_
  rw [rounds_succ]
  go_wp2
  go_ret2
  exact ⟨rfl, Below.refl _ _⟩

set_option maxRecDepth 100000 in
set_option maxHeartbeats 1000000 in
theorem place_errno (n : Int) (w : World) (hg : HG w) : Calls Tryd.prog 23 #[.iface 23 (.int .i64 n)] w fun e w' => e = .returned (.tuple #[.int .i64 n, .int .i64 (-1)]) ∧ Below w.heap.size w w' := by
  have t1 := Tryd.ta46n
  have t2 := Tryd.ta60n
  go_enter Tryd.func23, Tryd.ntmps23
  go_wp2_with fail
  refine (tell_hit n _ hg).mono ?_
  rintro _ w1 ⟨rfl, hb⟩
  go_wp2
  refine wp_loop_rounds 1 ?_
  rw [rounds_succ]
  go_wp2
  go_ret2
  exact ⟨rfl, hb⟩

set_option maxRecDepth 100000 in
set_option maxHeartbeats 1000000 in
theorem place_at (b : Nat) (n j : Int) (w : World) (hg : HG w) (h0 : w.cell? ⟨b, 0, none⟩ = some (.int .i64 n)) (h1 : w.cell? ⟨b, 1, none⟩ = some (.int .i64 j)) :
    Calls Tryd.prog 23 #[.iface 59 (.pointer (some ⟨b, 0, none⟩))] w fun e w' => e = .returned (.tuple #[.int .i64 n, .int .i64 j]) ∧ Below w.heap.size w w' := by
  have t1 := Tryd.ta46y
  have hbl : b < w.heap.size := World.block_lt_of_cell? w _ h0
  go_enter Tryd.func23, Tryd.ntmps23
  go_wp2_with fail
  refine (tell_at b n _ hg h0).mono ?_
  rintro _ w1 ⟨rfl, hb⟩
  have k1 : w1.cell? ⟨b, 1, none⟩ = some (.int .i64 j) := (hb.cell (p := ⟨b, 1, none⟩) hbl).trans h1
  go_wp2
  refine wp_loop_rounds 1 ?_
  rw [rounds_succ]
  go_wp2_with fail
  go_region
  go_wp2
  go_ret2
  exact ⟨rfl, hb.drew⟩
end Go.Proofs.YtgmibjcccdgkgaaDoor
