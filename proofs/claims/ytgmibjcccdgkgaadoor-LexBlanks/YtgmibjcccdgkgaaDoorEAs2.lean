/- The contracts of errors.as and errors.As. -/
import Derived.Test.YtgmibjcccdgkgaaDoorESet
namespace Go.Proofs.YtgmibjcccdgkgaaDoor
open Go.RowKit Go.Extern.Stop Go.Stop Go.Extern

set_option maxRecDepth 100000 in
set_option maxHeartbeats 2000000 in
theorem as37_hit (n : Int) (t a : Addr) (old : Value) (w : World) (ha : w.cell? a = some (.pointer (some t))) (ht0 : w.cell? t = some old) (hf0 : w.frozen? t = false) :
    Calls Tryd.prog 64 #[.iface 23 (.int .i64 n), .iface 88 (.pointer (some t)), .agg #[.pointer (some ⟨7, 88, none⟩), .pointer (some a), .int .u64 150], .iface 115 (.agg #[.pointer (some ⟨7, 23, none⟩)])] w
      fun ev w' => ev = .returned (.bool true) ∧ w'.cell? t = some (.int .i64 n) ∧ Below t.block w w' := by
  have h34 := @run_callFunc_extern Tryd.prog 61 _ (fun args => ReflectliteValue.unpack (args.getD 0 (.tuple #[]))) Tryd.func61 (by kernel_rfl) (by kernel_rfl) (by kernel_rfl) (by kernel_rfl)
  have h38 := @run_callFunc_extern Tryd.prog 71 _ ReflectliteType.typeOf Tryd.func71 (by kernel_rfl) (by kernel_rfl) (by kernel_rfl) (by kernel_rfl)
  have h65 := @run_callFunc_extern Tryd.prog 100 _ (ReflectliteType.relation "AssignableTo" ReflectliteType.assignableTo) Tryd.func100 (by kernel_rfl) (by kernel_rfl) (by kernel_rfl) (by kernel_rfl)
  have h39 := @run_callFunc_extern Tryd.prog 72 _ (ReflectliteValue.method (ReflectliteValue.valueError "reflectlite.Value.Elem" 0) ReflectliteValue.elem) Tryd.func72 (by kernel_rfl) (by kernel_rfl) (by kernel_rfl) (by kernel_rfl)
  have h40 := @run_callFunc_extern Tryd.prog 73 _ ReflectliteValue.set Tryd.func73 (by kernel_rfl) (by kernel_rfl) (by kernel_rfl) (by kernel_rfl)
  have tO := Tryd.typeOf24
  have mA := Tryd.methodAssignableTo
  have a24 := Tryd.assignable24
  have v24 := Tryd.valueOf24
  have htl : t.block < w.heap.size := World.block_lt_of_cell? w _ ht0
  have hal : a.block < w.heap.size := World.block_lt_of_cell? w _ ha
  have el := Tryd.elemV68 a t (w.alloc (.cells #[.pointer (some ⟨7, 88, none⟩), .pointer (some a), .int .u64 150] 96)) (by rw [World.cell?_alloc_lt _ _ a hal]; exact ha)
  have st := Tryd.set24 t ⟨w.heap.size + 1, 0, none⟩ n old ((w.alloc (.cells #[.pointer (some ⟨7, 88, none⟩), .pointer (some a), .int .u64 150] 96)).alloc (.cells #[.int .i64 n] 23))
    (by rw [World.cell?_alloc_at _ _ _ _ (by simp)]; rfl)
    (by rw [World.cell?_alloc_lt _ _ t (by simp; omega), World.cell?_alloc_lt _ _ t htl]; exact ht0)
    (by rw [World.frozen?_alloc_old _ _ t (by simp; omega), World.frozen?_alloc_old _ _ t (Nat.ne_of_lt htl)]; exact hf0)
  go_enter Tryd.func64, Tryd.ntmps64
  go_wp2
  refine wp_loop_rounds 1 ?_
  rw [rounds_succ]
  go_wp2
  go_ret
  refine ⟨rfl, World.cell?_setCell_same _ _ _ (u := old) (by rw [World.cell?_alloc_lt _ _ t (by simp; omega), World.cell?_alloc_lt _ _ t htl]; exact ht0), ?_⟩
  exact (((Below.refl t.block w).alloc (Nat.le_of_lt htl) _).alloc (by simp; omega) _).setCell (Nat.le_refl _) _

theorem Tryd.ta91 (b : Nat) (w : World) : (Instr.typeAssert (.iface 59 (.pointer (some ⟨b, 0, none⟩))) 30 120 true).run Tryd.prog w = .ok (.tuple #[.nilIface, .bool false]) w := run_typeAssert_lacksB Tryd.underlying120 (by kernel_rfl) (by kernel_rfl) _ _ w
theorem Tryd.ta60 (b : Nat) (w : World) : (Instr.typeAssert (.iface 59 (.pointer (some ⟨b, 0, none⟩))) 30 74 true).run Tryd.prog w = .ok (.tuple #[.iface 59 (.pointer (some ⟨b, 0, none⟩)), .bool true]) w := by kernel_rfl
theorem Tryd.methodUnwrap (p : Addr) (w : World) : (Go.method 258 59 (.pointer (some p)) "Unwrap").run Tryd.prog w = .ok (95, .pointer (some p)) w := by kernel_rfl

set_option maxHeartbeats 400000 in
theorem unwrap_any (b : Nat) (n : Int) (w : World) (h : w.cell? ⟨b, 0, none⟩ = some (.int .i64 n)) : Calls Tryd.prog 95 #[.pointer (some ⟨b, 0, none⟩)] w fun e w' => e = .returned (.iface 23 (.int .i64 n)) ∧ w' = w := by
  go_enter Tryd.func95, Tryd.ntmps95
  go_wp2
  go_ret
  exact ⟨rfl, rfl⟩

set_option maxRecDepth 100000 in
set_option maxHeartbeats 2000000 in
theorem as37_at (b : Nat) (n : Int) (t a : Addr) (old : Value) (w : World) (ha : w.cell? a = some (.pointer (some t))) (ht0 : w.cell? t = some old) (hf0 : w.frozen? t = false) (hb : w.cell? ⟨b, 0, none⟩ = some (.int .i64 n)) :
    Calls Tryd.prog 64 #[.iface 59 (.pointer (some ⟨b, 0, none⟩)), .iface 88 (.pointer (some t)), .agg #[.pointer (some ⟨7, 88, none⟩), .pointer (some a), .int .u64 150], .iface 115 (.agg #[.pointer (some ⟨7, 23, none⟩)])] w
      fun ev w' => ev = .returned (.bool true) ∧ w'.cell? t = some (.int .i64 n) ∧ Below t.block w w' := by
  have h34 := @run_callFunc_extern Tryd.prog 61 _ (fun args => ReflectliteValue.unpack (args.getD 0 (.tuple #[]))) Tryd.func61 (by kernel_rfl) (by kernel_rfl) (by kernel_rfl) (by kernel_rfl)
  have h38 := @run_callFunc_extern Tryd.prog 71 _ ReflectliteType.typeOf Tryd.func71 (by kernel_rfl) (by kernel_rfl) (by kernel_rfl) (by kernel_rfl)
  have h65 := @run_callFunc_extern Tryd.prog 100 _ (ReflectliteType.relation "AssignableTo" ReflectliteType.assignableTo) Tryd.func100 (by kernel_rfl) (by kernel_rfl) (by kernel_rfl) (by kernel_rfl)
  have h39 := @run_callFunc_extern Tryd.prog 72 _ (ReflectliteValue.method (ReflectliteValue.valueError "reflectlite.Value.Elem" 0) ReflectliteValue.elem) Tryd.func72 (by kernel_rfl) (by kernel_rfl) (by kernel_rfl) (by kernel_rfl)
  have h40 := @run_callFunc_extern Tryd.prog 73 _ ReflectliteValue.set Tryd.func73 (by kernel_rfl) (by kernel_rfl) (by kernel_rfl) (by kernel_rfl)
  have tO := Tryd.typeOf24
  have tO6 := Tryd.typeOf46
  have mA := Tryd.methodAssignableTo
  have mU := Tryd.methodUnwrap
  have a24 := Tryd.assignable24
  have a46 := Tryd.assignable46
  have v24 := Tryd.valueOf24
  have htl : t.block < w.heap.size := World.block_lt_of_cell? w _ ht0
  have hal : a.block < w.heap.size := World.block_lt_of_cell? w _ ha
  have hbl : b < w.heap.size := World.block_lt_of_cell? w _ hb
  have el := Tryd.elemV68 a t (w.alloc (.cells #[.pointer (some ⟨7, 88, none⟩), .pointer (some a), .int .u64 150] 96)) (by rw [World.cell?_alloc_lt _ _ a hal]; exact ha)
  have st := Tryd.set24 t ⟨w.heap.size + 1, 0, none⟩ n old ((w.alloc (.cells #[.pointer (some ⟨7, 88, none⟩), .pointer (some a), .int .u64 150] 96)).alloc (.cells #[.int .i64 n] 23))
    (by rw [World.cell?_alloc_at _ _ _ _ (by simp)]; rfl)
    (by rw [World.cell?_alloc_lt _ _ t (by simp; omega), World.cell?_alloc_lt _ _ t htl]; exact ht0)
    (by rw [World.frozen?_alloc_old _ _ t (by simp; omega), World.frozen?_alloc_old _ _ t (Nat.ne_of_lt htl)]; exact hf0)
  go_enter Tryd.func64, Tryd.ntmps64
  go_wp2
  refine wp_loop_rounds 2 ?_
  rw [rounds_succ]
  have ta1 := Tryd.ta91
  have ta2 := Tryd.ta60
  go_wp2_with fail
  refine (unwrap_any b n _ (by rw [World.cell?_alloc_lt _ _ ⟨b, 0, none⟩ hbl]; exact hb)).mono ?_
  rintro _ _ ⟨rfl, rfl⟩
  go_wp2
  rw [rounds_succ]
  go_wp2
  go_ret
  refine ⟨rfl, World.cell?_setCell_same _ _ _ (u := old) (by rw [World.cell?_alloc_lt _ _ t (by simp; omega), World.cell?_alloc_lt _ _ t htl]; exact ht0), ?_⟩
  exact (((Below.refl t.block w).alloc (Nat.le_of_lt htl) _).alloc (by simp; omega) _).setCell (Nat.le_refl _) _
end Go.Proofs.YtgmibjcccdgkgaaDoor
