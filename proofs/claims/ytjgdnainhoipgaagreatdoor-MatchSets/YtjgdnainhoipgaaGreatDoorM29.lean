/- Texts of the proof of MatchSets: As, Set, As2, As3, Place, Gnt, Gnn, Gno. -/
import Derived.Test.YtjgdnainhoipgaaGreatDoorM28
import Derived.LaidEql
import Derived.Stop.Asserts
import Derived.RowKitTokens
namespace Go.Proofs.YtjgdnainhoipgaaGreatDoor
open Go.RowKit Go.Extern.Stop Go.Stop Go.Extern

theorem Tryz.valueOf68 (t : Addr) (w : World) : (ReflectliteValue.unpack (.iface 137 (.pointer (some t)))).run Tryz.prog w
    = .ok (.agg #[.pointer (some ⟨5, 137, none⟩), .pointer (some ⟨w.heap.size, 0, none⟩), .int .u64 150]) (w.alloc (.cells #[.pointer (some t)] 137)) := by kernel_rfl
theorem Tryz.type68 (a : Addr) (w : World) : (ReflectliteValue.methodAny (ReflectliteValue.valueError "reflectlite.Value.Type" 0) (fun t _ _ _ => ReflectliteType.toType t) #[.agg #[.pointer (some ⟨5, 137, none⟩), .pointer (some a), .int .u64 150]]).run Tryz.prog w
    = .ok (.iface 204 (.agg #[.pointer (some ⟨5, 137, none⟩)])) w := by kernel_rfl
theorem Tryz.methodKind (h : Value) (w : World) : (Go.method 401 204 (.agg #[h]) "Kind").run Tryz.prog w = .ok (207, h) w := by kernel_rfl
theorem Tryz.kind68 (w : World) : ((ReflectliteType.abiMethod fun t => (fun a : Nat => Value.int IntKind.u8 (a : Int)) <$> Rtype.kind t) #[.pointer (some ⟨5, 137, none⟩)]).run Tryz.prog w = .ok (.int .u8 22) w := by kernel_rfl
theorem Tryz.kind24 (w : World) : ((ReflectliteType.abiMethod fun t => (fun a : Nat => Value.int IntKind.u8 (a : Int)) <$> Rtype.kind t) #[.pointer (some ⟨5, 52, none⟩)]).run Tryz.prog w = .ok (.int .u8 2) w := by kernel_rfl
theorem Tryz.parts68 (a : Addr) (w : World) : (ReflectliteValue.parts (.agg #[.pointer (some ⟨5, 137, none⟩), .pointer (some a), .int .u64 150])).run Tryz.prog w = .ok (some (137, a, 150)) w := by kernel_rfl
theorem Tryz.isNil68 (a p : Addr) (W : World) (ha : W.cell? a = some (.pointer (some p))) :
    (ReflectliteValue.method (ReflectliteValue.valueError "reflectlite.Value.IsNil" 0) ReflectliteValue.isNil #[.agg #[.pointer (some ⟨5, 137, none⟩), .pointer (some a), .int .u64 150]]).run Tryz.prog W = .ok (.bool false) W := by
  change Sem.run Tryz.prog (ReflectliteValue.parts (.agg #[.pointer (some ⟨5, 137, none⟩), .pointer (some a), .int .u64 150]) >>= _) W = _
  simp only [Sem.run_bind, Tryz.parts68, Result.andThen]
  simp [ReflectliteValue.isNil, loadVar, isAgg, underlying, Tryz.underlying137, ha, Result.andThen]
theorem Tryz.methodElem (h : Value) (w : World) : (Go.method 401 204 (.agg #[h]) "Elem").run Tryz.prog w = .ok (219, .agg #[h]) w := by kernel_rfl
theorem Tryz.methodImplements (h : Value) (w : World) : (Go.method 401 204 (.agg #[h]) "Implements").run Tryz.prog w = .ok (220, .agg #[h]) w := by kernel_rfl
theorem Tryz.methodAssignableTo (h : Value) (w : World) : (Go.method 401 204 (.agg #[h]) "AssignableTo").run Tryz.prog w = .ok (217, .agg #[h]) w := by kernel_rfl
theorem Tryz.elem68 (w : World) : (ReflectliteType.method ReflectliteType.elem #[.agg #[.pointer (some ⟨5, 137, none⟩)]]).run Tryz.prog w = .ok (.iface 204 (.agg #[.pointer (some ⟨5, 52, none⟩)])) w := by kernel_rfl
theorem Tryz.implements24 (w : World) : (ReflectliteType.relation "Implements" ReflectliteType.implements_ #[.agg #[.pointer (some ⟨5, 52, none⟩)], .iface 204 (.agg #[.pointer (some ⟨5, 27, none⟩)])]).run Tryz.prog w = .ok (.bool true) w := by kernel_rfl
theorem Tryz.typeOf24 (v : Value) (w : World) : (ReflectliteType.typeOf #[.iface 52 v]).run Tryz.prog w = .ok (.iface 204 (.agg #[.pointer (some ⟨5, 52, none⟩)])) w := by kernel_rfl
theorem Tryz.assignable24 (w : World) : (ReflectliteType.relation "AssignableTo" ReflectliteType.assignableTo #[.agg #[.pointer (some ⟨5, 52, none⟩)], .iface 204 (.agg #[.pointer (some ⟨5, 52, none⟩)])]).run Tryz.prog w = .ok (.bool true) w := by kernel_rfl
theorem Tryz.valueOf24 (n : Int) (w : World) : (ReflectliteValue.unpack (.iface 52 (.int .i64 n))).run Tryz.prog w
    = .ok (.agg #[.pointer (some ⟨5, 52, none⟩), .pointer (some ⟨w.heap.size, 0, none⟩), .int .u64 130]) (w.alloc (.cells #[.int .i64 n] 52)) := by kernel_rfl
theorem Tryz.elemOf68 (w : World) : (Rtype.elem? 137).run Tryz.prog w = .ok (some 52) w := by kernel_rfl
theorem Tryz.mk24 (p : Addr) (w : World) : (ReflectliteValue.mk 52 p ReflectliteValue.flagAddr).run Tryz.prog w = .ok (.agg #[.pointer (some ⟨5, 52, none⟩), .pointer (some p), .int .u64 386]) w := by kernel_rfl
theorem Tryz.elemV68 (a p : Addr) (W : World) (ha : W.cell? a = some (.pointer (some p))) :
    (ReflectliteValue.method (ReflectliteValue.valueError "reflectlite.Value.Elem" 0) ReflectliteValue.elem #[.agg #[.pointer (some ⟨5, 137, none⟩), .pointer (some a), .int .u64 150]]).run Tryz.prog W
      = .ok (.agg #[.pointer (some ⟨5, 52, none⟩), .pointer (some p), .int .u64 386]) W := by
  change Sem.run Tryz.prog (ReflectliteValue.parts (.agg #[.pointer (some ⟨5, 137, none⟩), .pointer (some a), .int .u64 150]) >>= _) W = _
  simp only [Sem.run_bind, Tryz.parts68, Result.andThen]
  simp [ReflectliteValue.elem, loadVar, isAgg, underlying, Tryz.underlying137, ha, Result.andThen, Tryz.elemOf68, Tryz.mk24]
end Go.Proofs.YtjgdnainhoipgaaGreatDoor
namespace Go.Proofs.YtjgdnainhoipgaaGreatDoor
open Go.RowKit Go.Extern.Stop Go.Stop Go.Extern

theorem Tryz.parts24a (a : Addr) (w : World) : (ReflectliteValue.parts (.agg #[.pointer (some ⟨5, 52, none⟩), .pointer (some a), .int .u64 386])).run Tryz.prog w = .ok (some (52, a, 386)) w := by kernel_rfl
theorem Tryz.parts24 (a : Addr) (w : World) : (ReflectliteValue.parts (.agg #[.pointer (some ⟨5, 52, none⟩), .pointer (some a), .int .u64 130])).run Tryz.prog w = .ok (some (52, a, 130)) w := by kernel_rfl
theorem Tryz.direct24 (w : World) : (Rtype.directlyAssignable 52 52).run Tryz.prog w = .ok true w := by kernel_rfl
theorem Tryz.set24 (ta b : Addr) (n : Int) (old : Value) (W : World) (hb : W.cell? b = some (.int .i64 n)) (ht : W.cell? ta = some old) (hf : W.frozen? ta = false) :
    (ReflectliteValue.set #[.agg #[.pointer (some ⟨5, 52, none⟩), .pointer (some ta), .int .u64 386], .agg #[.pointer (some ⟨5, 52, none⟩), .pointer (some b), .int .u64 130]]).run Tryz.prog W
      = .ok (.tuple #[]) (W.setCell ta (.int .i64 n)) := by
  change Sem.run Tryz.prog (ReflectliteValue.parts (.agg #[.pointer (some ⟨5, 52, none⟩), .pointer (some ta), .int .u64 386]) >>= fun p => ReflectliteValue.parts (.agg #[.pointer (some ⟨5, 52, none⟩), .pointer (some b), .int .u64 130]) >>= _) W = _
  simp only [Sem.run_bind, Tryz.parts24a, Tryz.parts24, Result.andThen]
  simp [ReflectliteValue.flagAddr, loadVar, isAgg, underlying, Tryz.underlying52, hb, Result.andThen, Tryz.direct24, storeVar, Value.cells, storeCells, Addr.add]
  rw [run_store Tryz.prog W ta _ _ (by rfl)]
  simp [ht, hf]
end Go.Proofs.YtjgdnainhoipgaaGreatDoor
namespace Go.Proofs.YtjgdnainhoipgaaGreatDoor
open Go.RowKit Go.Extern.Stop Go.Stop Go.Extern

set_option maxRecDepth 100000 in
set_option maxHeartbeats 2000000 in
theorem as37_hit (n : Int) (t a : Addr) (old : Value) (w : World) (ha : w.cell? a = some (.pointer (some t))) (ht0 : w.cell? t = some old) (hf0 : w.frozen? t = false) :
    Calls Tryz.prog 96 #[.iface 52 (.int .i64 n), .iface 137 (.pointer (some t)), .agg #[.pointer (some ⟨5, 137, none⟩), .pointer (some a), .int .u64 150], .iface 204 (.agg #[.pointer (some ⟨5, 52, none⟩)])] w
      fun ev w' => ev = .returned (.bool true) ∧ w'.cell? t = some (.int .i64 n) ∧ Below t.block w w' := by
  have h34 := @run_callFunc_extern Tryz.prog 93 _ (fun args => ReflectliteValue.unpack (args.getD 0 (.tuple #[]))) Tryz.func93 (by kernel_rfl) (by kernel_rfl) (by kernel_rfl) (by kernel_rfl)
  have h38 := @run_callFunc_extern Tryz.prog 130 _ ReflectliteType.typeOf Tryz.func130 (by kernel_rfl) (by kernel_rfl) (by kernel_rfl) (by kernel_rfl)
  have h65 := @run_callFunc_extern Tryz.prog 217 _ (ReflectliteType.relation "AssignableTo" ReflectliteType.assignableTo) Tryz.func217 (by kernel_rfl) (by kernel_rfl) (by kernel_rfl) (by kernel_rfl)
  have h39 := @run_callFunc_extern Tryz.prog 131 _ (ReflectliteValue.method (ReflectliteValue.valueError "reflectlite.Value.Elem" 0) ReflectliteValue.elem) Tryz.func131 (by kernel_rfl) (by kernel_rfl) (by kernel_rfl) (by kernel_rfl)
  have h40 := @run_callFunc_extern Tryz.prog 132 _ ReflectliteValue.set Tryz.func132 (by kernel_rfl) (by kernel_rfl) (by kernel_rfl) (by kernel_rfl)
  have tO := Tryz.typeOf24
  have mA := Tryz.methodAssignableTo
  have a24 := Tryz.assignable24
  have v24 := Tryz.valueOf24
  have htl : t.block < w.heap.size := World.block_lt_of_cell? w _ ht0
  have hal : a.block < w.heap.size := World.block_lt_of_cell? w _ ha
  have el := Tryz.elemV68 a t (w.alloc (.cells #[.pointer (some ⟨5, 137, none⟩), .pointer (some a), .int .u64 150] 171)) (by rw [World.cell?_alloc_lt _ _ a hal]; exact ha)
  have st := Tryz.set24 t ⟨w.heap.size + 1, 0, none⟩ n old ((w.alloc (.cells #[.pointer (some ⟨5, 137, none⟩), .pointer (some a), .int .u64 150] 171)).alloc (.cells #[.int .i64 n] 52))
    (by rw [World.cell?_alloc_at _ _ _ _ (by simp)]; rfl)
    (by rw [World.cell?_alloc_lt _ _ t (by simp; omega), World.cell?_alloc_lt _ _ t htl]; exact ht0)
    (by rw [World.frozen?_alloc_old _ _ t (by simp; omega), World.frozen?_alloc_old _ _ t (Nat.ne_of_lt htl)]; exact hf0)
  go_enter Tryz.func96, Tryz.ntmps96
  go_wp2
  refine wp_loop_rounds 1 ?_
  rw [rounds_succ]
  go_wp2
  go_ret
  refine ⟨rfl, World.cell?_setCell_same _ _ _ (u := old) (by rw [World.cell?_alloc_lt _ _ t (by simp; omega), World.cell?_alloc_lt _ _ t htl]; exact ht0), ?_⟩
  exact (((Below.refl t.block w).alloc (Nat.le_of_lt htl) _).alloc (by simp; omega) _).setCell (Nat.le_refl _) _

end Go.Proofs.YtjgdnainhoipgaaGreatDoor
namespace Go.Proofs.YtjgdnainhoipgaaGreatDoor
open Go.RowKit Go.Extern.Stop Go.Stop Go.Extern

set_option maxRecDepth 100000 in
set_option maxHeartbeats 2000000 in
theorem as31_hit  (n : Int) (t : Addr) (old : Value) (w : World) (hg : w.cell? ⟨1, 0, none⟩ = some (.iface 204 (.agg #[.pointer (some ⟨5, 27, none⟩)]))) (ht0 : w.cell? t = some old) (hf0 : w.frozen? t = false) :
    Calls Tryz.prog 60 #[.iface 52 (.int .i64 n), .iface 137 (.pointer (some t))] w fun ev w' => ev = .returned (.bool true) ∧ w'.cell? t = some (.int .i64 n) ∧ Below t.block w w' := by
  have h34 := @run_callFunc_extern Tryz.prog 93 _ (fun args => ReflectliteValue.unpack (args.getD 0 (.tuple #[]))) Tryz.func93 (by kernel_rfl) (by kernel_rfl) (by kernel_rfl) (by kernel_rfl)
  have h35 := @run_callFunc_extern Tryz.prog 94 _ (ReflectliteValue.methodAny (ReflectliteValue.valueError "reflectlite.Value.Type" 0) (fun t _ _ _ => ReflectliteType.toType t)) Tryz.func94 (by kernel_rfl) (by kernel_rfl) (by kernel_rfl) (by kernel_rfl)
  have h36 := @run_callFunc_extern Tryz.prog 95 _ (ReflectliteValue.method (ReflectliteValue.valueError "reflectlite.Value.IsNil" 0) ReflectliteValue.isNil) Tryz.func95 (by kernel_rfl) (by kernel_rfl) (by kernel_rfl) (by kernel_rfl)
  have h55 := @run_callFunc_extern Tryz.prog 207 _ (ReflectliteType.abiMethod fun t => do pure (.int .u8 (← Rtype.kind t))) Tryz.func207 (by kernel_rfl) (by kernel_rfl) (by kernel_rfl) (by kernel_rfl)
  have h67 := @run_callFunc_extern Tryz.prog 219 _ (ReflectliteType.method ReflectliteType.elem) Tryz.func219 (by kernel_rfl) (by kernel_rfl) (by kernel_rfl) (by kernel_rfl)
  have h68 := @run_callFunc_extern Tryz.prog 220 _ (ReflectliteType.relation "Implements" ReflectliteType.implements_) Tryz.func220 (by kernel_rfl) (by kernel_rfl) (by kernel_rfl) (by kernel_rfl)
  have f34 := Tryz.valueOf68
  have f35 := Tryz.type68
  have mK := Tryz.methodKind
  have mE := Tryz.methodElem
  have mI := Tryz.methodImplements
  have k68 := Tryz.kind68
  have k24 := Tryz.kind24
  have e68 := Tryz.elem68
  have i24 := Tryz.implements24
  have htl : t.block < w.heap.size := World.block_lt_of_cell? w _ ht0
  have hlt : 1 < w.heap.size := World.block_lt_of_cell? w _ hg
  have n36 := Tryz.isNil68 ⟨w.heap.size, 0, none⟩ t ((w.alloc (.cells #[.pointer (some t)] 137)).alloc (.cells #[.pointer (some ⟨5, 137, none⟩), .pointer (some ⟨w.heap.size, 0, none⟩), .int .u64 150] 171)) (by simp)
  have hg2 : ((w.alloc (.cells #[.pointer (some t)] 137)).alloc (.cells #[.pointer (some ⟨5, 137, none⟩), .pointer (some ⟨w.heap.size, 0, none⟩), .int .u64 150] 171)).cell? ⟨1, 0, none⟩ = some (.iface 204 (.agg #[.pointer (some ⟨5, 27, none⟩)])) := by
    rw [World.cell?_alloc_lt _ _ ⟨1, 0, none⟩ (by simp; omega), World.cell?_alloc_lt _ _ ⟨1, 0, none⟩ hlt]; exact hg
  go_enter Tryz.func60, Tryz.ntmps60
  go_wp2_with fail
  refine (as37_hit n t ⟨w.heap.size, 0, none⟩ old _
    (by rw [World.cell?_alloc_lt _ _ ⟨w.heap.size, 0, none⟩ (by simp)]; simp)
    (by rw [World.cell?_alloc_lt _ _ t (by simp; omega), World.cell?_alloc_lt _ _ t htl]; exact ht0)
    (by rw [World.frozen?_alloc_old _ _ t (by simp; omega), World.frozen?_alloc_old _ _ t (Nat.ne_of_lt htl)]; exact hf0)).mono ?_
  rintro _ w1 ⟨rfl, hc, hb1⟩
  go_wp2
  go_ret
  exact ⟨rfl, hc, (((Below.refl t.block w).alloc (Nat.le_of_lt htl) _).alloc (by simp; omega) _).trans hb1⟩

end Go.Proofs.YtjgdnainhoipgaaGreatDoor
namespace Go.Proofs.YtjgdnainhoipgaaGreatDoor
open Go.RowKit Go.Extern.Stop Go.Stop Go.Extern

def HG (w : World) : Prop := w.cell? ⟨1, 0, none⟩ = some (.iface 204 (.agg #[.pointer (some ⟨5, 27, none⟩)]))
theorem HG.lt {w : World} (h : HG w) : 1 < w.heap.size := World.block_lt_of_cell? w _ h
theorem HG.below {w w' : World} {B : Nat} (h : HG w) (hb : Below B w w') (hB : 1 < B) : HG w' := (hb.cell (p := ⟨1, 0, none⟩) hB).trans h

theorem tell_nil (w : World) : Calls Tryz.prog 33 #[.nilIface] w fun e w' => e = .returned (.int .i64 0) ∧ w' = w := by
  go_enter Tryz.func33, Tryz.ntmps33
  go_wp2
  go_ret
  exact ⟨rfl, rfl⟩

set_option maxRecDepth 100000 in
set_option maxHeartbeats 1000000 in
theorem tell_hit (n : Int) (w : World) (hg : HG w) : Calls Tryz.prog 33 #[.iface 52 (.int .i64 n)] w fun e w' => e = .returned (.int .i64 n) ∧ Below w.heap.size w w' := by
  have hg2 : (w.alloc (.cells #[.int .i64 0] 52)).cell? ⟨1, 0, none⟩ = some (.iface 204 (.agg #[.pointer (some ⟨5, 27, none⟩)])) := by
    rw [World.cell?_alloc_lt _ _ ⟨1, 0, none⟩ hg.lt]; exact hg
  have HGH : Hid _ := hg2
  clear hg2 hg
  go_enter Tryz.func33, Tryz.ntmps33
  go_wp2_with fail
  refine (as31_hit n ⟨w.heap.size, 0, none⟩ (.int .i64 0) _ HGH.out (by simp) (by simp)).mono ?_
  rintro _ w1 ⟨rfl, hc, hb1⟩
  have hb : Below w.heap.size w w1 := ((Below.refl _ w).alloc (Nat.le_refl _) _).trans hb1
  clear hb1
  go_wp2
  go_ret
  exact ⟨rfl, hb⟩

end Go.Proofs.YtjgdnainhoipgaaGreatDoor
namespace Go.Proofs.YtjgdnainhoipgaaGreatDoor
open Go.RowKit Go.Maps

section
variable {bf bt bp bd bm N Z : Nat} {up : Nat → Bool} {V : Pst} {T : Tr} {M M' : Pr → Prop} {w w' : World}
theorem Fs.only {S : Nat → Prop} (h : Fs bf bt bp bd bm N up V T w) (ho : Only S w w') (h1 : ¬ S bf) (h2 : ¬ S bt) (h3 : ¬ S bp) (h4 : ¬ S bm) (h5 : ¬ S bd) : Fs bf bt bp bd bm N up V T w' :=
  ⟨h.c.only ho h1, h.t.only ho h2, h.tw.only ho h3 h4 h5, h.a, h.so, h.ne, h.nc⟩
theorem PrS.only {S : Nat → Prop} (h : PrS bf bt bp bd bm N Z M w) (ho : Only S w w') (h1 : ¬ S bf) (h2 : ¬ S bt) (h3 : ¬ S bp) (h4 : ¬ S bm) (h5 : ¬ S bd) : PrS bf bt bp bd bm N Z M w' := by
  obtain ⟨N1, up, V, T, k1, k2, k3⟩ := h
  exact ⟨N1, up, V, T, k1, k2.only ho h1 h2 h3 h4 h5, k3⟩
theorem PrS.lt (h : PrS bf bt bp bd bm N Z M w) : bf < w.heap.size ∧ bt < w.heap.size ∧ bp < w.heap.size ∧ bm < w.heap.size ∧ bd < w.heap.size := by
  obtain ⟨N1, up, V, T, k1, k2, k3⟩ := h
  exact ⟨k2.c.lt, k2.t.lt, k2.tw.lt.1, k2.tw.lt.2.1, k2.tw.lt.2.2⟩
/-- what is far above stands for itself -/
theorem PrS.above {n : Nat} (h : PrS bf bt bp bd bm N Z M w) (ho : Only (fun b => n ≤ b) w w') (hn : bf < n ∧ bt < n ∧ bp < n ∧ bm < n ∧ bd < n) : PrS bf bt bp bd bm N Z M w' := by
  obtain ⟨h1, h2, h3, h4, h5⟩ := hn
  exact h.only ho (by omega) (by omega) (by omega) (by omega) (by omega)
/-- the same set: the same row -/
theorem PrS.same {bf' bt' bp' bd' bm' N' Z' : Nat} (h : PrS bf bt bp bd bm N Z M w) (h' : PrS bf' bt' bp' bd' bm' N' Z' M w') : PrS bf' bt' bp' bd' bm' N' Z M w' := by
  obtain ⟨N1, up, V, T, k1, k2, k3, k4⟩ := h
  obtain ⟨N2, up2, V2, T2, j1, j2, j3, j4⟩ := h'
  have e := sorted_ext T2.all T.all j2.sorted k2.sorted (fun x => (j4 x).trans (k4 x).symm)
  exact ⟨N2, up2, V2, T2, j1, j2, by rw [e]; exact k3, j4⟩
/-- Get of what is not there -/
theorem get_no (h : PrS bf bt bp bd bm N Z M w) {key : ByteArray} (hk : ∀ y, M y → y.k ≠ key) :
    Calls Tryz.prog 31 #[.pointer (some ⟨bt, 0, none⟩), .string key] w fun e w' => e = .returned (.tuple #[.string ⟨#[]⟩, .iface 52 (.int .i64 7)]) ∧ Below w.heap.size w w' := by
  obtain ⟨N1, up, V, T, k1, k2, k3, k4⟩ := h
  refine (get_any k2.t k2.tw k2.a key).mono ?_
  rintro e w' ⟨hg, hb⟩
  rcases hg with ⟨x, hx, hxk, _⟩ | ⟨_, rfl⟩
  · exact absurd hxk (hk x ((k4 x).1 hx))
  · exact ⟨rfl, hb⟩
/-- Get of what is there -/
theorem get_yes (h : PrS bf bt bp bd bm N Z M w) {y : Pr} (hy : M y) :
    Calls Tryz.prog 31 #[.pointer (some ⟨bt, 0, none⟩), .string y.k] w fun e w' => ∃ it, e = .returned (.tuple #[.string it, .nilIface]) ∧ Below w.heap.size w w' := by
  obtain ⟨N1, up, V, T, k1, k2, k3, k4⟩ := h
  refine (get_any k2.t k2.tw k2.a y.k).mono ?_
  rintro e w' ⟨hg, hb⟩
  rcases hg with ⟨x, hx, hxk, rfl⟩ | ⟨hno, _⟩
  · exact ⟨_, rfl, hb⟩
  · exact absurd rfl (hno y ((k4 y).2 hy))
set_option maxRecDepth 100000 in
set_option maxHeartbeats 2000000 in
theorem fresh_any {nm : ByteArray} {ws : List ByteArray} {v : Value} {r Bx : Nat} (hnm : nm.size ≤ 1000) (h : PrS bf bt bp bd bm N Z M w) (hg : HG w) (hws : ∀ x ∈ ws, x.size ≤ 100) (hl : ws.length ≤ 100000) (hrow : w.ownsRow Bx 9 1 v ws.length (sc ws)) :
    Calls Tryz.prog 15 #[.pointer (some ⟨bf, 0, none⟩), .string nm, .int .i64 (r : Nat), v] w fun e w' => ((∀ x ∈ ws, ∀ y, M y → y.k ≠ keyF nm x r) ∧ e = .returned .nilIface ∨ (∃ x ∈ ws, ∃ y, M y ∧ y.k = keyF nm x r) ∧ e = .returned (.iface 52 (.int .i64 9))) ∧ Below w.heap.size w w' := by
  obtain ⟨a9, c9, hv9⟩ := row_slice hrow
  obtain ⟨n, hn⟩ : ∃ n, ws.length = n := ⟨_, rfl⟩
  have HN : Hid _ := hn
  rw [hn] at hv9 hl
  subst hv9
  have HROW : Hid _ := hrow
  have HWS : Hid _ := hws
  have HP : Hid (PrS bf bt bp bd bm N Z M w) := h
  have HGG : Hid (HG w) := hg
  clear hrow hws h hg hn
  go_enter Tryz.func15, Tryz.ntmps15
  go_wp2_with fail
  go_loopw [15] (fun iv wr => ∃ (i : Nat), i ≤ n ∧ iv = .int .i64 (i : Nat) ∧ Hid (Below w.heap.size w wr) ∧ Hid (∀ x ∈ ws.take i, ∀ y, M y → y.k ≠ keyF nm x r)) (fun iv _ => n + 1 - (intOf iv).toNat)
  case atStart => exact ⟨0, Nat.zero_le _, rfl, Below.refl _ _, (show ∀ x ∈ ws.take 0, ∀ y, M y → y.k ≠ keyF nm x r from fun x hx => by rw [List.take_zero] at hx; cases hx)⟩
  case round =>
    obtain ⟨i, hi, rfl, HB, HT⟩ := hrel
    by_cases hlt : i < n
    · have h1 : (i : Int) < (n : Int) := by omega
      have hil : i < ws.length := by rw [HN.out]; exact hlt
      obtain ⟨g, cap, hv, hcell⟩ := srow_at (row_below HROW.out HB.out) hil
      rw [HN.out] at hv
      cases hv
      have hix := fun wx => index_str g n c9 i hlt wx
      obtain ⟨wd, hwd⟩ : ∃ wd, ws[i] = wd := ⟨_, rfl⟩
      have hws1 : wd.size ≤ 100 := by have := HWS.out _ (List.getElem_mem hil); rw [hwd] at this; exact this
      have HMW : Hid (wd ∈ ws) := by rw [← hwd]; exact List.getElem_mem hil
      have HT2 : Hid ((∀ y, M y → y.k ≠ keyF nm wd r) → ∀ x ∈ ws.take (i + 1), ∀ y, M y → y.k ≠ keyF nm x r) := fun hq x hx => by
        rw [List.take_succ_eq_append_getElem hil, List.mem_append, List.mem_singleton] at hx
        rcases hx with hx | hx
        · exact HT.out x hx
        · rw [hx, hwd]; exact hq
      rw [hwd] at hcell
      clear hwd
      have D0 : Hid (wr.cell? ⟨bf, 0, none⟩ = some (.pointer (some ⟨bt, 0, none⟩))) := (HP.out.below HB.out).own.cell
      have HPR : Hid (PrS bf bt bp bd bm N Z M wr) := HP.out.below HB.out
      have HGR : Hid (HG wr) := HGG.out.below HB.out HGG.out.lt
      by_cases hhit : ∃ y, M y ∧ y.k = keyF nm wd r
      · have HHT : Hid (∃ x ∈ ws, ∃ y, M y ∧ y.k = keyF nm x r) := ⟨wd, HMW.out, hhit⟩
        have HGY : Hid (∀ wx, PrS bf bt bp bd bm N Z M wx → Calls Tryz.prog 31 #[.pointer (some ⟨bt, 0, none⟩), .string (keyF nm wd r)] wx fun e w' => ∃ it, e = .returned (.tuple #[.string it, .nilIface]) ∧ Below wx.heap.size wx w') := fun wx hx => by
          obtain ⟨y, hy, hyk⟩ := hhit
          rw [← hyk]
          exact get_yes hx hy
        clear hhit HT HT2
        go_wp2_with fail
        clear hcell hix
        go_region_held3 (fun wx => wx.cell? ⟨bf, 0, none⟩ = some (.pointer (some ⟨bt, 0, none⟩))) (first | exact D0.out | exact D1.out | exact D2.out) (first | (go_at_call 32; refine (keyF_any nm wd r hnm (by omega) _).mono ?_; rintro _ w3 ⟨rfl, hb3⟩; have D1 : Hid (w3.cell? ⟨bf, 0, none⟩ = some (.pointer (some ⟨bt, 0, none⟩))) := keepc hb3 D0.out; have HB3 : Hid (Below wr.heap.size wr w3) := (Below.refl _ wr).drew.trans hb3; clear hb3) | (go_at_call 31; refine (show Calls _ _ _ _ _ from HGY.out _ (HPR.out.below HB3.out)).mono ?_; rintro _ w4 ⟨it4, rfl, hb4⟩; have D2 : Hid (w4.cell? ⟨bf, 0, none⟩ = some (.pointer (some ⟨bt, 0, none⟩))) := keepc hb4 D1.out; have HB4 : Hid (Below wr.heap.size wr w4) := HB3.out.trans (hb4.mono HB3.out.size); clear hb4))
        go_wp2_with fail
        refine (tell_nil _).mono ?_
        rintro _ w5 ⟨rfl, h5⟩
        obtain rfl := h5.symm
        clear h5
        have HB5 : Hid (Below w.heap.size w w4) := HB.out.trans (HB4.out.mono HB.out.size)
        go_wp2
        go_ret
        exact ⟨.inr ⟨HHT.out, rfl⟩, HB5.out⟩
      · have HNO1 : Hid (∀ y, M y → y.k ≠ keyF nm wd r) := fun y hy e => hhit ⟨y, hy, e⟩
        clear hhit
        go_wp2_with fail
        clear hcell hix
        go_region_held3 (fun wx => wx.cell? ⟨bf, 0, none⟩ = some (.pointer (some ⟨bt, 0, none⟩))) (first | exact D0.out | exact D1.out | exact D2.out) (first | (go_at_call 32; refine (keyF_any nm wd r hnm (by omega) _).mono ?_; rintro _ w3 ⟨rfl, hb3⟩; have D1 : Hid (w3.cell? ⟨bf, 0, none⟩ = some (.pointer (some ⟨bt, 0, none⟩))) := keepc hb3 D0.out; have HB3 : Hid (Below wr.heap.size wr w3) := (Below.refl _ wr).drew.trans hb3; clear hb3) | (go_at_call 31; refine (get_no (HPR.out.below HB3.out) HNO1.out).mono ?_; rintro _ w4 ⟨rfl, hb4⟩; have D2 : Hid (w4.cell? ⟨bf, 0, none⟩ = some (.pointer (some ⟨bt, 0, none⟩))) := keepc hb4 D1.out; have HB4 : Hid (Below wr.heap.size wr w4) := HB3.out.trans (hb4.mono HB3.out.size); clear hb4))
        go_wp2_with fail
        refine (tell_hit 7 _ (HGR.out.below HB4.out HGR.out.lt)).mono ?_
        rintro _ w5 ⟨rfl, hb5⟩
        have HB5 : Hid (Below w.heap.size w w5) := (HB.out.trans (HB4.out.mono HB.out.size)).trans (hb5.mono (Nat.le_trans HB.out.size HB4.out.size))
        clear hb5
        go_wp2_with fail
        go_roundw
        case rel => exact ⟨i + 1, by omega, by go_num, HB5, HT2.out HNO1.out⟩
        case measure => simp [intOf]; omega
    · have h1 : ¬ (i : Int) < (n : Int) := by omega
      obtain rfl : n = i := by omega
      go_wp2
      go_ret
      exact ⟨.inl ⟨fun x hx => HT.out x (by rw [List.take_of_length_le (by rw [HN.out]; exact Nat.le_refl _)]; exact hx), rfl⟩, HB.out⟩
end
end Go.Proofs.YtjgdnainhoipgaaGreatDoor
namespace Go.Proofs.YtjgdnainhoipgaaGreatDoor
open Go.RowKit Go.Maps

/-- three boxes -/
structure Bx3 (b0 bf : Nat) (nm : ByteArray) (r : Nat) (w : World) : Prop where
  f : Own1 b0 (.pointer (some ⟨bf, 0, none⟩)) w
  n : Own1 (b0 + 1) (.string nm) w
  r : Own1 (b0 + 2) (.int .i64 (r : Nat)) w
section
variable {b0 bf bt bp bd bm N Z r : Nat} {M : Pr → Prop} {w w' : World} {nm : ByteArray}
theorem Bx3.only {S : Nat → Prop} (h : Bx3 b0 bf nm r w) (ho : Only S w w') (hs : ∀ i, S i → i < b0 ∨ b0 + 3 ≤ i) : Bx3 b0 bf nm r w' :=
  ⟨h.f.only ho (fun e => by have := hs _ e; omega), h.n.only ho (fun e => by have := hs _ e; omega), h.r.only ho (fun e => by have := hs _ e; omega)⟩
theorem Bx3.below (h : Bx3 b0 bf nm r w) (hb : Below w.heap.size w w') : Bx3 b0 bf nm r w' := ⟨h.f.below hb, h.n.below hb, h.r.below hb⟩
/-- what a drawn region reads -/
def BxS (b0 bf bt : Nat) (nm : ByteArray) (r : Nat) (wx : World) : Prop := wx.cell? ⟨b0, 0, none⟩ = some (.pointer (some ⟨bf, 0, none⟩)) ∧ wx.cell? ⟨bf, 0, none⟩ = some (.pointer (some ⟨bt, 0, none⟩)) ∧ wx.cell? ⟨b0 + 1, 0, none⟩ = some (.string nm) ∧ wx.cell? ⟨b0 + 2, 0, none⟩ = some (.int .i64 (r : Nat))
theorem Bx3.cells (h : Bx3 b0 bf nm r w) (hp : PrS bf bt bp bd bm N Z M w) : BxS b0 bf bt nm r w := ⟨h.f.cell, hp.own.cell, h.n.cell, h.r.cell⟩
set_option maxRecDepth 100000 in
set_option maxHeartbeats 2000000 in
theorem note_cl {c : Pc} (hc : c.Ok) (h : PrS bf bt bp bd bm N Z M w) (hb : Bx3 b0 bf c.n c.r w) (h0 : bp < b0 ∧ bm < b0) {a : Option Addr} {n cp B : Nat} (hrow : w.ownsRow B 117 2 (.slice a n cp) c.l.length (plc c.l)) (hn : n = c.l.length) (hZ : Z + 61 ≤ 30000) (hN : N + 60 < 1000000) :
    Calls Tryz.prog 37 #[.string c.w, .slice a n cp, .pointer (some ⟨b0, 0, none⟩), .pointer (some ⟨b0 + 1, 0, none⟩), .pointer (some ⟨b0 + 2, 0, none⟩)] w fun e w' => e = .returned .nilIface ∧ PrS bf bt bp bd bm (N + 40) (Z + 61) (fun y => y = c.pr ∨ (M y ∧ y.k ≠ c.pr.k)) w' ∧ Only (fun b => b = bp ∨ b = bm) w w' := by
  have hpk := hc.pr
  have htl := hc.len
  have hxs := hc.w.le
  have hns := hc.n.le
  obtain ⟨a1, c1, e1, hR, _⟩ := rowP_of_own hrow (by omega)
  rw [← hn] at e1 hR
  cases e1
  have HWR : Hid (∀ wx, Below w.heap.size w wx → Calls Tryz.prog 38 #[.slice a n cp] wx fun e w' => e = .returned (.tuple #[.string c.pr.i, .nilIface]) ∧ Below wx.heap.size wx w') := fun wx hb => write_yes a n cp _ wx (hR.below hb) hc.right (by omega)
  have HPT : Hid (∀ wx, PrS bf bt bp bd bm N Z M wx → Calls Tryz.prog 39 #[.pointer (some ⟨bt, 0, none⟩), .string (keyF c.n c.w c.r), .string c.pr.i] wx fun e w' => e = .returned .nilIface ∧ PrS bf bt bp bd bm (N + 40) (Z + 61) (fun y => y = c.pr ∨ (M y ∧ y.k ≠ c.pr.k)) w' ∧ Only (fun b => b = bp ∨ b = bm) wx w') := fun wx hh => (put1 hh c.pr hpk.1 (by have := hpk.2; omega) (by omega)).mono (fun e w' hq => ⟨hq.1, hq.2.1.mono (Nat.le_refl _) (by have := hpk.2; omega), hq.2.2⟩)
  obtain ⟨it, hit⟩ : ∃ it, c.pr.i = it := ⟨_, rfl⟩
  rw [hit] at HWR HPT
  have HP : Hid (PrS bf bt bp bd bm N Z M w) := h
  have HB : Hid (Bx3 b0 bf c.n c.r w) := hb
  obtain ⟨p0, hp0⟩ := h0
  clear hit hpk htl hR hrow hn h hb hc
  go_enter Tryz.func37, Tryz.ntmps37
  go_wp2_with fail
  refine (show Calls _ _ _ _ _ from HWR.out w (Below.refl _ _)).mono ?_
  rintro _ w2 ⟨rfl, hb2⟩
  have HP2 : Hid (PrS bf bt bp bd bm N Z M w2) := HP.out.below hb2
  have HX2 : Hid (Bx3 b0 bf c.n c.r w2) := HB.out.below hb2
  have HB2 : Hid (Below w.heap.size w w2) := hb2
  clear hb2
  have D0 : Hid (BxS b0 bf bt c.n c.r w2) := HX2.out.cells HP2.out
  go_wp2_with fail
  go_region_held3 (fun wx => wx.cell? ⟨b0, 0, none⟩ = some (.pointer (some ⟨bf, 0, none⟩)) ∧ wx.cell? ⟨bf, 0, none⟩ = some (.pointer (some ⟨bt, 0, none⟩)) ∧ wx.cell? ⟨b0 + 1, 0, none⟩ = some (.string c.n) ∧ wx.cell? ⟨b0 + 2, 0, none⟩ = some (.int .i64 (c.r : Nat))) (first | exact D0.out | exact D1.out | exact D2.out) (first | (go_at_call 32; refine (keyF_any c.n c.w c.r (by omega) (by omega) _).mono ?_; rintro _ w3 ⟨rfl, hb3⟩; have HB3 : Hid (Below w2.heap.size w2 w3) := (Below.refl _ w2).drew.trans hb3; have HP3 : Hid (PrS bf bt bp bd bm N Z M w3) := HP2.out.below HB3.out; have HX3 : Hid (Bx3 b0 bf c.n c.r w3) := HX2.out.below HB3.out; have D1 : Hid (BxS b0 bf bt c.n c.r w3) := HX3.out.cells HP3.out; clear hb3) | (go_at_call 39; refine (show Calls _ _ _ _ _ from HPT.out _ HP3.out).mono ?_; rintro _ w4 ⟨rfl, hq4, ho4⟩; have HP4 : Hid (PrS bf bt bp bd bm (N + 40) (Z + 61) (fun y => y = c.pr ∨ (M y ∧ y.k ≠ c.pr.k)) w4) := hq4; have HX4 : Hid (Bx3 b0 bf c.n c.r w4) := HX3.out.only ho4 (fun i e => by rcases e with e | e <;> omega); have D2 : Hid (BxS b0 bf bt c.n c.r w4) := HX4.out.cells HP4.out; have HO4 : Hid (Only (fun b => b = bp ∨ b = bm) w w4) := (below_only (HB2.out.trans (HB3.out.mono HB2.out.size)) _).trans ho4 (fun _ e => .inl e); clear hq4 ho4))
  go_wp2
  go_ret
  exact ⟨rfl, HP4.out, HO4.out⟩
end
end Go.Proofs.YtjgdnainhoipgaaGreatDoor
namespace Go.Proofs.YtjgdnainhoipgaaGreatDoor
open Go.RowKit Go.Maps

theorem take_new {l : List ByteArray} {i : Nat} (hi : i < l.length) : l[i] ∈ l.take (i + 1) := by
  rw [List.take_succ_eq_append_getElem hi, List.mem_append, List.mem_singleton]
  exact .inr rfl
theorem take_old {l : List ByteArray} {i : Nat} (hi : i < l.length) {x : ByteArray} (h : x ∈ l.take i) : x ∈ l.take (i + 1) := by
  rw [List.take_succ_eq_append_getElem hi, List.mem_append]
  exact .inl h
def box3 (bf : Nat) (nm : ByteArray) (r : Nat) (w : World) : World := ((w.alloc (.cells #[.pointer (some ⟨bf, 0, none⟩)] 24)).alloc (.cells #[.string nm] 9)).alloc (.cells #[.int .i64 (r : Nat)] 3)
theorem box3_is (bf : Nat) (nm : ByteArray) (r : Nat) (w : World) : Bx3 w.heap.size bf nm r (box3 bf nm r w) ∧ Below w.heap.size w (box3 bf nm r w) ∧ (box3 bf nm r w).heap.size = w.heap.size + 3 := by
  unfold box3
  refine ⟨⟨?_, ?_, ?_⟩, ?_, by simp⟩
  · exact ((Own1.new w (.pointer (some ⟨bf, 0, none⟩)) 24).below ((Below.refl _ _).alloc (Nat.le_refl _) _)).below ((Below.refl _ _).alloc (Nat.le_refl _) _)
  · have := Own1.new (w.alloc (.cells #[.pointer (some ⟨bf, 0, none⟩)] 24)) (.string nm) 9
    rw [World.size_alloc] at this
    exact this.below ((Below.refl _ _).alloc (Nat.le_refl _) _)
  · have := Own1.new ((w.alloc (.cells #[.pointer (some ⟨bf, 0, none⟩)] 24)).alloc (.cells #[.string nm] 9)) (.int .i64 (r : Nat)) 3
    rw [World.size_alloc, World.size_alloc] at this
    exact this
  · exact (((Below.refl _ w).alloc (Nat.le_refl _) _).alloc (by simp) _).alloc (by simp only [World.size_alloc]; omega) _
/-- a text that may be noted -/
structure Tx (nm : ByteArray) (r : Nat) (ws : List ByteArray) : Prop where
  n : NmOk nm
  lo : 1 ≤ r
  hi : r ≤ 1073741824
  wk : ∀ x ∈ ws, WOk x
  len : ws.length ≤ 20
def pcT (nm : ByteArray) (r : Nat) (ws : List ByteArray) (x : ByteArray) : Pc := ⟨nm, x, r, plcsF r 0 ws x⟩
theorem Tx.pc {nm : ByteArray} {r : Nat} {ws : List ByteArray} (h : Tx nm r ws) {x : ByteArray} (hx : x ∈ ws) : (pcT nm r ws x).Ok :=
  ⟨h.n, h.wk x hx, h.lo, h.hi, plcs_ris r ws 0 x (by have := h.len; omega), plcs_pos' r ws 0 x hx⟩
theorem piece_key {nm : ByteArray} {r : Nat} {ws : List ByteArray} (h : Tx nm r ws) {x y : ByteArray} (hx : x ∈ ws) (hy : y ∈ ws) (hne : x ≠ y) : (pcT nm r ws x).pr.k ≠ (pcT nm r ws y).pr.k := fun e => hne ((h.pc hx).key (h.pc hy) e).2.1
section
variable {bf bt bp bd bm N Z Bx : Nat} {M : Pr → Prop} {w : World} {v : Value} {nm : ByteArray} {r : Nat} {ws : List ByteArray}
theorem note_once (ht : Tx nm r ws) (h : PrS bf bt bp bd bm N Z M w) (hrow : w.ownsRow Bx 9 1 v ws.length (sc ws)) (hvb : ∀ b, v.ownBlock = some b → b ≠ bp ∧ b ≠ bm) (hno : ∀ x ∈ ws, ∀ y, M y → y.k ≠ keyF nm x r) (hZ : Z + 61 * ws.length ≤ 30000) (hN : N + 40 * ws.length + 60 < 1000000) :
    Calls Tryz.prog 36 #[v, .int .i64 (r : Nat), .func (.func 37) #[] #[.pointer (some ⟨w.heap.size, 0, none⟩), .pointer (some ⟨w.heap.size + 1, 0, none⟩), .pointer (some ⟨w.heap.size + 2, 0, none⟩)]] (box3 bf nm r w) fun e w' => e = .returned .nilIface ∧ PrS bf bt bp bd bm (N + 40 * ws.length) (Z + 61 * ws.length) (fun y => M y ∨ ∃ x ∈ ws, y = (pcT nm r ws x).pr) w' ∧ Only (fun b => b = bp ∨ b = bm) w w' := by
  obtain ⟨hx3, hb3, hs3⟩ := box3_is bf nm r w
  obtain ⟨l1, l2, l3, l4, l5⟩ := h.lt
  refine (once_any (w := box3 bf nm r w) (W := fun b => b = bp ∨ b = bm) (I := fun i wx => Bx3 w.heap.size bf nm r wx ∧ PrS bf bt bp bd bm (N + 40 * i) (Z + 61 * i) (fun y => M y ∨ ∃ x ∈ ws.take i, y = (pcT nm r ws x).pr) wx) (fun x hx => by have := (ht.wk x hx).le; omega) (by have := ht.len; omega) (row_below hrow hb3) (fun b e => ⟨by rcases e with e | e <;> omega, fun e2 => by have := hvb b e2; rcases e with e | e; exact this.1 e; exact this.2 e⟩) (enters_of Tryz.func37 (by kernel_rfl) rfl) ⟨hx3, ?_⟩ (fun k wx wy hI ho => ⟨hI.1.only ho (fun i e => by omega), hI.2.above ho (by omega)⟩) (fun i hi a n c wx hnew hI hsz hr hn => ?_) (fun i hi wx hin hI => ⟨hI.1, ?_⟩)).mono ?_
  · exact ((h.below hb3).mono (by omega) (by omega)).iff (fun y => by simp)
  · have hmi : ws[i] ∈ ws := List.getElem_mem hi
    refine (note_cl (ht.pc hmi) hI.2 hI.1 ⟨l3, l4⟩ hr hn (by omega) (by omega)).mono ?_
    rintro e w' ⟨rfl, g1, g2⟩
    refine ⟨rfl, ⟨hI.1.only g2 (fun j e => by rcases e with e | e <;> omega), ?_⟩, g2⟩
    refine (g1.mono (by omega) (by omega)).iff (fun y => ?_)
    constructor
    · rintro (rfl | ⟨hy, _⟩)
      · exact .inr ⟨_, take_new hi, rfl⟩
      · rcases hy with hy | ⟨x, hx, rfl⟩
        · exact .inl hy
        · exact .inr ⟨x, take_old hi hx, rfl⟩
    · rintro (hy | ⟨x, hx, rfl⟩)
      · exact .inr ⟨.inl hy, hno _ hmi y hy⟩
      · rw [List.take_succ_eq_append_getElem hi, List.mem_append, List.mem_singleton] at hx
        rcases hx with hx | hx
        · exact .inr ⟨.inr ⟨x, hx, rfl⟩, piece_key ht (List.mem_of_mem_take hx) hmi (fun e => hnew (by rw [← e]; exact hx))⟩
        · exact .inl (by rw [hx])
  · refine (hI.2.mono (by omega) (by omega)).iff (fun y => ?_)
    constructor
    · rintro (hy | ⟨x, hx, rfl⟩)
      · exact .inl hy
      · exact .inr ⟨x, take_old hi hx, rfl⟩
    · rintro (hy | ⟨x, hx, rfl⟩)
      · exact .inl hy
      · rw [List.take_succ_eq_append_getElem hi, List.mem_append, List.mem_singleton] at hx
        rcases hx with hx | hx
        · exact .inr ⟨x, hx, rfl⟩
        · exact .inr ⟨x, by rw [hx]; exact hin, rfl⟩
  · rintro e w' ⟨rfl, ⟨_, g1⟩, g2⟩
    rw [List.take_length] at g1
    exact ⟨rfl, g1, (below_only hb3 _).trans g2 (fun _ e => .inl e)⟩
set_option maxRecDepth 100000 in
set_option maxHeartbeats 2000000 in
theorem note_any (ht : Tx nm r ws) (h : PrS bf bt bp bd bm N Z M w) (hrow : w.ownsRow Bx 9 1 v ws.length (sc ws)) (hvb : ∀ b, v.ownBlock = some b → b ≠ bp ∧ b ≠ bm) (hno : ∀ x ∈ ws, ∀ y, M y → y.k ≠ keyF nm x r) (hZ : Z + 61 * ws.length ≤ 30000) (hN : N + 40 * ws.length + 60 < 1000000) :
    Calls Tryz.prog 17 #[.pointer (some ⟨bf, 0, none⟩), .string nm, .int .i64 (r : Nat), v] w fun e w' => e = .returned .nilIface ∧ PrS bf bt bp bd bm (N + 40 * ws.length) (Z + 61 * ws.length) (fun y => M y ∨ ∃ x ∈ ws, y = (pcT nm r ws x).pr) w' ∧ Only (fun b => b = bp ∨ b = bm) w w' := by
  have HO : Hid _ := note_once ht h hrow hvb hno hZ hN
  have hmf : ∀ (fn : Fn) (first cap : Array Value) (w : World), (Instr.makeFunc fn first cap).run Tryz.prog w = .ok (.func fn first cap) w := fun _ _ _ _ => rfl
  obtain ⟨hx3, _, _⟩ := box3_is bf nm r w
  have c0 := hx3.r.cell
  obtain ⟨w0, hw0⟩ : ∃ w0, box3 bf nm r w = w0 := ⟨_, rfl⟩
  have hw1 : ((w.alloc (.cells #[.pointer (some ⟨bf, 0, none⟩)] 24)).alloc (.cells #[.string nm] 9)).alloc (.cells #[.int .i64 (r : Nat)] 3) = w0 := hw0
  rw [hw0] at c0 HO
  have c1 : w0.cell? ⟨w.heap.size + 1 + 1, 0, none⟩ = some (.int .i64 (r : Nat)) := c0
  clear hx3 hw0 h hrow hvb hno ht c0
  go_enter Tryz.func17, Tryz.ntmps17
  go_wp2_with fail
  refine (show Calls _ _ _ _ _ from HO.out).mono ?_
  rintro _ w2 ⟨rfl, g1, g2⟩
  have HG1 : Hid _ := g1
  have HG2 : Hid _ := g2
  clear g1 g2 HO
  go_wp2
  go_ret
  exact ⟨rfl, HG1.out, HG2.out⟩
end
end Go.Proofs.YtjgdnainhoipgaaGreatDoor
