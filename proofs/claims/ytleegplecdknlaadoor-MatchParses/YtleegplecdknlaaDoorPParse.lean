/- The program's told; what is deferred; Parse. -/
import Derived.Test.YtleegplecdknlaaDoorPRead
import Derived.Test.YtleegplecdknlaaDoorALaw
import Derived.Stop.Asserts
import Derived.Defers
import Derived.Recover
namespace Go.Proofs.YtleegplecdknlaaDoor
open Go.RowKit

set_option maxRecDepth 100000 in
set_option maxHeartbeats 2000000 in
theorem told_any (n : Int) (w : World) : Calls Tryd.prog 12 #[.iface 55 (.agg #[.int .i64 n])] w fun e w' => e = .returned (.iface 23 (.int .i64 n)) ∧ Below w.heap.size w w' := by
  have hta : ∀ w : World, (Instr.typeAssert (.iface 55 (.agg #[.int .i64 n])) 20 55 true).run Tryd.prog w = .ok (.tuple #[.agg #[.int .i64 n], .bool true]) w := fun _ => by kernel_rfl
  go_enter Tryd.func12, Tryd.ntmps12
  go_wp2
  go_ret
  exact ⟨rfl, (Below.refl _ _).alloc (Nat.le_refl _) _⟩
set_option maxRecDepth 100000 in
set_option maxHeartbeats 2000000 in
theorem catch_idle (p q : Addr) (w : World) :
    CallsD Tryd.prog 11 #[.pointer (some p), .pointer (some q)] .returning w fun e u' w' => e = .returned (.tuple #[]) ∧ u' = .returning ∧ w' = w := by
  refine callsD_of_wpS Tryd.func11 rfl fun c₀ cs hu => ?_
  simp only [Tryd.ntmps11, List.size_toArray, List.length_cons, List.length_nil, Nat.reduceAdd, Nat.reduceSub, Array.replicate_succ, Array.replicate_zero, List.push_toArray, List.append_toArray, List.nil_append, List.cons_append]
  apply wpS_seq
  apply wpS_region
  simp [wpOpsS, go_sem, recoverD, hu, Exit.thenS]
  refine wpS_of_wp ?_
  go_wp2
  cases c₀
  simp_all [bodyPostS, results, Tryd.results11]
set_option maxRecDepth 100000 in
set_option maxHeartbeats 2000000 in
theorem catch_thrown (b : Nat) (n : Int) (w : World) (c0 : w.cell? ⟨b, 0, none⟩ = some (.pointer none)) (c1 : w.cell? ⟨b + 1, 0, none⟩ = some .nilIface) (f0 : w.frozen? ⟨b, 0, none⟩ = false) (f1 : w.frozen? ⟨b + 1, 0, none⟩ = false) :
    CallsD Tryd.prog 11 #[.pointer (some ⟨b, 0, none⟩), .pointer (some ⟨b + 1, 0, none⟩)] (.panicking [{ v := .iface 55 (.agg #[.int .i64 n]), recovered := false }]) w fun e u' w' => e = .returned (.tuple #[]) ∧ u' = .panicking [{ v := .iface 55 (.agg #[.int .i64 n]), recovered := true }] ∧ w'.cell? ⟨b, 0, none⟩ = some (.pointer none) ∧ w'.cell? ⟨b + 1, 0, none⟩ = some (.iface 23 (.int .i64 n)) ∧ Below b w w' := by
  refine callsD_of_wpS Tryd.func11 rfl fun c₀ cs hu => ?_
  simp only [Tryd.ntmps11, List.size_toArray, List.length_cons, List.length_nil, Nat.reduceAdd, Nat.reduceSub, Array.replicate_succ, Array.replicate_zero, List.push_toArray, List.append_toArray, List.nil_append, List.cons_append]
  apply wpS_seq
  apply wpS_region
  simp [wpOpsS, go_sem, recoverD, hu, Exit.thenS]
  refine wpS_of_wp ?_
  go_wp2_with fail
  refine (told_any n w).mono ?_
  rintro _ w1 ⟨rfl, hb1⟩
  have hlt := World.block_lt_of_cell? w _ c1
  simp only at hlt
  have k0 : w1.cell? ⟨b, 0, none⟩ = some (.pointer none) := (hb1.cell (p := ⟨b, 0, none⟩) (by simp only; omega)).trans c0
  have k1 : w1.cell? ⟨b + 1, 0, none⟩ = some .nilIface := (hb1.cell (p := ⟨b + 1, 0, none⟩) hlt).trans c1
  have g0 : w1.frozen? ⟨b, 0, none⟩ = false := by rw [World.frozen?_of_block (a := ⟨b, 0, none⟩) (hb1.block b (by omega))]; exact f0
  have g1 : w1.frozen? ⟨b + 1, 0, none⟩ = false := by rw [World.frozen?_of_block (a := ⟨b + 1, 0, none⟩) (hb1.block (b + 1) hlt)]; exact f1
  have HB : Hid (Below b w w1) := hb1.mono (by omega)
  clear hb1 c0 c1 f0 f1 hlt
  go_wp2
  refine ⟨rfl, _, rfl, .tuple #[], by simp [results, Tryd.results11], rfl, rfl, ?_, ?_, (HB.out.setCell (Nat.le_refl _) _).setCell (Nat.le_succ _) _⟩
  · rw [World.cell?_setCell_other _ _ _ _ (fun e => by injection e with e; simp at e)]
    exact World.cell?_setCell_same _ _ _ k0
  · exact World.cell?_setCell_same _ _ _ (by rw [World.cell?_setCell_other _ _ _ _ (fun e => by injection e with e; simp at e)]; exact k1)

theorem results_cc {P : Program} {fn : Func} {p q : Tmp} {tp tq : TypeId} {v u : Value} (h : fn.results = #[.cell p tp, .cell q tq]) (tmps : Array Value) (w : World) (a b : Addr) (hp : tmps.getD p undef = .pointer (some a)) (hq : tmps.getD q undef = .pointer (some b)) (hl : (loadVar tp a).run P w = .ok v w) (hm : (loadVar tq b).run P w = .ok u w) :
    (results fn tmps).run P w = .ok (.tuple #[v, u]) w := by
  have hp' : tmps[p]?.getD undef = .pointer (some a) := by simpa [Array.getD_eq_getD_getElem?] using hp
  have hq' : tmps[q]?.getD undef = .pointer (some b) := by simpa [Array.getD_eq_getD_getElem?] using hq
  simp [results, h, hp', hq', asAddr, hl, hm]
theorem MQ.keep {A : Nat} {w w' : World} (hs : w.heap.size ≤ w'.heap.size) (hk : ∀ k, A < k → k < w.heap.size → w'.heap[k]? = w.heap[k]?) (q : Qy) : ∀ {p : Option Addr}, MQ A w p q → MQ A w' p q := by
  induction q with
  | nil => intro p h; exact h
  | node k ws a b ha hb =>
    intro p h
    obtain ⟨B, vw, pa, pb, e, ⟨h1, h2⟩, ⟨c0, c1, c2, c3, c4⟩, hr, qa, qb⟩ := h
    have key : ∀ o, w'.cell? ⟨B, o, none⟩ = w.cell? ⟨B, o, none⟩ := fun o => World.cell?_of_block (w := w) (a := ⟨B, o, none⟩) (hk B h1 h2)
    refine ⟨B, vw, pa, pb, e, ⟨h1, Nat.lt_of_lt_of_le h2 hs⟩, ⟨by rw [key]; exact c0, by rw [key]; exact c1, by rw [key]; exact c2, by rw [key]; exact c3, by rw [key]; exact c4⟩, ?_, ha qa, hb qb⟩
    obtain ⟨x, c, rfl, hl, hx⟩ := hr
    refine ⟨x, c, rfl, hl, ?_⟩
    rcases hx with hx | ⟨g, off, e, g1, g2, g3⟩
    · exact .inl hx
    · exact .inr ⟨g, off, e, g1, Nat.lt_of_lt_of_le g2 hs, fun i hi => by rw [World.cell?_of_block (w := w) (a := ⟨g, off + i, none⟩) (hk g g1 g2)]; exact g3 i hi⟩

set_option maxRecDepth 100000 in
set_option maxHeartbeats 4000000 in
theorem parse_any : ParseSpec EndsAt := by
  intro s w hs he
  have hmf : ∀ (fn : Fn) (first cap : Array Value) (w : World), (Instr.makeFunc fn first cap).run Tryd.prog w = .ok (.func fn first cap) w := fun _ _ _ _ => rfl
  have HE : Hid (EndsAt w) := he
  clear he
  go_enter_defers Tryd.func5, Tryd.ntmps5
  go_wp2_with fail
  obtain ⟨W, hW⟩ : ∃ W, (w.alloc (.cells #[.pointer none] 26)).alloc (.cells #[.nilIface] 28) = W := ⟨_, rfl⟩
  have hWs : W.heap.size = w.heap.size + 2 := by rw [← hW]; simp
  have HWb : Hid (Below w.heap.size w W) := by
    show Below _ _ _
    rw [← hW]; exact ((Below.refl _ _).alloc (Nat.le_refl _) _).alloc (by simp) _
  have HEW : Hid (EndsAt W) := HE.out.below HWb.out
  have q0 : W.cell? ⟨w.heap.size, 0, none⟩ = some (.pointer none) := by rw [← hW]; simp [go_sem]
  have q1 : W.cell? ⟨w.heap.size + 1, 0, none⟩ = some .nilIface := by rw [← hW]; simp [go_sem]
  have z0 : W.frozen? ⟨w.heap.size, 0, none⟩ = false := by rw [← hW]; simp [go_sem]
  have z1 : W.frozen? ⟨w.heap.size + 1, 0, none⟩ = false := by rw [← hW]; simp [go_sem]
  rw [hW]
  clear hW
  refine (read_any s W hs HEW.out).mono ?_
  rintro e w1 ⟨hcase, hb1⟩
  have k0 : w1.cell? ⟨w.heap.size, 0, none⟩ = some (.pointer none) := (hb1.cell (p := ⟨w.heap.size, 0, none⟩) (by simp only; omega)).trans q0
  have k1 : w1.cell? ⟨w.heap.size + 1, 0, none⟩ = some .nilIface := (hb1.cell (p := ⟨w.heap.size + 1, 0, none⟩) (by simp only; omega)).trans q1
  have g0 : w1.frozen? ⟨w.heap.size, 0, none⟩ = false := by rw [World.frozen?_of_block (a := ⟨w.heap.size, 0, none⟩) (hb1.block w.heap.size (by omega))]; exact z0
  have g1 : w1.frozen? ⟨w.heap.size + 1, 0, none⟩ = false := by rw [World.frozen?_of_block (a := ⟨w.heap.size + 1, 0, none⟩) (hb1.block (w.heap.size + 1) (by omega))]; exact z1
  have HB1 : Hid (Below w.heap.size w w1) := HWb.out.trans (hb1.mono (by omega))
  clear hb1 q0 q1 z0 z1 HWb HEW
  rcases hcase with ⟨hn, p, A, rfl, hA, hq⟩ | ⟨hn, hq, rfl⟩
  · have HK : Hid ((askS s).2 = 0 ∧ MQ A w1 p (askS s).1) := ⟨hn, hq⟩
    clear hn hq
    go_wp2
    refine leaves_cons (f := 11) (args := #[.pointer (some ⟨w.heap.size, 0, none⟩), .pointer (some ⟨w.heap.size + 1, 0, none⟩)]) (by simp) (by simp [go_sem]) ?_
    refine (catch_idle ⟨w.heap.size, 0, none⟩ ⟨w.heap.size + 1, 0, none⟩ _).mono ?_
    rintro e u' w'' ⟨rfl, rfl, rfl⟩
    show ∃ v, _ ∧ _
    refine ⟨.tuple #[.pointer p, .nilIface], results_cc Tryd.results5 _ _ ⟨w.heap.size, 0, none⟩ ⟨w.heap.size + 1, 0, none⟩ rfl rfl ?_ ?_, p, .nilIface, rfl, ?_, ?_, (HB1.out.setCell (Nat.le_refl _) _).setCell (Nat.le_succ _) _⟩
    · simp [go_sem, k0]
    · simp [go_sem, k1]
    · refine (MQ.keep ?_ ?_ _ HK.out.2).mis
      · simp [World.setCell]
      · intro k h1 h2
        rw [Below.heap_setCell _ ⟨w.heap.size + 1, 0, none⟩ _ k (fun e => by simp only at e; omega), Below.heap_setCell _ ⟨w.heap.size, 0, none⟩ _ k (fun e => by simp only at e; omega)]
    · rw [HK.out.1]; exact .inl ⟨rfl, rfl, rfl⟩
  · have HK : Hid ((askS s).2 ≠ 0 ∧ (askS s).1 = .nil) := ⟨hn, hq⟩
    clear hn hq
    go_wp2
    refine leaves_cons (f := 11) (args := #[.pointer (some ⟨w.heap.size, 0, none⟩), .pointer (some ⟨w.heap.size + 1, 0, none⟩)]) (by simp) (by simp [go_sem]) ?_
    refine (catch_thrown w.heap.size (askS s).2 w1 k0 k1 g0 g1).mono ?_
    rintro e u' w2 ⟨rfl, rfl, c0, c1, hb2⟩
    show ∃ v, _ ∧ _
    refine ⟨.tuple #[.pointer none, .iface 23 (.int .i64 (askS s).2)], results_cc Tryd.results5 _ _ ⟨w.heap.size, 0, none⟩ ⟨w.heap.size + 1, 0, none⟩ rfl rfl ?_ ?_, none, _, rfl, ?_, .inr (.inr ⟨rfl, rfl⟩), HB1.out.trans hb2⟩
    · simp [go_sem, c0]
    · simp [go_sem, c1]
    · rw [HK.out.2]; exact rfl
end Go.Proofs.YtleegplecdknlaaDoor
