/- Part 24 of 39. -/
import Derived.Test.YtbdcbaamjkjhaaaGreatDoorG23
namespace Go.Proofs.YtbdcbaamjkjhaaaGreatDoor
open Go.RowKit

theorem put5 (b : Nat) (l : List UInt8) (s t u v z : ByteArray) (w : World) (h : WS b l w) (hlen : l.length + (s.data.toList ++ (t.data.toList ++ (u.data.toList ++ (v.data.toList ++ z.data.toList)))).length ≤ 1000000) :
    Calls Tryz.prog 53 #[.pointer (some ⟨b, 0, none⟩), .slice (some ⟨w.heap.size, 0, none⟩) 5 5] (w.alloc (.cells #[.string s, .string t, .string u, .string v, .string z] 9)) fun e w' => Puts b l (s.data.toList ++ (t.data.toList ++ (u.data.toList ++ (v.data.toList ++ z.data.toList)))) w e w' := by
  have e : bytesOf [s, t, u, v, z] = s.data.toList ++ (t.data.toList ++ (u.data.toList ++ (v.data.toList ++ z.data.toList))) := by simp [bytesOf]
  have := puts_S b l [s, t, u, v, z] w h (by rw [e]; exact hlen) (by simp)
  rw [e] at this
  exact this
set_option maxRecDepth 100000 in
set_option maxHeartbeats 8000000 in
theorem wstm_1 (x : Stm) (hk : x.kind = 1) (hok : StOk x) (b : Nat) (sv : SV) (l : List UInt8) (w : World) (hw : WS b l w) (hs : StB b sv x w) (hl : l.length + (stT x).length ≤ 1000000) :
    Calls Tryz.prog 29 #[.pointer (some ⟨b, 0, none⟩), .agg sv.cells] w fun r w' => Puts b l (stT x) w r w' := by
  have hmf : ∀ (fn : Fn) (first cap : Array Value) (w : World), (Instr.makeFunc fn first cap).run Tryz.prog w = .ok (.func fn first cap) w := fun _ _ _ _ => rfl
  obtain ⟨a1, c1, e1, r1⟩ := hs.cols
  obtain ⟨a2, c2, e2, r2⟩ := hs.rows
  obtain ⟨a3, c3, e3, r3⟩ := hs.sets
  obtain ⟨a4, c4, e4, r4⟩ := hs.items
  obtain ⟨a5, c5, e5, r5⟩ := hs.ord
  clear r1 r2 r3 r4 r5
  obtain ⟨k, tb, ot, co, nm, ro, se, on, wh, it, gr, od, lm⟩ := sv
  obtain rfl : k = 1 := hs.kind.trans hk
  obtain rfl : tb = x.table := hs.table
  obtain rfl : ot = x.other := hs.other
  obtain rfl : nm = x.name := hs.name
  obtain rfl : lm = x.lim := hs.lim
  obtain rfl : co = .slice a1 x.cols.length c1 := e1
  obtain rfl : ro = .slice a2 x.rows.length c2 := e2
  obtain rfl : se = .slice a3 x.sets.length c3 := e3
  obtain rfl : it = .slice a4 x.items.length c4 := e4
  obtain rfl : od = .slice a5 x.ord.length c5 := e5
  obtain ⟨W, hW⟩ : ∃ W, (w.alloc (.cells #[.pointer (some ⟨b, 0, none⟩)] 110)).alloc (.cells #[.int .i64 1, .string x.table, .string x.other, .slice a1 x.cols.length c1, .string x.name, .slice a2 x.rows.length c2, .slice a3 x.sets.length c3, .pointer on, .pointer wh, .slice a4 x.items.length c4, .pointer gr, .slice a5 x.ord.length c5, .int .i64 x.lim] 30) = W := ⟨_, rfl⟩
  have g0 := CS.begin hw hs hW
  obtain ⟨sv, hsv⟩ : ∃ s, s = (SV.mk 1 x.table x.other (.slice a1 x.cols.length c1) x.name (.slice a2 x.rows.length c2) (.slice a3 x.sets.length c3) on wh (.slice a4 x.items.length c4) gr (.slice a5 x.ord.length c5) x.lim) := ⟨_, rfl⟩
  have HSV : Hid (sv = (SV.mk 1 x.table x.other (.slice a1 x.cols.length c1) x.name (.slice a2 x.rows.length c2) (.slice a3 x.sets.length c3) on wh (.slice a4 x.items.length c4) gr (.slice a5 x.ord.length c5) x.lim)) := hsv
  rw [← hsv] at g0
  have HOK : Hid (StOk x) := hok
  have G0 : Hid (CS b w.heap.size (w.heap.size + 1) (l) sv x w W) := g0
  show Calls _ _ #[_, .agg #[.int .i64 1, .string x.table, .string x.other, .slice a1 x.cols.length c1, .string x.name, .slice a2 x.rows.length c2, .slice a3 x.sets.length c3, .pointer on, .pointer wh, .slice a4 x.items.length c4, .pointer gr, .slice a5 x.ord.length c5, .int .i64 x.lim]] _ _
  obtain ⟨M1, hM1⟩ : ∃ M, lstT (fun i => (fun x : Colm => colT x.nm x.k x.mu x.wo) (x.cols.getD i ⟨⟨#[]⟩, 0, false, false⟩)) x.cols.length = M := ⟨_, rfl⟩
  obtain ⟨R, hR⟩ : ∃ R, stT x = R := ⟨_, rfl⟩
  have HM : Hid (lstT (fun i => (fun x : Colm => colT x.nm x.k x.mu x.wo) (x.cols.getD i ⟨⟨#[]⟩, 0, false, false⟩)) x.cols.length = M1 ∧ R = ([99, 114, 101, 97, 116, 101, 32, 116, 97, 98, 108, 101, 32] ++ (x.table.data.toList ++ [32, 40])) ++ (M1 ++ [41])) := ⟨hM1, by rw [← hR]; unfold stT; rw [hk]; rw [← hM1]; rfl⟩
  have HL : Hid (l.length + (([99, 114, 101, 97, 116, 101, 32, 116, 97, 98, 108, 101, 32] ++ (x.table.data.toList ++ [32, 40])) ++ (M1 ++ [41]) : List UInt8).length ≤ 1000000) := by show _ ≤ _; rw [← HM.out.2, ← hR]; exact hl
  rw [hR]
  clear hM1 hR hl hw hs hok g0 hsv hk
  have p0 : W.cell? ⟨w.heap.size, 0, none⟩ = some (.pointer (some ⟨b, 0, none⟩)) := G0.out.pc
  have s0x1 : W.cell? ⟨w.heap.size + 1, 1, none⟩ = some (.string x.table) := by rw [G0.out.sc 1, HSV.out]; rfl
  have s0x4 : W.cell? ⟨w.heap.size + 1, 4, none⟩ = some (.string x.name) := by rw [G0.out.sc 4, HSV.out]; rfl
  have s0x0 : W.cell? ⟨w.heap.size + 1, 0, none⟩ = some (.int .i64 1) := by rw [G0.out.sc 0, HSV.out]; rfl
  go_enter Tryz.func29, Tryz.ntmps29
  go_wp2_with fail
  refine (put3 b _ ⟨#[99, 114, 101, 97, 116, 101, 32, 116, 97, 98, 108, 101, 32]⟩ x.table ⟨#[32, 40]⟩ W G0.out.ws (by have h9 := HL.out; simp only [List.length_append, List.length_cons, List.length_nil] at h9 ⊢; omega)).mono ?_
  rintro _ w1 ⟨rfl, h2, h3⟩
  have G1 : Hid (CS b w.heap.size (w.heap.size + 1) (l ++ ([99, 114, 101, 97, 116, 101, 32, 116, 97, 98, 108, 101, 32] ++ (x.table.data.toList ++ [32, 40]))) sv x w w1) := G0.out.step (e := .returned (.tuple #[])) ⟨rfl, h2, h3⟩
  clear h2 h3
  have p1 : w1.cell? ⟨w.heap.size, 0, none⟩ = some (.pointer (some ⟨b, 0, none⟩)) := G1.out.pc
  have s1x3 : w1.cell? ⟨w.heap.size + 1, 3, none⟩ = some (.slice a1 x.cols.length c1) := by rw [G1.out.sc 3, HSV.out]; rfl
  obtain ⟨ra, rc, re, rr⟩ := G1.out.tr.cols
  have re2 : Value.slice a1 x.cols.length c1 = Value.slice ra x.cols.length rc := by have h9 := re; rw [HSV.out] at h9; exact h9
  obtain ⟨q1, q2⟩ : a1 = ra ∧ c1 = rc := by cases re2; exact ⟨rfl, rfl⟩
  subst q1; subst q2
  have HST : Hid (StI (·.cols) b w.heap.size (w.heap.size + 1) 4 (ElW1 b) sv a1 c1 x.cols w1) := ⟨G1.out.wr, G1.out.st, re, rr, G1.out.q0⟩
  clear re rr re2
  go_wp2_with fail
  have h8 := wli_w1 (StI.kept (ElW1.keeps b)) (cl_w1 (fun _ _ => trivial)) HOK.out.n1 _ w1 G1.out.ws HST.out (by rw [HM.out.1]; exact (by have h9 := HL.out; simp only [List.length_append, List.length_cons, List.length_nil] at h9 ⊢; omega))
  rw [HM.out.1] at h8
  refine (h8).mono ?_
  rintro _ w2 ⟨rfl, h2, h3⟩
  have G2 : Hid (CS b w.heap.size (w.heap.size + 1) (l ++ ([99, 114, 101, 97, 116, 101, 32, 116, 97, 98, 108, 101, 32] ++ (x.table.data.toList ++ [32, 40])) ++ M1) sv x w w2) := G1.out.step (e := .returned (.tuple #[])) ⟨rfl, h2, h3⟩
  clear h2 h3 h8
  clear HST
  have p2 : w2.cell? ⟨w.heap.size, 0, none⟩ = some (.pointer (some ⟨b, 0, none⟩)) := G2.out.pc
  go_wp2_with fail
  refine (put1 b _ ⟨#[41]⟩ w2 G2.out.ws (by have h9 := HL.out; simp only [List.length_append, List.length_cons, List.length_nil] at h9 ⊢; omega)).mono ?_
  rintro _ w3 ⟨rfl, h2, h3⟩
  have G3 : Hid (CS b w.heap.size (w.heap.size + 1) (l ++ ([99, 114, 101, 97, 116, 101, 32, 116, 97, 98, 108, 101, 32] ++ (x.table.data.toList ++ [32, 40])) ++ M1 ++ [41]) sv x w w3) := G2.out.step (e := .returned (.tuple #[])) ⟨rfl, h2, h3⟩
  clear h2 h3
  have GE : Hid (WS b (l ++ R) w3 ∧ WK b w w3) := ⟨by rw [HM.out.2]; simpa only [List.append_assoc] using G3.out.ws, G3.out.wk⟩
  go_wp2
  go_end0
  exact ⟨rfl, GE.out.1, GE.out.2⟩

set_option maxRecDepth 100000 in
set_option maxHeartbeats 8000000 in
theorem wstm_2 (x : Stm) (hk : x.kind = 2) (hok : StOk x) (b : Nat) (sv : SV) (l : List UInt8) (w : World) (hw : WS b l w) (hs : StB b sv x w) (hl : l.length + (stT x).length ≤ 1000000) :
    Calls Tryz.prog 29 #[.pointer (some ⟨b, 0, none⟩), .agg sv.cells] w fun r w' => Puts b l (stT x) w r w' := by
  have hmf : ∀ (fn : Fn) (first cap : Array Value) (w : World), (Instr.makeFunc fn first cap).run Tryz.prog w = .ok (.func fn first cap) w := fun _ _ _ _ => rfl
  obtain ⟨a1, c1, e1, r1⟩ := hs.cols
  obtain ⟨a2, c2, e2, r2⟩ := hs.rows
  obtain ⟨a3, c3, e3, r3⟩ := hs.sets
  obtain ⟨a4, c4, e4, r4⟩ := hs.items
  obtain ⟨a5, c5, e5, r5⟩ := hs.ord
  clear r1 r2 r3 r4 r5
  obtain ⟨k, tb, ot, co, nm, ro, se, on, wh, it, gr, od, lm⟩ := sv
  obtain rfl : k = 2 := hs.kind.trans hk
  obtain rfl : tb = x.table := hs.table
  obtain rfl : ot = x.other := hs.other
  obtain rfl : nm = x.name := hs.name
  obtain rfl : lm = x.lim := hs.lim
  obtain rfl : co = .slice a1 x.cols.length c1 := e1
  obtain rfl : ro = .slice a2 x.rows.length c2 := e2
  obtain rfl : se = .slice a3 x.sets.length c3 := e3
  obtain rfl : it = .slice a4 x.items.length c4 := e4
  obtain rfl : od = .slice a5 x.ord.length c5 := e5
  obtain ⟨W, hW⟩ : ∃ W, (w.alloc (.cells #[.pointer (some ⟨b, 0, none⟩)] 110)).alloc (.cells #[.int .i64 2, .string x.table, .string x.other, .slice a1 x.cols.length c1, .string x.name, .slice a2 x.rows.length c2, .slice a3 x.sets.length c3, .pointer on, .pointer wh, .slice a4 x.items.length c4, .pointer gr, .slice a5 x.ord.length c5, .int .i64 x.lim] 30) = W := ⟨_, rfl⟩
  have g0 := CS.begin hw hs hW
  obtain ⟨sv, hsv⟩ : ∃ s, s = (SV.mk 2 x.table x.other (.slice a1 x.cols.length c1) x.name (.slice a2 x.rows.length c2) (.slice a3 x.sets.length c3) on wh (.slice a4 x.items.length c4) gr (.slice a5 x.ord.length c5) x.lim) := ⟨_, rfl⟩
  have HSV : Hid (sv = (SV.mk 2 x.table x.other (.slice a1 x.cols.length c1) x.name (.slice a2 x.rows.length c2) (.slice a3 x.sets.length c3) on wh (.slice a4 x.items.length c4) gr (.slice a5 x.ord.length c5) x.lim)) := hsv
  rw [← hsv] at g0
  have HOK : Hid (StOk x) := hok
  have G0 : Hid (CS b w.heap.size (w.heap.size + 1) (l) sv x w W) := g0
  show Calls _ _ #[_, .agg #[.int .i64 2, .string x.table, .string x.other, .slice a1 x.cols.length c1, .string x.name, .slice a2 x.rows.length c2, .slice a3 x.sets.length c3, .pointer on, .pointer wh, .slice a4 x.items.length c4, .pointer gr, .slice a5 x.ord.length c5, .int .i64 x.lim]] _ _
  obtain ⟨R, hR⟩ : ∃ R, stT x = R := ⟨_, rfl⟩
  have HM : Hid (R = [99, 114, 101, 97, 116, 101, 32, 105, 110, 100, 101, 120, 32, 111, 110, 32] ++ (x.table.data.toList ++ ([32, 40] ++ (x.name.data.toList ++ [41])))) := by rw [← hR]; unfold stT; rw [hk]; rfl
  have HL : Hid (l.length + ([99, 114, 101, 97, 116, 101, 32, 105, 110, 100, 101, 120, 32, 111, 110, 32] ++ (x.table.data.toList ++ ([32, 40] ++ (x.name.data.toList ++ [41]))) : List UInt8).length ≤ 1000000) := by show _ ≤ _; rw [← HM.out, ← hR]; exact hl
  rw [hR]
  clear  hR hl hw hs hok g0 hsv hk
  have p0 : W.cell? ⟨w.heap.size, 0, none⟩ = some (.pointer (some ⟨b, 0, none⟩)) := G0.out.pc
  have s0x1 : W.cell? ⟨w.heap.size + 1, 1, none⟩ = some (.string x.table) := by rw [G0.out.sc 1, HSV.out]; rfl
  have s0x4 : W.cell? ⟨w.heap.size + 1, 4, none⟩ = some (.string x.name) := by rw [G0.out.sc 4, HSV.out]; rfl
  have s0x0 : W.cell? ⟨w.heap.size + 1, 0, none⟩ = some (.int .i64 2) := by rw [G0.out.sc 0, HSV.out]; rfl
  go_enter Tryz.func29, Tryz.ntmps29
  go_wp2_with fail
  refine (put5 b _ ⟨#[99, 114, 101, 97, 116, 101, 32, 105, 110, 100, 101, 120, 32, 111, 110, 32]⟩ x.table ⟨#[32, 40]⟩ x.name ⟨#[41]⟩ W G0.out.ws (by have h9 := HL.out; simp only [List.length_append, List.length_cons, List.length_nil] at h9 ⊢; omega)).mono ?_
  rintro _ w1 ⟨rfl, h2, h3⟩
  have G1 : Hid (CS b w.heap.size (w.heap.size + 1) (l ++ ([99, 114, 101, 97, 116, 101, 32, 105, 110, 100, 101, 120, 32, 111, 110, 32] ++ (x.table.data.toList ++ ([32, 40] ++ (x.name.data.toList ++ [41]))))) sv x w w1) := G0.out.step (e := .returned (.tuple #[])) ⟨rfl, h2, h3⟩
  clear h2 h3
  have GE : Hid (WS b (l ++ R) w1 ∧ WK b w w1) := ⟨by rw [HM.out]; simpa only [List.append_assoc] using G1.out.ws, G1.out.wk⟩
  go_wp2
  go_end0
  exact ⟨rfl, GE.out.1, GE.out.2⟩

set_option maxRecDepth 100000 in
set_option maxHeartbeats 8000000 in
theorem wstm_3 (x : Stm) (hk : x.kind = 3) (hok : StOk x) (b : Nat) (sv : SV) (l : List UInt8) (w : World) (hw : WS b l w) (hs : StB b sv x w) (hl : l.length + (stT x).length ≤ 1000000) :
    Calls Tryz.prog 29 #[.pointer (some ⟨b, 0, none⟩), .agg sv.cells] w fun r w' => Puts b l (stT x) w r w' := by
  have hmf : ∀ (fn : Fn) (first cap : Array Value) (w : World), (Instr.makeFunc fn first cap).run Tryz.prog w = .ok (.func fn first cap) w := fun _ _ _ _ => rfl
  obtain ⟨a1, c1, e1, r1⟩ := hs.cols
  obtain ⟨a2, c2, e2, r2⟩ := hs.rows
  obtain ⟨a3, c3, e3, r3⟩ := hs.sets
  obtain ⟨a4, c4, e4, r4⟩ := hs.items
  obtain ⟨a5, c5, e5, r5⟩ := hs.ord
  clear r1 r2 r3 r4 r5
  obtain ⟨k, tb, ot, co, nm, ro, se, on, wh, it, gr, od, lm⟩ := sv
  obtain rfl : k = 3 := hs.kind.trans hk
  obtain rfl : tb = x.table := hs.table
  obtain rfl : ot = x.other := hs.other
  obtain rfl : nm = x.name := hs.name
  obtain rfl : lm = x.lim := hs.lim
  obtain rfl : co = .slice a1 x.cols.length c1 := e1
  obtain rfl : ro = .slice a2 x.rows.length c2 := e2
  obtain rfl : se = .slice a3 x.sets.length c3 := e3
  obtain rfl : it = .slice a4 x.items.length c4 := e4
  obtain rfl : od = .slice a5 x.ord.length c5 := e5
  obtain ⟨W, hW⟩ : ∃ W, (w.alloc (.cells #[.pointer (some ⟨b, 0, none⟩)] 110)).alloc (.cells #[.int .i64 3, .string x.table, .string x.other, .slice a1 x.cols.length c1, .string x.name, .slice a2 x.rows.length c2, .slice a3 x.sets.length c3, .pointer on, .pointer wh, .slice a4 x.items.length c4, .pointer gr, .slice a5 x.ord.length c5, .int .i64 x.lim] 30) = W := ⟨_, rfl⟩
  have g0 := CS.begin hw hs hW
  obtain ⟨sv, hsv⟩ : ∃ s, s = (SV.mk 3 x.table x.other (.slice a1 x.cols.length c1) x.name (.slice a2 x.rows.length c2) (.slice a3 x.sets.length c3) on wh (.slice a4 x.items.length c4) gr (.slice a5 x.ord.length c5) x.lim) := ⟨_, rfl⟩
  have HSV : Hid (sv = (SV.mk 3 x.table x.other (.slice a1 x.cols.length c1) x.name (.slice a2 x.rows.length c2) (.slice a3 x.sets.length c3) on wh (.slice a4 x.items.length c4) gr (.slice a5 x.ord.length c5) x.lim)) := hsv
  rw [← hsv] at g0
  have HOK : Hid (StOk x) := hok
  have G0 : Hid (CS b w.heap.size (w.heap.size + 1) (l) sv x w W) := g0
  show Calls _ _ #[_, .agg #[.int .i64 3, .string x.table, .string x.other, .slice a1 x.cols.length c1, .string x.name, .slice a2 x.rows.length c2, .slice a3 x.sets.length c3, .pointer on, .pointer wh, .slice a4 x.items.length c4, .pointer gr, .slice a5 x.ord.length c5, .int .i64 x.lim]] _ _
  obtain ⟨R, hR⟩ : ∃ R, stT x = R := ⟨_, rfl⟩
  have HM : Hid (R = [100, 114, 111, 112, 32, 116, 97, 98, 108, 101, 32] ++ x.table.data.toList) := by rw [← hR]; unfold stT; rw [hk]; rfl
  have HL : Hid (l.length + ([100, 114, 111, 112, 32, 116, 97, 98, 108, 101, 32] ++ x.table.data.toList : List UInt8).length ≤ 1000000) := by show _ ≤ _; rw [← HM.out, ← hR]; exact hl
  rw [hR]
  clear  hR hl hw hs hok g0 hsv hk
  have p0 : W.cell? ⟨w.heap.size, 0, none⟩ = some (.pointer (some ⟨b, 0, none⟩)) := G0.out.pc
  have s0x1 : W.cell? ⟨w.heap.size + 1, 1, none⟩ = some (.string x.table) := by rw [G0.out.sc 1, HSV.out]; rfl
  have s0x4 : W.cell? ⟨w.heap.size + 1, 4, none⟩ = some (.string x.name) := by rw [G0.out.sc 4, HSV.out]; rfl
  have s0x0 : W.cell? ⟨w.heap.size + 1, 0, none⟩ = some (.int .i64 3) := by rw [G0.out.sc 0, HSV.out]; rfl
  go_enter Tryz.func29, Tryz.ntmps29
  go_wp2_with fail
  refine (put2 b _ ⟨#[100, 114, 111, 112, 32, 116, 97, 98, 108, 101, 32]⟩ x.table W G0.out.ws (by have h9 := HL.out; simp only [List.length_append, List.length_cons, List.length_nil] at h9 ⊢; omega)).mono ?_
  rintro _ w1 ⟨rfl, h2, h3⟩
  have G1 : Hid (CS b w.heap.size (w.heap.size + 1) (l ++ ([100, 114, 111, 112, 32, 116, 97, 98, 108, 101, 32] ++ x.table.data.toList)) sv x w w1) := G0.out.step (e := .returned (.tuple #[])) ⟨rfl, h2, h3⟩
  clear h2 h3
  have GE : Hid (WS b (l ++ R) w1 ∧ WK b w w1) := ⟨by rw [HM.out]; simpa only [List.append_assoc] using G1.out.ws, G1.out.wk⟩
  go_wp2
  go_end0
  exact ⟨rfl, GE.out.1, GE.out.2⟩

set_option maxRecDepth 100000 in
set_option maxHeartbeats 8000000 in
theorem wstm_4 (x : Stm) (hk : x.kind = 4) (hok : StOk x) (b : Nat) (sv : SV) (l : List UInt8) (w : World) (hw : WS b l w) (hs : StB b sv x w) (hl : l.length + (stT x).length ≤ 1000000) :
    Calls Tryz.prog 29 #[.pointer (some ⟨b, 0, none⟩), .agg sv.cells] w fun r w' => Puts b l (stT x) w r w' := by
  have hmf : ∀ (fn : Fn) (first cap : Array Value) (w : World), (Instr.makeFunc fn first cap).run Tryz.prog w = .ok (.func fn first cap) w := fun _ _ _ _ => rfl
  obtain ⟨a1, c1, e1, r1⟩ := hs.cols
  obtain ⟨a2, c2, e2, r2⟩ := hs.rows
  obtain ⟨a3, c3, e3, r3⟩ := hs.sets
  obtain ⟨a4, c4, e4, r4⟩ := hs.items
  obtain ⟨a5, c5, e5, r5⟩ := hs.ord
  clear r1 r2 r3 r4 r5
  obtain ⟨k, tb, ot, co, nm, ro, se, on, wh, it, gr, od, lm⟩ := sv
  obtain rfl : k = 4 := hs.kind.trans hk
  obtain rfl : tb = x.table := hs.table
  obtain rfl : ot = x.other := hs.other
  obtain rfl : nm = x.name := hs.name
  obtain rfl : lm = x.lim := hs.lim
  obtain rfl : co = .slice a1 x.cols.length c1 := e1
  obtain rfl : ro = .slice a2 x.rows.length c2 := e2
  obtain rfl : se = .slice a3 x.sets.length c3 := e3
  obtain rfl : it = .slice a4 x.items.length c4 := e4
  obtain rfl : od = .slice a5 x.ord.length c5 := e5
  obtain ⟨W, hW⟩ : ∃ W, (w.alloc (.cells #[.pointer (some ⟨b, 0, none⟩)] 110)).alloc (.cells #[.int .i64 4, .string x.table, .string x.other, .slice a1 x.cols.length c1, .string x.name, .slice a2 x.rows.length c2, .slice a3 x.sets.length c3, .pointer on, .pointer wh, .slice a4 x.items.length c4, .pointer gr, .slice a5 x.ord.length c5, .int .i64 x.lim] 30) = W := ⟨_, rfl⟩
  have g0 := CS.begin hw hs hW
  obtain ⟨sv, hsv⟩ : ∃ s, s = (SV.mk 4 x.table x.other (.slice a1 x.cols.length c1) x.name (.slice a2 x.rows.length c2) (.slice a3 x.sets.length c3) on wh (.slice a4 x.items.length c4) gr (.slice a5 x.ord.length c5) x.lim) := ⟨_, rfl⟩
  have HSV : Hid (sv = (SV.mk 4 x.table x.other (.slice a1 x.cols.length c1) x.name (.slice a2 x.rows.length c2) (.slice a3 x.sets.length c3) on wh (.slice a4 x.items.length c4) gr (.slice a5 x.ord.length c5) x.lim)) := hsv
  rw [← hsv] at g0
  have HOK : Hid (StOk x) := hok
  have G0 : Hid (CS b w.heap.size (w.heap.size + 1) (l) sv x w W) := g0
  show Calls _ _ #[_, .agg #[.int .i64 4, .string x.table, .string x.other, .slice a1 x.cols.length c1, .string x.name, .slice a2 x.rows.length c2, .slice a3 x.sets.length c3, .pointer on, .pointer wh, .slice a4 x.items.length c4, .pointer gr, .slice a5 x.ord.length c5, .int .i64 x.lim]] _ _
  obtain ⟨M1, hM1⟩ : ∃ M, lstT (fun i => (fun x : (List Ex) => rowT x) (x.rows.getD i [])) x.rows.length = M := ⟨_, rfl⟩
  obtain ⟨R, hR⟩ : ∃ R, stT x = R := ⟨_, rfl⟩
  have HM : Hid (lstT (fun i => (fun x : (List Ex) => rowT x) (x.rows.getD i [])) x.rows.length = M1 ∧ R = ([105, 110, 115, 101, 114, 116, 32, 105, 110, 116, 111, 32] ++ (x.table.data.toList ++ [32, 118, 97, 108, 117, 101, 115, 32])) ++ M1) := ⟨hM1, by rw [← hR]; unfold stT; rw [hk]; rw [← hM1]; rfl⟩
  have HL : Hid (l.length + (([105, 110, 115, 101, 114, 116, 32, 105, 110, 116, 111, 32] ++ (x.table.data.toList ++ [32, 118, 97, 108, 117, 101, 115, 32])) ++ M1 : List UInt8).length ≤ 1000000) := by show _ ≤ _; rw [← HM.out.2, ← hR]; exact hl
  rw [hR]
  clear hM1 hR hl hw hs hok g0 hsv hk
  have p0 : W.cell? ⟨w.heap.size, 0, none⟩ = some (.pointer (some ⟨b, 0, none⟩)) := G0.out.pc
  have s0x1 : W.cell? ⟨w.heap.size + 1, 1, none⟩ = some (.string x.table) := by rw [G0.out.sc 1, HSV.out]; rfl
  have s0x4 : W.cell? ⟨w.heap.size + 1, 4, none⟩ = some (.string x.name) := by rw [G0.out.sc 4, HSV.out]; rfl
  have s0x0 : W.cell? ⟨w.heap.size + 1, 0, none⟩ = some (.int .i64 4) := by rw [G0.out.sc 0, HSV.out]; rfl
  go_enter Tryz.func29, Tryz.ntmps29
  go_wp2_with fail
  refine (put3 b _ ⟨#[105, 110, 115, 101, 114, 116, 32, 105, 110, 116, 111, 32]⟩ x.table ⟨#[32, 118, 97, 108, 117, 101, 115, 32]⟩ W G0.out.ws (by have h9 := HL.out; simp only [List.length_append, List.length_cons, List.length_nil] at h9 ⊢; omega)).mono ?_
  rintro _ w1 ⟨rfl, h2, h3⟩
  have G1 : Hid (CS b w.heap.size (w.heap.size + 1) (l ++ ([105, 110, 115, 101, 114, 116, 32, 105, 110, 116, 111, 32] ++ (x.table.data.toList ++ [32, 118, 97, 108, 117, 101, 115, 32]))) sv x w w1) := G0.out.step (e := .returned (.tuple #[])) ⟨rfl, h2, h3⟩
  clear h2 h3
  have p1 : w1.cell? ⟨w.heap.size, 0, none⟩ = some (.pointer (some ⟨b, 0, none⟩)) := G1.out.pc
  have s1x5 : w1.cell? ⟨w.heap.size + 1, 5, none⟩ = some (.slice a2 x.rows.length c2) := by rw [G1.out.sc 5, HSV.out]; rfl
  obtain ⟨ra, rc, re, rr⟩ := G1.out.tr.rows
  have re2 : Value.slice a2 x.rows.length c2 = Value.slice ra x.rows.length rc := by have h9 := re; rw [HSV.out] at h9; exact h9
  obtain ⟨q1, q2⟩ : a2 = ra ∧ c2 = rc := by cases re2; exact ⟨rfl, rfl⟩
  subst q1; subst q2
  have HST : Hid (StI (·.rows) b w.heap.size (w.heap.size + 1) 1 (ElW2 b) sv a2 c2 x.rows w1) := ⟨G1.out.wr, G1.out.st, re, rr, G1.out.q0⟩
  clear re rr re2
  go_wp2_with fail
  have h8 := wli_w2 (StI.kept (ElW2.keeps b)) (cl_w2 HOK.out.rows) HOK.out.n2 _ w1 G1.out.ws HST.out (by rw [HM.out.1]; exact (by have h9 := HL.out; simp only [List.length_append, List.length_cons, List.length_nil] at h9 ⊢; omega))
  rw [HM.out.1] at h8
  refine (h8).mono ?_
  rintro _ w2 ⟨rfl, h2, h3⟩
  have G2 : Hid (CS b w.heap.size (w.heap.size + 1) (l ++ ([105, 110, 115, 101, 114, 116, 32, 105, 110, 116, 111, 32] ++ (x.table.data.toList ++ [32, 118, 97, 108, 117, 101, 115, 32])) ++ M1) sv x w w2) := G1.out.step (e := .returned (.tuple #[])) ⟨rfl, h2, h3⟩
  clear h2 h3 h8
  clear HST
  have GE : Hid (WS b (l ++ R) w2 ∧ WK b w w2) := ⟨by rw [HM.out.2]; simpa only [List.append_assoc] using G2.out.ws, G2.out.wk⟩
  go_wp2
  go_end0
  exact ⟨rfl, GE.out.1, GE.out.2⟩

set_option maxRecDepth 100000 in
set_option maxHeartbeats 8000000 in
theorem wstm_5 (x : Stm) (hk : x.kind = 5) (hok : StOk x) (b : Nat) (sv : SV) (l : List UInt8) (w : World) (hw : WS b l w) (hs : StB b sv x w) (hl : l.length + (stT x).length ≤ 1000000) :
    Calls Tryz.prog 29 #[.pointer (some ⟨b, 0, none⟩), .agg sv.cells] w fun r w' => Puts b l (stT x) w r w' := by
  have hmf : ∀ (fn : Fn) (first cap : Array Value) (w : World), (Instr.makeFunc fn first cap).run Tryz.prog w = .ok (.func fn first cap) w := fun _ _ _ _ => rfl
  obtain ⟨a1, c1, e1, r1⟩ := hs.cols
  obtain ⟨a2, c2, e2, r2⟩ := hs.rows
  obtain ⟨a3, c3, e3, r3⟩ := hs.sets
  obtain ⟨a4, c4, e4, r4⟩ := hs.items
  obtain ⟨a5, c5, e5, r5⟩ := hs.ord
  clear r1 r2 r3 r4 r5
  obtain ⟨k, tb, ot, co, nm, ro, se, on, wh, it, gr, od, lm⟩ := sv
  obtain rfl : k = 5 := hs.kind.trans hk
  obtain rfl : tb = x.table := hs.table
  obtain rfl : ot = x.other := hs.other
  obtain rfl : nm = x.name := hs.name
  obtain rfl : lm = x.lim := hs.lim
  obtain rfl : co = .slice a1 x.cols.length c1 := e1
  obtain rfl : ro = .slice a2 x.rows.length c2 := e2
  obtain rfl : se = .slice a3 x.sets.length c3 := e3
  obtain rfl : it = .slice a4 x.items.length c4 := e4
  obtain rfl : od = .slice a5 x.ord.length c5 := e5
  obtain ⟨W, hW⟩ : ∃ W, (w.alloc (.cells #[.pointer (some ⟨b, 0, none⟩)] 110)).alloc (.cells #[.int .i64 5, .string x.table, .string x.other, .slice a1 x.cols.length c1, .string x.name, .slice a2 x.rows.length c2, .slice a3 x.sets.length c3, .pointer on, .pointer wh, .slice a4 x.items.length c4, .pointer gr, .slice a5 x.ord.length c5, .int .i64 x.lim] 30) = W := ⟨_, rfl⟩
  have g0 := CS.begin hw hs hW
  obtain ⟨sv, hsv⟩ : ∃ s, s = (SV.mk 5 x.table x.other (.slice a1 x.cols.length c1) x.name (.slice a2 x.rows.length c2) (.slice a3 x.sets.length c3) on wh (.slice a4 x.items.length c4) gr (.slice a5 x.ord.length c5) x.lim) := ⟨_, rfl⟩
  have HSV : Hid (sv = (SV.mk 5 x.table x.other (.slice a1 x.cols.length c1) x.name (.slice a2 x.rows.length c2) (.slice a3 x.sets.length c3) on wh (.slice a4 x.items.length c4) gr (.slice a5 x.ord.length c5) x.lim)) := hsv
  rw [← hsv] at g0
  have HOK : Hid (StOk x) := hok
  have G0 : Hid (CS b w.heap.size (w.heap.size + 1) (l) sv x w W) := g0
  show Calls _ _ #[_, .agg #[.int .i64 5, .string x.table, .string x.other, .slice a1 x.cols.length c1, .string x.name, .slice a2 x.rows.length c2, .slice a3 x.sets.length c3, .pointer on, .pointer wh, .slice a4 x.items.length c4, .pointer gr, .slice a5 x.ord.length c5, .int .i64 x.lim]] _ _
  obtain ⟨B2, hB2⟩ : ∃ M, behT [32, 119, 104, 101, 114, 101, 32] x.wh = M := ⟨_, rfl⟩
  obtain ⟨R, hR⟩ : ∃ R, stT x = R := ⟨_, rfl⟩
  have HM : Hid (behT [32, 119, 104, 101, 114, 101, 32] x.wh = B2 ∧ R = ([100, 101, 108, 101, 116, 101, 32, 102, 114, 111, 109, 32] ++ x.table.data.toList) ++ B2) := ⟨hB2, by rw [← hR]; unfold stT; rw [hk]; rw [← hB2]; rfl⟩
  have HL : Hid (l.length + (([100, 101, 108, 101, 116, 101, 32, 102, 114, 111, 109, 32] ++ x.table.data.toList) ++ B2 : List UInt8).length ≤ 1000000) := by show _ ≤ _; rw [← HM.out.2, ← hR]; exact hl
  rw [hR]
  clear hB2 hR hl hw hs hok g0 hsv hk
  have p0 : W.cell? ⟨w.heap.size, 0, none⟩ = some (.pointer (some ⟨b, 0, none⟩)) := G0.out.pc
  have s0x1 : W.cell? ⟨w.heap.size + 1, 1, none⟩ = some (.string x.table) := by rw [G0.out.sc 1, HSV.out]; rfl
  have s0x4 : W.cell? ⟨w.heap.size + 1, 4, none⟩ = some (.string x.name) := by rw [G0.out.sc 4, HSV.out]; rfl
  have s0x0 : W.cell? ⟨w.heap.size + 1, 0, none⟩ = some (.int .i64 5) := by rw [G0.out.sc 0, HSV.out]; rfl
  go_enter Tryz.func29, Tryz.ntmps29
  go_wp2_with fail
  refine (put2 b _ ⟨#[100, 101, 108, 101, 116, 101, 32, 102, 114, 111, 109, 32]⟩ x.table W G0.out.ws (by have h9 := HL.out; simp only [List.length_append, List.length_cons, List.length_nil] at h9 ⊢; omega)).mono ?_
  rintro _ w1 ⟨rfl, h2, h3⟩
  have G1 : Hid (CS b w.heap.size (w.heap.size + 1) (l ++ ([100, 101, 108, 101, 116, 101, 32, 102, 114, 111, 109, 32] ++ x.table.data.toList)) sv x w w1) := G0.out.step (e := .returned (.tuple #[])) ⟨rfl, h2, h3⟩
  clear h2 h3
  have p1 : w1.cell? ⟨w.heap.size, 0, none⟩ = some (.pointer (some ⟨b, 0, none⟩)) := G1.out.pc
  have s1x8 : w1.cell? ⟨w.heap.size + 1, 8, none⟩ = some (.pointer wh) := by rw [G1.out.sc 8, HSV.out]; rfl
  have HT : Hid (TrAt b w1 wh x.wh) := by have h9 := G1.out.tr.wh; rw [HSV.out] at h9; exact h9
  go_wp2_with fail
  have h8 := wbehind_any x.wh HOK.out.wh b wh ⟨#[32, 119, 104, 101, 114, 101, 32]⟩ _ w1 G1.out.ws HT.out (by show _ + (behT [32, 119, 104, 101, 114, 101, 32] x.wh).length ≤ _; rw [HM.out.1]; exact (by have h9 := HL.out; simp only [List.length_append, List.length_cons, List.length_nil] at h9 ⊢; omega))
  rw [show behT (ByteArray.mk #[32, 119, 104, 101, 114, 101, 32]).data.toList x.wh = B2 from HM.out.1] at h8
  refine (h8).mono ?_
  rintro _ w2 ⟨rfl, h2, h3⟩
  have G2 : Hid (CS b w.heap.size (w.heap.size + 1) (l ++ ([100, 101, 108, 101, 116, 101, 32, 102, 114, 111, 109, 32] ++ x.table.data.toList) ++ B2) sv x w w2) := G1.out.step (e := .returned (.tuple #[])) ⟨rfl, h2, h3⟩
  clear h2 h3 h8
  clear HT
  have GE : Hid (WS b (l ++ R) w2 ∧ WK b w w2) := ⟨by rw [HM.out.2]; simpa only [List.append_assoc] using G2.out.ws, G2.out.wk⟩
  go_wp2
  go_end0
  exact ⟨rfl, GE.out.1, GE.out.2⟩

set_option maxRecDepth 100000 in
set_option maxHeartbeats 8000000 in
theorem wstm_6 (x : Stm) (hk : x.kind = 6) (hok : StOk x) (b : Nat) (sv : SV) (l : List UInt8) (w : World) (hw : WS b l w) (hs : StB b sv x w) (hl : l.length + (stT x).length ≤ 1000000) :
    Calls Tryz.prog 29 #[.pointer (some ⟨b, 0, none⟩), .agg sv.cells] w fun r w' => Puts b l (stT x) w r w' := by
  have hmf : ∀ (fn : Fn) (first cap : Array Value) (w : World), (Instr.makeFunc fn first cap).run Tryz.prog w = .ok (.func fn first cap) w := fun _ _ _ _ => rfl
  obtain ⟨a1, c1, e1, r1⟩ := hs.cols
  obtain ⟨a2, c2, e2, r2⟩ := hs.rows
  obtain ⟨a3, c3, e3, r3⟩ := hs.sets
  obtain ⟨a4, c4, e4, r4⟩ := hs.items
  obtain ⟨a5, c5, e5, r5⟩ := hs.ord
  clear r1 r2 r3 r4 r5
  obtain ⟨k, tb, ot, co, nm, ro, se, on, wh, it, gr, od, lm⟩ := sv
  obtain rfl : k = 6 := hs.kind.trans hk
  obtain rfl : tb = x.table := hs.table
  obtain rfl : ot = x.other := hs.other
  obtain rfl : nm = x.name := hs.name
  obtain rfl : lm = x.lim := hs.lim
  obtain rfl : co = .slice a1 x.cols.length c1 := e1
  obtain rfl : ro = .slice a2 x.rows.length c2 := e2
  obtain rfl : se = .slice a3 x.sets.length c3 := e3
  obtain rfl : it = .slice a4 x.items.length c4 := e4
  obtain rfl : od = .slice a5 x.ord.length c5 := e5
  obtain ⟨W, hW⟩ : ∃ W, (w.alloc (.cells #[.pointer (some ⟨b, 0, none⟩)] 110)).alloc (.cells #[.int .i64 6, .string x.table, .string x.other, .slice a1 x.cols.length c1, .string x.name, .slice a2 x.rows.length c2, .slice a3 x.sets.length c3, .pointer on, .pointer wh, .slice a4 x.items.length c4, .pointer gr, .slice a5 x.ord.length c5, .int .i64 x.lim] 30) = W := ⟨_, rfl⟩
  have g0 := CS.begin hw hs hW
  obtain ⟨sv, hsv⟩ : ∃ s, s = (SV.mk 6 x.table x.other (.slice a1 x.cols.length c1) x.name (.slice a2 x.rows.length c2) (.slice a3 x.sets.length c3) on wh (.slice a4 x.items.length c4) gr (.slice a5 x.ord.length c5) x.lim) := ⟨_, rfl⟩
  have HSV : Hid (sv = (SV.mk 6 x.table x.other (.slice a1 x.cols.length c1) x.name (.slice a2 x.rows.length c2) (.slice a3 x.sets.length c3) on wh (.slice a4 x.items.length c4) gr (.slice a5 x.ord.length c5) x.lim)) := hsv
  rw [← hsv] at g0
  have HOK : Hid (StOk x) := hok
  have G0 : Hid (CS b w.heap.size (w.heap.size + 1) (l) sv x w W) := g0
  show Calls _ _ #[_, .agg #[.int .i64 6, .string x.table, .string x.other, .slice a1 x.cols.length c1, .string x.name, .slice a2 x.rows.length c2, .slice a3 x.sets.length c3, .pointer on, .pointer wh, .slice a4 x.items.length c4, .pointer gr, .slice a5 x.ord.length c5, .int .i64 x.lim]] _ _
  obtain ⟨M1, hM1⟩ : ∃ M, lstT (fun i => (fun x : Ex => setT x) (x.sets.getD i .nil)) x.sets.length = M := ⟨_, rfl⟩
  obtain ⟨B2, hB2⟩ : ∃ M, behT [32, 119, 104, 101, 114, 101, 32] x.wh = M := ⟨_, rfl⟩
  obtain ⟨R, hR⟩ : ∃ R, stT x = R := ⟨_, rfl⟩
  have HM : Hid (lstT (fun i => (fun x : Ex => setT x) (x.sets.getD i .nil)) x.sets.length = M1 ∧ behT [32, 119, 104, 101, 114, 101, 32] x.wh = B2 ∧ R = ([117, 112, 100, 97, 116, 101, 32] ++ (x.table.data.toList ++ [32, 115, 101, 116, 32])) ++ (M1 ++ B2)) := ⟨hM1, hB2, by rw [← hR]; unfold stT; rw [hk]; rw [← hM1, ← hB2]; rfl⟩
  have HL : Hid (l.length + (([117, 112, 100, 97, 116, 101, 32] ++ (x.table.data.toList ++ [32, 115, 101, 116, 32])) ++ (M1 ++ B2) : List UInt8).length ≤ 1000000) := by show _ ≤ _; rw [← HM.out.2.2, ← hR]; exact hl
  rw [hR]
  clear hM1 hB2 hR hl hw hs hok g0 hsv hk
  have p0 : W.cell? ⟨w.heap.size, 0, none⟩ = some (.pointer (some ⟨b, 0, none⟩)) := G0.out.pc
  have s0x1 : W.cell? ⟨w.heap.size + 1, 1, none⟩ = some (.string x.table) := by rw [G0.out.sc 1, HSV.out]; rfl
  have s0x4 : W.cell? ⟨w.heap.size + 1, 4, none⟩ = some (.string x.name) := by rw [G0.out.sc 4, HSV.out]; rfl
  have s0x0 : W.cell? ⟨w.heap.size + 1, 0, none⟩ = some (.int .i64 6) := by rw [G0.out.sc 0, HSV.out]; rfl
  go_enter Tryz.func29, Tryz.ntmps29
  go_wp2_with fail
  refine (put3 b _ ⟨#[117, 112, 100, 97, 116, 101, 32]⟩ x.table ⟨#[32, 115, 101, 116, 32]⟩ W G0.out.ws (by have h9 := HL.out; simp only [List.length_append, List.length_cons, List.length_nil] at h9 ⊢; omega)).mono ?_
  rintro _ w1 ⟨rfl, h2, h3⟩
  have G1 : Hid (CS b w.heap.size (w.heap.size + 1) (l ++ ([117, 112, 100, 97, 116, 101, 32] ++ (x.table.data.toList ++ [32, 115, 101, 116, 32]))) sv x w w1) := G0.out.step (e := .returned (.tuple #[])) ⟨rfl, h2, h3⟩
  clear h2 h3
  have p1 : w1.cell? ⟨w.heap.size, 0, none⟩ = some (.pointer (some ⟨b, 0, none⟩)) := G1.out.pc
  have s1x6 : w1.cell? ⟨w.heap.size + 1, 6, none⟩ = some (.slice a3 x.sets.length c3) := by rw [G1.out.sc 6, HSV.out]; rfl
  obtain ⟨ra, rc, re, rr⟩ := G1.out.tr.sets
  have re2 : Value.slice a3 x.sets.length c3 = Value.slice ra x.sets.length rc := by have h9 := re; rw [HSV.out] at h9; exact h9
  obtain ⟨q1, q2⟩ : a3 = ra ∧ c3 = rc := by cases re2; exact ⟨rfl, rfl⟩
  subst q1; subst q2
  have HST : Hid (StI (·.sets) b w.heap.size (w.heap.size + 1) 1 (ElW3 b) sv a3 c3 x.sets w1) := ⟨G1.out.wr, G1.out.st, re, rr, G1.out.q0⟩
  clear re rr re2
  go_wp2_with fail
  have h8 := wli_w3 (StI.kept (ElW3.keeps b)) (cl_w3 HOK.out.sets) HOK.out.n3 _ w1 G1.out.ws HST.out (by rw [HM.out.1]; exact (by have h9 := HL.out; simp only [List.length_append, List.length_cons, List.length_nil] at h9 ⊢; omega))
  rw [HM.out.1] at h8
  refine (h8).mono ?_
  rintro _ w2 ⟨rfl, h2, h3⟩
  have G2 : Hid (CS b w.heap.size (w.heap.size + 1) (l ++ ([117, 112, 100, 97, 116, 101, 32] ++ (x.table.data.toList ++ [32, 115, 101, 116, 32])) ++ M1) sv x w w2) := G1.out.step (e := .returned (.tuple #[])) ⟨rfl, h2, h3⟩
  clear h2 h3 h8
  clear HST
  have p2 : w2.cell? ⟨w.heap.size, 0, none⟩ = some (.pointer (some ⟨b, 0, none⟩)) := G2.out.pc
  have s2x8 : w2.cell? ⟨w.heap.size + 1, 8, none⟩ = some (.pointer wh) := by rw [G2.out.sc 8, HSV.out]; rfl
  have HT : Hid (TrAt b w2 wh x.wh) := by have h9 := G2.out.tr.wh; rw [HSV.out] at h9; exact h9
  go_wp2_with fail
  have h8 := wbehind_any x.wh HOK.out.wh b wh ⟨#[32, 119, 104, 101, 114, 101, 32]⟩ _ w2 G2.out.ws HT.out (by show _ + (behT [32, 119, 104, 101, 114, 101, 32] x.wh).length ≤ _; rw [HM.out.2.1]; exact (by have h9 := HL.out; simp only [List.length_append, List.length_cons, List.length_nil] at h9 ⊢; omega))
  rw [show behT (ByteArray.mk #[32, 119, 104, 101, 114, 101, 32]).data.toList x.wh = B2 from HM.out.2.1] at h8
  refine (h8).mono ?_
  rintro _ w3 ⟨rfl, h2, h3⟩
  have G3 : Hid (CS b w.heap.size (w.heap.size + 1) (l ++ ([117, 112, 100, 97, 116, 101, 32] ++ (x.table.data.toList ++ [32, 115, 101, 116, 32])) ++ M1 ++ B2) sv x w w3) := G2.out.step (e := .returned (.tuple #[])) ⟨rfl, h2, h3⟩
  clear h2 h3 h8
  clear HT
  have GE : Hid (WS b (l ++ R) w3 ∧ WK b w w3) := ⟨by rw [HM.out.2.2]; simpa only [List.append_assoc] using G3.out.ws, G3.out.wk⟩
  go_wp2
  go_end0
  exact ⟨rfl, GE.out.1, GE.out.2⟩

set_option maxRecDepth 100000 in
set_option maxHeartbeats 8000000 in
theorem wstm_8 (x : Stm) (hk : x.kind = 8) (hok : StOk x) (b : Nat) (sv : SV) (l : List UInt8) (w : World) (hw : WS b l w) (hs : StB b sv x w) (hl : l.length + (stT x).length ≤ 1000000) :
    Calls Tryz.prog 29 #[.pointer (some ⟨b, 0, none⟩), .agg sv.cells] w fun r w' => Puts b l (stT x) w r w' := by
  have hmf : ∀ (fn : Fn) (first cap : Array Value) (w : World), (Instr.makeFunc fn first cap).run Tryz.prog w = .ok (.func fn first cap) w := fun _ _ _ _ => rfl
  obtain ⟨a1, c1, e1, r1⟩ := hs.cols
  obtain ⟨a2, c2, e2, r2⟩ := hs.rows
  obtain ⟨a3, c3, e3, r3⟩ := hs.sets
  obtain ⟨a4, c4, e4, r4⟩ := hs.items
  obtain ⟨a5, c5, e5, r5⟩ := hs.ord
  clear r1 r2 r3 r4 r5
  obtain ⟨k, tb, ot, co, nm, ro, se, on, wh, it, gr, od, lm⟩ := sv
  obtain rfl : k = 8 := hs.kind.trans hk
  obtain rfl : tb = x.table := hs.table
  obtain rfl : ot = x.other := hs.other
  obtain rfl : nm = x.name := hs.name
  obtain rfl : lm = x.lim := hs.lim
  obtain rfl : co = .slice a1 x.cols.length c1 := e1
  obtain rfl : ro = .slice a2 x.rows.length c2 := e2
  obtain rfl : se = .slice a3 x.sets.length c3 := e3
  obtain rfl : it = .slice a4 x.items.length c4 := e4
  obtain rfl : od = .slice a5 x.ord.length c5 := e5
  obtain ⟨W, hW⟩ : ∃ W, (w.alloc (.cells #[.pointer (some ⟨b, 0, none⟩)] 110)).alloc (.cells #[.int .i64 8, .string x.table, .string x.other, .slice a1 x.cols.length c1, .string x.name, .slice a2 x.rows.length c2, .slice a3 x.sets.length c3, .pointer on, .pointer wh, .slice a4 x.items.length c4, .pointer gr, .slice a5 x.ord.length c5, .int .i64 x.lim] 30) = W := ⟨_, rfl⟩
  have g0 := CS.begin hw hs hW
  obtain ⟨sv, hsv⟩ : ∃ s, s = (SV.mk 8 x.table x.other (.slice a1 x.cols.length c1) x.name (.slice a2 x.rows.length c2) (.slice a3 x.sets.length c3) on wh (.slice a4 x.items.length c4) gr (.slice a5 x.ord.length c5) x.lim) := ⟨_, rfl⟩
  have HSV : Hid (sv = (SV.mk 8 x.table x.other (.slice a1 x.cols.length c1) x.name (.slice a2 x.rows.length c2) (.slice a3 x.sets.length c3) on wh (.slice a4 x.items.length c4) gr (.slice a5 x.ord.length c5) x.lim)) := hsv
  rw [← hsv] at g0
  have HOK : Hid (StOk x) := hok
  have G0 : Hid (CS b w.heap.size (w.heap.size + 1) (l) sv x w W) := g0
  show Calls _ _ #[_, .agg #[.int .i64 8, .string x.table, .string x.other, .slice a1 x.cols.length c1, .string x.name, .slice a2 x.rows.length c2, .slice a3 x.sets.length c3, .pointer on, .pointer wh, .slice a4 x.items.length c4, .pointer gr, .slice a5 x.ord.length c5, .int .i64 x.lim]] _ _
  obtain ⟨R, hR⟩ : ∃ R, stT x = R := ⟨_, rfl⟩
  have HM : Hid (R = [98, 101, 103, 105, 110]) := by rw [← hR]; unfold stT; rw [hk]; rfl
  have HL : Hid (l.length + ([98, 101, 103, 105, 110] : List UInt8).length ≤ 1000000) := by show _ ≤ _; rw [← HM.out, ← hR]; exact hl
  rw [hR]
  clear  hR hl hw hs hok g0 hsv hk
  have p0 : W.cell? ⟨w.heap.size, 0, none⟩ = some (.pointer (some ⟨b, 0, none⟩)) := G0.out.pc
  have s0x1 : W.cell? ⟨w.heap.size + 1, 1, none⟩ = some (.string x.table) := by rw [G0.out.sc 1, HSV.out]; rfl
  have s0x4 : W.cell? ⟨w.heap.size + 1, 4, none⟩ = some (.string x.name) := by rw [G0.out.sc 4, HSV.out]; rfl
  have s0x0 : W.cell? ⟨w.heap.size + 1, 0, none⟩ = some (.int .i64 8) := by rw [G0.out.sc 0, HSV.out]; rfl
  go_enter Tryz.func29, Tryz.ntmps29
  go_wp2_with fail
  refine (put1 b _ ⟨#[98, 101, 103, 105, 110]⟩ W G0.out.ws (by have h9 := HL.out; simp only [List.length_cons, List.length_nil] at h9 ⊢; omega)).mono ?_
  rintro _ w1 ⟨rfl, h2, h3⟩
  have G1 : Hid (CS b w.heap.size (w.heap.size + 1) (l ++ [98, 101, 103, 105, 110]) sv x w w1) := G0.out.step (e := .returned (.tuple #[])) ⟨rfl, h2, h3⟩
  clear h2 h3
  have GE : Hid (WS b (l ++ R) w1 ∧ WK b w w1) := ⟨by rw [HM.out]; simpa only [List.append_assoc] using G1.out.ws, G1.out.wk⟩
  go_wp2
  go_end0
  exact ⟨rfl, GE.out.1, GE.out.2⟩

set_option maxRecDepth 100000 in
set_option maxHeartbeats 8000000 in
theorem wstm_9 (x : Stm) (hk : x.kind = 9) (hok : StOk x) (b : Nat) (sv : SV) (l : List UInt8) (w : World) (hw : WS b l w) (hs : StB b sv x w) (hl : l.length + (stT x).length ≤ 1000000) :
    Calls Tryz.prog 29 #[.pointer (some ⟨b, 0, none⟩), .agg sv.cells] w fun r w' => Puts b l (stT x) w r w' := by
  have hmf : ∀ (fn : Fn) (first cap : Array Value) (w : World), (Instr.makeFunc fn first cap).run Tryz.prog w = .ok (.func fn first cap) w := fun _ _ _ _ => rfl
  obtain ⟨a1, c1, e1, r1⟩ := hs.cols
  obtain ⟨a2, c2, e2, r2⟩ := hs.rows
  obtain ⟨a3, c3, e3, r3⟩ := hs.sets
  obtain ⟨a4, c4, e4, r4⟩ := hs.items
  obtain ⟨a5, c5, e5, r5⟩ := hs.ord
  clear r1 r2 r3 r4 r5
  obtain ⟨k, tb, ot, co, nm, ro, se, on, wh, it, gr, od, lm⟩ := sv
  obtain rfl : k = 9 := hs.kind.trans hk
  obtain rfl : tb = x.table := hs.table
  obtain rfl : ot = x.other := hs.other
  obtain rfl : nm = x.name := hs.name
  obtain rfl : lm = x.lim := hs.lim
  obtain rfl : co = .slice a1 x.cols.length c1 := e1
  obtain rfl : ro = .slice a2 x.rows.length c2 := e2
  obtain rfl : se = .slice a3 x.sets.length c3 := e3
  obtain rfl : it = .slice a4 x.items.length c4 := e4
  obtain rfl : od = .slice a5 x.ord.length c5 := e5
  obtain ⟨W, hW⟩ : ∃ W, (w.alloc (.cells #[.pointer (some ⟨b, 0, none⟩)] 110)).alloc (.cells #[.int .i64 9, .string x.table, .string x.other, .slice a1 x.cols.length c1, .string x.name, .slice a2 x.rows.length c2, .slice a3 x.sets.length c3, .pointer on, .pointer wh, .slice a4 x.items.length c4, .pointer gr, .slice a5 x.ord.length c5, .int .i64 x.lim] 30) = W := ⟨_, rfl⟩
  have g0 := CS.begin hw hs hW
  obtain ⟨sv, hsv⟩ : ∃ s, s = (SV.mk 9 x.table x.other (.slice a1 x.cols.length c1) x.name (.slice a2 x.rows.length c2) (.slice a3 x.sets.length c3) on wh (.slice a4 x.items.length c4) gr (.slice a5 x.ord.length c5) x.lim) := ⟨_, rfl⟩
  have HSV : Hid (sv = (SV.mk 9 x.table x.other (.slice a1 x.cols.length c1) x.name (.slice a2 x.rows.length c2) (.slice a3 x.sets.length c3) on wh (.slice a4 x.items.length c4) gr (.slice a5 x.ord.length c5) x.lim)) := hsv
  rw [← hsv] at g0
  have HOK : Hid (StOk x) := hok
  have G0 : Hid (CS b w.heap.size (w.heap.size + 1) (l) sv x w W) := g0
  show Calls _ _ #[_, .agg #[.int .i64 9, .string x.table, .string x.other, .slice a1 x.cols.length c1, .string x.name, .slice a2 x.rows.length c2, .slice a3 x.sets.length c3, .pointer on, .pointer wh, .slice a4 x.items.length c4, .pointer gr, .slice a5 x.ord.length c5, .int .i64 x.lim]] _ _
  obtain ⟨R, hR⟩ : ∃ R, stT x = R := ⟨_, rfl⟩
  have HM : Hid (R = [99, 111, 109, 109, 105, 116]) := by rw [← hR]; unfold stT; rw [hk]; rfl
  have HL : Hid (l.length + ([99, 111, 109, 109, 105, 116] : List UInt8).length ≤ 1000000) := by show _ ≤ _; rw [← HM.out, ← hR]; exact hl
  rw [hR]
  clear  hR hl hw hs hok g0 hsv hk
  have p0 : W.cell? ⟨w.heap.size, 0, none⟩ = some (.pointer (some ⟨b, 0, none⟩)) := G0.out.pc
  have s0x1 : W.cell? ⟨w.heap.size + 1, 1, none⟩ = some (.string x.table) := by rw [G0.out.sc 1, HSV.out]; rfl
  have s0x4 : W.cell? ⟨w.heap.size + 1, 4, none⟩ = some (.string x.name) := by rw [G0.out.sc 4, HSV.out]; rfl
  have s0x0 : W.cell? ⟨w.heap.size + 1, 0, none⟩ = some (.int .i64 9) := by rw [G0.out.sc 0, HSV.out]; rfl
  go_enter Tryz.func29, Tryz.ntmps29
  go_wp2_with fail
  refine (put1 b _ ⟨#[99, 111, 109, 109, 105, 116]⟩ W G0.out.ws (by have h9 := HL.out; simp only [List.length_cons, List.length_nil] at h9 ⊢; omega)).mono ?_
  rintro _ w1 ⟨rfl, h2, h3⟩
  have G1 : Hid (CS b w.heap.size (w.heap.size + 1) (l ++ [99, 111, 109, 109, 105, 116]) sv x w w1) := G0.out.step (e := .returned (.tuple #[])) ⟨rfl, h2, h3⟩
  clear h2 h3
  have GE : Hid (WS b (l ++ R) w1 ∧ WK b w w1) := ⟨by rw [HM.out]; simpa only [List.append_assoc] using G1.out.ws, G1.out.wk⟩
  go_wp2
  go_end0
  exact ⟨rfl, GE.out.1, GE.out.2⟩

set_option maxRecDepth 100000 in
set_option maxHeartbeats 8000000 in
theorem wstm_10 (x : Stm) (hk : x.kind = 10) (hok : StOk x) (b : Nat) (sv : SV) (l : List UInt8) (w : World) (hw : WS b l w) (hs : StB b sv x w) (hl : l.length + (stT x).length ≤ 1000000) :
    Calls Tryz.prog 29 #[.pointer (some ⟨b, 0, none⟩), .agg sv.cells] w fun r w' => Puts b l (stT x) w r w' := by
  have hmf : ∀ (fn : Fn) (first cap : Array Value) (w : World), (Instr.makeFunc fn first cap).run Tryz.prog w = .ok (.func fn first cap) w := fun _ _ _ _ => rfl
  obtain ⟨a1, c1, e1, r1⟩ := hs.cols
  obtain ⟨a2, c2, e2, r2⟩ := hs.rows
  obtain ⟨a3, c3, e3, r3⟩ := hs.sets
  obtain ⟨a4, c4, e4, r4⟩ := hs.items
  obtain ⟨a5, c5, e5, r5⟩ := hs.ord
  clear r1 r2 r3 r4 r5
  obtain ⟨k, tb, ot, co, nm, ro, se, on, wh, it, gr, od, lm⟩ := sv
  obtain rfl : k = 10 := hs.kind.trans hk
  obtain rfl : tb = x.table := hs.table
  obtain rfl : ot = x.other := hs.other
  obtain rfl : nm = x.name := hs.name
  obtain rfl : lm = x.lim := hs.lim
  obtain rfl : co = .slice a1 x.cols.length c1 := e1
  obtain rfl : ro = .slice a2 x.rows.length c2 := e2
  obtain rfl : se = .slice a3 x.sets.length c3 := e3
  obtain rfl : it = .slice a4 x.items.length c4 := e4
  obtain rfl : od = .slice a5 x.ord.length c5 := e5
  obtain ⟨W, hW⟩ : ∃ W, (w.alloc (.cells #[.pointer (some ⟨b, 0, none⟩)] 110)).alloc (.cells #[.int .i64 10, .string x.table, .string x.other, .slice a1 x.cols.length c1, .string x.name, .slice a2 x.rows.length c2, .slice a3 x.sets.length c3, .pointer on, .pointer wh, .slice a4 x.items.length c4, .pointer gr, .slice a5 x.ord.length c5, .int .i64 x.lim] 30) = W := ⟨_, rfl⟩
  have g0 := CS.begin hw hs hW
  obtain ⟨sv, hsv⟩ : ∃ s, s = (SV.mk 10 x.table x.other (.slice a1 x.cols.length c1) x.name (.slice a2 x.rows.length c2) (.slice a3 x.sets.length c3) on wh (.slice a4 x.items.length c4) gr (.slice a5 x.ord.length c5) x.lim) := ⟨_, rfl⟩
  have HSV : Hid (sv = (SV.mk 10 x.table x.other (.slice a1 x.cols.length c1) x.name (.slice a2 x.rows.length c2) (.slice a3 x.sets.length c3) on wh (.slice a4 x.items.length c4) gr (.slice a5 x.ord.length c5) x.lim)) := hsv
  rw [← hsv] at g0
  have HOK : Hid (StOk x) := hok
  have G0 : Hid (CS b w.heap.size (w.heap.size + 1) (l) sv x w W) := g0
  show Calls _ _ #[_, .agg #[.int .i64 10, .string x.table, .string x.other, .slice a1 x.cols.length c1, .string x.name, .slice a2 x.rows.length c2, .slice a3 x.sets.length c3, .pointer on, .pointer wh, .slice a4 x.items.length c4, .pointer gr, .slice a5 x.ord.length c5, .int .i64 x.lim]] _ _
  obtain ⟨R, hR⟩ : ∃ R, stT x = R := ⟨_, rfl⟩
  have HM : Hid (R = [114, 111, 108, 108, 98, 97, 99, 107]) := by rw [← hR]; unfold stT; rw [hk]; rfl
  have HL : Hid (l.length + ([114, 111, 108, 108, 98, 97, 99, 107] : List UInt8).length ≤ 1000000) := by show _ ≤ _; rw [← HM.out, ← hR]; exact hl
  rw [hR]
  clear  hR hl hw hs hok g0 hsv hk
  have p0 : W.cell? ⟨w.heap.size, 0, none⟩ = some (.pointer (some ⟨b, 0, none⟩)) := G0.out.pc
  have s0x1 : W.cell? ⟨w.heap.size + 1, 1, none⟩ = some (.string x.table) := by rw [G0.out.sc 1, HSV.out]; rfl
  have s0x4 : W.cell? ⟨w.heap.size + 1, 4, none⟩ = some (.string x.name) := by rw [G0.out.sc 4, HSV.out]; rfl
  have s0x0 : W.cell? ⟨w.heap.size + 1, 0, none⟩ = some (.int .i64 10) := by rw [G0.out.sc 0, HSV.out]; rfl
  go_enter Tryz.func29, Tryz.ntmps29
  go_wp2_with fail
  refine (put1 b _ ⟨#[114, 111, 108, 108, 98, 97, 99, 107]⟩ W G0.out.ws (by have h9 := HL.out; simp only [List.length_cons, List.length_nil] at h9 ⊢; omega)).mono ?_
  rintro _ w1 ⟨rfl, h2, h3⟩
  have G1 : Hid (CS b w.heap.size (w.heap.size + 1) (l ++ [114, 111, 108, 108, 98, 97, 99, 107]) sv x w w1) := G0.out.step (e := .returned (.tuple #[])) ⟨rfl, h2, h3⟩
  clear h2 h3
  have GE : Hid (WS b (l ++ R) w1 ∧ WK b w w1) := ⟨by rw [HM.out]; simpa only [List.append_assoc] using G1.out.ws, G1.out.wk⟩
  go_wp2
  go_end0
  exact ⟨rfl, GE.out.1, GE.out.2⟩

set_option maxRecDepth 100000 in
set_option maxHeartbeats 8000000 in
theorem wstm_7 (x : Stm) (hk : x.kind = 7) (hok : StOk x) (b : Nat) (sv : SV) (l : List UInt8) (w : World) (hw : WS b l w) (hs : StB b sv x w) (hl : l.length + (stT x).length ≤ 1000000) :
    Calls Tryz.prog 29 #[.pointer (some ⟨b, 0, none⟩), .agg sv.cells] w fun r w' => Puts b l (stT x) w r w' := by
  have hmf : ∀ (fn : Fn) (first cap : Array Value) (w : World), (Instr.makeFunc fn first cap).run Tryz.prog w = .ok (.func fn first cap) w := fun _ _ _ _ => rfl
  obtain ⟨a1, c1, e1, r1⟩ := hs.cols
  obtain ⟨a2, c2, e2, r2⟩ := hs.rows
  obtain ⟨a3, c3, e3, r3⟩ := hs.sets
  obtain ⟨a4, c4, e4, r4⟩ := hs.items
  obtain ⟨a5, c5, e5, r5⟩ := hs.ord
  clear r1 r2 r3 r4 r5
  obtain ⟨k, tb, ot, co, nm, ro, se, on, wh, it, gr, od, lm⟩ := sv
  obtain rfl : k = 7 := hs.kind.trans hk
  obtain rfl : tb = x.table := hs.table
  obtain rfl : ot = x.other := hs.other
  obtain rfl : nm = x.name := hs.name
  obtain rfl : lm = x.lim := hs.lim
  obtain rfl : co = .slice a1 x.cols.length c1 := e1
  obtain rfl : ro = .slice a2 x.rows.length c2 := e2
  obtain rfl : se = .slice a3 x.sets.length c3 := e3
  obtain rfl : it = .slice a4 x.items.length c4 := e4
  obtain rfl : od = .slice a5 x.ord.length c5 := e5
  obtain ⟨W, hW⟩ : ∃ W, (w.alloc (.cells #[.pointer (some ⟨b, 0, none⟩)] 110)).alloc (.cells #[.int .i64 7, .string x.table, .string x.other, .slice a1 x.cols.length c1, .string x.name, .slice a2 x.rows.length c2, .slice a3 x.sets.length c3, .pointer on, .pointer wh, .slice a4 x.items.length c4, .pointer gr, .slice a5 x.ord.length c5, .int .i64 x.lim] 30) = W := ⟨_, rfl⟩
  have g0 := CS.begin hw hs hW
  obtain ⟨sv, hsv⟩ : ∃ s, s = (SV.mk 7 x.table x.other (.slice a1 x.cols.length c1) x.name (.slice a2 x.rows.length c2) (.slice a3 x.sets.length c3) on wh (.slice a4 x.items.length c4) gr (.slice a5 x.ord.length c5) x.lim) := ⟨_, rfl⟩
  have HSV : Hid (sv = (SV.mk 7 x.table x.other (.slice a1 x.cols.length c1) x.name (.slice a2 x.rows.length c2) (.slice a3 x.sets.length c3) on wh (.slice a4 x.items.length c4) gr (.slice a5 x.ord.length c5) x.lim)) := hsv
  rw [← hsv] at g0
  have HOK : Hid (StOk x) := hok
  have G0 : Hid (CS b w.heap.size (w.heap.size + 1) (l) sv x w W) := g0
  show Calls _ _ #[_, .agg #[.int .i64 7, .string x.table, .string x.other, .slice a1 x.cols.length c1, .string x.name, .slice a2 x.rows.length c2, .slice a3 x.sets.length c3, .pointer on, .pointer wh, .slice a4 x.items.length c4, .pointer gr, .slice a5 x.ord.length c5, .int .i64 x.lim]] _ _
  obtain ⟨R, hR⟩ : ∃ R, stT x = R := ⟨_, rfl⟩
  have HM : Hid (R = choT x) := by rw [← hR]; unfold stT; rw [hk]; rfl
  have HL : Hid (l.length + (choT x : List UInt8).length ≤ 1000000) := by show _ ≤ _; rw [← HM.out, ← hR]; exact hl
  rw [hR]
  clear  hR hl hw hs hok g0 hsv hk
  have p0 : W.cell? ⟨w.heap.size, 0, none⟩ = some (.pointer (some ⟨b, 0, none⟩)) := G0.out.pc
  have s0x1 : W.cell? ⟨w.heap.size + 1, 1, none⟩ = some (.string x.table) := by rw [G0.out.sc 1, HSV.out]; rfl
  have s0x4 : W.cell? ⟨w.heap.size + 1, 4, none⟩ = some (.string x.name) := by rw [G0.out.sc 4, HSV.out]; rfl
  have s0x0 : W.cell? ⟨w.heap.size + 1, 0, none⟩ = some (.int .i64 7) := by rw [G0.out.sc 0, HSV.out]; rfl
  go_enter Tryz.func29, Tryz.ntmps29
  have CW : Hid (W.rangeAt (w.heap.size + 1) 0 sv.cells.toList) := G0.out.st.range
  go_wp2_with (refine wpList_load_mid rfl 30 _ rfl _ 0 rfl sv.cells.toList _ CW.out Tryz.underlying30 rfl (s30 sv) ?_)
  refine (wchoice_any x HOK.out b sv l W G0.out.ws G0.out.tr (by have h9 := HL.out; exact h9)).mono ?_
  rintro _ w1 ⟨rfl, h2, h3⟩
  have G1 : Hid (CS b w.heap.size (w.heap.size + 1) (l ++ choT x) sv x w w1) := G0.out.step (e := .returned (.tuple #[])) ⟨rfl, h2, h3⟩
  clear h2 h3
  have GE : Hid (WS b (l ++ R) w1 ∧ WK b w w1) := ⟨by rw [HM.out]; simpa only [List.append_assoc] using G1.out.ws, G1.out.wk⟩
  go_wp2
  go_end0
  exact ⟨rfl, GE.out.1, GE.out.2⟩
theorem wstatement_any (x : Stm) (h1 : 1 ≤ x.kind) (h10 : x.kind ≤ 10) (hok : StOk x) (b : Nat) (sv : SV) (l : List UInt8) (w : World) (hw : WS b l w) (hs : StB b sv x w) (hl : l.length + (stT x).length ≤ 1000000) :
    Calls Tryz.prog 29 #[.pointer (some ⟨b, 0, none⟩), .agg sv.cells] w fun r w' => Puts b l (stT x) w r w' := by
  have c : x.kind = 1 ∨ x.kind = 2 ∨ x.kind = 3 ∨ x.kind = 4 ∨ x.kind = 5 ∨ x.kind = 6 ∨ x.kind = 7 ∨ x.kind = 8 ∨ x.kind = 9 ∨ x.kind = 10 := by omega
  rcases c with c | c | c | c | c | c | c | c | c | c
  · exact wstm_1 x c hok b sv l w hw hs hl
  · exact wstm_2 x c hok b sv l w hw hs hl
  · exact wstm_3 x c hok b sv l w hw hs hl
  · exact wstm_4 x c hok b sv l w hw hs hl
  · exact wstm_5 x c hok b sv l w hw hs hl
  · exact wstm_6 x c hok b sv l w hw hs hl
  · exact wstm_7 x c hok b sv l w hw hs hl
  · exact wstm_8 x c hok b sv l w hw hs hl
  · exact wstm_9 x c hok b sv l w hw hs hl
  · exact wstm_10 x c hok b sv l w hw hs hl
end Go.Proofs.YtbdcbaamjkjhaaaGreatDoor
