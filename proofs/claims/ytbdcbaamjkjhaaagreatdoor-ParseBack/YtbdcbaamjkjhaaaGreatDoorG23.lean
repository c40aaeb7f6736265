/- Part 23 of 39. -/
import Derived.Test.YtbdcbaamjkjhaaaGreatDoorG22
namespace Go.Proofs.YtbdcbaamjkjhaaaGreatDoor
open Go.RowKit

set_option maxRecDepth 100000 in
set_option maxHeartbeats 16000000 in
theorem wchoice_any (x : Stm) (hok : StOk x) (b : Nat) (sv : SV) (l : List UInt8) (w : World) (hw : WS b l w) (hs : StB b sv x w) (hl : l.length + (choT x).length ≤ 1000000) :
    Calls Tryz.prog 62 #[.pointer (some ⟨b, 0, none⟩), .agg sv.cells] w fun r w' => Puts b l (choT x) w r w' := by
  have hmf : ∀ (fn : Fn) (first cap : Array Value) (w : World), (Instr.makeFunc fn first cap).run Tryz.prog w = .ok (.func fn first cap) w := fun _ _ _ _ => rfl
  obtain ⟨a1, c1, e1, r1⟩ := hs.cols
  obtain ⟨a2, c2, e2, r2⟩ := hs.rows
  obtain ⟨a3, c3, e3, r3⟩ := hs.sets
  obtain ⟨a4, c4, e4, r4⟩ := hs.items
  obtain ⟨a5, c5, e5, r5⟩ := hs.ord
  clear r1 r2 r3 r4 r5
  obtain ⟨k, tb, ot, co, nm, ro, se, on, wh, it, gr, od, lm⟩ := sv
  obtain rfl : k = x.kind := hs.kind
  obtain rfl : tb = x.table := hs.table
  obtain rfl : ot = x.other := hs.other
  obtain rfl : nm = x.name := hs.name
  obtain rfl : lm = x.lim := hs.lim
  obtain rfl : co = .slice a1 x.cols.length c1 := e1
  obtain rfl : ro = .slice a2 x.rows.length c2 := e2
  obtain rfl : se = .slice a3 x.sets.length c3 := e3
  obtain rfl : it = .slice a4 x.items.length c4 := e4
  obtain rfl : od = .slice a5 x.ord.length c5 := e5
  obtain ⟨W, hW⟩ : ∃ W, (w.alloc (.cells #[.pointer (some ⟨b, 0, none⟩)] 110)).alloc (.cells #[.int .i64 x.kind, .string x.table, .string x.other, .slice a1 x.cols.length c1, .string x.name, .slice a2 x.rows.length c2, .slice a3 x.sets.length c3, .pointer on, .pointer wh, .slice a4 x.items.length c4, .pointer gr, .slice a5 x.ord.length c5, .int .i64 x.lim] 30) = W := ⟨_, rfl⟩
  have g0 := CS.begin hw hs hW
  obtain ⟨sv, hsv⟩ : ∃ s, s = (SV.mk x.kind x.table x.other (.slice a1 x.cols.length c1) x.name (.slice a2 x.rows.length c2) (.slice a3 x.sets.length c3) on wh (.slice a4 x.items.length c4) gr (.slice a5 x.ord.length c5) x.lim) := ⟨_, rfl⟩
  have HSV : Hid (sv = (SV.mk x.kind x.table x.other (.slice a1 x.cols.length c1) x.name (.slice a2 x.rows.length c2) (.slice a3 x.sets.length c3) on wh (.slice a4 x.items.length c4) gr (.slice a5 x.ord.length c5) x.lim)) := hsv
  rw [← hsv] at g0
  have HOK : Hid (StOk x) := hok
  have G0 : Hid (CS b w.heap.size (w.heap.size + 1) (l) sv x w W) := g0
  show Calls _ _ #[_, .agg #[.int .i64 x.kind, .string x.table, .string x.other, .slice a1 x.cols.length c1, .string x.name, .slice a2 x.rows.length c2, .slice a3 x.sets.length c3, .pointer on, .pointer wh, .slice a4 x.items.length c4, .pointer gr, .slice a5 x.ord.length c5, .int .i64 x.lim]] _ _
  have i1 : (if x.items.length = 0 then [42] else ([] : List UInt8)).length = if x.items.length = 0 then 1 else 0 := by split <;> rfl
  have i2 : (joinB x.other x.on).length = if x.other.size = 0 then 0 else 6 + x.other.data.toList.length + (behT [32, 111, 110, 32] x.on).length := by rw [joinB]; split; (rfl); (simp only [List.length_append, List.length_cons, List.length_nil]; try omega)
  have i3 : (if x.ord.length = 0 then ([] : List UInt8) else [32, 111, 114, 100, 101, 114, 32, 98, 121, 32]).length = if x.ord.length = 0 then 0 else 10 := by split <;> rfl
  have i4 : (limB x.lim).length = if x.lim < 0 then 0 else 7 + (Lib.itoa x.lim).length := by rw [limB]; split; (rfl); (simp only [List.length_append, List.length_cons, List.length_nil]; try omega)
  have HL : Hid (l.length + (7 + ((if x.items.length = 0 then 1 else 0) + (lstT (fun i => (fun x : (Int × Ex) => itemT x.1 x.2) (x.items.getD i (0, .nil))) x.items.length).length + ((6 + x.table.data.toList.length) + ((if x.other.size = 0 then 0 else 6 + x.other.data.toList.length + (behT [32, 111, 110, 32] x.on).length) + ((behT [32, 119, 104, 101, 114, 101, 32] x.wh).length + ((behT [32, 103, 114, 111, 117, 112, 32, 98, 121, 32] x.grp).length + ((if x.ord.length = 0 then 0 else 10) + (lstT (fun i => (fun x : (Ex × Bool) => rankT x.1 x.2) (x.ord.getD i (.nil, false))) x.ord.length).length + (if x.lim < 0 then 0 else 7 + (Lib.itoa x.lim).length)))))))) ≤ 1000000) := by
    show _ ≤ _
    refine Nat.le_trans (Nat.le_of_eq ?_) hl
    rw [choT, itsB, ordB]
    simp only [List.length_append, i1, i2, i3, i4, List.length_cons, List.length_nil]
    try omega
  have HI : Hid ((if x.items.length = 0 then [42] else ([] : List UInt8)).length = (if x.items.length = 0 then 1 else 0) ∧ (joinB x.other x.on).length = (if x.other.size = 0 then 0 else 6 + x.other.data.toList.length + (behT [32, 111, 110, 32] x.on).length) ∧ (if x.ord.length = 0 then ([] : List UInt8) else [32, 111, 114, 100, 101, 114, 32, 98, 121, 32]).length = (if x.ord.length = 0 then 0 else 10)) := ⟨i1, i2, i3⟩
  obtain ⟨M1, hM1⟩ : ∃ M, lstT (fun i => (fun x : (Int × Ex) => itemT x.1 x.2) (x.items.getD i (0, .nil))) x.items.length = M := ⟨_, rfl⟩
  obtain ⟨M2, hM2⟩ : ∃ M, lstT (fun i => (fun x : (Ex × Bool) => rankT x.1 x.2) (x.ord.getD i (.nil, false))) x.ord.length = M := ⟨_, rfl⟩
  obtain ⟨B1, hB1⟩ : ∃ M, behT [32, 111, 110, 32] x.on = M := ⟨_, rfl⟩
  obtain ⟨B2, hB2⟩ : ∃ M, behT [32, 119, 104, 101, 114, 101, 32] x.wh = M := ⟨_, rfl⟩
  obtain ⟨B3, hB3⟩ : ∃ M, behT [32, 103, 114, 111, 117, 112, 32, 98, 121, 32] x.grp = M := ⟨_, rfl⟩
  obtain ⟨J1, hJ1⟩ : ∃ M, joinB x.other x.on = M := ⟨_, rfl⟩
  obtain ⟨R, hR⟩ : ∃ R, choT x = R := ⟨_, rfl⟩
  have HM : Hid (lstT (fun i => (fun x : (Int × Ex) => itemT x.1 x.2) (x.items.getD i (0, .nil))) x.items.length = M1 ∧ lstT (fun i => (fun x : (Ex × Bool) => rankT x.1 x.2) (x.ord.getD i (.nil, false))) x.ord.length = M2 ∧ behT [32, 111, 110, 32] x.on = B1 ∧ behT [32, 119, 104, 101, 114, 101, 32] x.wh = B2 ∧ behT [32, 103, 114, 111, 117, 112, 32, 98, 121, 32] x.grp = B3 ∧ joinB x.other x.on = J1 ∧ choT x = R) := ⟨hM1, hM2, hB1, hB2, hB3, hJ1, hR⟩
  rw [hR]
  rw [hM1, hM2, hB1, hB2, hB3] at HL
  rw [hB1, hJ1] at HI
  clear hM1 hM2 hB1 hB2 hB3 hJ1 hR hl hw hs hok g0 hsv i1 i2 i3 i4
  have p0 : W.cell? ⟨w.heap.size, 0, none⟩ = some (.pointer (some ⟨b, 0, none⟩)) := G0.out.pc
  go_enter Tryz.func62, Tryz.ntmps62
  go_wp2_with fail
  refine (put1 b _ ⟨#[115, 101, 108, 101, 99, 116, 32]⟩ W G0.out.ws (by have h9 := HL.out; simp only [List.length_cons, List.length_nil] at h9 ⊢; omega)).mono ?_
  rintro _ w1 ⟨rfl, h2, h3⟩
  have G1 : Hid (CS b w.heap.size (w.heap.size + 1) (l ++ [115, 101, 108, 101, 99, 116, 32]) sv x w w1) := G0.out.step (e := .returned (.tuple #[])) ⟨rfl, h2, h3⟩
  clear h2 h3
  have p1 : w1.cell? ⟨w.heap.size, 0, none⟩ = some (.pointer (some ⟨b, 0, none⟩)) := G1.out.pc
  have s1x9 : w1.cell? ⟨w.heap.size + 1, 9, none⟩ = some (.slice a4 x.items.length c4) := by rw [G1.out.sc 9, HSV.out]; rfl
  obtain ⟨b4, hb4⟩ : ∃ q, ((x.items.length : Int) == 0) = q := ⟨_, rfl⟩
  have Hb4 : Hid (((x.items.length : Int) == 0) = b4) := hb4
  go_upto_if 10 with fail
  go_cut [] (fun wx => Hid (CS b w.heap.size (w.heap.size + 1) (l ++ [115, 101, 108, 101, 99, 116, 32] ++ (if x.items.length = 0 then [42] else ([] : List UInt8))) sv x w wx))
  case first =>
    clear hb4
    cases b4
    · skip
      have hne : ¬ x.items.length = 0 := by have h9 := Hb4.out; simpa using h9
      have G2 : Hid (CS b w.heap.size (w.heap.size + 1) (l ++ [115, 101, 108, 101, 99, 116, 32] ++ (if x.items.length = 0 then [42] else ([] : List UInt8))) sv x w w1) := by show CS _ _ _ _ _ _ _ _; rw [if_neg hne, List.append_nil]; exact G1.out
      clear hne
      go_wp2_with fail
      go_meet
      case rel => exact G2
    · skip
      have heq : x.items.length = 0 := by have h9 := Hb4.out; simpa using h9
      have HL2 : Hid (l.length + 7 + 1 ≤ 1000000) := by show _ ≤ _; have h9 := HL.out; rw [if_pos heq] at h9; omega
      have HQ : Hid (x.items.length = 0) := heq
      clear heq
      go_wp2_with fail
      refine (put1 b _ ⟨#[42]⟩ w1 G1.out.ws (by have h9 := HL2.out; simp only [List.length_append, List.length_cons, List.length_nil] at h9 ⊢; omega)).mono ?_
      rintro _ w2 ⟨rfl, h2, h3⟩
      have G2 : Hid (CS b w.heap.size (w.heap.size + 1) (l ++ [115, 101, 108, 101, 99, 116, 32] ++ (if x.items.length = 0 then [42] else ([] : List UInt8))) sv x w w2) := by show CS _ _ _ _ _ _ _ _; rw [if_pos HQ.out]; exact G1.out.step (e := .returned (.tuple #[])) ⟨rfl, h2, h3⟩
      clear h2 h3
      go_wp2_with fail
      go_meet
      case rel => exact G2
  case rest =>
  have G3x : Hid (CS b w.heap.size (w.heap.size + 1) (l ++ [115, 101, 108, 101, 99, 116, 32] ++ (if x.items.length = 0 then [42] else ([] : List UInt8))) sv x w wc) := hcut
  clear hcut
  obtain ⟨w3, hw3⟩ : ∃ u, u = wc := ⟨_, rfl⟩
  subst hw3
  have G3 : Hid (CS b w.heap.size (w.heap.size + 1) (l ++ [115, 101, 108, 101, 99, 116, 32] ++ (if x.items.length = 0 then [42] else ([] : List UInt8))) sv x w w3) := G3x
  clear G3x
  have p3 : w3.cell? ⟨w.heap.size, 0, none⟩ = some (.pointer (some ⟨b, 0, none⟩)) := G3.out.pc
  have s3x9 : w3.cell? ⟨w.heap.size + 1, 9, none⟩ = some (.slice a4 x.items.length c4) := by rw [G3.out.sc 9, HSV.out]; rfl
  obtain ⟨r4a, r4c, r4e, r4⟩ := G3.out.tr.items
  have r4e2 : Value.slice a4 x.items.length c4 = Value.slice r4a x.items.length r4c := by have h9 := r4e; rw [HSV.out] at h9; exact h9
  obtain ⟨q1, q2⟩ : a4 = r4a ∧ c4 = r4c := by cases r4e2; exact ⟨rfl, rfl⟩
  subst q1; subst q2
  have HST : Hid (StI (·.items) b w.heap.size (w.heap.size + 1) 2 (ElWI b) sv a4 c4 x.items w3) := ⟨G3.out.wr, G3.out.st, r4e, r4, G3.out.q0⟩
  clear r4e r4 r4e2
  go_wp2_with fail
  have h8 := wli_wi (StI.kept (ElWI.keeps b)) (cl_wi HOK.out.items) HOK.out.n4 _ w3 G3.out.ws HST.out (by rw [HM.out.1]; exact (by have h9 := HL.out; have j1 := HI.out.1; have j2 := HI.out.2.1; have j3 := HI.out.2.2; simp only [List.length_append, List.length_cons, List.length_nil] at h9 ⊢; omega))
  rw [HM.out.1] at h8
  refine (h8).mono ?_
  rintro _ w4 ⟨rfl, h2, h3⟩
  have G4 : Hid (CS b w.heap.size (w.heap.size + 1) (l ++ [115, 101, 108, 101, 99, 116, 32] ++ (if x.items.length = 0 then [42] else ([] : List UInt8)) ++ M1) sv x w w4) := G3.out.step (e := .returned (.tuple #[])) ⟨rfl, h2, h3⟩
  clear h2 h3 h8
  clear HST
  have p4 : w4.cell? ⟨w.heap.size, 0, none⟩ = some (.pointer (some ⟨b, 0, none⟩)) := G4.out.pc
  have s4x1 : w4.cell? ⟨w.heap.size + 1, 1, none⟩ = some (.string x.table) := by rw [G4.out.sc 1, HSV.out]; rfl
  go_wp2_with fail
  refine (put2 b _ ⟨#[32, 102, 114, 111, 109, 32]⟩ x.table w4 G4.out.ws (by have h9 := HL.out; have j1 := HI.out.1; have j2 := HI.out.2.1; have j3 := HI.out.2.2; simp only [List.length_append, List.length_cons, List.length_nil] at h9 ⊢; omega)).mono ?_
  rintro _ w5 ⟨rfl, h2, h3⟩
  have G5 : Hid (CS b w.heap.size (w.heap.size + 1) (l ++ [115, 101, 108, 101, 99, 116, 32] ++ (if x.items.length = 0 then [42] else ([] : List UInt8)) ++ M1 ++ ([32, 102, 114, 111, 109, 32] ++ x.table.data.toList)) sv x w w5) := G4.out.step (e := .returned (.tuple #[])) ⟨rfl, h2, h3⟩
  clear h2 h3
  have p5 : w5.cell? ⟨w.heap.size, 0, none⟩ = some (.pointer (some ⟨b, 0, none⟩)) := G5.out.pc
  have s5x2 : w5.cell? ⟨w.heap.size + 1, 2, none⟩ = some (.string x.other) := by rw [G5.out.sc 2, HSV.out]; rfl
  obtain ⟨b5, hb5⟩ : ∃ q, x.other.toList.isEmpty = q := ⟨_, rfl⟩
  have Hb5 : Hid (x.other.toList.isEmpty = b5) := hb5
  go_upto_if 27 with fail
  go_cut [] (fun wx => Hid (CS b w.heap.size (w.heap.size + 1) (l ++ [115, 101, 108, 101, 99, 116, 32] ++ (if x.items.length = 0 then [42] else ([] : List UInt8)) ++ M1 ++ ([32, 102, 114, 111, 109, 32] ++ x.table.data.toList) ++ J1) sv x w wx))
  case first =>
    clear hb5
    cases b5
    · skip
      have hne : ¬ x.other.size = 0 := by have h9 := Hb5.out; intro e; rw [ByteArray.toList_eq, ← Bool.not_eq_true, List.isEmpty_iff] at h9; exact h9 (List.length_eq_zero_iff.1 (by rw [ba_len]; exact e))
      have HQ : Hid (J1 = ([32, 106, 111, 105, 110, 32] ++ x.other.data.toList) ++ B1 ∧ l.length + (7 + ((if x.items.length = 0 then 1 else 0) + M1.length + ((6 + x.table.data.toList.length) + (6 + x.other.data.toList.length + B1.length)))) ≤ 1000000) := ⟨by rw [← HM.out.2.2.2.2.2.1, joinB, if_neg hne, HM.out.2.2.1], by have h9 := HL.out; rw [if_neg hne] at h9; omega⟩
      clear hne
      go_wp2_with fail
      refine (put2 b _ ⟨#[32, 106, 111, 105, 110, 32]⟩ x.other w5 G5.out.ws (by have h9 := HQ.out.2; have j1 := HI.out.1; simp only [List.length_append, List.length_cons, List.length_nil] at h9 ⊢; omega)).mono ?_
      rintro _ w6 ⟨rfl, h2, h3⟩
      have G6 : Hid (CS b w.heap.size (w.heap.size + 1) (l ++ [115, 101, 108, 101, 99, 116, 32] ++ (if x.items.length = 0 then [42] else ([] : List UInt8)) ++ M1 ++ ([32, 102, 114, 111, 109, 32] ++ x.table.data.toList) ++ ([32, 106, 111, 105, 110, 32] ++ x.other.data.toList)) sv x w w6) := G5.out.step (e := .returned (.tuple #[])) ⟨rfl, h2, h3⟩
      clear h2 h3
      have p6 : w6.cell? ⟨w.heap.size, 0, none⟩ = some (.pointer (some ⟨b, 0, none⟩)) := G6.out.pc
      have s6x7 : w6.cell? ⟨w.heap.size + 1, 7, none⟩ = some (.pointer on) := by rw [G6.out.sc 7, HSV.out]; rfl
      have HT : Hid (TrAt b w6 on x.on) := by have h9 := G6.out.tr.on; rw [HSV.out] at h9; exact h9
      go_wp2_with fail
      have h8 := wbehind_any x.on HOK.out.on b on ⟨#[32, 111, 110, 32]⟩ _ w6 G6.out.ws HT.out (by show _ + (behT [32, 111, 110, 32] x.on).length ≤ _; rw [HM.out.2.2.1]; exact (by have h9 := HQ.out.2; have j1 := HI.out.1; simp only [List.length_append, List.length_cons, List.length_nil] at h9 ⊢; omega))
      rw [show behT (ByteArray.mk #[32, 111, 110, 32]).data.toList x.on = B1 from HM.out.2.2.1] at h8
      refine (h8).mono ?_
      rintro _ w7 ⟨rfl, h2, h3⟩
      have G7 : Hid (CS b w.heap.size (w.heap.size + 1) (l ++ [115, 101, 108, 101, 99, 116, 32] ++ (if x.items.length = 0 then [42] else ([] : List UInt8)) ++ M1 ++ ([32, 102, 114, 111, 109, 32] ++ x.table.data.toList) ++ ([32, 106, 111, 105, 110, 32] ++ x.other.data.toList) ++ B1) sv x w w7) := G6.out.step (e := .returned (.tuple #[])) ⟨rfl, h2, h3⟩
      clear h2 h3 h8
      have G8 : Hid (CS b w.heap.size (w.heap.size + 1) (l ++ [115, 101, 108, 101, 99, 116, 32] ++ (if x.items.length = 0 then [42] else ([] : List UInt8)) ++ M1 ++ ([32, 102, 114, 111, 109, 32] ++ x.table.data.toList) ++ J1) sv x w w7) := by show CS _ _ _ _ _ _ _ _; rw [HQ.out.1]; simpa only [List.append_assoc] using G7.out
      clear HT
      go_wp2_with fail
      go_meet
      case rel => exact G8
    · skip
      have heq : x.other.size = 0 := by have h9 := Hb5.out; rw [ByteArray.toList_eq, List.isEmpty_iff] at h9; rw [← ba_len, h9]; rfl
      have G8 : Hid (CS b w.heap.size (w.heap.size + 1) (l ++ [115, 101, 108, 101, 99, 116, 32] ++ (if x.items.length = 0 then [42] else ([] : List UInt8)) ++ M1 ++ ([32, 102, 114, 111, 109, 32] ++ x.table.data.toList) ++ J1) sv x w w5) := by show CS _ _ _ _ _ _ _ _; rw [← HM.out.2.2.2.2.2.1, joinB, if_pos heq, List.append_nil]; exact G5.out
      clear heq
      go_wp2_with fail
      go_meet
      case rel => exact G8
  case rest =>
  have G9x : Hid (CS b w.heap.size (w.heap.size + 1) (l ++ [115, 101, 108, 101, 99, 116, 32] ++ (if x.items.length = 0 then [42] else ([] : List UInt8)) ++ M1 ++ ([32, 102, 114, 111, 109, 32] ++ x.table.data.toList) ++ J1) sv x w wc) := hcut
  clear hcut
  obtain ⟨w9, hw9⟩ : ∃ u, u = wc := ⟨_, rfl⟩
  subst hw9
  have G9 : Hid (CS b w.heap.size (w.heap.size + 1) (l ++ [115, 101, 108, 101, 99, 116, 32] ++ (if x.items.length = 0 then [42] else ([] : List UInt8)) ++ M1 ++ ([32, 102, 114, 111, 109, 32] ++ x.table.data.toList) ++ J1) sv x w w9) := G9x
  clear G9x
  have p9 : w9.cell? ⟨w.heap.size, 0, none⟩ = some (.pointer (some ⟨b, 0, none⟩)) := G9.out.pc
  have s9x8 : w9.cell? ⟨w.heap.size + 1, 8, none⟩ = some (.pointer wh) := by rw [G9.out.sc 8, HSV.out]; rfl
  have HT : Hid (TrAt b w9 wh x.wh) := by have h9 := G9.out.tr.wh; rw [HSV.out] at h9; exact h9
  go_wp2_with fail
  have h8 := wbehind_any x.wh HOK.out.wh b wh ⟨#[32, 119, 104, 101, 114, 101, 32]⟩ _ w9 G9.out.ws HT.out (by show _ + (behT [32, 119, 104, 101, 114, 101, 32] x.wh).length ≤ _; rw [HM.out.2.2.2.1]; exact (by have h9 := HL.out; have j1 := HI.out.1; have j2 := HI.out.2.1; have j3 := HI.out.2.2; simp only [List.length_append, List.length_cons, List.length_nil] at h9 ⊢; omega))
  rw [show behT (ByteArray.mk #[32, 119, 104, 101, 114, 101, 32]).data.toList x.wh = B2 from HM.out.2.2.2.1] at h8
  refine (h8).mono ?_
  rintro _ w10 ⟨rfl, h2, h3⟩
  have G10 : Hid (CS b w.heap.size (w.heap.size + 1) (l ++ [115, 101, 108, 101, 99, 116, 32] ++ (if x.items.length = 0 then [42] else ([] : List UInt8)) ++ M1 ++ ([32, 102, 114, 111, 109, 32] ++ x.table.data.toList) ++ J1 ++ B2) sv x w w10) := G9.out.step (e := .returned (.tuple #[])) ⟨rfl, h2, h3⟩
  clear h2 h3 h8
  clear HT
  have p10 : w10.cell? ⟨w.heap.size, 0, none⟩ = some (.pointer (some ⟨b, 0, none⟩)) := G10.out.pc
  have s10x10 : w10.cell? ⟨w.heap.size + 1, 10, none⟩ = some (.pointer gr) := by rw [G10.out.sc 10, HSV.out]; rfl
  have HT : Hid (TrAt b w10 gr x.grp) := by have h9 := G10.out.tr.grp; rw [HSV.out] at h9; exact h9
  go_wp2_with fail
  have h8 := wbehind_any x.grp HOK.out.grp b gr ⟨#[32, 103, 114, 111, 117, 112, 32, 98, 121, 32]⟩ _ w10 G10.out.ws HT.out (by show _ + (behT [32, 103, 114, 111, 117, 112, 32, 98, 121, 32] x.grp).length ≤ _; rw [HM.out.2.2.2.2.1]; exact (by have h9 := HL.out; have j1 := HI.out.1; have j2 := HI.out.2.1; have j3 := HI.out.2.2; simp only [List.length_append, List.length_cons, List.length_nil] at h9 ⊢; omega))
  rw [show behT (ByteArray.mk #[32, 103, 114, 111, 117, 112, 32, 98, 121, 32]).data.toList x.grp = B3 from HM.out.2.2.2.2.1] at h8
  refine (h8).mono ?_
  rintro _ w11 ⟨rfl, h2, h3⟩
  have G11 : Hid (CS b w.heap.size (w.heap.size + 1) (l ++ [115, 101, 108, 101, 99, 116, 32] ++ (if x.items.length = 0 then [42] else ([] : List UInt8)) ++ M1 ++ ([32, 102, 114, 111, 109, 32] ++ x.table.data.toList) ++ J1 ++ B2 ++ B3) sv x w w11) := G10.out.step (e := .returned (.tuple #[])) ⟨rfl, h2, h3⟩
  clear h2 h3 h8
  clear HT
  have p11 : w11.cell? ⟨w.heap.size, 0, none⟩ = some (.pointer (some ⟨b, 0, none⟩)) := G11.out.pc
  have s11x11 : w11.cell? ⟨w.heap.size + 1, 11, none⟩ = some (.slice a5 x.ord.length c5) := by rw [G11.out.sc 11, HSV.out]; rfl
  obtain ⟨b6, hb6⟩ : ∃ q, decide (0 < x.ord.length) = q := ⟨_, rfl⟩
  have Hb6 : Hid (decide (0 < x.ord.length) = b6) := hb6
  go_upto_if 48 with fail
  go_cut [] (fun wx => Hid (CS b w.heap.size (w.heap.size + 1) (l ++ [115, 101, 108, 101, 99, 116, 32] ++ (if x.items.length = 0 then [42] else ([] : List UInt8)) ++ M1 ++ ([32, 102, 114, 111, 109, 32] ++ x.table.data.toList) ++ J1 ++ B2 ++ B3 ++ (if x.ord.length = 0 then ([] : List UInt8) else [32, 111, 114, 100, 101, 114, 32, 98, 121, 32])) sv x w wx))
  case first =>
    clear hb6
    cases b6
    · skip
      have heq : x.ord.length = 0 := by have h9 := Hb6.out; simp at h9; simpa using h9
      have G12 : Hid (CS b w.heap.size (w.heap.size + 1) (l ++ [115, 101, 108, 101, 99, 116, 32] ++ (if x.items.length = 0 then [42] else ([] : List UInt8)) ++ M1 ++ ([32, 102, 114, 111, 109, 32] ++ x.table.data.toList) ++ J1 ++ B2 ++ B3 ++ (if x.ord.length = 0 then ([] : List UInt8) else [32, 111, 114, 100, 101, 114, 32, 98, 121, 32])) sv x w w11) := by show CS _ _ _ _ _ _ _ _; rw [if_pos heq, List.append_nil]; exact G11.out
      clear heq
      go_wp2_with fail
      go_meet
      case rel => exact G12
    · skip
      have hne : ¬ x.ord.length = 0 := by have h9 := of_decide_eq_true Hb6.out; omega
      have HQ : Hid (l.length + (7 + ((if x.items.length = 0 then 1 else 0) + M1.length + ((6 + x.table.data.toList.length) + (J1.length + (B2.length + (B3.length + 10)))))) ≤ 1000000 ∧ ¬ x.ord.length = 0) := ⟨by have h9 := HL.out; have j2 := HI.out.2.1; rw [if_neg hne] at h9; omega, hne⟩
      clear hne
      go_wp2_with fail
      refine (put1 b _ ⟨#[32, 111, 114, 100, 101, 114, 32, 98, 121, 32]⟩ w11 G11.out.ws (by have h9 := HQ.out.1; have j1 := HI.out.1; simp only [List.length_append, List.length_cons, List.length_nil] at h9 ⊢; omega)).mono ?_
      rintro _ w12 ⟨rfl, h2, h3⟩
      have G12 : Hid (CS b w.heap.size (w.heap.size + 1) (l ++ [115, 101, 108, 101, 99, 116, 32] ++ (if x.items.length = 0 then [42] else ([] : List UInt8)) ++ M1 ++ ([32, 102, 114, 111, 109, 32] ++ x.table.data.toList) ++ J1 ++ B2 ++ B3 ++ (if x.ord.length = 0 then ([] : List UInt8) else [32, 111, 114, 100, 101, 114, 32, 98, 121, 32])) sv x w w12) := by show CS _ _ _ _ _ _ _ _; rw [if_neg HQ.out.2]; exact G11.out.step (e := .returned (.tuple #[])) ⟨rfl, h2, h3⟩
      clear h2 h3
      go_wp2_with fail
      go_meet
      case rel => exact G12
  case rest =>
  have G13x : Hid (CS b w.heap.size (w.heap.size + 1) (l ++ [115, 101, 108, 101, 99, 116, 32] ++ (if x.items.length = 0 then [42] else ([] : List UInt8)) ++ M1 ++ ([32, 102, 114, 111, 109, 32] ++ x.table.data.toList) ++ J1 ++ B2 ++ B3 ++ (if x.ord.length = 0 then ([] : List UInt8) else [32, 111, 114, 100, 101, 114, 32, 98, 121, 32])) sv x w wc) := hcut
  clear hcut
  obtain ⟨w13, hw13⟩ : ∃ u, u = wc := ⟨_, rfl⟩
  subst hw13
  have G13 : Hid (CS b w.heap.size (w.heap.size + 1) (l ++ [115, 101, 108, 101, 99, 116, 32] ++ (if x.items.length = 0 then [42] else ([] : List UInt8)) ++ M1 ++ ([32, 102, 114, 111, 109, 32] ++ x.table.data.toList) ++ J1 ++ B2 ++ B3 ++ (if x.ord.length = 0 then ([] : List UInt8) else [32, 111, 114, 100, 101, 114, 32, 98, 121, 32])) sv x w w13) := G13x
  clear G13x
  have p13 : w13.cell? ⟨w.heap.size, 0, none⟩ = some (.pointer (some ⟨b, 0, none⟩)) := G13.out.pc
  have s13x11 : w13.cell? ⟨w.heap.size + 1, 11, none⟩ = some (.slice a5 x.ord.length c5) := by rw [G13.out.sc 11, HSV.out]; rfl
  obtain ⟨r5a, r5c, r5e, r5⟩ := G13.out.tr.ord
  have r5e2 : Value.slice a5 x.ord.length c5 = Value.slice r5a x.ord.length r5c := by have h9 := r5e; rw [HSV.out] at h9; exact h9
  obtain ⟨q3, q4⟩ : a5 = r5a ∧ c5 = r5c := by cases r5e2; exact ⟨rfl, rfl⟩
  subst q3; subst q4
  have HST : Hid (StI (·.ord) b w.heap.size (w.heap.size + 1) 2 (ElWO b) sv a5 c5 x.ord w13) := ⟨G13.out.wr, G13.out.st, r5e, r5, G13.out.q0⟩
  clear r5e r5 r5e2
  go_wp2_with fail
  have h8 := wli_wo (StI.kept (ElWO.keeps b)) (cl_wo HOK.out.ord) HOK.out.n5 _ w13 G13.out.ws HST.out (by rw [HM.out.2.1]; exact (by have h9 := HL.out; have j1 := HI.out.1; have j2 := HI.out.2.1; have j3 := HI.out.2.2; simp only [List.length_append, List.length_cons, List.length_nil] at h9 ⊢; omega))
  rw [HM.out.2.1] at h8
  refine (h8).mono ?_
  rintro _ w14 ⟨rfl, h2, h3⟩
  have G14 : Hid (CS b w.heap.size (w.heap.size + 1) (l ++ [115, 101, 108, 101, 99, 116, 32] ++ (if x.items.length = 0 then [42] else ([] : List UInt8)) ++ M1 ++ ([32, 102, 114, 111, 109, 32] ++ x.table.data.toList) ++ J1 ++ B2 ++ B3 ++ (if x.ord.length = 0 then ([] : List UInt8) else [32, 111, 114, 100, 101, 114, 32, 98, 121, 32]) ++ M2) sv x w w14) := G13.out.step (e := .returned (.tuple #[])) ⟨rfl, h2, h3⟩
  clear h2 h3 h8
  clear HST
  have p14 : w14.cell? ⟨w.heap.size, 0, none⟩ = some (.pointer (some ⟨b, 0, none⟩)) := G14.out.pc
  have s14x12 : w14.cell? ⟨w.heap.size + 1, 12, none⟩ = some (.int .i64 x.lim) := by rw [G14.out.sc 12, HSV.out]; rfl
  have HR : Hid (R = [115, 101, 108, 101, 99, 116, 32] ++ (((if x.items.length = 0 then [42] else ([] : List UInt8)) ++ M1) ++ (([32, 102, 114, 111, 109, 32] ++ x.table.data.toList) ++ (J1 ++ (B2 ++ (B3 ++ (((if x.ord.length = 0 then ([] : List UInt8) else [32, 111, 114, 100, 101, 114, 32, 98, 121, 32]) ++ M2) ++ limB x.lim))))))) := by show _ = _; rw [← HM.out.2.2.2.2.2.2, choT, itsB, ordB, HM.out.1, HM.out.2.1, HM.out.2.2.2.1, HM.out.2.2.2.2.1, HM.out.2.2.2.2.2.1]
  by_cases hlim : x.lim < 0
  · skip
    have hd : decide (0 ≤ x.lim) = false := decide_eq_false (by omega)
    have G15 : Hid (WS b (l ++ R) w14 ∧ WK b w w14) := ⟨by rw [HR.out, limB, if_pos hlim, List.append_nil]; simpa only [List.append_assoc] using G14.out.ws, G14.out.wk⟩
    clear hlim
    go_wp2
    go_end0
    exact ⟨rfl, G15.out.1, G15.out.2⟩
  · skip
    have hd : decide (0 ≤ x.lim) = true := decide_eq_true (by omega)
    have HZ : Hid (0 ≤ x.lim ∧ limB x.lim = [32, 108, 105, 109, 105, 116, 32] ++ Lib.decDigits x.lim.toNat ∧ l.length + (7 + ((if x.items.length = 0 then 1 else 0) + M1.length + ((6 + x.table.data.toList.length) + (J1.length + (B2.length + (B3.length + ((if x.ord.length = 0 then 0 else 10) + M2.length + (7 + (Lib.decDigits x.lim.toNat).length)))))))) ≤ 1000000) := ⟨by omega, by rw [limB, if_neg hlim, Lib.itoa, if_neg hlim], by have h9 := HL.out; have j2 := HI.out.2.1; rw [if_neg hlim, Lib.itoa, if_neg hlim] at h9; omega⟩
    clear hlim
    have d0 : w14.drew.cell? ⟨w.heap.size, 0, none⟩ = some (.pointer (some ⟨b, 0, none⟩)) := p14
    have d1 : w14.drew.cell? ⟨w.heap.size + 1, 12, none⟩ = some (.int .i64 x.lim) := s14x12
    have HP : Hid (PowAt w14.drew) := (G14.out.below ((Below.refl _ _).drew)).ws.g.pw
    have GD : Hid (CS b w.heap.size (w.heap.size + 1) (l ++ [115, 101, 108, 101, 99, 116, 32] ++ (if x.items.length = 0 then [42] else ([] : List UInt8)) ++ M1 ++ ([32, 102, 114, 111, 109, 32] ++ x.table.data.toList) ++ J1 ++ B2 ++ B3 ++ (if x.ord.length = 0 then ([] : List UInt8) else [32, 111, 114, 100, 101, 114, 32, 98, 121, 32]) ++ M2) sv x w w14.drew) := G14.out.below ((Below.refl _ _).drew)
    go_upto_region 15 with fail
    have GX : Hid (CS b w.heap.size (w.heap.size + 1) (l ++ [115, 101, 108, 101, 99, 116, 32] ++ (if x.items.length = 0 then [42] else ([] : List UInt8)) ++ M1 ++ ([32, 102, 114, 111, 109, 32] ++ x.table.data.toList) ++ J1 ++ B2 ++ B3 ++ (if x.ord.length = 0 then ([] : List UInt8) else [32, 111, 114, 100, 101, 114, 32, 98, 121, 32]) ++ M2) sv x w w14.drew) := GD
    have HK : Hid (∀ l9 wx, CS b w.heap.size (w.heap.size + 1) l9 sv x w wx → wx.cell? ⟨w.heap.size, 0, none⟩ = some (.pointer (some ⟨b, 0, none⟩)) ∧ wx.cell? ⟨w.heap.size + 1, 12, none⟩ = some (.int .i64 x.lim)) := fun l9 wx h => ⟨h.pc, by rw [h.sc 12, HSV.out]; rfl⟩
    clear GD
    go_region_held3 (fun wx => wx.cell? ⟨w.heap.size, 0, none⟩ = some (.pointer (some ⟨b, 0, none⟩)) ∧ wx.cell? ⟨w.heap.size + 1, 12, none⟩ = some (.int .i64 x.lim)) (first | exact HK.out _ _ GX.out | exact HK.out _ _ (GX.out.below ((Below.refl _ _).alloc (Nat.le_refl _) _))) (first
      | (go_at_call 105; refine Calls.mono (itoa_any x.lim HZ.out.1 HOK.out.lim _ HP.out) ?_; rintro _ w15 ⟨rfl, hb⟩; have GX : Hid (CS b w.heap.size (w.heap.size + 1) (l ++ [115, 101, 108, 101, 99, 116, 32] ++ (if x.items.length = 0 then [42] else ([] : List UInt8)) ++ M1 ++ ([32, 102, 114, 111, 109, 32] ++ x.table.data.toList) ++ J1 ++ B2 ++ B3 ++ (if x.ord.length = 0 then ([] : List UInt8) else [32, 111, 114, 100, 101, 114, 32, 98, 121, 32]) ++ M2) sv x w w15) := GX.out.below hb; clear hb)
      | (go_at_call 53; refine Calls.mono (put2 b _ ⟨#[32, 108, 105, 109, 105, 116, 32]⟩ ⟨(Lib.decDigits x.lim.toNat).toArray⟩ _ GX.out.ws (by have h9 := HZ.out.2.2; have j1 := HI.out.1; have j3 := HI.out.2.2; simp only [List.length_append, List.length_cons, List.length_nil] at h9 ⊢; omega)) ?_; rintro _ w16 ⟨rfl, h2, h3⟩; have GX : Hid (CS b w.heap.size (w.heap.size + 1) (l ++ [115, 101, 108, 101, 99, 116, 32] ++ (if x.items.length = 0 then [42] else ([] : List UInt8)) ++ M1 ++ ([32, 102, 114, 111, 109, 32] ++ x.table.data.toList) ++ J1 ++ B2 ++ B3 ++ (if x.ord.length = 0 then ([] : List UInt8) else [32, 111, 114, 100, 101, 114, 32, 98, 121, 32]) ++ M2 ++ ([32, 108, 105, 109, 105, 116, 32] ++ Lib.decDigits x.lim.toNat)) sv x w w16) := GX.out.step (e := .returned (.tuple #[])) ⟨rfl, h2, h3⟩; clear h2 h3))
    have G16 : Hid (WS b (l ++ R) w16 ∧ WK b w w16) := ⟨by rw [HR.out, HZ.out.2.1]; simpa only [List.append_assoc] using GX.out.ws, GX.out.wk⟩
    go_wp2_with fail
    go_end0
    exact ⟨rfl, G16.out.1, G16.out.2⟩
end Go.Proofs.YtbdcbaamjkjhaaaGreatDoor
