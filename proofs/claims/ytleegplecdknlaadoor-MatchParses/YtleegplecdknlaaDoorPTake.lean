/- The program's reader in memory; take and sign. -/
import Derived.Test.YtleegplecdknlaaDoorPCut2
import Derived.Test.YtleegplecdknlaaDoorWStem
namespace Go.Proofs.YtleegplecdknlaaDoor
open Go.RowKit

/-- block A is the reader: this piece stands there, the rest is cut so -/
def Rd0 (A : Nat) (k : Int) (x : ByteArray) (L : List ByteArray) (w : World) : Prop :=
  (w.cell? ⟨A, 0, none⟩ = some (.int .i64 k) ∧ w.cell? ⟨A, 1, none⟩ = some (.string x) ∧ ∃ t : ByteArray, w.cell? ⟨A, 2, none⟩ = some (.string t) ∧ t.size ≤ 400 ∧ Cuts t.data.toList L) ∧ (w.frozen? ⟨A, 0, none⟩ = false ∧ w.frozen? ⟨A, 1, none⟩ = false ∧ w.frozen? ⟨A, 2, none⟩ = false) ∧ A < w.heap.size ∧ 2 < A ∧ EndsAt w
/-- .. these pieces are left -/
def Rd (A : Nat) (l : List ByteArray) (w : World) : Prop := Rd0 A (headP l).1 (headP l).2 l.tail w ∧ ∀ x ∈ l.head?, Good x

theorem EndsAt.grown {w w' : World} {A : Nat} (h : EndsAt w) (hg : w.grownBy w' (some A)) (hA : 2 < A) : EndsAt w' := by
  have hlt : 2 < w.heap.size := by
    have := h.1
    by_cases hh : 2 < w.heap.size
    · exact hh
    · rw [World.cell?] at this
      simp [Array.getElem?_eq_none (Nat.le_of_not_lt hh)] at this
  have key : ∀ o, w'.cell? ⟨2, o, none⟩ = w.cell? ⟨2, o, none⟩ := fun o => World.cell?_of_block (w := w) (a := ⟨2, o, none⟩) (hg.block 2 hlt (fun e => by cases e; omega))
  unfold EndsAt at *
  simp only [key]
  exact h
theorem Rd0.below {A : Nat} {k : Int} {x : ByteArray} {L : List ByteArray} {w w' : World} (h : Rd0 A k x L w) (hb : Below w.heap.size w w') : Rd0 A k x L w' := by
  obtain ⟨⟨h1, h2, t, h3, h4, h5⟩, ⟨f1, f2, f3⟩, hA, hE, he⟩ := h
  have hs := hb.size
  have fr : ∀ o, w'.frozen? ⟨A, o, none⟩ = w.frozen? ⟨A, o, none⟩ := fun o => World.frozen?_of_block (w := w) (a := ⟨A, o, none⟩) (hb.block A hA)
  exact ⟨⟨by rw [hb.cell (p := ⟨A, _, none⟩) hA]; exact h1, by rw [hb.cell (p := ⟨A, _, none⟩) hA]; exact h2, t, by rw [hb.cell (p := ⟨A, _, none⟩) hA]; exact h3, h4, h5⟩, ⟨by rw [fr]; exact f1, by rw [fr]; exact f2, by rw [fr]; exact f3⟩, by omega, hE, he.below hb⟩
theorem Rd.below {A : Nat} {l : List ByteArray} {w w' : World} (h : Rd A l w) (hb : Below w.heap.size w w') : Rd A l w' := ⟨h.1.below hb, h.2⟩
/-- the reader's three cells, laid anew -/
theorem Rd0.set {A : Nat} {k k' : Int} {x x' : ByteArray} {L L' : List ByteArray} {w : World} (h : Rd0 A k x L w) (t : ByteArray) (ht : t.size ≤ 400) (hc : Cuts t.data.toList L') :
    Rd0 A k' x' L' (((w.setCell ⟨A, 0, none⟩ (.int .i64 k')).setCell ⟨A, 1, none⟩ (.string x')).setCell ⟨A, 2, none⟩ (.string t)) ∧ w.grownBy (((w.setCell ⟨A, 0, none⟩ (.int .i64 k')).setCell ⟨A, 1, none⟩ (.string x')).setCell ⟨A, 2, none⟩ (.string t)) (some A) := by
  obtain ⟨⟨h1, h2, t0, h3, h4, h5⟩, ⟨f1, f2, f3⟩, hA, hE, he⟩ := h
  have g := ((grownA_set w A 0 (.int .i64 k')).trans (grownA_set _ A 1 (.string x'))).trans (grownA_set _ A 2 (.string t))
  refine ⟨⟨⟨?_, ?_, t, ?_, ht, hc⟩, ⟨?_, ?_, ?_⟩, ?_, hE, he.grown g hE⟩, g⟩
  · rw [World.cell?_setCell_other _ _ _ _ (fun e => by cases e), World.cell?_setCell_other _ _ _ _ (fun e => by cases e)]
    exact World.cell?_setCell_same _ _ _ h1
  · rw [World.cell?_setCell_other _ _ _ _ (fun e => by cases e)]
    exact World.cell?_setCell_same _ _ _ (by rw [World.cell?_setCell_other _ _ _ _ (fun e => by cases e)]; exact h2)
  · exact World.cell?_setCell_same _ _ _ (by rw [World.cell?_setCell_other _ _ _ _ (fun e => by cases e), World.cell?_setCell_other _ _ _ _ (fun e => by cases e)]; exact h3)
  · rw [World.frozen?_setCell, World.frozen?_setCell, World.frozen?_setCell]; exact f1
  · rw [World.frozen?_setCell, World.frozen?_setCell, World.frozen?_setCell]; exact f2
  · rw [World.frozen?_setCell, World.frozen?_setCell, World.frozen?_setCell]; exact f3
  · simpa [World.setCell] using hA

theorem Rd0.other {A : Nat} {k : Int} {x : ByteArray} {L : List ByteArray} {w : World} (h : Rd0 A k x L w) (b o : Nat) (v : Value) (hb : b ≠ A) (hb2 : b ≠ 2) : Rd0 A k x L (w.setCell ⟨b, o, none⟩ v) := by
  obtain ⟨⟨h1, h2, t, h3, h4, h5⟩, ⟨f1, f2, f3⟩, hA, hE, he⟩ := h
  have key : ∀ i, (w.setCell ⟨b, o, none⟩ v).cell? ⟨A, i, none⟩ = w.cell? ⟨A, i, none⟩ := fun i => World.cell?_of_block (w := w) (a := ⟨A, i, none⟩) (Below.heap_setCell w ⟨b, o, none⟩ v A (fun e => hb (by simpa using e.symm)))
  have keyE : ∀ i, (w.setCell ⟨b, o, none⟩ v).cell? ⟨2, i, none⟩ = w.cell? ⟨2, i, none⟩ := fun i => World.cell?_of_block (w := w) (a := ⟨2, i, none⟩) (Below.heap_setCell w ⟨b, o, none⟩ v 2 (fun e => hb2 (by simpa using e.symm)))
  refine ⟨⟨by rw [key]; exact h1, by rw [key]; exact h2, t, by rw [key]; exact h3, h4, h5⟩, ⟨?_, ?_, ?_⟩, by simpa [World.setCell] using hA, hE, ?_⟩
  · rw [World.frozen?_setCell]; exact f1
  · rw [World.frozen?_setCell]; exact f2
  · rw [World.frozen?_setCell]; exact f3
  · unfold EndsAt at *
    simp only [keyE]
    exact he
theorem grown_new {w w' : World} {A : Nat} (h : w.grownBy w' (some A)) {b : Nat} (hb : w.heap.size ≤ b) (o : Nat) (v : Value) : w.grownBy (w'.setCell ⟨b, o, none⟩ v) (some A) :=
  ⟨h.os, h.tape, h.output, by have := h.size; simpa [World.setCell] using this, fun k hk hne => (Below.heap_setCell w' ⟨b, o, none⟩ v k (fun e => by simp only at e; omega)).trans (h.block k hk hne)⟩
theorem results_c {P : Program} {fn : Func} {p : Tmp} {ty : TypeId} {v : Value} (h : fn.results = #[.cell p ty]) (tmps : Array Value) (w : World) (a : Addr) (hp : tmps.getD p undef = .pointer (some a)) (hl : (loadVar ty a).run P w = .ok v w) :
    (results fn tmps).run P w = .ok v w := by
  have hp' : tmps[p]?.getD undef = .pointer (some a) := by simpa [Array.getD_eq_getD_getElem?] using hp
  simp [results, h, hp', asAddr, hl]

set_option maxRecDepth 100000 in
set_option maxHeartbeats 4000000 in
theorem take0_any (A : Nat) (k : Int) (x : ByteArray) (L : List ByteArray) (w : World) (h : Rd0 A k x L w) : Calls Tryd.prog 22 #[.pointer (some ⟨A, 0, none⟩)] w fun e w' => e = .returned (.agg #[.int .i64 k, .string x]) ∧ Rd A L w' ∧ w.grownBy w' (some A) := by
  have H : Hid (Rd0 A k x L w) := h
  obtain ⟨⟨h1, h2, t, h3, h4, h5⟩, ⟨f1, f2, f3⟩, hA, hE, he⟩ := h
  have HC : Hid (Cuts t.data.toList L) := h5
  clear h5 he
  go_enter Tryd.func22, Tryd.ntmps22
  go_wp2_with fail
  refine (cut_any t L _ h4 HC.out).mono ?_
  rintro _ w1 ⟨t1, rfl, ht1, hc1, hg1, hb1⟩
  have hs1 := hb1.size
  simp only [World.size_alloc] at hs1
  have HBw : Hid (Below w.heap.size w w1) := (((Below.refl w.heap.size w).alloc (Nat.le_refl _) _).alloc (by simp) _).trans (hb1.mono (by simp; omega))
  have H1 : Hid (Rd0 A k x L w1) := H.out.below HBw.out
  have H2 : Hid (t1.size ≤ 400 ∧ Cuts t1.data.toList L.tail ∧ ∀ x ∈ L.head?, Good x) := ⟨ht1, hc1, hg1⟩
  have p0 : w1.cell? ⟨w.heap.size + 1, 0, none⟩ = some (.int .i64 k) := by rw [hb1.cell (p := ⟨w.heap.size + 1, 0, none⟩) (by simp)]; simp [go_sem]
  have p1 : w1.cell? ⟨w.heap.size + 1, 1, none⟩ = some (.string x) := by rw [hb1.cell (p := ⟨w.heap.size + 1, 1, none⟩) (by simp)]; simp [go_sem]
  have r0 : w1.cell? ⟨w.heap.size, 0, none⟩ = some (.int .i64 0) := by rw [hb1.cell (p := ⟨w.heap.size, 0, none⟩) (by simp; omega)]; simp [go_sem]
  have r1 : w1.cell? ⟨w.heap.size, 1, none⟩ = some (.string ⟨#[]⟩) := by rw [hb1.cell (p := ⟨w.heap.size, 1, none⟩) (by simp; omega)]; simp [go_sem]
  have z0 : w1.frozen? ⟨w.heap.size, 0, none⟩ = false := by rw [World.frozen?_of_block (a := ⟨w.heap.size, 0, none⟩) (hb1.block w.heap.size (by simp; omega))]; simp [go_sem]
  have z1 : w1.frozen? ⟨w.heap.size, 1, none⟩ = false := by rw [World.frozen?_of_block (a := ⟨w.heap.size, 1, none⟩) (hb1.block w.heap.size (by simp; omega))]; simp [go_sem]
  obtain ⟨⟨k1, k2, _, k3, _, _⟩, ⟨q1, q2, q3⟩, _, _, _⟩ := H1.out
  have hAn : ¬ A = w.heap.size := by omega
  have hAn' : ¬ A = w.heap.size + 1 := by omega
  clear ht1 hc1 hg1 hb1 h1 h2 h3 f1 f2 f3
  go_wp2
  refine bodyPost_ret (v := .agg #[.int .i64 k, .string x]) (results_c Tryd.results22 _ _ _ rfl ?_) rfl ?_
  · simp [go_sem, r0, r1]
  have S := Rd0.set (k' := (headP L).1) (x' := (headP L).2) (L' := L.tail) H1.out t1 H2.out.1 H2.out.2.1
  refine ⟨rfl, ⟨(S.1.other _ _ _ (by omega) (by omega)).other _ _ _ (by omega) (by omega), H2.out.2.2⟩, ?_⟩
  exact grown_new (grown_new ((grown_of_belowA HBw.out _).trans S.2) (Nat.le_refl _) _ _) (Nat.le_refl _) _ _
end Go.Proofs.YtleegplecdknlaaDoor
