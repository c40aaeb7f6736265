/- The contracts of Right and of samePlaces. -/
import Derived.Test.YtalfjdpdecngoaaPBase
namespace Go.Proofs.Ytalfjdpdecngoaa
open Go.RowKit

def rightFrom : Pl → List Pl → Bool
  | _, [] => true
  | p, q :: l => follB p q && rightFrom q l
def rightL (l : List Pl) : Bool := rightFrom ⟨0, 0⟩ l

theorem right_drop (p : Pl) (xs : List Pl) (k : Nat) (hk : k < xs.length) (R : Bool) (h : rightFrom p (xs.drop k) = R) : (follB p xs[k] = false → R = false) ∧ (follB p xs[k] = true → rightFrom xs[k] (xs.drop (k + 1)) = R) := by
  rw [List.drop_eq_getElem_cons hk, rightFrom] at h
  constructor
  · intro e; rw [e] at h; simpa using h.symm
  · intro e; rw [e] at h; simpa using h

/-- a variable that holds a place -/
def VarP (B : Nat) (p : Pl) (w : World) : Prop := w.cell? ⟨B, 0, none⟩ = some (.int .i64 p.r) ∧ w.cell? ⟨B, 1, none⟩ = some (.int .i64 p.a) ∧ w.frozen? ⟨B, 0, none⟩ = false ∧ w.frozen? ⟨B, 1, none⟩ = false ∧ B < w.heap.size

theorem VarP.below {B : Nat} {p : Pl} {w w' : World} (h : VarP B p w) (hb : Below w.heap.size w w') : VarP B p w' := by
  obtain ⟨h1, h2, h3, h4, h5⟩ := h
  have e : w'.heap[B]? = w.heap[B]? := hb.block B h5
  refine ⟨by rw [hb.cell (p := ⟨B, 0, none⟩) h5]; exact h1, by rw [hb.cell (p := ⟨B, 1, none⟩) h5]; exact h2, ?_, ?_, Nat.lt_of_lt_of_le h5 hb.size⟩
  · rw [← h3]; simp only [World.frozen?, e]
  · rw [← h4]; simp only [World.frozen?, e]

theorem VarP.new (w : World) : VarP w.heap.size ⟨0, 0⟩ (w.alloc (.cells #[.int .i64 0, .int .i64 0] 25)) := by
  have hn := heap_alloc_new w (.cells #[.int .i64 0, .int .i64 0] 25)
  refine ⟨by simp, by simp, ?_, ?_, by simp⟩
  · simp only [World.frozen?, hn]; simp
  · simp only [World.frozen?, hn]; simp

theorem VarP.set {B : Nat} {p : Pl} {w : World} (h : VarP B p w) (q : Pl) : VarP B q ((w.setCell ⟨B, 0, none⟩ (.int .i64 q.r)).setCell ⟨B, 1, none⟩ (.int .i64 q.a)) := by
  obtain ⟨h1, h2, h3, h4, h5⟩ := h
  have o : (w.setCell ⟨B, 0, none⟩ (.int .i64 q.r)).cell? ⟨B, 1, none⟩ = some (.int .i64 p.a) := by rw [World.cell?_setCell_other _ _ _ _ (fun e => by cases e)]; exact h2
  refine ⟨?_, World.cell?_setCell_same _ _ _ o, ?_, ?_, ?_⟩
  · rw [World.cell?_setCell_other _ _ _ _ (fun e => by cases e)]; exact World.cell?_setCell_same _ _ _ h1
  · rw [World.frozen?_setCell, World.frozen?_setCell]; exact h3
  · rw [World.frozen?_setCell, World.frozen?_setCell]; exact h4
  · simpa [World.setCell] using h5

theorem follows_as (p q : Pl) (b : Bool) (hb : follB p q = b) (w : World) : Calls Try.prog 33 #[.agg #[.int .i64 p.r, .int .i64 p.a], .agg #[.int .i64 q.r, .int .i64 q.a]] w fun e w' => e = .returned (.bool b) ∧ Below w.heap.size w w' := by
  rw [← hb]; exact follows_any p q w

set_option maxRecDepth 100000 in
set_option maxHeartbeats 1000000 in
theorem right_any (a : Option Addr) (len cap : Nat) (xs : List Pl) (w : World) (hr : RowP w a len xs) :
    Calls Try.prog 18 #[.slice a len cap] w fun e w' => e = .returned (.bool (rightL xs)) ∧ Below w.heap.size w w' := by
  obtain ⟨rfl, hm, hx⟩ := hr
  have HR : Hid (rightFrom ⟨0, 0⟩ (xs.drop 0) = rightL xs) := rfl
  generalize rightL xs = R at *
  go_enter Try.func18, Try.ntmps18
  go_wp2
  go_loopw [8] (fun i wr => ∃ (k : Nat) (p : Pl), k ≤ xs.length ∧ i = .int .i64 k ∧ Hid (VarP w.heap.size p wr ∧ Below w.heap.size w wr ∧ rightFrom p (xs.drop k) = R)) (fun i _ => xs.length - (intOf i).toNat)
  case atStart => exact ⟨0, ⟨0, 0⟩, Nat.zero_le _, rfl, VarP.new w, (Below.refl _ _).alloc (Nat.le_refl _) _, HR.out⟩
  case round =>
    clear HR
    obtain ⟨k, p, hk, rfl, hz⟩ := hrel
    by_cases hlt : k < xs.length
    · rcases hx with hx | ⟨b, off, rfl, hb, hrow⟩
      · simp [hx] at hlt
      obtain ⟨g1, g2⟩ := hrow k hlt
      clear hrow
      rw [← hz.out.2.1.cell (p := ⟨b, _, none⟩) hb] at g1 g2
      obtain ⟨hR1, hR2⟩ := right_drop p xs k hlt R hz.out.2.2
      have i1 : (k : Int) < (xs.length : Int) := by omega
      generalize xs[k] = q at *
      have HV : Hid (VarP w.heap.size p wr) := hz.out.1
      have HB : Hid (Below w.heap.size w wr) := hz.out.2.1
      have H1 : Hid _ := hR1
      have H2 : Hid _ := hR2
      clear hz hR1 hR2
      have HA : Hid (Below wr.heap.size wr (wr.alloc (.cells #[.int .i64 q.r, .int .i64 q.a] 25))) := (Below.refl _ _).alloc (Nat.le_refl _) _
      have HV1 : Hid (VarP w.heap.size p (wr.alloc (.cells #[.int .i64 q.r, .int .i64 q.a] 25))) := VarP.below HV.out HA.out
      obtain ⟨c1, c2, f1, f2, _⟩ := HV1.out
      have c3 : (wr.alloc (.cells #[.int .i64 q.r, .int .i64 q.a] 25)).cell? ⟨wr.heap.size, 0, none⟩ = some (.int .i64 q.r) := by simp
      have c4 : (wr.alloc (.cells #[.int .i64 q.r, .int .i64 q.a] 25)).cell? ⟨wr.heap.size, 1, none⟩ = some (.int .i64 q.a) := by simp
      go_wp2_with fail
      obtain ⟨bb, hbb⟩ : ∃ bb, follB p q = bb := ⟨_, rfl⟩
      refine (follows_as p q bb hbb _).mono ?_
      rintro _ w2 ⟨rfl, hb2⟩
      have HV2 : Hid (VarP w.heap.size p w2) := VarP.below HV1.out hb2
      have HW2 : Hid (Below w.heap.size w w2) := (HB.out.trans (HA.out.mono HB.out.size)).trans (hb2.mono (by have := HB.out.size; simp; omega))
      rw [← hb2.cell (p := ⟨wr.heap.size, 0, none⟩) (by simp)] at c3
      rw [← hb2.cell (p := ⟨wr.heap.size, 1, none⟩) (by simp)] at c4
      clear c1 c2 f1 f2 hb2 HV1 HA HV HB g1 g2
      cases bb
      · have e := H1.out hbb
        subst e
        go_wp2
        go_ret
        exact ⟨rfl, HW2.out⟩
      · have HR : Hid _ := H2.out hbb
        clear H1 H2 hbb
        obtain ⟨c1, c2, f1, f2, _⟩ := HV2.out
        go_wp2
        go_roundw
        case rel => exact ⟨k + 1, q, by omega, by go_num, HV2.out.set q, (HW2.out.setCell (p := ⟨_, 0, none⟩) (Nat.le_refl _) _).setCell (p := ⟨_, 1, none⟩) (Nat.le_refl _) _, HR.out⟩
        case measure => simp [intOf]; omega
    · have e : R = true := by
        have := hz.out.2.2
        rw [List.drop_eq_nil_of_le (by omega)] at this
        exact this.symm
      subst e
      go_wp2
      go_ret
      exact ⟨rfl, hz.out.2.1⟩

theorem stoodPl : Try.prog.stoodInHeld 25 = false := by kernel_rfl
theorem guardPl : Try.prog.eqGuardType Try.prog.depth 25 = false := by kernel_rfl
end Go.Proofs.Ytalfjdpdecngoaa
