/- The contract of Follow. -/
import Derived.Test.YtalfjdpdecngoaaPWith
namespace Go.Proofs.Ytalfjdpdecngoaa
open Go.RowKit

def headB (p : Pl) : List Pl → Bool
  | [] => false
  | z :: _ => decide (beh z = p)
def dropF (p : Pl) : List Pl → List Pl
  | [] => []
  | z :: zs => if cmpP (beh z) p < 0 then dropF p zs else z :: zs
/-- what is left of the first places, and whether the next one stands right ahead -/
def stpF : List Pl → Pl → Bool × List Pl := fun zs p => (headB p (dropF p zs), dropF p zs)
def memLen (w : World) (B : Nat) : Nat := match w.cell? ⟨B, 0, none⟩ with | some v => sliceLen v | none => 0
theorem memLen_of {w : World} {B : Nat} {v : Value} (h : w.cell? ⟨B, 0, none⟩ = some v) : memLen w B = sliceLen v := by simp [memLen, h]

def OkP (p : Pl) : Prop := 1 ≤ p.r ∧ p.r ≤ 1073741824 ∧ 0 ≤ p.a ∧ p.a < 1073741824

/-- the captured list -/
def IF (w0 : World) (B : Nat) (zs : List Pl) (wx : World) : Prop := (∃ v, wx.cell? ⟨B, 0, none⟩ = some v ∧ InP w0 v zs) ∧ wx.frozen? ⟨B, 0, none⟩ = false ∧ Below B w0 wx ∧ ∀ z ∈ zs, OkP z

theorem IF.step {w0 : World} {B : Nat} {zs : List Pl} {wx wy : World} (h : IF w0 B zs wx) (hb : Below B wx wy) (he : wy.heap[B]? = wx.heap[B]?) : IF w0 B zs wy := by
  obtain ⟨⟨v, h1, h2⟩, h3, h4, h5⟩ := h
  exact ⟨⟨v, by rw [← h1]; exact World.cell?_of_block he, h2⟩, by rw [← h3]; exact World.frozen?_of_block he, h4.trans hb, h5⟩

/-- what is known in a round of the closure -/
def FE (w0 : World) (B b o n c bp : Nat) (z p : Pl) (wa wx : World) : Prop :=
  (wx.cell? ⟨B, 0, none⟩ = some (.slice (some ⟨b, o, none⟩) (n + 1) c) ∧ wx.cell? ⟨b, o, none⟩ = some (.int .i64 z.r) ∧ wx.cell? ⟨b, o + 1, none⟩ = some (.int .i64 z.a) ∧ wx.cell? ⟨bp, 0, none⟩ = some (.int .i64 p.r) ∧ wx.cell? ⟨bp, 1, none⟩ = some (.int .i64 p.a)) ∧
  (b < w0.heap.size ∧ B < wa.heap.size ∧ bp < wa.heap.size ∧ w0.heap.size ≤ B) ∧ Below wa.heap.size wa wx
theorem FE.step {w0 : World} {B b o n c bp : Nat} {z p : Pl} {wa wx wy : World} (h : FE w0 B b o n c bp z p wa wx) (hb : Below wx.heap.size wx wy) : FE w0 B b o n c bp z p wa wy := by
  obtain ⟨⟨h1, h2, h3, h4, h5⟩, ⟨h6, h7, h8, h9⟩, h10⟩ := h
  have s := h10.size
  refine ⟨⟨?_, ?_, ?_, ?_, ?_⟩, ⟨h6, h7, h8, h9⟩, h10.trans (hb.mono s)⟩
  · rw [hb.cell (p := ⟨B, _, none⟩) (by show B < _; omega)]; exact h1
  · rw [hb.cell (p := ⟨b, _, none⟩) (by show b < _; omega)]; exact h2
  · rw [hb.cell (p := ⟨b, _, none⟩) (by show b < _; omega)]; exact h3
  · rw [hb.cell (p := ⟨bp, _, none⟩) (by show bp < _; omega)]; exact h4
  · rw [hb.cell (p := ⟨bp, _, none⟩) (by show bp < _; omega)]; exact h5
theorem FE.drew {w0 : World} {B b o n c bp : Nat} {z p : Pl} {wa wx : World} (h : FE w0 B b o n c bp z p wa wx) : FE w0 B b o n c bp z p wa wx.drew := h.step (Below.refl _ _).drew

set_option maxRecDepth 100000 in
set_option maxHeartbeats 4000000 in
theorem follow_fn (w0 : World) (B : Nat) (zs : List Pl) (p : Pl) (w : World) (h0 : w0.heap.size ≤ B) (hB : B < w.heap.size) (hI : IF w0 B zs w) :
    Calls Try.prog 30 #[.agg #[.int .i64 p.r, .int .i64 p.a], .pointer (some ⟨B, 0, none⟩)] w fun e w' => e = .returned (.bool (stpF zs p).1) ∧ IF w0 B (stpF zs p).2 w' ∧ w.grownBy w' (some B) := by
  have st := stoodPl
  have gd := guardPl
  obtain ⟨D, hD⟩ : ∃ D, dropF p zs = D := ⟨_, rfl⟩
  have HD : Hid (dropF p zs = D) := hD
  simp only [stpF, hD]
  clear hD
  have HA : Hid (Below w.heap.size w (w.alloc (.cells #[.int .i64 p.r, .int .i64 p.a] 25))) := (Below.refl _ _).alloc (Nat.le_refl _) _
  have HI : Hid (IF w0 B zs (w.alloc (.cells #[.int .i64 p.r, .int .i64 p.a] 25))) := IF.step hI (HA.out.mono (by omega)) (HA.out.block B hB)
  have HV : Hid (VarP w.heap.size p (w.alloc (.cells #[.int .i64 p.r, .int .i64 p.a] 25))) := VarP.box w p
  clear hI
  go_enter Try.func30, Try.ntmps30
  go_wp2
  go_loopw [4] (fun _ wr => ∃ zs : List Pl, Hid (IF w0 B zs wr ∧ VarP w.heap.size p wr ∧ w.grownBy wr (some B) ∧ dropF p zs = D)) (fun _ wr => memLen wr B)
  case atStart => exact ⟨zs, HI.out, HV.out, grown_of_belowP HA.out _, HD.out⟩
  case round =>
    clear HI HV HA HD
    obtain ⟨zs, hz⟩ := hrel
    obtain ⟨⟨v, hcell, a, c, rfl, hc, hr, _⟩, hfz, hbl, hok⟩ := hz.out.1
    have hsz := hz.out.2.2.1.size
    have hpv := hz.out.2.1
    cases zs with
    | nil =>
      have e : D = [] := by have := hz.out.2.2.2; simpa [dropF] using this.symm
      subst e
      simp only [List.length_nil] at hcell
      have HZ : Hid (IF w0 B [] wr ∧ w.grownBy wr (some B)) := ⟨hz.out.1, hz.out.2.2.1⟩
      clear hz hpv hbl hok hr hfz
      go_wp2
      go_quiet (fail)
      go_wp2
      go_quiet (fail)
      go_wp2
      go_ret
      refine ⟨rfl, ?_, ?_⟩
      · exact IF.step HZ.out.1 (below_drewN (below_drewN (Below.refl _ _) _) _) rfl
      · exact HZ.out.2.trans (grown_of_belowP (below_drewN (below_drewN (Below.refl _ _) _) _) _)
    | cons z zs =>
      have HOK : Hid (∀ z' ∈ zs, OkP z') := fun z' hz' => hok z' (by simp [hz'])
      obtain ⟨ok1, ok2, ok3, ok4⟩ := hok z (by simp)
      rcases hr.2.2 with hx | ⟨b, o, rfl, hb, hrow⟩
      · cases hx
      obtain ⟨g1, g2⟩ := hrow 0 (by simp)
      simp only [Nat.zero_mul, Nat.add_zero, List.getElem_cons_zero] at g1 g2
      rw [← hbl.cell (p := ⟨b, _, none⟩) (by show b < B; omega)] at g1 g2
      simp only [List.length_cons] at hcell hc
      have HIN : Hid (InP w0 (.slice (some ⟨b, o, none⟩) (zs.length + 1) c) (z :: zs)) := ⟨_, _, rfl, by simpa using hc, hr, fun e => by cases e⟩
      obtain ⟨n, hn⟩ : ∃ n, zs.length = n := ⟨_, rfl⟩
      rw [hn] at hcell hc HIN
      have hml : memLen wr B = n + 1 := memLen_of hcell
      have HFE : Hid (FE w0 B b o n c w.heap.size z p wr wr) := ⟨⟨hcell, g1, g2, hpv.1, hpv.2.1⟩, ⟨hb, by omega, hpv.2.2.2.2, h0⟩, Below.refl _ _⟩
      have HZ : Hid (IF w0 B (z :: zs) wr ∧ VarP w.heap.size p wr ∧ w.grownBy wr (some B) ∧ dropF p (z :: zs) = D) := hz.out
      have d1 : decide ((0 : Int) < (n : Int) + 1) = true := by simp
      clear hz hok hr hrow hfz hbl hpv g1 g2 hcell
      obtain ⟨cc, hcc⟩ : ∃ cc, cmpP (beh z) p = cc := ⟨_, rfl⟩
      have HCC : Hid (cmpP (beh z) p = cc) := hcc
      clear hcc
      go_wp2_with fail
      have HFE : Hid _ := FE.drew HFE.out
      go_region_held3 (fun w' => w'.cell? ⟨B, 0, none⟩ = some (.slice (some ⟨b, o, none⟩) (n + 1) c) ∧ w'.cell? ⟨b, o, none⟩ = some (.int .i64 z.r) ∧ w'.cell? ⟨b, o + 1, none⟩ = some (.int .i64 z.a) ∧ w'.cell? ⟨w.heap.size, 0, none⟩ = some (.int .i64 p.r) ∧ w'.cell? ⟨w.heap.size, 1, none⟩ = some (.int .i64 p.a)) (exact HFE.out.1)
        (first
          | (go_at_call 31; refine Calls.mono (behind_any z ok3 ok4 _) ?_; rintro _ w2 ⟨rfl, hb2⟩; have HFE : Hid _ := FE.step HFE.out hb2; clear hb2)
          | (go_at_call 24; refine Calls.mono (compare_as (beh z) p _ HCC.out _) ?_; rintro _ w3 ⟨rfl, hb3⟩; have HFE : Hid _ := FE.step HFE.out hb3; clear hb3))
      have HB3 : Hid (Below wr.heap.size wr w3) := HFE.out.2.2
      have hB3 : B < wr.heap.size := by omega
      have HI3 : Hid (IF w0 B (z :: zs) w3) := IF.step HZ.out.1 (HB3.out.mono (by omega)) (HB3.out.block B hB3)
      have HV3 : Hid (VarP w.heap.size p w3) := VarP.below HZ.out.2.1 HB3.out
      have HG3 : Hid (w.grownBy w3 (some B)) := HZ.out.2.2.1.trans (grown_of_belowP HB3.out _)
      by_cases hneg : cc < 0
      · have HD2 : Hid (dropF p zs = D) := by show _ = _; rw [← HZ.out.2.2.2, dropF, if_pos (by rw [HCC.out]; exact hneg)]
        obtain ⟨q1, _⟩ := HFE.out.1
        have f1 := HI3.out.2.1
        clear HFE HZ HCC
        go_wp2
        go_roundw
        case rel =>
          refine ⟨zs, ⟨⟨_, World.cell?_setCell_same _ _ _ q1, HIN.out.tail⟩, by rw [World.frozen?_setCell]; exact f1, HI3.out.2.2.1.setCell (p := ⟨B, 0, none⟩) (Nat.le_refl _) _, HOK.out⟩, ?_, HG3.out.trans (grownBy_set w3 B 0 _), HD2.out⟩
          obtain ⟨y1, y2, y3, y4, y5⟩ := HV3.out
          refine ⟨?_, ?_, ?_, ?_, ?_⟩
          · rw [World.cell?_setCell_other _ _ _ _ (fun e => by cases e; omega)]; exact y1
          · rw [World.cell?_setCell_other _ _ _ _ (fun e => by cases e)]; exact y2
          · rw [World.frozen?_setCell]; exact y3
          · rw [World.frozen?_setCell]; exact y4
          · simpa [World.setCell] using y5
        case measure =>
          rw [hml, memLen_of (World.cell?_setCell_same _ _ _ q1)]
          simp [sliceLen]
      · have e : D = z :: zs := by rw [← HZ.out.2.2.2, dropF, if_neg (by rw [HCC.out]; exact hneg)]
        subst e
        have HI : Hid (IF w0 B (z :: zs) wr) := HZ.out.1
        have HG : Hid (w.grownBy wr (some B)) := HZ.out.2.2.1
        clear HZ HCC
        obtain ⟨m1, em1⟩ : ∃ m, ((beh z).r == p.r) = m := ⟨_, rfl⟩
        obtain ⟨m2, em2⟩ : ∃ m, ((beh z).a == p.a) = m := ⟨_, rfl⟩
        have HH : Hid (headB p (z :: zs) = (m1 && m2)) := by
          show _ = _
          rw [← em1, ← em2, headB, Bool.eq_iff_iff]
          obtain ⟨pr, pa⟩ := p
          simp [beh]
        cases m1 <;> cases m2 <;> (
          go_wp2_with fail
          have HFE : Hid _ := FE.drew HFE.out
          go_region_held3 (fun w' => w'.cell? ⟨B, 0, none⟩ = some (.slice (some ⟨b, o, none⟩) (n + 1) c) ∧ w'.cell? ⟨b, o, none⟩ = some (.int .i64 z.r) ∧ w'.cell? ⟨b, o + 1, none⟩ = some (.int .i64 z.a) ∧ w'.cell? ⟨w.heap.size, 0, none⟩ = some (.int .i64 p.r) ∧ w'.cell? ⟨w.heap.size, 1, none⟩ = some (.int .i64 p.a)) (exact HFE.out.1)
            ((go_at_call 31; refine Calls.mono (behind_any z ok3 ok4 _) ?_; rintro _ w4 ⟨rfl, hb4⟩; have HFE : Hid _ := FE.step HFE.out hb4; clear hb4))
          go_wp2
          go_ret
          exact ⟨by rw [HH.out]; rfl, IF.step HI.out (HFE.out.2.2.mono (by omega)) (HFE.out.2.2.block B hB3), HG.out.trans (grown_of_belowP HFE.out.2.2 _)⟩)
end Go.Proofs.Ytalfjdpdecngoaa
