/- Part 28 of 39. -/
import Derived.Test.YtbdcbaamjkjhaaaGreatDoorG27
import Derived.Deep.RegionLaw
import Derived.Deep.AppendLies
namespace Go.Proofs.YtbdcbaamjkjhaaaGreatDoor
open Go.RowKit

set_option maxRecDepth 100000 in
set_option maxHeartbeats 8000000 in
theorem list_si {σ : Type} {one : σ → Rf σ} (hr1 : ∀ s, Reads (one s)) (A : Nat) (x0 x1 : Value) (Pre Inv : σ → List KT → World → Prop) (Err : World → Prop) (hJ : ∀ s l w, Inv s l w → RdIs A l w)
    (hK : ∀ s l w w1, Inv s l w → RdIs A l w1 → w.grownBy w1 (some A) → Inv s l w1) (hU : ∀ s l w w1, Inv s l w → RdIs A l.tail w1 → w.grownBy w1 (some A) → l.tail.length < l.length → Pre s l.tail w1)
    (hO : ∀ s l w, Pre s l w → Calls Tryz.prog 129 #[x0, x1] w fun e w' => (∃ s2 l2, one s l = some (s2, l2) ∧ e = .returned (.tuple #[]) ∧ Inv s2 l2 w') ∨ (one s l = none ∧ Thr e ∧ Err w')) (s : σ) (l : List KT) (w : World) (h : Pre s l w) (hl : OkT l) :
    Calls Tryz.prog 119 #[.pointer (some ⟨A, 0, none⟩), .func (.func 129) #[] #[x0, x1]] w fun e w' => (∃ s2 l2, listS one s l = some (s2, l2) ∧ e = .returned (.tuple #[]) ∧ Inv s2 l2 w') ∨ (listS one s l = none ∧ Thr e ∧ Err w') := by
  have HO : Hid (∀ s l w, Pre s l w → Calls Tryz.prog 129 #[x0, x1] w fun e w' => (∃ s2 l2, one s l = some (s2, l2) ∧ e = .returned (.tuple #[]) ∧ Inv s2 l2 w') ∨ (one s l = none ∧ Thr e ∧ Err w')) := hO
  have HJ : Hid ((∀ s l w, Inv s l w → RdIs A l w) ∧ (∀ s l w w1, Inv s l w → RdIs A l w1 → w.grownBy w1 (some A) → Inv s l w1) ∧ (∀ s l w w1, Inv s l w → RdIs A l.tail w1 → w.grownBy w1 (some A) → l.tail.length < l.length → Pre s l.tail w1) ∧ ∀ s, Reads (one s)) := ⟨hJ, hK, hU, hr1⟩
  have H : Hid (Pre s l w ∧ OkT l) := ⟨h, hl⟩
  obtain ⟨R, hRe⟩ : ∃ R, listS one s l = R := ⟨_, rfl⟩
  have HR : Hid ((one s l).bind (fun x => eachL one x.2.length x.1 x.2) = R) := hRe
  rw [hRe]
  clear hO hJ hK hU hr1 h hRe hl
  go_enter Tryz.func119, Tryz.ntmps119
  go_wp2_with fail
  refine (HO.out s l w H.out.1).mono ?_
  rintro _ w1 (⟨s1, l1, hf1, rfl, hi1⟩ | ⟨hf1, ⟨n1, m1, rfl⟩, he1⟩)
  · have HS : Hid (eachL one l1.length s1 l1 = R ∧ Inv s1 l1 w1) := ⟨by have := HR.out; rw [hf1] at this; exact this, hi1⟩
    clear hf1 hi1 HR
    go_wp2
    go_loopw [6] (fun _ wr => ∃ (s' : σ) (l' : List KT), Hid (eachL one l'.length s' l' = R ∧ Inv s' l' wr)) (fun _ wr => lenCell (wr.cell? ⟨A, 0, none⟩))
    case atStart => exact ⟨_, _, HS⟩
    case round =>
      clear HS
      obtain ⟨s', l', HS⟩ := hrel
      obtain ⟨wo, rfl⟩ : ∃ wo, wo = wr := ⟨_, rfl⟩
      have hrd := HJ.out.1 _ _ _ HS.out.2
      have HRd : Hid (RdIs A l' wo) := hrd
      have HLen : Hid (lenCell (wo.cell? ⟨A, 0, none⟩) = l'.length) := hrd.len
      have HTl : Hid (l'.length = l'.tail.length + 1) := by show _ = _; rw [hrd.ok.cons]; rfl
      obtain ⟨b, hb⟩ : ∃ b, isT ⟨#[44]⟩ l' = b := ⟨_, rfl⟩
      have HSee : Hid (isT ⟨#[44]⟩ l' = b) := hb
      clear hb hrd
      cases b
      · have HE : Hid (R = some (s', l')) := by
          show _ = _
          rw [← HS.out.1]
          exact each_stop HSee.out _ _
        go_wp2_with fail
        refine (has_any A l' ⟨#[44]⟩ false HSee.out wo HRd.out).mono ?_
        rintro _ w2 ⟨rfl, hr2, hg2⟩
        have HI : Hid (Inv s' l' w2) := HJ.out.2.1 s' l' wo w2 HS.out.2 hr2 hg2
        clear hr2 hg2
        go_wp2
        go_end0
        exact .inl ⟨s', l', HE.out, rfl, HI.out⟩
      · have HE : Hid ((one s' l'.tail).bind (fun x => eachL one x.2.length x.1 x.2) = R) := by
          show _ = _
          rw [← HS.out.1]
          exact (each_step HJ.out.2.2.2 HRd.out.ok HSee.out s').symm
        go_wp2_with fail
        refine (has_any A l' ⟨#[44]⟩ true HSee.out wo HRd.out).mono ?_
        rintro _ w2 ⟨rfl, hr2, hg2⟩
        have HI : Hid (Pre s' l'.tail w2) := HJ.out.2.2.1 s' l' wo w2 HS.out.2 hr2 hg2 (by have := HTl.out; omega)
        have HOk : Hid (OkT l'.tail) := hr2.ok
        clear hr2 hg2
        go_wp2_with fail
        refine (HO.out s' l'.tail w2 HI.out).mono ?_
        rintro _ w3 (⟨s3, l3, hf3, rfl, hi3⟩ | ⟨hf3, ⟨n1, m1, rfl⟩, he3⟩)
        · have HN : Hid (eachL one l3.length s3 l3 = R ∧ Inv s3 l3 w3) := ⟨by have := HE.out; rw [hf3] at this; exact this, hi3⟩
          have HM : Hid (lenCell (w3.cell? ⟨A, 0, none⟩) < lenCell (wo.cell? ⟨A, 0, none⟩)) := by
            show _ < _
            rw [(HJ.out.1 _ _ _ hi3).len, HLen.out, HTl.out]
            have := (HJ.out.2.2.2 s' _ HOk.out _ hf3).2
            simp only at this
            omega
          clear hi3 hf3
          go_wp2
          go_roundw
          case rel => exact ⟨_, _, HN⟩
          case measure => exact HM.out
        · have H3 : Hid (Err w3 ∧ R = none) := ⟨he3, by rw [← HE.out, hf3]; rfl⟩
          clear he3 hf3
          go_wp2
          exact ⟨by first | rfl | trivial, .inr ⟨H3.out.2, ⟨n1, m1, rfl⟩, H3.out.1⟩⟩
  · have H3 : Hid (Err w1 ∧ R = none) := ⟨he1, by rw [← HR.out, hf1]; rfl⟩
    clear he1 hf1
    go_wp2
    exact ⟨by first | rfl | trivial, .inr ⟨H3.out.2, ⟨n1, m1, rfl⟩, H3.out.1⟩⟩
set_option maxRecDepth 100000 in
set_option maxHeartbeats 8000000 in
theorem list_so {σ : Type} {one : σ → Rf σ} (hr1 : ∀ s, Reads (one s)) (A : Nat) (x0 x1 : Value) (Pre Inv : σ → List KT → World → Prop) (Err : World → Prop) (hJ : ∀ s l w, Inv s l w → RdIs A l w)
    (hK : ∀ s l w w1, Inv s l w → RdIs A l w1 → w.grownBy w1 (some A) → Inv s l w1) (hU : ∀ s l w w1, Inv s l w → RdIs A l.tail w1 → w.grownBy w1 (some A) → l.tail.length < l.length → Pre s l.tail w1)
    (hO : ∀ s l w, Pre s l w → Calls Tryz.prog 131 #[x0, x1] w fun e w' => (∃ s2 l2, one s l = some (s2, l2) ∧ e = .returned (.tuple #[]) ∧ Inv s2 l2 w') ∨ (one s l = none ∧ Thr e ∧ Err w')) (s : σ) (l : List KT) (w : World) (h : Pre s l w) (hl : OkT l) :
    Calls Tryz.prog 119 #[.pointer (some ⟨A, 0, none⟩), .func (.func 131) #[] #[x0, x1]] w fun e w' => (∃ s2 l2, listS one s l = some (s2, l2) ∧ e = .returned (.tuple #[]) ∧ Inv s2 l2 w') ∨ (listS one s l = none ∧ Thr e ∧ Err w') := by
  have HO : Hid (∀ s l w, Pre s l w → Calls Tryz.prog 131 #[x0, x1] w fun e w' => (∃ s2 l2, one s l = some (s2, l2) ∧ e = .returned (.tuple #[]) ∧ Inv s2 l2 w') ∨ (one s l = none ∧ Thr e ∧ Err w')) := hO
  have HJ : Hid ((∀ s l w, Inv s l w → RdIs A l w) ∧ (∀ s l w w1, Inv s l w → RdIs A l w1 → w.grownBy w1 (some A) → Inv s l w1) ∧ (∀ s l w w1, Inv s l w → RdIs A l.tail w1 → w.grownBy w1 (some A) → l.tail.length < l.length → Pre s l.tail w1) ∧ ∀ s, Reads (one s)) := ⟨hJ, hK, hU, hr1⟩
  have H : Hid (Pre s l w ∧ OkT l) := ⟨h, hl⟩
  obtain ⟨R, hRe⟩ : ∃ R, listS one s l = R := ⟨_, rfl⟩
  have HR : Hid ((one s l).bind (fun x => eachL one x.2.length x.1 x.2) = R) := hRe
  rw [hRe]
  clear hO hJ hK hU hr1 h hRe hl
  go_enter Tryz.func119, Tryz.ntmps119
  go_wp2_with fail
  refine (HO.out s l w H.out.1).mono ?_
  rintro _ w1 (⟨s1, l1, hf1, rfl, hi1⟩ | ⟨hf1, ⟨n1, m1, rfl⟩, he1⟩)
  · have HS : Hid (eachL one l1.length s1 l1 = R ∧ Inv s1 l1 w1) := ⟨by have := HR.out; rw [hf1] at this; exact this, hi1⟩
    clear hf1 hi1 HR
    go_wp2
    go_loopw [6] (fun _ wr => ∃ (s' : σ) (l' : List KT), Hid (eachL one l'.length s' l' = R ∧ Inv s' l' wr)) (fun _ wr => lenCell (wr.cell? ⟨A, 0, none⟩))
    case atStart => exact ⟨_, _, HS⟩
    case round =>
      clear HS
      obtain ⟨s', l', HS⟩ := hrel
      obtain ⟨wo, rfl⟩ : ∃ wo, wo = wr := ⟨_, rfl⟩
      have hrd := HJ.out.1 _ _ _ HS.out.2
      have HRd : Hid (RdIs A l' wo) := hrd
      have HLen : Hid (lenCell (wo.cell? ⟨A, 0, none⟩) = l'.length) := hrd.len
      have HTl : Hid (l'.length = l'.tail.length + 1) := by show _ = _; rw [hrd.ok.cons]; rfl
      obtain ⟨b, hb⟩ : ∃ b, isT ⟨#[44]⟩ l' = b := ⟨_, rfl⟩
      have HSee : Hid (isT ⟨#[44]⟩ l' = b) := hb
      clear hb hrd
      cases b
      · have HE : Hid (R = some (s', l')) := by
          show _ = _
          rw [← HS.out.1]
          exact each_stop HSee.out _ _
        go_wp2_with fail
        refine (has_any A l' ⟨#[44]⟩ false HSee.out wo HRd.out).mono ?_
        rintro _ w2 ⟨rfl, hr2, hg2⟩
        have HI : Hid (Inv s' l' w2) := HJ.out.2.1 s' l' wo w2 HS.out.2 hr2 hg2
        clear hr2 hg2
        go_wp2
        go_end0
        exact .inl ⟨s', l', HE.out, rfl, HI.out⟩
      · have HE : Hid ((one s' l'.tail).bind (fun x => eachL one x.2.length x.1 x.2) = R) := by
          show _ = _
          rw [← HS.out.1]
          exact (each_step HJ.out.2.2.2 HRd.out.ok HSee.out s').symm
        go_wp2_with fail
        refine (has_any A l' ⟨#[44]⟩ true HSee.out wo HRd.out).mono ?_
        rintro _ w2 ⟨rfl, hr2, hg2⟩
        have HI : Hid (Pre s' l'.tail w2) := HJ.out.2.2.1 s' l' wo w2 HS.out.2 hr2 hg2 (by have := HTl.out; omega)
        have HOk : Hid (OkT l'.tail) := hr2.ok
        clear hr2 hg2
        go_wp2_with fail
        refine (HO.out s' l'.tail w2 HI.out).mono ?_
        rintro _ w3 (⟨s3, l3, hf3, rfl, hi3⟩ | ⟨hf3, ⟨n1, m1, rfl⟩, he3⟩)
        · have HN : Hid (eachL one l3.length s3 l3 = R ∧ Inv s3 l3 w3) := ⟨by have := HE.out; rw [hf3] at this; exact this, hi3⟩
          have HM : Hid (lenCell (w3.cell? ⟨A, 0, none⟩) < lenCell (wo.cell? ⟨A, 0, none⟩)) := by
            show _ < _
            rw [(HJ.out.1 _ _ _ hi3).len, HLen.out, HTl.out]
            have := (HJ.out.2.2.2 s' _ HOk.out _ hf3).2
            simp only at this
            omega
          clear hi3 hf3
          go_wp2
          go_roundw
          case rel => exact ⟨_, _, HN⟩
          case measure => exact HM.out
        · have H3 : Hid (Err w3 ∧ R = none) := ⟨he3, by rw [← HE.out, hf3]; rfl⟩
          clear he3 hf3
          go_wp2
          exact ⟨by first | rfl | trivial, .inr ⟨H3.out.2, ⟨n1, m1, rfl⟩, H3.out.1⟩⟩
  · have H3 : Hid (Err w1 ∧ R = none) := ⟨he1, by rw [← HR.out, hf1]; rfl⟩
    clear he1 hf1
    go_wp2
    exact ⟨by first | rfl | trivial, .inr ⟨H3.out.2, ⟨n1, m1, rfl⟩, H3.out.1⟩⟩
set_option maxRecDepth 100000 in
set_option maxHeartbeats 8000000 in
theorem list_r {σ : Type} {one : σ → Rf σ} (hr1 : ∀ s, Reads (one s)) (A : Nat) (x0 x1 : Value) (Pre Inv : σ → List KT → World → Prop) (Err : World → Prop) (hJ : ∀ s l w, Inv s l w → RdIs A l w)
    (hK : ∀ s l w w1, Inv s l w → RdIs A l w1 → w.grownBy w1 (some A) → Inv s l w1) (hU : ∀ s l w w1, Inv s l w → RdIs A l.tail w1 → w.grownBy w1 (some A) → l.tail.length < l.length → Pre s l.tail w1)
    (hO : ∀ s l w, Pre s l w → Calls Tryz.prog 146 #[x0, x1] w fun e w' => (∃ s2 l2, one s l = some (s2, l2) ∧ e = .returned (.tuple #[]) ∧ Inv s2 l2 w') ∨ (one s l = none ∧ Thr e ∧ Err w')) (s : σ) (l : List KT) (w : World) (h : Pre s l w) (hl : OkT l) :
    Calls Tryz.prog 119 #[.pointer (some ⟨A, 0, none⟩), .func (.func 146) #[] #[x0, x1]] w fun e w' => (∃ s2 l2, listS one s l = some (s2, l2) ∧ e = .returned (.tuple #[]) ∧ Inv s2 l2 w') ∨ (listS one s l = none ∧ Thr e ∧ Err w') := by
  have HO : Hid (∀ s l w, Pre s l w → Calls Tryz.prog 146 #[x0, x1] w fun e w' => (∃ s2 l2, one s l = some (s2, l2) ∧ e = .returned (.tuple #[]) ∧ Inv s2 l2 w') ∨ (one s l = none ∧ Thr e ∧ Err w')) := hO
  have HJ : Hid ((∀ s l w, Inv s l w → RdIs A l w) ∧ (∀ s l w w1, Inv s l w → RdIs A l w1 → w.grownBy w1 (some A) → Inv s l w1) ∧ (∀ s l w w1, Inv s l w → RdIs A l.tail w1 → w.grownBy w1 (some A) → l.tail.length < l.length → Pre s l.tail w1) ∧ ∀ s, Reads (one s)) := ⟨hJ, hK, hU, hr1⟩
  have H : Hid (Pre s l w ∧ OkT l) := ⟨h, hl⟩
  obtain ⟨R, hRe⟩ : ∃ R, listS one s l = R := ⟨_, rfl⟩
  have HR : Hid ((one s l).bind (fun x => eachL one x.2.length x.1 x.2) = R) := hRe
  rw [hRe]
  clear hO hJ hK hU hr1 h hRe hl
  go_enter Tryz.func119, Tryz.ntmps119
  go_wp2_with fail
  refine (HO.out s l w H.out.1).mono ?_
  rintro _ w1 (⟨s1, l1, hf1, rfl, hi1⟩ | ⟨hf1, ⟨n1, m1, rfl⟩, he1⟩)
  · have HS : Hid (eachL one l1.length s1 l1 = R ∧ Inv s1 l1 w1) := ⟨by have := HR.out; rw [hf1] at this; exact this, hi1⟩
    clear hf1 hi1 HR
    go_wp2
    go_loopw [6] (fun _ wr => ∃ (s' : σ) (l' : List KT), Hid (eachL one l'.length s' l' = R ∧ Inv s' l' wr)) (fun _ wr => lenCell (wr.cell? ⟨A, 0, none⟩))
    case atStart => exact ⟨_, _, HS⟩
    case round =>
      clear HS
      obtain ⟨s', l', HS⟩ := hrel
      obtain ⟨wo, rfl⟩ : ∃ wo, wo = wr := ⟨_, rfl⟩
      have hrd := HJ.out.1 _ _ _ HS.out.2
      have HRd : Hid (RdIs A l' wo) := hrd
      have HLen : Hid (lenCell (wo.cell? ⟨A, 0, none⟩) = l'.length) := hrd.len
      have HTl : Hid (l'.length = l'.tail.length + 1) := by show _ = _; rw [hrd.ok.cons]; rfl
      obtain ⟨b, hb⟩ : ∃ b, isT ⟨#[44]⟩ l' = b := ⟨_, rfl⟩
      have HSee : Hid (isT ⟨#[44]⟩ l' = b) := hb
      clear hb hrd
      cases b
      · have HE : Hid (R = some (s', l')) := by
          show _ = _
          rw [← HS.out.1]
          exact each_stop HSee.out _ _
        go_wp2_with fail
        refine (has_any A l' ⟨#[44]⟩ false HSee.out wo HRd.out).mono ?_
        rintro _ w2 ⟨rfl, hr2, hg2⟩
        have HI : Hid (Inv s' l' w2) := HJ.out.2.1 s' l' wo w2 HS.out.2 hr2 hg2
        clear hr2 hg2
        go_wp2
        go_end0
        exact .inl ⟨s', l', HE.out, rfl, HI.out⟩
      · have HE : Hid ((one s' l'.tail).bind (fun x => eachL one x.2.length x.1 x.2) = R) := by
          show _ = _
          rw [← HS.out.1]
          exact (each_step HJ.out.2.2.2 HRd.out.ok HSee.out s').symm
        go_wp2_with fail
        refine (has_any A l' ⟨#[44]⟩ true HSee.out wo HRd.out).mono ?_
        rintro _ w2 ⟨rfl, hr2, hg2⟩
        have HI : Hid (Pre s' l'.tail w2) := HJ.out.2.2.1 s' l' wo w2 HS.out.2 hr2 hg2 (by have := HTl.out; omega)
        have HOk : Hid (OkT l'.tail) := hr2.ok
        clear hr2 hg2
        go_wp2_with fail
        refine (HO.out s' l'.tail w2 HI.out).mono ?_
        rintro _ w3 (⟨s3, l3, hf3, rfl, hi3⟩ | ⟨hf3, ⟨n1, m1, rfl⟩, he3⟩)
        · have HN : Hid (eachL one l3.length s3 l3 = R ∧ Inv s3 l3 w3) := ⟨by have := HE.out; rw [hf3] at this; exact this, hi3⟩
          have HM : Hid (lenCell (w3.cell? ⟨A, 0, none⟩) < lenCell (wo.cell? ⟨A, 0, none⟩)) := by
            show _ < _
            rw [(HJ.out.1 _ _ _ hi3).len, HLen.out, HTl.out]
            have := (HJ.out.2.2.2 s' _ HOk.out _ hf3).2
            simp only at this
            omega
          clear hi3 hf3
          go_wp2
          go_roundw
          case rel => exact ⟨_, _, HN⟩
          case measure => exact HM.out
        · have H3 : Hid (Err w3 ∧ R = none) := ⟨he3, by rw [← HE.out, hf3]; rfl⟩
          clear he3 hf3
          go_wp2
          exact ⟨by first | rfl | trivial, .inr ⟨H3.out.2, ⟨n1, m1, rfl⟩, H3.out.1⟩⟩
  · have H3 : Hid (Err w1 ∧ R = none) := ⟨he1, by rw [← HR.out, hf1]; rfl⟩
    clear he1 hf1
    go_wp2
    exact ⟨by first | rfl | trivial, .inr ⟨H3.out.2, ⟨n1, m1, rfl⟩, H3.out.1⟩⟩
end Go.Proofs.YtbdcbaamjkjhaaaGreatDoor
namespace Go.Proofs.YtbdcbaamjkjhaaaGreatDoor
open Go.RowKit

theorem RowOf.low {N n : Nat} {u : World} {v : Value} {L : List Ex} (h : RowOf N 26 1 (EP (N - 1) u) u v L) (hn : n ≤ N) : RowOf n 26 1 (EP (n - 1) u) u v L := by
  obtain ⟨cs, h1, h2⟩ := h
  refine ⟨cs, h1.mono (fun a c ⟨p, e, hx⟩ => ⟨p, e, hx.mono (by omega)⟩), h2.1, ?_⟩
  rcases h2.2 with h3 | ⟨g, cap, cur, e1, e2, e3, e4⟩
  · exact .inl h3
  · exact .inr ⟨g, cap, cur, e1, by omega, e3, e4⟩
/-- what row tells -/
def ToldW (A : Nat) (R : Option (List Ex × List KT)) (w : World) (e : Ending) (w' : World) : Prop :=
  w.grownBy w' (some A) ∧ ((∃ x l v, R = some (x, l) ∧ e = .returned v ∧ RowOf w.heap.size 26 1 (EP (w.heap.size - 1) w') w' v x ∧ RdIs A l w') ∨ (R = none ∧ Thr e))
abbrev AccR (c A z x : Nat) (w0 : World) (L : List Ex) (l : List KT) (w : World) : Prop := Acc c A z x w0 (fun v => #[v]) 25 26 1 (EP (w0.heap.size - 1)) (fun _ => True) L l w
theorem listR_any (hE : ESpec Ef 0) {A z x : Nat} {w0 : World} {L : List Ex} {l : List KT} {w : World} (h : AccR 300 A z x w0 L l w) :
    Calls Tryz.prog 119 #[.pointer (some ⟨A, 0, none⟩), .func (.func 146) #[] #[.pointer (some ⟨z, 0, none⟩), .pointer (some ⟨x, 0, none⟩)]] w fun e w' =>
      (∃ L2 l2, listS (oneOf Ef) L l = some (L2, l2) ∧ e = .returned (.tuple #[]) ∧ AccR 301 A z x w0 L2 l2 w') ∨ (listS (oneOf Ef) L l = none ∧ Thr e ∧ w0.grownBy w' (some A)) := by
  have hs : Stays A 26 25 (EP (w0.heap.size - 1)) := EP_stays (by have := h.lo; omega) (by decide)
  refine list_r (fun s => oneOf_reads Ef_reads s) A _ _ (fun L l w => AccR 300 A z x w0 L l w) (fun L l w => AccR 301 A z x w0 L l w) (fun w' => w0.grownBy w' (some A)) (fun _ _ _ h => h.rd) ?_ ?_ (fun s l w h => cl_r hE (staysT _ _ _) h) L l w h h.rd.ok
  · intro L l w w1 h hr hg
    exact h.grown hs (staysT _ _ _) hr hg h.cnt
  · intro L l w w1 h hr hg hl
    exact h.grown hs (staysT _ _ _) hr hg (by have := h.cnt; omega)
set_option maxHeartbeats 2000000 in
theorem row1_any (hE : ESpec Ef 0) {A z x : Nat} {w0 : World} {l : List KT} {w : World} (h : AccR 300 A z x w0 [] l w) :
    Calls Tryz.prog 145 #[.pointer (some ⟨x, 0, none⟩), .pointer (some ⟨z, 0, none⟩)] w fun e w' =>
      (∃ L2 l2, listF Ef l = some (L2, l2) ∧ e = .returned (.tuple #[]) ∧ AccR 301 A z x w0 L2 l2 w') ∨ (listF Ef l = none ∧ Thr e ∧ w0.grownBy w' (some A)) := by
  have HE : Hid (ESpec Ef 0) := hE
  have H : Hid (AccR 300 A z x w0 [] l w) := h
  have cx : w.cell? ⟨x, 0, none⟩ = some (.pointer (some ⟨A, 0, none⟩)) := by rw [h.hx.cell 0]; rfl
  clear h hE
  go_enter Tryz.func145, Tryz.ntmps145
  go_wp2_with fail
  refine (listR_any HE.out H.out).mono ?_
  rintro _ w1 (⟨L2, l2, h1, rfl, h2⟩ | ⟨h1, ⟨n1, m1, rfl⟩, h2⟩)
  · go_wp2
    go_end0
    exact .inl ⟨_, _, h1, rfl, h2⟩
  · go_wp2
    exact ⟨by first | rfl | trivial, .inr ⟨h1, ⟨n1, m1, rfl⟩, h2⟩⟩
theorem inR_any (hE : ESpec Ef 0) {A z x : Nat} {w0 : World} {l : List KT} {w : World} (h : AccR 300 A z x w0 [] l w) :
    Calls Tryz.prog 116 #[.pointer (some ⟨A, 0, none⟩), .func (.func 145) #[] #[.pointer (some ⟨x, 0, none⟩), .pointer (some ⟨z, 0, none⟩)]] w fun e w' =>
      (∃ L2 l2, rowF l = some (L2, l2) ∧ e = .returned (.tuple #[]) ∧ AccR 301 A z x w0 L2 l2 w') ∨ (rowF l = none ∧ Thr e ∧ w0.grownBy w' (some A)) := by
  have hs : Stays A 26 25 (EP (w0.heap.size - 1)) := EP_stays (by have := h.lo; omega) (by decide)
  refine inside_r A _ _ (fun l w => AccR 300 A z x w0 [] l w) (fun L l w => AccR 301 A z x w0 L l w) (fun w' => w0.grownBy w' (some A)) (fun _ _ h => h.rd) ?_ (fun _ _ _ h => h.rd) ?_ (fun l w w1 h hg => h.gr.trans hg) (fun a l w w1 h hg => h.gr.trans hg) (fun l w h => row1_any hE h) l w h
  · intro l l1 w w1 h hr hg hl
    exact h.grown hs (staysT _ _ _) hr hg (by have := h.cnt; omega)
  · intro a l l1 w w1 h hr hg hl
    exact h.grown hs (staysT _ _ _) hr hg (by have := h.cnt; omega)
set_option maxRecDepth 100000 in
set_option maxHeartbeats 4000000 in
theorem row_any (hE : ESpec Ef 0) (A : Nat) (l : List KT) (w : World) (h : RdIs A l w) : Calls Tryz.prog 125 #[.pointer (some ⟨A, 0, none⟩)] w fun e w' => ToldW A (rowF l) w e w' := by
  have HE : Hid (ESpec Ef 0) := hE
  obtain ⟨W1, hW1⟩ : ∃ W, w.alloc (.cells #[.pointer (some ⟨A, 0, none⟩)] 104) = W := ⟨_, rfl⟩
  obtain ⟨W, hW⟩ : ∃ W, W1.alloc (.cells #[.slice none 0 0] 25) = W := ⟨_, rfl⟩
  have hb1 : Below w.heap.size w W1 := by rw [← hW1]; exact (Below.refl _ _).alloc (Nat.le_refl _) _
  have hb : Below W1.heap.size W1 W := by rw [← hW]; exact (Below.refl _ _).alloc (Nat.le_refl _) _
  have hs1 : W1.heap.size = w.heap.size + 1 := by rw [← hW1]; simp
  have hkx : Blk w.heap.size #[.pointer (some ⟨A, 0, none⟩)] 104 W := by
    have : Blk w.heap.size #[.pointer (some ⟨A, 0, none⟩)] 104 W1 := by rw [← hW1]; exact Blk.new _ _ _
    exact this.below hb
  have hkz : Blk (w.heap.size + 1) #[.slice none 0 0] 25 W := by rw [← hW, ← hs1]; exact Blk.new _ _ _
  have hA := h.lt
  have HW : Hid (AccR 300 A (w.heap.size + 1) w.heap.size w [] l W) := ⟨(h.below hb1).below hb, hkx, by omega, by omega, ⟨_, hkz, RowOf.nil _ _ _ _ _⟩, (grown_of_belowA hb1 _).trans (grown_of_belowA hb _), hA, by omega, by simpa using h.ok.2, trivial⟩
  have cx : W.cell? ⟨w.heap.size, 0, none⟩ = some (.pointer (some ⟨A, 0, none⟩)) := by rw [hkx.cell 0]; rfl
  clear h hE hb1 hb hkx hkz
  go_enter Tryz.func125, Tryz.ntmps125
  go_wp2_with fail
  refine (inR_any HE.out HW.out).mono ?_
  rintro _ w1 (⟨L2, l2, h1, rfl, h2⟩ | ⟨h1, ⟨n1, m1, rfl⟩, h2⟩)
  · obtain ⟨v, hk, hrow⟩ := h2.st
    have c1 : w1.cell? ⟨w.heap.size + 1, 0, none⟩ = some v := by rw [hk.cell 0]; rfl
    obtain ⟨cs, hcs, hown⟩ := hrow
    obtain ⟨a0, c0, rfl⟩ := own_slice hown
    have HF : Hid (rowF l = some (L2, l2) ∧ w.grownBy w1 (some A) ∧ RdIs A l2 w1 ∧ RowOf w.heap.size 26 1 (EP (w.heap.size - 1) w1) w1 (.slice a0 L2.length c0) L2) := ⟨h1, h2.gr, h2.rd, cs, hcs, hown⟩
    clear h1 h2 hk hcs hown
    go_wp2
    go_ret
    exact ⟨HF.out.2.1, .inl ⟨_, _, _, HF.out.1, rfl, HF.out.2.2.2, HF.out.2.2.1⟩⟩
  · go_wp2
    exact ⟨by first | rfl | trivial, h2, .inr ⟨h1, n1, m1, rfl⟩⟩
end Go.Proofs.YtbdcbaamjkjhaaaGreatDoor
namespace Go.Proofs.YtbdcbaamjkjhaaaGreatDoor
open Go.RowKit

set_option maxRecDepth 100000 in
set_option maxHeartbeats 64000000 in
theorem cl_in (hE : ESpec Ef 0) {A S x : Nat} {w0 : World} {sv : SV} {J : World → Prop} (hJ : StaysJ A 25 30 J) {L : List (List Ex)} {l : List KT} {w : World} (h : Acc 300 A S x w0 (fun v => ({ sv with rows := v } : SV).cells) 30 25 1 (ERw (w0.heap.size - 1) w0.heap.size) J L l w) :
    Calls Tryz.prog 124 #[.pointer (some ⟨S, 0, none⟩), .pointer (some ⟨x, 0, none⟩)] w fun e w' => (∃ L2 l2, oneOf rowF L l = some (L2, l2) ∧ e = .returned (.tuple #[]) ∧ Acc 301 A S x w0 (fun v => ({ sv with rows := v } : SV).cells) 30 25 1 (ERw (w0.heap.size - 1) w0.heap.size) J L2 l2 w') ∨ (oneOf rowF L l = none ∧ Thr e ∧ w0.grownBy w' (some A)) := by
  obtain ⟨i0, hi, hz0, hz1, hz2⟩ := info_parts infoSl
  have HE : Hid (ESpec Ef 0) := hE
  have H : Hid (Acc 300 A S x w0 (fun v => ({ sv with rows := v } : SV).cells) 30 25 1 (ERw (w0.heap.size - 1) w0.heap.size) J L l w) := h
  have HJ : Hid (StaysJ A 25 30 J) := hJ
  obtain ⟨v, hst, cs, hcs, hown⟩ := h.st
  obtain ⟨a4, c4, rfl⟩ := own_slice hown
  have hcnt := h.cnt
  have hLr : L.length ≤ 300 := by omega
  have hlo := h.lo
  have hS0 := h.S0
  have HD : Hid (RdIs A l w.drew) := h.rd.below (Below.refl _ _).drew
  have HC : Hid (∀ wx, Fr (fun k o => k = A ∨ ∃ c fz, o = .cells c 25 fz) w.drew wx → wx.cell? ⟨S, 5, none⟩ = some (.slice a4 L.length c4) ∧ wx.frozen? ⟨S, 5, none⟩ = false ∧ wx.cell? ⟨x, 0, none⟩ = some (.pointer (some ⟨A, 0, none⟩)) ∧ w0.heap.size ≤ wx.heap.size) := fun wx hf => by
    have h1 := (hst.below (Below.refl _ _).drew).fr hf (by
      rintro (e | ⟨c, fz, e⟩)
      · omega
      · cases e)
    have h2 := (h.hx.below (Below.refl _ _).drew).fr hf (by
      rintro (e | ⟨c, fz, e⟩)
      · exact h.nx e
      · cases e)
    exact ⟨by rw [h1.cell 5]; rfl, h1.free 5, by rw [h2.cell 0]; rfl, by have := h1.lt; omega⟩
  have HFr : Hid (Fr (fun k o => k = A ∨ ∃ c fz, o = .cells c 25 fz) w.drew w.drew) := Fr.refl _ _
  have HOw : Hid (w.drew.ownsRow w0.heap.size 25 1 (.slice a4 L.length c4) L.length cs.flatten) := own_below hown (Below.refl _ _).drew
  have HKeep : Hid (All2 ((ERw (w0.heap.size - 1) w0.heap.size) w) L cs ∧ Blk S ((fun v => ({ sv with rows := v } : SV).cells) (.slice a4 L.length c4)) 30 w ∧ w.ownsRow w0.heap.size 25 1 (.slice a4 L.length c4) L.length cs.flatten) := ⟨hcs, hst, hown⟩
  have HXM : Hid (∀ (u : World) (va : Value) (a : List Ex), RowOf w.drew.heap.size 26 1 (EP (w.drew.heap.size - 1) u) u va a → RowOf w0.heap.size 26 1 (EP (w0.heap.size - 1) u) u va a) := fun u va a hr => hr.low h.gr.size
  clear h hE hJ hst hcs hown
  obtain ⟨cS, fS, cX, lS⟩ := HC.out _ HFr.out
  cases hF : rowF l with
  | none =>
    have HR : Hid (oneOf rowF L l = none) := by show oneOf rowF L l = none; unfold oneOf; rw [hF]; rfl
    have HFn : Hid (rowF l = none) := hF
    clear hF
    go_enter Tryz.func124, Tryz.ntmps124
    go_wp2_with fail
    refine wp_region_held_drew (S := fun w' => w'.cell? ⟨S, 5, none⟩ = some (.slice a4 L.length c4) ∧ w'.cell? ⟨x, 0, none⟩ = some (.pointer (some ⟨A, 0, none⟩))) (by kernel_rfl) ⟨cS, cX⟩ (fun hHeld => ?_)
    refine wpAnyH_take (i := 0) (oi := { dst := some 2, op := Op.fieldAddr 30 (Operand.tmp 0) 5, type := 0, pos := "statement.go:87", after := #[], guard := none }) (v := (.pointer (some ⟨S, 5, none⟩))) rfl (by kernel_rfl) (by kernel_rfl) (by kernel_rfl) (fun _ _ _ h => h) (Or.inl ⟨by rfl, fun w' hSw => ?_⟩) hHeld ?_
    · (try dsimp only at hSw)
      go_simp
    simp only [Act.put, List.setIfInBounds_toArray, List.set_cons_zero, List.set_cons_succ]
    refine wpAnyH_take (i := 1) (oi := { dst := some 3, op := Op.load 24 (Operand.tmp 2), type := 24, pos := "statement.go:87", after := #[{ on := 0, ground := Ground.data }], guard := none }) (v := (.slice a4 L.length c4)) rfl (by kernel_rfl) (by kernel_rfl) (by kernel_rfl) (fun _ _ _ h => h) (Or.inl ⟨by rfl, fun w' hSw => ?_⟩) hHeld ?_
    · (try dsimp only at hSw)
      go_simp
    simp only [Act.put, List.setIfInBounds_toArray, List.set_cons_zero, List.set_cons_succ]
    refine wpAnyH_take (i := 2) (oi := { dst := some 4, op := Op.load 104 (Operand.tmp 1), type := 104, pos := "statement.go:87", after := #[], guard := none }) (v := (.pointer (some ⟨A, 0, none⟩))) rfl (by kernel_rfl) (by kernel_rfl) (by kernel_rfl) (fun _ _ _ h => h) (Or.inl ⟨by rfl, fun w' hSw => ?_⟩) hHeld ?_
    · (try dsimp only at hSw)
      go_simp
    simp only [Act.put, List.setIfInBounds_toArray, List.set_cons_zero, List.set_cons_succ]
    refine wpAnyH_ready (rs := [3]) (by kernel_rfl) (by simp) ?_
    refine AllReadyH.cons (o := { dst := some 5, op := Op.call { callee := Callee.value (Operand.func 125), args := #[Operand.tmp 4], argTypes := #[104] }, type := 25, pos := "statement.go:87", after := #[{ on := 2, ground := Ground.data }], guard := none }) rfl (fun K hK => ?_) AllReadyH.nil
    clear hHeld
    go_simp
    refine (row_any HE.out A l _ HD.out).mono ?_
    rw [HFn.out]
    rintro _ w10 ⟨hg2, ⟨a, l2, va, hs2, rfl, hx2, hr2⟩ | ⟨hs2, n9, m9, rfl⟩⟩
    · cases hs2
    · have HG : Hid (w0.grownBy w10 (some A)) := (H.out.gr.trans (grown_drew _ _)).trans hg2
      refine (show _ ∧ _ from ⟨?_, .inr ⟨HR.out, ⟨n9, m9, rfl⟩, HG.out⟩⟩)
      first | rfl | trivial
  | some r =>
    obtain ⟨a', l'⟩ := r
    have HR : Hid (oneOf rowF L l = some (L ++ [a'], l')) := by show oneOf rowF L l = _; unfold oneOf; rw [hF]; rfl
    have HRl : Hid (l'.length ≤ l.length) := (rowF_reads l H.out.rd.ok _ hF).2
    have HFs : Hid (rowF l = some (a', l')) := hF
    clear hF
    go_enter Tryz.func124, Tryz.ntmps124
    go_wp2_with fail
    go_region_law (first
      | (refine step_append_lies _ rfl (.tmp 3) (.tmp 6) 24 rfl w0.heap.size 25 i0 (.slice none 0 0) 1 24 Tryz.underlying24 hi hz0 hz1 hz2 rfl (by decide) (.slice a4 L.length c4) L.length cs.flatten (by simp [Act.eval]) (HOw.out.alloc _) ⟨w10.heap.size, 0, none⟩ 1 1 [.slice a0 a'.length n0] (by simp [Act.eval]) rfl (news_one w10 _ _) (by intro u hu; simp at hu; subst hu; rfl) (by decide) (by simp [maxLen]; omega) (by omega) (by simp; omega) _ rfl ?_; intro g3 cap3 w3 ho3 hg3 _ _; have HO3 : Hid (w3.ownsRow w0.heap.size 25 1 (.slice (some ⟨g3, 0, none⟩) (L.length + 1) cap3) (L.length + 1) (cs.flatten ++ [.slice a0 a'.length n0])) := ho3; have HG3 : Hid ((w10.alloc (.cells #[.slice a0 a'.length n0] 25)).grownBy w3 (Value.slice a4 L.length c4).ownBlock) := hg3; have HFr : Hid (Fr (fun k o => k = A ∨ ∃ c fz, o = .cells c 25 fz) w.drew w3) := (HFr.out.trans (Fr.of_below ((Below.refl _ _).alloc (Nat.le_refl _) _))).trans (Fr.row (fun _ _ _ => .inr ⟨_, _, rfl⟩) (HOw.out.alloc _) hg3); obtain ⟨cSd, fSd, cXd, lSd⟩ := HC.out _ HFr.out; clear ho3 hg3)
      | (go_wp2_with (go_at_call 125; refine Calls.mono (row_any HE.out A l _ HD.out) ?_; rw [HFs.out]; rintro _ w10 ⟨hg2, hc2⟩; obtain ⟨a, l2, va, hs2, rfl, hx2, hr2⟩ := hc2.resolve_right (fun h => by cases h.1); obtain ⟨rfl, rfl⟩ := Prod.mk.inj (Option.some.inj hs2); have HG : Hid (w.drew.grownBy w10 (some A)) := hg2; have HFr : Hid (Fr (fun k o => k = A ∨ ∃ c fz, o = .cells c 25 fz) w.drew w10) := Fr.of_grown (fun _ => .inl rfl) hg2; have hx3 := HXM.out _ _ _ hx2; obtain ⟨cs0, _, ho0⟩ := hx2; obtain ⟨a0, n0, rfl⟩ := own_slice ho0; have HX2 : Hid (RowOf w0.heap.size 26 1 (EP (w0.heap.size - 1) w10) w10 (.slice a0 a'.length n0) a') := hx3; clear hx3 ho0; have HR2 : Hid (RdIs A l' w10) := hr2; have HOw : Hid (w10.ownsRow w0.heap.size 25 1 (.slice a4 L.length c4) L.length cs.flatten) := own_grownN hlo HOw.out hg2; obtain ⟨cSb, fSb, cXb, lSb⟩ := HC.out _ HFr.out; obtain ⟨cSc, fSc, cXc, lSc⟩ := HC.out (w10.alloc (.cells #[.slice a0 a'.length n0] 25)) (HFr.out.trans (Fr.of_below ((Below.refl _ _).alloc (Nat.le_refl _) _))); clear hr2 hg2 hs2)))
    all_goals
      go_end0
      exact .inl ⟨_, _, HR.out, rfl, Acc.snoc H.out (ERw_stays (by have := H.out.lo; omega) (by have := H.out.lo; omega) (by decide)) HJ.out (by decide) HKeep.out.2.1 HKeep.out.1 HKeep.out.2.2 ((grown_drew _ _).trans HG.out) HR2.out ⟨_, rfl, HX2.out⟩ HG3.out HO3.out rfl HRl.out⟩
end Go.Proofs.YtbdcbaamjkjhaaaGreatDoor
namespace Go.Proofs.YtbdcbaamjkjhaaaGreatDoor
open Go.RowKit

set_option maxRecDepth 100000 in
set_option maxHeartbeats 8000000 in
theorem list_cc {σ : Type} {one : σ → Rf σ} (hr1 : ∀ s, Reads (one s)) (A : Nat) (x0 x1 : Value) (Pre Inv : σ → List KT → World → Prop) (Err : World → Prop) (hJ : ∀ s l w, Inv s l w → RdIs A l w)
    (hK : ∀ s l w w1, Inv s l w → RdIs A l w1 → w.grownBy w1 (some A) → Inv s l w1) (hU : ∀ s l w w1, Inv s l w → RdIs A l.tail w1 → w.grownBy w1 (some A) → l.tail.length < l.length → Pre s l.tail w1)
    (hO : ∀ s l w, Pre s l w → Calls Tryz.prog 120 #[x0, x1] w fun e w' => (∃ s2 l2, one s l = some (s2, l2) ∧ e = .returned (.tuple #[]) ∧ Inv s2 l2 w') ∨ (one s l = none ∧ Thr e ∧ Err w')) (s : σ) (l : List KT) (w : World) (h : Pre s l w) (hl : OkT l) :
    Calls Tryz.prog 119 #[.pointer (some ⟨A, 0, none⟩), .func (.func 120) #[] #[x0, x1]] w fun e w' => (∃ s2 l2, listS one s l = some (s2, l2) ∧ e = .returned (.tuple #[]) ∧ Inv s2 l2 w') ∨ (listS one s l = none ∧ Thr e ∧ Err w') := by
  have HO : Hid (∀ s l w, Pre s l w → Calls Tryz.prog 120 #[x0, x1] w fun e w' => (∃ s2 l2, one s l = some (s2, l2) ∧ e = .returned (.tuple #[]) ∧ Inv s2 l2 w') ∨ (one s l = none ∧ Thr e ∧ Err w')) := hO
  have HJ : Hid ((∀ s l w, Inv s l w → RdIs A l w) ∧ (∀ s l w w1, Inv s l w → RdIs A l w1 → w.grownBy w1 (some A) → Inv s l w1) ∧ (∀ s l w w1, Inv s l w → RdIs A l.tail w1 → w.grownBy w1 (some A) → l.tail.length < l.length → Pre s l.tail w1) ∧ ∀ s, Reads (one s)) := ⟨hJ, hK, hU, hr1⟩
  have H : Hid (Pre s l w ∧ OkT l) := ⟨h, hl⟩
  obtain ⟨R, hRe⟩ : ∃ R, listS one s l = R := ⟨_, rfl⟩
  have HR : Hid ((one s l).bind (fun x => eachL one x.2.length x.1 x.2) = R) := hRe
  rw [hRe]
  clear hO hJ hK hU hr1 h hRe hl
  go_enter Tryz.func119, Tryz.ntmps119
  go_wp2_with fail
  refine (HO.out s l w H.out.1).mono ?_
  rintro _ w1 (⟨s1, l1, hf1, rfl, hi1⟩ | ⟨hf1, ⟨n1, m1, rfl⟩, he1⟩)
  · have HS : Hid (eachL one l1.length s1 l1 = R ∧ Inv s1 l1 w1) := ⟨by have := HR.out; rw [hf1] at this; exact this, hi1⟩
    clear hf1 hi1 HR
    go_wp2
    go_loopw [6] (fun _ wr => ∃ (s' : σ) (l' : List KT), Hid (eachL one l'.length s' l' = R ∧ Inv s' l' wr)) (fun _ wr => lenCell (wr.cell? ⟨A, 0, none⟩))
    case atStart => exact ⟨_, _, HS⟩
    case round =>
      clear HS
      obtain ⟨s', l', HS⟩ := hrel
      obtain ⟨wo, rfl⟩ : ∃ wo, wo = wr := ⟨_, rfl⟩
      have hrd := HJ.out.1 _ _ _ HS.out.2
      have HRd : Hid (RdIs A l' wo) := hrd
      have HLen : Hid (lenCell (wo.cell? ⟨A, 0, none⟩) = l'.length) := hrd.len
      have HTl : Hid (l'.length = l'.tail.length + 1) := by show _ = _; rw [hrd.ok.cons]; rfl
      obtain ⟨b, hb⟩ : ∃ b, isT ⟨#[44]⟩ l' = b := ⟨_, rfl⟩
      have HSee : Hid (isT ⟨#[44]⟩ l' = b) := hb
      clear hb hrd
      cases b
      · have HE : Hid (R = some (s', l')) := by
          show _ = _
          rw [← HS.out.1]
          exact each_stop HSee.out _ _
        go_wp2_with fail
        refine (has_any A l' ⟨#[44]⟩ false HSee.out wo HRd.out).mono ?_
        rintro _ w2 ⟨rfl, hr2, hg2⟩
        have HI : Hid (Inv s' l' w2) := HJ.out.2.1 s' l' wo w2 HS.out.2 hr2 hg2
        clear hr2 hg2
        go_wp2
        go_end0
        exact .inl ⟨s', l', HE.out, rfl, HI.out⟩
      · have HE : Hid ((one s' l'.tail).bind (fun x => eachL one x.2.length x.1 x.2) = R) := by
          show _ = _
          rw [← HS.out.1]
          exact (each_step HJ.out.2.2.2 HRd.out.ok HSee.out s').symm
        go_wp2_with fail
        refine (has_any A l' ⟨#[44]⟩ true HSee.out wo HRd.out).mono ?_
        rintro _ w2 ⟨rfl, hr2, hg2⟩
        have HI : Hid (Pre s' l'.tail w2) := HJ.out.2.2.1 s' l' wo w2 HS.out.2 hr2 hg2 (by have := HTl.out; omega)
        have HOk : Hid (OkT l'.tail) := hr2.ok
        clear hr2 hg2
        go_wp2_with fail
        refine (HO.out s' l'.tail w2 HI.out).mono ?_
        rintro _ w3 (⟨s3, l3, hf3, rfl, hi3⟩ | ⟨hf3, ⟨n1, m1, rfl⟩, he3⟩)
        · have HN : Hid (eachL one l3.length s3 l3 = R ∧ Inv s3 l3 w3) := ⟨by have := HE.out; rw [hf3] at this; exact this, hi3⟩
          have HM : Hid (lenCell (w3.cell? ⟨A, 0, none⟩) < lenCell (wo.cell? ⟨A, 0, none⟩)) := by
            show _ < _
            rw [(HJ.out.1 _ _ _ hi3).len, HLen.out, HTl.out]
            have := (HJ.out.2.2.2 s' _ HOk.out _ hf3).2
            simp only at this
            omega
          clear hi3 hf3
          go_wp2
          go_roundw
          case rel => exact ⟨_, _, HN⟩
          case measure => exact HM.out
        · have H3 : Hid (Err w3 ∧ R = none) := ⟨he3, by rw [← HE.out, hf3]; rfl⟩
          clear he3 hf3
          go_wp2
          exact ⟨by first | rfl | trivial, .inr ⟨H3.out.2, ⟨n1, m1, rfl⟩, H3.out.1⟩⟩
  · have H3 : Hid (Err w1 ∧ R = none) := ⟨he1, by rw [← HR.out, hf1]; rfl⟩
    clear he1 hf1
    go_wp2
    exact ⟨by first | rfl | trivial, .inr ⟨H3.out.2, ⟨n1, m1, rfl⟩, H3.out.1⟩⟩
set_option maxRecDepth 100000 in
set_option maxHeartbeats 8000000 in
theorem list_in {σ : Type} {one : σ → Rf σ} (hr1 : ∀ s, Reads (one s)) (A : Nat) (x0 x1 : Value) (Pre Inv : σ → List KT → World → Prop) (Err : World → Prop) (hJ : ∀ s l w, Inv s l w → RdIs A l w)
    (hK : ∀ s l w w1, Inv s l w → RdIs A l w1 → w.grownBy w1 (some A) → Inv s l w1) (hU : ∀ s l w w1, Inv s l w → RdIs A l.tail w1 → w.grownBy w1 (some A) → l.tail.length < l.length → Pre s l.tail w1)
    (hO : ∀ s l w, Pre s l w → Calls Tryz.prog 124 #[x0, x1] w fun e w' => (∃ s2 l2, one s l = some (s2, l2) ∧ e = .returned (.tuple #[]) ∧ Inv s2 l2 w') ∨ (one s l = none ∧ Thr e ∧ Err w')) (s : σ) (l : List KT) (w : World) (h : Pre s l w) (hl : OkT l) :
    Calls Tryz.prog 119 #[.pointer (some ⟨A, 0, none⟩), .func (.func 124) #[] #[x0, x1]] w fun e w' => (∃ s2 l2, listS one s l = some (s2, l2) ∧ e = .returned (.tuple #[]) ∧ Inv s2 l2 w') ∨ (listS one s l = none ∧ Thr e ∧ Err w') := by
  have HO : Hid (∀ s l w, Pre s l w → Calls Tryz.prog 124 #[x0, x1] w fun e w' => (∃ s2 l2, one s l = some (s2, l2) ∧ e = .returned (.tuple #[]) ∧ Inv s2 l2 w') ∨ (one s l = none ∧ Thr e ∧ Err w')) := hO
  have HJ : Hid ((∀ s l w, Inv s l w → RdIs A l w) ∧ (∀ s l w w1, Inv s l w → RdIs A l w1 → w.grownBy w1 (some A) → Inv s l w1) ∧ (∀ s l w w1, Inv s l w → RdIs A l.tail w1 → w.grownBy w1 (some A) → l.tail.length < l.length → Pre s l.tail w1) ∧ ∀ s, Reads (one s)) := ⟨hJ, hK, hU, hr1⟩
  have H : Hid (Pre s l w ∧ OkT l) := ⟨h, hl⟩
  obtain ⟨R, hRe⟩ : ∃ R, listS one s l = R := ⟨_, rfl⟩
  have HR : Hid ((one s l).bind (fun x => eachL one x.2.length x.1 x.2) = R) := hRe
  rw [hRe]
  clear hO hJ hK hU hr1 h hRe hl
  go_enter Tryz.func119, Tryz.ntmps119
  go_wp2_with fail
  refine (HO.out s l w H.out.1).mono ?_
  rintro _ w1 (⟨s1, l1, hf1, rfl, hi1⟩ | ⟨hf1, ⟨n1, m1, rfl⟩, he1⟩)
  · have HS : Hid (eachL one l1.length s1 l1 = R ∧ Inv s1 l1 w1) := ⟨by have := HR.out; rw [hf1] at this; exact this, hi1⟩
    clear hf1 hi1 HR
    go_wp2
    go_loopw [6] (fun _ wr => ∃ (s' : σ) (l' : List KT), Hid (eachL one l'.length s' l' = R ∧ Inv s' l' wr)) (fun _ wr => lenCell (wr.cell? ⟨A, 0, none⟩))
    case atStart => exact ⟨_, _, HS⟩
    case round =>
      clear HS
      obtain ⟨s', l', HS⟩ := hrel
      obtain ⟨wo, rfl⟩ : ∃ wo, wo = wr := ⟨_, rfl⟩
      have hrd := HJ.out.1 _ _ _ HS.out.2
      have HRd : Hid (RdIs A l' wo) := hrd
      have HLen : Hid (lenCell (wo.cell? ⟨A, 0, none⟩) = l'.length) := hrd.len
      have HTl : Hid (l'.length = l'.tail.length + 1) := by show _ = _; rw [hrd.ok.cons]; rfl
      obtain ⟨b, hb⟩ : ∃ b, isT ⟨#[44]⟩ l' = b := ⟨_, rfl⟩
      have HSee : Hid (isT ⟨#[44]⟩ l' = b) := hb
      clear hb hrd
      cases b
      · have HE : Hid (R = some (s', l')) := by
          show _ = _
          rw [← HS.out.1]
          exact each_stop HSee.out _ _
        go_wp2_with fail
        refine (has_any A l' ⟨#[44]⟩ false HSee.out wo HRd.out).mono ?_
        rintro _ w2 ⟨rfl, hr2, hg2⟩
        have HI : Hid (Inv s' l' w2) := HJ.out.2.1 s' l' wo w2 HS.out.2 hr2 hg2
        clear hr2 hg2
        go_wp2
        go_end0
        exact .inl ⟨s', l', HE.out, rfl, HI.out⟩
      · have HE : Hid ((one s' l'.tail).bind (fun x => eachL one x.2.length x.1 x.2) = R) := by
          show _ = _
          rw [← HS.out.1]
          exact (each_step HJ.out.2.2.2 HRd.out.ok HSee.out s').symm
        go_wp2_with fail
        refine (has_any A l' ⟨#[44]⟩ true HSee.out wo HRd.out).mono ?_
        rintro _ w2 ⟨rfl, hr2, hg2⟩
        have HI : Hid (Pre s' l'.tail w2) := HJ.out.2.2.1 s' l' wo w2 HS.out.2 hr2 hg2 (by have := HTl.out; omega)
        have HOk : Hid (OkT l'.tail) := hr2.ok
        clear hr2 hg2
        go_wp2_with fail
        refine (HO.out s' l'.tail w2 HI.out).mono ?_
        rintro _ w3 (⟨s3, l3, hf3, rfl, hi3⟩ | ⟨hf3, ⟨n1, m1, rfl⟩, he3⟩)
        · have HN : Hid (eachL one l3.length s3 l3 = R ∧ Inv s3 l3 w3) := ⟨by have := HE.out; rw [hf3] at this; exact this, hi3⟩
          have HM : Hid (lenCell (w3.cell? ⟨A, 0, none⟩) < lenCell (wo.cell? ⟨A, 0, none⟩)) := by
            show _ < _
            rw [(HJ.out.1 _ _ _ hi3).len, HLen.out, HTl.out]
            have := (HJ.out.2.2.2 s' _ HOk.out _ hf3).2
            simp only at this
            omega
          clear hi3 hf3
          go_wp2
          go_roundw
          case rel => exact ⟨_, _, HN⟩
          case measure => exact HM.out
        · have H3 : Hid (Err w3 ∧ R = none) := ⟨he3, by rw [← HE.out, hf3]; rfl⟩
          clear he3 hf3
          go_wp2
          exact ⟨by first | rfl | trivial, .inr ⟨H3.out.2, ⟨n1, m1, rfl⟩, H3.out.1⟩⟩
  · have H3 : Hid (Err w1 ∧ R = none) := ⟨he1, by rw [← HR.out, hf1]; rfl⟩
    clear he1 hf1
    go_wp2
    exact ⟨by first | rfl | trivial, .inr ⟨H3.out.2, ⟨n1, m1, rfl⟩, H3.out.1⟩⟩
set_option maxRecDepth 100000 in
set_option maxHeartbeats 8000000 in
theorem list_up {σ : Type} {one : σ → Rf σ} (hr1 : ∀ s, Reads (one s)) (A : Nat) (x0 x1 : Value) (Pre Inv : σ → List KT → World → Prop) (Err : World → Prop) (hJ : ∀ s l w, Inv s l w → RdIs A l w)
    (hK : ∀ s l w w1, Inv s l w → RdIs A l w1 → w.grownBy w1 (some A) → Inv s l w1) (hU : ∀ s l w w1, Inv s l w → RdIs A l.tail w1 → w.grownBy w1 (some A) → l.tail.length < l.length → Pre s l.tail w1)
    (hO : ∀ s l w, Pre s l w → Calls Tryz.prog 127 #[x0, x1] w fun e w' => (∃ s2 l2, one s l = some (s2, l2) ∧ e = .returned (.tuple #[]) ∧ Inv s2 l2 w') ∨ (one s l = none ∧ Thr e ∧ Err w')) (s : σ) (l : List KT) (w : World) (h : Pre s l w) (hl : OkT l) :
    Calls Tryz.prog 119 #[.pointer (some ⟨A, 0, none⟩), .func (.func 127) #[] #[x0, x1]] w fun e w' => (∃ s2 l2, listS one s l = some (s2, l2) ∧ e = .returned (.tuple #[]) ∧ Inv s2 l2 w') ∨ (listS one s l = none ∧ Thr e ∧ Err w') := by
  have HO : Hid (∀ s l w, Pre s l w → Calls Tryz.prog 127 #[x0, x1] w fun e w' => (∃ s2 l2, one s l = some (s2, l2) ∧ e = .returned (.tuple #[]) ∧ Inv s2 l2 w') ∨ (one s l = none ∧ Thr e ∧ Err w')) := hO
  have HJ : Hid ((∀ s l w, Inv s l w → RdIs A l w) ∧ (∀ s l w w1, Inv s l w → RdIs A l w1 → w.grownBy w1 (some A) → Inv s l w1) ∧ (∀ s l w w1, Inv s l w → RdIs A l.tail w1 → w.grownBy w1 (some A) → l.tail.length < l.length → Pre s l.tail w1) ∧ ∀ s, Reads (one s)) := ⟨hJ, hK, hU, hr1⟩
  have H : Hid (Pre s l w ∧ OkT l) := ⟨h, hl⟩
  obtain ⟨R, hRe⟩ : ∃ R, listS one s l = R := ⟨_, rfl⟩
  have HR : Hid ((one s l).bind (fun x => eachL one x.2.length x.1 x.2) = R) := hRe
  rw [hRe]
  clear hO hJ hK hU hr1 h hRe hl
  go_enter Tryz.func119, Tryz.ntmps119
  go_wp2_with fail
  refine (HO.out s l w H.out.1).mono ?_
  rintro _ w1 (⟨s1, l1, hf1, rfl, hi1⟩ | ⟨hf1, ⟨n1, m1, rfl⟩, he1⟩)
  · have HS : Hid (eachL one l1.length s1 l1 = R ∧ Inv s1 l1 w1) := ⟨by have := HR.out; rw [hf1] at this; exact this, hi1⟩
    clear hf1 hi1 HR
    go_wp2
    go_loopw [6] (fun _ wr => ∃ (s' : σ) (l' : List KT), Hid (eachL one l'.length s' l' = R ∧ Inv s' l' wr)) (fun _ wr => lenCell (wr.cell? ⟨A, 0, none⟩))
    case atStart => exact ⟨_, _, HS⟩
    case round =>
      clear HS
      obtain ⟨s', l', HS⟩ := hrel
      obtain ⟨wo, rfl⟩ : ∃ wo, wo = wr := ⟨_, rfl⟩
      have hrd := HJ.out.1 _ _ _ HS.out.2
      have HRd : Hid (RdIs A l' wo) := hrd
      have HLen : Hid (lenCell (wo.cell? ⟨A, 0, none⟩) = l'.length) := hrd.len
      have HTl : Hid (l'.length = l'.tail.length + 1) := by show _ = _; rw [hrd.ok.cons]; rfl
      obtain ⟨b, hb⟩ : ∃ b, isT ⟨#[44]⟩ l' = b := ⟨_, rfl⟩
      have HSee : Hid (isT ⟨#[44]⟩ l' = b) := hb
      clear hb hrd
      cases b
      · have HE : Hid (R = some (s', l')) := by
          show _ = _
          rw [← HS.out.1]
          exact each_stop HSee.out _ _
        go_wp2_with fail
        refine (has_any A l' ⟨#[44]⟩ false HSee.out wo HRd.out).mono ?_
        rintro _ w2 ⟨rfl, hr2, hg2⟩
        have HI : Hid (Inv s' l' w2) := HJ.out.2.1 s' l' wo w2 HS.out.2 hr2 hg2
        clear hr2 hg2
        go_wp2
        go_end0
        exact .inl ⟨s', l', HE.out, rfl, HI.out⟩
      · have HE : Hid ((one s' l'.tail).bind (fun x => eachL one x.2.length x.1 x.2) = R) := by
          show _ = _
          rw [← HS.out.1]
          exact (each_step HJ.out.2.2.2 HRd.out.ok HSee.out s').symm
        go_wp2_with fail
        refine (has_any A l' ⟨#[44]⟩ true HSee.out wo HRd.out).mono ?_
        rintro _ w2 ⟨rfl, hr2, hg2⟩
        have HI : Hid (Pre s' l'.tail w2) := HJ.out.2.2.1 s' l' wo w2 HS.out.2 hr2 hg2 (by have := HTl.out; omega)
        have HOk : Hid (OkT l'.tail) := hr2.ok
        clear hr2 hg2
        go_wp2_with fail
        refine (HO.out s' l'.tail w2 HI.out).mono ?_
        rintro _ w3 (⟨s3, l3, hf3, rfl, hi3⟩ | ⟨hf3, ⟨n1, m1, rfl⟩, he3⟩)
        · have HN : Hid (eachL one l3.length s3 l3 = R ∧ Inv s3 l3 w3) := ⟨by have := HE.out; rw [hf3] at this; exact this, hi3⟩
          have HM : Hid (lenCell (w3.cell? ⟨A, 0, none⟩) < lenCell (wo.cell? ⟨A, 0, none⟩)) := by
            show _ < _
            rw [(HJ.out.1 _ _ _ hi3).len, HLen.out, HTl.out]
            have := (HJ.out.2.2.2 s' _ HOk.out _ hf3).2
            simp only at this
            omega
          clear hi3 hf3
          go_wp2
          go_roundw
          case rel => exact ⟨_, _, HN⟩
          case measure => exact HM.out
        · have H3 : Hid (Err w3 ∧ R = none) := ⟨he3, by rw [← HE.out, hf3]; rfl⟩
          clear he3 hf3
          go_wp2
          exact ⟨by first | rfl | trivial, .inr ⟨H3.out.2, ⟨n1, m1, rfl⟩, H3.out.1⟩⟩
  · have H3 : Hid (Err w1 ∧ R = none) := ⟨he1, by rw [← HR.out, hf1]; rfl⟩
    clear he1 hf1
    go_wp2
    exact ⟨by first | rfl | trivial, .inr ⟨H3.out.2, ⟨n1, m1, rfl⟩, H3.out.1⟩⟩
end Go.Proofs.YtbdcbaamjkjhaaaGreatDoor
