/- Part 15 of 30. -/
import Derived.Test.YtmabfbffpedfnaaGreatDoorK14
import Derived.Deep.RegionLaw
import Derived.Deep.AppendLies
import Derived.Laws.AppendOwnNone
namespace Go.Proofs.YtmabfbffpedfnaaGreatDoor
open Go.RowKit

set_option maxRecDepth 100000 in
set_option maxHeartbeats 64000000 in
theorem cl_in (hE : ESpec Ef 0) {A S x : Nat} {w0 : World} {sv : SV} {J : World → Prop} (hJ : StaysJ A 58 62 J) {L : List (List Ex)} {l : List KT} {w : World} (h : Acc 300 A S x w0 (fun v => ({ sv with rows := v } : SV).cells) 62 58 1 (ERw (w0.heap.size - 1) w0.heap.size) J L l w) :
    Calls Tryz.prog 105 #[.pointer (some ⟨S, 0, none⟩), .pointer (some ⟨x, 0, none⟩)] w fun e w' => (∃ L2 l2, oneOf rowF L l = some (L2, l2) ∧ e = .returned (.tuple #[]) ∧ Acc 301 A S x w0 (fun v => ({ sv with rows := v } : SV).cells) 62 58 1 (ERw (w0.heap.size - 1) w0.heap.size) J L2 l2 w') ∨ (oneOf rowF L l = none ∧ Thr e ∧ w0.grownBy w' (some A)) := by
  obtain ⟨i0, hi, hz0, hz1, hz2⟩ := info_parts infoSl
  have HE : Hid (ESpec Ef 0) := hE
  have H : Hid (Acc 300 A S x w0 (fun v => ({ sv with rows := v } : SV).cells) 62 58 1 (ERw (w0.heap.size - 1) w0.heap.size) J L l w) := h
  have HJ : Hid (StaysJ A 58 62 J) := hJ
  obtain ⟨v, hst, cs, hcs, hown⟩ := h.st
  obtain ⟨a4, c4, rfl⟩ := own_slice hown
  have hcnt := h.cnt
  have hLr : L.length ≤ 300 := by omega
  have hlo := h.lo
  have hS0 := h.S0
  have HD : Hid (RdIs A l w.drew) := h.rd.below (Below.refl _ _).drew
  have HC : Hid (∀ wx, Fr (fun k o => k = A ∨ ∃ c fz, o = .cells c 58 fz) w.drew wx → wx.cell? ⟨S, 5, none⟩ = some (.slice a4 L.length c4) ∧ wx.frozen? ⟨S, 5, none⟩ = false ∧ wx.cell? ⟨x, 0, none⟩ = some (.pointer (some ⟨A, 0, none⟩)) ∧ w0.heap.size ≤ wx.heap.size) := fun wx hf => by
    have h1 := (hst.below (Below.refl _ _).drew).fr hf (by
      rintro (e | ⟨c, fz, e⟩)
      · omega
      · cases e)
    have h2 := (h.hx.below (Below.refl _ _).drew).fr hf (by
      rintro (e | ⟨c, fz, e⟩)
      · exact h.nx e
      · cases e)
    exact ⟨by rw [h1.cell 5]; rfl, h1.free 5, by rw [h2.cell 0]; rfl, by have := h1.lt; omega⟩
  have HFr : Hid (Fr (fun k o => k = A ∨ ∃ c fz, o = .cells c 58 fz) w.drew w.drew) := Fr.refl _ _
  have HOw : Hid (w.drew.ownsRow w0.heap.size 58 1 (.slice a4 L.length c4) L.length cs.flatten) := own_below hown (Below.refl _ _).drew
  have HKeep : Hid (All2 ((ERw (w0.heap.size - 1) w0.heap.size) w) L cs ∧ Blk S ((fun v => ({ sv with rows := v } : SV).cells) (.slice a4 L.length c4)) 62 w ∧ w.ownsRow w0.heap.size 58 1 (.slice a4 L.length c4) L.length cs.flatten) := ⟨hcs, hst, hown⟩
  have HXM : Hid (∀ (u : World) (va : Value) (a : List Ex), RowOf w.drew.heap.size 26 1 (EP (w.drew.heap.size - 1) u) u va a → RowOf w0.heap.size 26 1 (EP (w0.heap.size - 1) u) u va a) := fun u va a hr => hr.low h.gr.size
  clear h hE hJ hst hcs hown
  obtain ⟨cS, fS, cX, lS⟩ := HC.out _ HFr.out
  cases hF : rowF l with
  | none =>
    have HR : Hid (oneOf rowF L l = none) := by show oneOf rowF L l = none; unfold oneOf; rw [hF]; rfl
    have HFn : Hid (rowF l = none) := hF
    clear hF
    go_enter Tryz.func105, Tryz.ntmps105
    go_wp2_with fail
    refine wp_region_held_drew (S := fun w' => w'.cell? ⟨S, 5, none⟩ = some (.slice a4 L.length c4) ∧ w'.cell? ⟨x, 0, none⟩ = some (.pointer (some ⟨A, 0, none⟩))) (by kernel_rfl) ⟨cS, cX⟩ (fun hHeld => ?_)
    refine wpAnyH_take (i := 0) (oi := { dst := some 2, op := Op.fieldAddr 62 (Operand.tmp 0) 5, type := 0, pos := "statement.go:87", after := #[], guard := none }) (v := (.pointer (some ⟨S, 5, none⟩))) rfl (by kernel_rfl) (by kernel_rfl) (by kernel_rfl) (fun _ _ _ h => h) (Or.inl ⟨by rfl, fun w' hSw => ?_⟩) hHeld ?_
    · (try dsimp only at hSw)
      go_simp
    simp only [Act.put, List.setIfInBounds_toArray, List.set_cons_zero, List.set_cons_succ]
    refine wpAnyH_take (i := 1) (oi := { dst := some 3, op := Op.load 57 (Operand.tmp 2), type := 57, pos := "statement.go:87", after := #[{ on := 0, ground := Ground.data }], guard := none }) (v := (.slice a4 L.length c4)) rfl (by kernel_rfl) (by kernel_rfl) (by kernel_rfl) (fun _ _ _ h => h) (Or.inl ⟨by rfl, fun w' hSw => ?_⟩) hHeld ?_
    · (try dsimp only at hSw)
      go_simp
    simp only [Act.put, List.setIfInBounds_toArray, List.set_cons_zero, List.set_cons_succ]
    refine wpAnyH_take (i := 2) (oi := { dst := some 4, op := Op.load 117 (Operand.tmp 1), type := 117, pos := "statement.go:87", after := #[], guard := none }) (v := (.pointer (some ⟨A, 0, none⟩))) rfl (by kernel_rfl) (by kernel_rfl) (by kernel_rfl) (fun _ _ _ h => h) (Or.inl ⟨by rfl, fun w' hSw => ?_⟩) hHeld ?_
    · (try dsimp only at hSw)
      go_simp
    simp only [Act.put, List.setIfInBounds_toArray, List.set_cons_zero, List.set_cons_succ]
    refine wpAnyH_ready (rs := [3]) (by kernel_rfl) (by simp) ?_
    refine AllReadyH.cons (o := { dst := some 5, op := Op.call { callee := Callee.value (Operand.func 106), args := #[Operand.tmp 4], argTypes := #[117] }, type := 58, pos := "statement.go:87", after := #[{ on := 2, ground := Ground.data }], guard := none }) rfl (fun K hK => ?_) AllReadyH.nil
    clear hHeld
    go_simp
    refine (row_any HE.out A l _ HD.out).mono ?_
    rw [HFn.out]
    rintro _ w10 ⟨hg2, ⟨a, l2, va, hs2, rfl, hx2, hr2⟩ | ⟨hs2, n9, m9, rfl⟩⟩
    · cases hs2
    · have HG : Hid (w0.grownBy w10 (some A)) := (H.out.gr.trans (grown_drew _ _)).trans hg2
      refine (show _ ∧ _ from ⟨?_, .inr ⟨HR.out, ⟨n9, m9, rfl⟩, HG.out⟩⟩)
      first | rfl | trivial
  | some r =>
    obtain ⟨a', l'⟩ := r
    have HR : Hid (oneOf rowF L l = some (L ++ [a'], l')) := by show oneOf rowF L l = _; unfold oneOf; rw [hF]; rfl
    have HRl : Hid (l'.length ≤ l.length) := (rowF_reads l H.out.rd.ok _ hF).2
    have HFs : Hid (rowF l = some (a', l')) := hF
    clear hF
    go_enter Tryz.func105, Tryz.ntmps105
    go_wp2_with fail
    go_region_law (first
      | (refine step_append_lies _ rfl (.tmp 3) (.tmp 6) 57 rfl w0.heap.size 58 i0 (.slice none 0 0) 1 24 Tryz.underlying57 hi hz0 hz1 hz2 rfl (by decide) (.slice a4 L.length c4) L.length cs.flatten (by simp [Act.eval]) (HOw.out.alloc _) ⟨w10.heap.size, 0, none⟩ 1 1 [.slice a0 a'.length n0] (by simp [Act.eval]) rfl (news_one w10 _ _) (by intro u hu; simp at hu; subst hu; rfl) (by decide) (by simp [maxLen]; omega) (by omega) (by simp; omega) _ rfl ?_; intro g3 cap3 w3 ho3 hg3 _ _; have HO3 : Hid (w3.ownsRow w0.heap.size 58 1 (.slice (some ⟨g3, 0, none⟩) (L.length + 1) cap3) (L.length + 1) (cs.flatten ++ [.slice a0 a'.length n0])) := ho3; have HG3 : Hid ((w10.alloc (.cells #[.slice a0 a'.length n0] 58)).grownBy w3 (Value.slice a4 L.length c4).ownBlock) := hg3; have HFr : Hid (Fr (fun k o => k = A ∨ ∃ c fz, o = .cells c 58 fz) w.drew w3) := (HFr.out.trans (Fr.of_below ((Below.refl _ _).alloc (Nat.le_refl _) _))).trans (Fr.row (fun _ _ _ => .inr ⟨_, _, rfl⟩) (HOw.out.alloc _) hg3); obtain ⟨cSd, fSd, cXd, lSd⟩ := HC.out _ HFr.out; clear ho3 hg3)
      | (go_wp2_with (go_at_call 106; refine Calls.mono (row_any HE.out A l _ HD.out) ?_; rw [HFs.out]; rintro _ w10 ⟨hg2, hc2⟩; obtain ⟨a, l2, va, hs2, rfl, hx2, hr2⟩ := hc2.resolve_right (fun h => by cases h.1); obtain ⟨rfl, rfl⟩ := Prod.mk.inj (Option.some.inj hs2); have HG : Hid (w.drew.grownBy w10 (some A)) := hg2; have HFr : Hid (Fr (fun k o => k = A ∨ ∃ c fz, o = .cells c 58 fz) w.drew w10) := Fr.of_grown (fun _ => .inl rfl) hg2; have hx3 := HXM.out _ _ _ hx2; obtain ⟨cs0, _, ho0⟩ := hx2; obtain ⟨a0, n0, rfl⟩ := own_slice ho0; have HX2 : Hid (RowOf w0.heap.size 26 1 (EP (w0.heap.size - 1) w10) w10 (.slice a0 a'.length n0) a') := hx3; clear hx3 ho0; have HR2 : Hid (RdIs A l' w10) := hr2; have HOw : Hid (w10.ownsRow w0.heap.size 58 1 (.slice a4 L.length c4) L.length cs.flatten) := own_grownN hlo HOw.out hg2; obtain ⟨cSb, fSb, cXb, lSb⟩ := HC.out _ HFr.out; obtain ⟨cSc, fSc, cXc, lSc⟩ := HC.out (w10.alloc (.cells #[.slice a0 a'.length n0] 58)) (HFr.out.trans (Fr.of_below ((Below.refl _ _).alloc (Nat.le_refl _) _))); clear hr2 hg2 hs2)))
    all_goals
      go_end0
      exact .inl ⟨_, _, HR.out, rfl, Acc.snoc H.out (ERw_stays (by have := H.out.lo; omega) (by have := H.out.lo; omega) (by decide)) HJ.out (by decide) HKeep.out.2.1 HKeep.out.1 HKeep.out.2.2 ((grown_drew _ _).trans HG.out) HR2.out ⟨_, rfl, HX2.out⟩ HG3.out HO3.out rfl HRl.out⟩
end Go.Proofs.YtmabfbffpedfnaaGreatDoor
namespace Go.Proofs.YtmabfbffpedfnaaGreatDoor
open Go.RowKit

set_option maxRecDepth 100000 in
set_option maxHeartbeats 8000000 in
theorem list_cc {σ : Type} {one : σ → Rf σ} (hr1 : ∀ s, Reads (one s)) (A : Nat) (x0 x1 : Value) (Pre Inv : σ → List KT → World → Prop) (Err : World → Prop) (hJ : ∀ s l w, Inv s l w → RdIs A l w)
    (hK : ∀ s l w w1, Inv s l w → RdIs A l w1 → w.grownBy w1 (some A) → Inv s l w1) (hU : ∀ s l w w1, Inv s l w → RdIs A l.tail w1 → w.grownBy w1 (some A) → l.tail.length < l.length → Pre s l.tail w1)
    (hO : ∀ s l w, Pre s l w → Calls Tryz.prog 101 #[x0, x1] w fun e w' => (∃ s2 l2, one s l = some (s2, l2) ∧ e = .returned (.tuple #[]) ∧ Inv s2 l2 w') ∨ (one s l = none ∧ Thr e ∧ Err w')) (s : σ) (l : List KT) (w : World) (h : Pre s l w) (hl : OkT l) :
    Calls Tryz.prog 100 #[.pointer (some ⟨A, 0, none⟩), .func (.func 101) #[] #[x0, x1]] w fun e w' => (∃ s2 l2, listS one s l = some (s2, l2) ∧ e = .returned (.tuple #[]) ∧ Inv s2 l2 w') ∨ (listS one s l = none ∧ Thr e ∧ Err w') := by
  have HO : Hid (∀ s l w, Pre s l w → Calls Tryz.prog 101 #[x0, x1] w fun e w' => (∃ s2 l2, one s l = some (s2, l2) ∧ e = .returned (.tuple #[]) ∧ Inv s2 l2 w') ∨ (one s l = none ∧ Thr e ∧ Err w')) := hO
  have HJ : Hid ((∀ s l w, Inv s l w → RdIs A l w) ∧ (∀ s l w w1, Inv s l w → RdIs A l w1 → w.grownBy w1 (some A) → Inv s l w1) ∧ (∀ s l w w1, Inv s l w → RdIs A l.tail w1 → w.grownBy w1 (some A) → l.tail.length < l.length → Pre s l.tail w1) ∧ ∀ s, Reads (one s)) := ⟨hJ, hK, hU, hr1⟩
  have H : Hid (Pre s l w ∧ OkT l) := ⟨h, hl⟩
  obtain ⟨R, hRe⟩ : ∃ R, listS one s l = R := ⟨_, rfl⟩
  have HR : Hid ((one s l).bind (fun x => eachL one x.2.length x.1 x.2) = R) := hRe
  rw [hRe]
  clear hO hJ hK hU hr1 h hRe hl
  go_enter Tryz.func100, Tryz.ntmps100
  go_wp2_with fail
  refine (HO.out s l w H.out.1).mono ?_
  rintro _ w1 (⟨s1, l1, hf1, rfl, hi1⟩ | ⟨hf1, ⟨n1, m1, rfl⟩, he1⟩)
  · have HS : Hid (eachL one l1.length s1 l1 = R ∧ Inv s1 l1 w1) := ⟨by have := HR.out; rw [hf1] at this; exact this, hi1⟩
    clear hf1 hi1 HR
    go_wp2
    go_loopw [6] (fun _ wr => ∃ (s' : σ) (l' : List KT), Hid (eachL one l'.length s' l' = R ∧ Inv s' l' wr)) (fun _ wr => lenCell (wr.cell? ⟨A, 0, none⟩))
    case atStart => exact ⟨_, _, HS⟩
    case round =>
      clear HS
      obtain ⟨s', l', HS⟩ := hrel
      obtain ⟨wo, rfl⟩ : ∃ wo, wo = wr := ⟨_, rfl⟩
      have hrd := HJ.out.1 _ _ _ HS.out.2
      have HRd : Hid (RdIs A l' wo) := hrd
      have HLen : Hid (lenCell (wo.cell? ⟨A, 0, none⟩) = l'.length) := hrd.len
      have HTl : Hid (l'.length = l'.tail.length + 1) := by show _ = _; rw [hrd.ok.cons]; rfl
      obtain ⟨b, hb⟩ : ∃ b, isT ⟨#[44]⟩ l' = b := ⟨_, rfl⟩
      have HSee : Hid (isT ⟨#[44]⟩ l' = b) := hb
      clear hb hrd
      cases b
      · have HE : Hid (R = some (s', l')) := by
          show _ = _
          rw [← HS.out.1]
          exact each_stop HSee.out _ _
        go_wp2_with fail
        refine (has_any A l' ⟨#[44]⟩ false HSee.out wo HRd.out).mono ?_
        rintro _ w2 ⟨rfl, hr2, hg2⟩
        have HI : Hid (Inv s' l' w2) := HJ.out.2.1 s' l' wo w2 HS.out.2 hr2 hg2
        clear hr2 hg2
        go_wp2
        go_end0
        exact .inl ⟨s', l', HE.out, rfl, HI.out⟩
      · have HE : Hid ((one s' l'.tail).bind (fun x => eachL one x.2.length x.1 x.2) = R) := by
          show _ = _
          rw [← HS.out.1]
          exact (each_step HJ.out.2.2.2 HRd.out.ok HSee.out s').symm
        go_wp2_with fail
        refine (has_any A l' ⟨#[44]⟩ true HSee.out wo HRd.out).mono ?_
        rintro _ w2 ⟨rfl, hr2, hg2⟩
        have HI : Hid (Pre s' l'.tail w2) := HJ.out.2.2.1 s' l' wo w2 HS.out.2 hr2 hg2 (by have := HTl.out; omega)
        have HOk : Hid (OkT l'.tail) := hr2.ok
        clear hr2 hg2
        go_wp2_with fail
        refine (HO.out s' l'.tail w2 HI.out).mono ?_
        rintro _ w3 (⟨s3, l3, hf3, rfl, hi3⟩ | ⟨hf3, ⟨n1, m1, rfl⟩, he3⟩)
        · have HN : Hid (eachL one l3.length s3 l3 = R ∧ Inv s3 l3 w3) := ⟨by have := HE.out; rw [hf3] at this; exact this, hi3⟩
          have HM : Hid (lenCell (w3.cell? ⟨A, 0, none⟩) < lenCell (wo.cell? ⟨A, 0, none⟩)) := by
            show _ < _
            rw [(HJ.out.1 _ _ _ hi3).len, HLen.out, HTl.out]
            have := (HJ.out.2.2.2 s' _ HOk.out _ hf3).2
            simp only at this
            omega
          clear hi3 hf3
          go_wp2
          go_roundw
          case rel => exact ⟨_, _, HN⟩
          case measure => exact HM.out
        · have H3 : Hid (Err w3 ∧ R = none) := ⟨he3, by rw [← HE.out, hf3]; rfl⟩
          clear he3 hf3
          go_wp2
          exact ⟨by first | rfl | trivial, .inr ⟨H3.out.2, ⟨n1, m1, rfl⟩, H3.out.1⟩⟩
  · have H3 : Hid (Err w1 ∧ R = none) := ⟨he1, by rw [← HR.out, hf1]; rfl⟩
    clear he1 hf1
    go_wp2
    exact ⟨by first | rfl | trivial, .inr ⟨H3.out.2, ⟨n1, m1, rfl⟩, H3.out.1⟩⟩
set_option maxRecDepth 100000 in
set_option maxHeartbeats 8000000 in
theorem list_in {σ : Type} {one : σ → Rf σ} (hr1 : ∀ s, Reads (one s)) (A : Nat) (x0 x1 : Value) (Pre Inv : σ → List KT → World → Prop) (Err : World → Prop) (hJ : ∀ s l w, Inv s l w → RdIs A l w)
    (hK : ∀ s l w w1, Inv s l w → RdIs A l w1 → w.grownBy w1 (some A) → Inv s l w1) (hU : ∀ s l w w1, Inv s l w → RdIs A l.tail w1 → w.grownBy w1 (some A) → l.tail.length < l.length → Pre s l.tail w1)
    (hO : ∀ s l w, Pre s l w → Calls Tryz.prog 105 #[x0, x1] w fun e w' => (∃ s2 l2, one s l = some (s2, l2) ∧ e = .returned (.tuple #[]) ∧ Inv s2 l2 w') ∨ (one s l = none ∧ Thr e ∧ Err w')) (s : σ) (l : List KT) (w : World) (h : Pre s l w) (hl : OkT l) :
    Calls Tryz.prog 100 #[.pointer (some ⟨A, 0, none⟩), .func (.func 105) #[] #[x0, x1]] w fun e w' => (∃ s2 l2, listS one s l = some (s2, l2) ∧ e = .returned (.tuple #[]) ∧ Inv s2 l2 w') ∨ (listS one s l = none ∧ Thr e ∧ Err w') := by
  have HO : Hid (∀ s l w, Pre s l w → Calls Tryz.prog 105 #[x0, x1] w fun e w' => (∃ s2 l2, one s l = some (s2, l2) ∧ e = .returned (.tuple #[]) ∧ Inv s2 l2 w') ∨ (one s l = none ∧ Thr e ∧ Err w')) := hO
  have HJ : Hid ((∀ s l w, Inv s l w → RdIs A l w) ∧ (∀ s l w w1, Inv s l w → RdIs A l w1 → w.grownBy w1 (some A) → Inv s l w1) ∧ (∀ s l w w1, Inv s l w → RdIs A l.tail w1 → w.grownBy w1 (some A) → l.tail.length < l.length → Pre s l.tail w1) ∧ ∀ s, Reads (one s)) := ⟨hJ, hK, hU, hr1⟩
  have H : Hid (Pre s l w ∧ OkT l) := ⟨h, hl⟩
  obtain ⟨R, hRe⟩ : ∃ R, listS one s l = R := ⟨_, rfl⟩
  have HR : Hid ((one s l).bind (fun x => eachL one x.2.length x.1 x.2) = R) := hRe
  rw [hRe]
  clear hO hJ hK hU hr1 h hRe hl
  go_enter Tryz.func100, Tryz.ntmps100
  go_wp2_with fail
  refine (HO.out s l w H.out.1).mono ?_
  rintro _ w1 (⟨s1, l1, hf1, rfl, hi1⟩ | ⟨hf1, ⟨n1, m1, rfl⟩, he1⟩)
  · have HS : Hid (eachL one l1.length s1 l1 = R ∧ Inv s1 l1 w1) := ⟨by have := HR.out; rw [hf1] at this; exact this, hi1⟩
    clear hf1 hi1 HR
    go_wp2
    go_loopw [6] (fun _ wr => ∃ (s' : σ) (l' : List KT), Hid (eachL one l'.length s' l' = R ∧ Inv s' l' wr)) (fun _ wr => lenCell (wr.cell? ⟨A, 0, none⟩))
    case atStart => exact ⟨_, _, HS⟩
    case round =>
      clear HS
      obtain ⟨s', l', HS⟩ := hrel
      obtain ⟨wo, rfl⟩ : ∃ wo, wo = wr := ⟨_, rfl⟩
      have hrd := HJ.out.1 _ _ _ HS.out.2
      have HRd : Hid (RdIs A l' wo) := hrd
      have HLen : Hid (lenCell (wo.cell? ⟨A, 0, none⟩) = l'.length) := hrd.len
      have HTl : Hid (l'.length = l'.tail.length + 1) := by show _ = _; rw [hrd.ok.cons]; rfl
      obtain ⟨b, hb⟩ : ∃ b, isT ⟨#[44]⟩ l' = b := ⟨_, rfl⟩
      have HSee : Hid (isT ⟨#[44]⟩ l' = b) := hb
      clear hb hrd
      cases b
      · have HE : Hid (R = some (s', l')) := by
          show _ = _
          rw [← HS.out.1]
          exact each_stop HSee.out _ _
        go_wp2_with fail
        refine (has_any A l' ⟨#[44]⟩ false HSee.out wo HRd.out).mono ?_
        rintro _ w2 ⟨rfl, hr2, hg2⟩
        have HI : Hid (Inv s' l' w2) := HJ.out.2.1 s' l' wo w2 HS.out.2 hr2 hg2
        clear hr2 hg2
        go_wp2
        go_end0
        exact .inl ⟨s', l', HE.out, rfl, HI.out⟩
      · have HE : Hid ((one s' l'.tail).bind (fun x => eachL one x.2.length x.1 x.2) = R) := by
          show _ = _
          rw [← HS.out.1]
          exact (each_step HJ.out.2.2.2 HRd.out.ok HSee.out s').symm
        go_wp2_with fail
        refine (has_any A l' ⟨#[44]⟩ true HSee.out wo HRd.out).mono ?_
        rintro _ w2 ⟨rfl, hr2, hg2⟩
        have HI : Hid (Pre s' l'.tail w2) := HJ.out.2.2.1 s' l' wo w2 HS.out.2 hr2 hg2 (by have := HTl.out; omega)
        have HOk : Hid (OkT l'.tail) := hr2.ok
        clear hr2 hg2
        go_wp2_with fail
        refine (HO.out s' l'.tail w2 HI.out).mono ?_
        rintro _ w3 (⟨s3, l3, hf3, rfl, hi3⟩ | ⟨hf3, ⟨n1, m1, rfl⟩, he3⟩)
        · have HN : Hid (eachL one l3.length s3 l3 = R ∧ Inv s3 l3 w3) := ⟨by have := HE.out; rw [hf3] at this; exact this, hi3⟩
          have HM : Hid (lenCell (w3.cell? ⟨A, 0, none⟩) < lenCell (wo.cell? ⟨A, 0, none⟩)) := by
            show _ < _
            rw [(HJ.out.1 _ _ _ hi3).len, HLen.out, HTl.out]
            have := (HJ.out.2.2.2 s' _ HOk.out _ hf3).2
            simp only at this
            omega
          clear hi3 hf3
          go_wp2
          go_roundw
          case rel => exact ⟨_, _, HN⟩
          case measure => exact HM.out
        · have H3 : Hid (Err w3 ∧ R = none) := ⟨he3, by rw [← HE.out, hf3]; rfl⟩
          clear he3 hf3
          go_wp2
          exact ⟨by first | rfl | trivial, .inr ⟨H3.out.2, ⟨n1, m1, rfl⟩, H3.out.1⟩⟩
  · have H3 : Hid (Err w1 ∧ R = none) := ⟨he1, by rw [← HR.out, hf1]; rfl⟩
    clear he1 hf1
    go_wp2
    exact ⟨by first | rfl | trivial, .inr ⟨H3.out.2, ⟨n1, m1, rfl⟩, H3.out.1⟩⟩
set_option maxRecDepth 100000 in
set_option maxHeartbeats 8000000 in
theorem list_up {σ : Type} {one : σ → Rf σ} (hr1 : ∀ s, Reads (one s)) (A : Nat) (x0 x1 : Value) (Pre Inv : σ → List KT → World → Prop) (Err : World → Prop) (hJ : ∀ s l w, Inv s l w → RdIs A l w)
    (hK : ∀ s l w w1, Inv s l w → RdIs A l w1 → w.grownBy w1 (some A) → Inv s l w1) (hU : ∀ s l w w1, Inv s l w → RdIs A l.tail w1 → w.grownBy w1 (some A) → l.tail.length < l.length → Pre s l.tail w1)
    (hO : ∀ s l w, Pre s l w → Calls Tryz.prog 108 #[x0, x1] w fun e w' => (∃ s2 l2, one s l = some (s2, l2) ∧ e = .returned (.tuple #[]) ∧ Inv s2 l2 w') ∨ (one s l = none ∧ Thr e ∧ Err w')) (s : σ) (l : List KT) (w : World) (h : Pre s l w) (hl : OkT l) :
    Calls Tryz.prog 100 #[.pointer (some ⟨A, 0, none⟩), .func (.func 108) #[] #[x0, x1]] w fun e w' => (∃ s2 l2, listS one s l = some (s2, l2) ∧ e = .returned (.tuple #[]) ∧ Inv s2 l2 w') ∨ (listS one s l = none ∧ Thr e ∧ Err w') := by
  have HO : Hid (∀ s l w, Pre s l w → Calls Tryz.prog 108 #[x0, x1] w fun e w' => (∃ s2 l2, one s l = some (s2, l2) ∧ e = .returned (.tuple #[]) ∧ Inv s2 l2 w') ∨ (one s l = none ∧ Thr e ∧ Err w')) := hO
  have HJ : Hid ((∀ s l w, Inv s l w → RdIs A l w) ∧ (∀ s l w w1, Inv s l w → RdIs A l w1 → w.grownBy w1 (some A) → Inv s l w1) ∧ (∀ s l w w1, Inv s l w → RdIs A l.tail w1 → w.grownBy w1 (some A) → l.tail.length < l.length → Pre s l.tail w1) ∧ ∀ s, Reads (one s)) := ⟨hJ, hK, hU, hr1⟩
  have H : Hid (Pre s l w ∧ OkT l) := ⟨h, hl⟩
  obtain ⟨R, hRe⟩ : ∃ R, listS one s l = R := ⟨_, rfl⟩
  have HR : Hid ((one s l).bind (fun x => eachL one x.2.length x.1 x.2) = R) := hRe
  rw [hRe]
  clear hO hJ hK hU hr1 h hRe hl
  go_enter Tryz.func100, Tryz.ntmps100
  go_wp2_with fail
  refine (HO.out s l w H.out.1).mono ?_
  rintro _ w1 (⟨s1, l1, hf1, rfl, hi1⟩ | ⟨hf1, ⟨n1, m1, rfl⟩, he1⟩)
  · have HS : Hid (eachL one l1.length s1 l1 = R ∧ Inv s1 l1 w1) := ⟨by have := HR.out; rw [hf1] at this; exact this, hi1⟩
    clear hf1 hi1 HR
    go_wp2
    go_loopw [6] (fun _ wr => ∃ (s' : σ) (l' : List KT), Hid (eachL one l'.length s' l' = R ∧ Inv s' l' wr)) (fun _ wr => lenCell (wr.cell? ⟨A, 0, none⟩))
    case atStart => exact ⟨_, _, HS⟩
    case round =>
      clear HS
      obtain ⟨s', l', HS⟩ := hrel
      obtain ⟨wo, rfl⟩ : ∃ wo, wo = wr := ⟨_, rfl⟩
      have hrd := HJ.out.1 _ _ _ HS.out.2
      have HRd : Hid (RdIs A l' wo) := hrd
      have HLen : Hid (lenCell (wo.cell? ⟨A, 0, none⟩) = l'.length) := hrd.len
      have HTl : Hid (l'.length = l'.tail.length + 1) := by show _ = _; rw [hrd.ok.cons]; rfl
      obtain ⟨b, hb⟩ : ∃ b, isT ⟨#[44]⟩ l' = b := ⟨_, rfl⟩
      have HSee : Hid (isT ⟨#[44]⟩ l' = b) := hb
      clear hb hrd
      cases b
      · have HE : Hid (R = some (s', l')) := by
          show _ = _
          rw [← HS.out.1]
          exact each_stop HSee.out _ _
        go_wp2_with fail
        refine (has_any A l' ⟨#[44]⟩ false HSee.out wo HRd.out).mono ?_
        rintro _ w2 ⟨rfl, hr2, hg2⟩
        have HI : Hid (Inv s' l' w2) := HJ.out.2.1 s' l' wo w2 HS.out.2 hr2 hg2
        clear hr2 hg2
        go_wp2
        go_end0
        exact .inl ⟨s', l', HE.out, rfl, HI.out⟩
      · have HE : Hid ((one s' l'.tail).bind (fun x => eachL one x.2.length x.1 x.2) = R) := by
          show _ = _
          rw [← HS.out.1]
          exact (each_step HJ.out.2.2.2 HRd.out.ok HSee.out s').symm
        go_wp2_with fail
        refine (has_any A l' ⟨#[44]⟩ true HSee.out wo HRd.out).mono ?_
        rintro _ w2 ⟨rfl, hr2, hg2⟩
        have HI : Hid (Pre s' l'.tail w2) := HJ.out.2.2.1 s' l' wo w2 HS.out.2 hr2 hg2 (by have := HTl.out; omega)
        have HOk : Hid (OkT l'.tail) := hr2.ok
        clear hr2 hg2
        go_wp2_with fail
        refine (HO.out s' l'.tail w2 HI.out).mono ?_
        rintro _ w3 (⟨s3, l3, hf3, rfl, hi3⟩ | ⟨hf3, ⟨n1, m1, rfl⟩, he3⟩)
        · have HN : Hid (eachL one l3.length s3 l3 = R ∧ Inv s3 l3 w3) := ⟨by have := HE.out; rw [hf3] at this; exact this, hi3⟩
          have HM : Hid (lenCell (w3.cell? ⟨A, 0, none⟩) < lenCell (wo.cell? ⟨A, 0, none⟩)) := by
            show _ < _
            rw [(HJ.out.1 _ _ _ hi3).len, HLen.out, HTl.out]
            have := (HJ.out.2.2.2 s' _ HOk.out _ hf3).2
            simp only at this
            omega
          clear hi3 hf3
          go_wp2
          go_roundw
          case rel => exact ⟨_, _, HN⟩
          case measure => exact HM.out
        · have H3 : Hid (Err w3 ∧ R = none) := ⟨he3, by rw [← HE.out, hf3]; rfl⟩
          clear he3 hf3
          go_wp2
          exact ⟨by first | rfl | trivial, .inr ⟨H3.out.2, ⟨n1, m1, rfl⟩, H3.out.1⟩⟩
  · have H3 : Hid (Err w1 ∧ R = none) := ⟨he1, by rw [← HR.out, hf1]; rfl⟩
    clear he1 hf1
    go_wp2
    exact ⟨by first | rfl | trivial, .inr ⟨H3.out.2, ⟨n1, m1, rfl⟩, H3.out.1⟩⟩
end Go.Proofs.YtmabfbffpedfnaaGreatDoor
namespace Go.Proofs.YtmabfbffpedfnaaGreatDoor
open Go.RowKit

theorem li_in (hE : ESpec Ef 0) {A S x : Nat} {w0 : World} {sv : SV} {J : World → Prop} (hJ : StaysJ A 58 62 J) {L : List (List Ex)} {l : List KT} {w : World} (h : Acc 300 A S x w0 (fun v => ({ sv with rows := v } : SV).cells) 62 58 1 (ERw (w0.heap.size - 1) w0.heap.size) J L l w) :
    Calls Tryz.prog 100 #[.pointer (some ⟨A, 0, none⟩), .func (.func 105) #[] #[.pointer (some ⟨S, 0, none⟩), .pointer (some ⟨x, 0, none⟩)]] w fun e w' =>
      (∃ L2 l2, listS (oneOf rowF) L l = some (L2, l2) ∧ e = .returned (.tuple #[]) ∧ Acc 301 A S x w0 (fun v => ({ sv with rows := v } : SV).cells) 62 58 1 (ERw (w0.heap.size - 1) w0.heap.size) J L2 l2 w') ∨ (listS (oneOf rowF) L l = none ∧ Thr e ∧ w0.grownBy w' (some A)) := by
  have hs : Stays A 58 62 (ERw (w0.heap.size - 1) w0.heap.size) := (ERw_stays (by have := h.lo; omega) h.lo (by decide))
  refine list_in (fun s => oneOf_reads rowF_reads s) A _ _ (fun L l w => Acc 300 A S x w0 (fun v => ({ sv with rows := v } : SV).cells) 62 58 1 (ERw (w0.heap.size - 1) w0.heap.size) J L l w) (fun L l w => Acc 301 A S x w0 (fun v => ({ sv with rows := v } : SV).cells) 62 58 1 (ERw (w0.heap.size - 1) w0.heap.size) J L l w) (fun w' => w0.grownBy w' (some A)) (fun _ _ _ h => h.rd) ?_ ?_ (fun s l w h => cl_in hE hJ h) L l w h h.rd.ok
  · intro L l w w1 h hr hg
    exact h.grown hs hJ hr hg h.cnt
  · intro L l w w1 h hr hg hl
    exact h.grown hs hJ hr hg (by have := h.cnt; omega)
end Go.Proofs.YtmabfbffpedfnaaGreatDoor
namespace Go.Proofs.YtmabfbffpedfnaaGreatDoor
open Go.RowKit

set_option maxRecDepth 100000 in
set_option maxHeartbeats 16000000 in
theorem insert_any (hE : ESpec Ef 0) (A : Nat) (l : List KT) (w : World) (h : RdIs A l w) : Calls Tryz.prog 87 #[.pointer (some ⟨A, 0, none⟩)] w fun e w' => ToldT A (insertF l) w e w' := by
  have HE : Hid (ESpec Ef 0) := hE
  obtain ⟨W1, hW1⟩ : ∃ W, (w.alloc (.cells #[.pointer (some ⟨A, 0, none⟩)] 117)).alloc (.cells #[.int .i64 0, .string ⟨#[]⟩, .string ⟨#[]⟩, .slice none 0 0, .string ⟨#[]⟩, .slice none 0 0, .slice none 0 0, .pointer none, .pointer none, .slice none 0 0, .pointer none, .slice none 0 0, .int .i64 0] 62) = W := ⟨_, rfl⟩
  have hb1 : Below w.heap.size w W1 := by rw [← hW1]; exact ((Below.refl _ _).alloc (Nat.le_refl _) _).alloc (by simp) _
  have hs1 : W1.heap.size = w.heap.size + 2 := by rw [← hW1]; simp
  have hkx : Blk w.heap.size #[.pointer (some ⟨A, 0, none⟩)] 117 W1 := by rw [← hW1]; exact (Blk.new _ _ _).below ((Below.refl _ _).alloc (Nat.le_refl _) _)
  have hk1 : Blk (w.heap.size + 1) svZ.cells 62 W1 := by
    have := Blk.new (w.alloc (.cells #[.pointer (some ⟨A, 0, none⟩)] 117)) #[.int .i64 0, .string ⟨#[]⟩, .string ⟨#[]⟩, .slice none 0 0, .string ⟨#[]⟩, .slice none 0 0, .slice none 0 0, .pointer none, .pointer none, .slice none 0 0, .pointer none, .slice none 0 0, .int .i64 0] 62
    rw [hW1, World.size_alloc] at this
    exact this
  have HB1 : Hid (Blk w.heap.size #[.pointer (some ⟨A, 0, none⟩)] 117 W1 ∧ Blk (w.heap.size + 1) svZ.cells 62 W1 ∧ w.grownBy W1 (some A) ∧ W1.heap.size = w.heap.size + 2 ∧ A < w.heap.size) := ⟨hkx, hk1, grown_of_belowA hb1 _, hs1, h.lt⟩
  have cxW1 : W1.cell? ⟨w.heap.size, 0, none⟩ = some (.pointer (some ⟨A, 0, none⟩)) := by rw [hkx.cell 0]; rfl
  have HW : Hid (RdIs A l W1 ∧ W1.grownBy W1 (some A)) := ⟨h.below hb1, grownA_refl _ _⟩
  obtain ⟨R, hR⟩ : ∃ R, insertF l = R := ⟨_, rfl⟩
  have E0 : Hid (R = insertF l) := hR.symm
  unfold ToldT
  rw [hR]
  clear h hR hb1 hs1 hk1 hkx
  go_enter Tryz.func87, Tryz.ntmps87
  go_wp2_with fail
  refine (need_any A l ⟨#[105, 110, 116, 111]⟩ W1 HW.out.1).mono ?_
  rintro _ w1 ⟨hg, ⟨l2, hn, rfl, hr⟩ | ⟨hn, n1, m1, rfl⟩⟩
  · have H3 : Hid (RdIs A l2 w1 ∧ W1.grownBy w1 (some A)) := ⟨hr, HW.out.2.trans hg⟩
    have E4 : Hid (R = (nameF l2).bind fun a => (needF ⟨#[118, 97, 108, 117, 101, 115]⟩ a.2).bind fun l2 => (listF rowF l2).map fun b => ({ ofS 4 a.1 with rows := b.1 }, b.2)) := by show _ = _; rw [E0.out]; unfold insertF; rw [hn]; first | rw [Option.bind_some] | rw [Option.map_some]
    have cxw1 : w1.cell? ⟨w.heap.size, 0, none⟩ = some (.pointer (some ⟨A, 0, none⟩)) := by rw [(HB1.out.1.keep (by have := HB1.out.2.2.2.2; omega) H3.out.2).cell 0]; rfl
    clear hg hn hr
    go_wp2_with fail
    refine (name_any A l2 w1 H3.out.1).mono ?_
    rintro _ w5 ⟨hg, ⟨nm7, l6, hn, rfl, hr, hz8⟩ | ⟨hn, n1, m1, rfl⟩⟩
    · have H9 : Hid (RdIs A l6 w5 ∧ W1.grownBy w5 (some A)) := ⟨hr, H3.out.2.trans hg⟩
      have E10 : Hid (R = (needF ⟨#[118, 97, 108, 117, 101, 115]⟩ l6).bind fun l2 => (listF rowF l2).map fun b => ({ ofS 4 nm7 with rows := b.1 }, b.2)) := by show _ = _; rw [E4.out, hn]; first | rw [Option.bind_some] | rw [Option.map_some]
      have cxw5 : w5.cell? ⟨w.heap.size, 0, none⟩ = some (.pointer (some ⟨A, 0, none⟩)) := by rw [(HB1.out.1.keep (by have := HB1.out.2.2.2.2; omega) H9.out.2).cell 0]; rfl
      clear hg hn hr
      go_wp2_with fail
      refine (of_any 4 nm7 w5).mono ?_
      rintro _ w11 ⟨rfl, hb⟩
      have hkA : Blk w11.heap.size svZ.cells 62 (w11.alloc (.cells #[.int .i64 0, .string ⟨#[]⟩, .string ⟨#[]⟩, .slice none 0 0, .string ⟨#[]⟩, .slice none 0 0, .slice none 0 0, .pointer none, .pointer none, .slice none 0 0, .pointer none, .slice none 0 0, .int .i64 0] 62)) := Blk.new _ _ _
      have HKA : Hid (Blk w11.heap.size svZ.cells 62 (w11.alloc (.cells #[.int .i64 0, .string ⟨#[]⟩, .string ⟨#[]⟩, .slice none 0 0, .string ⟨#[]⟩, .slice none 0 0, .slice none 0 0, .pointer none, .pointer none, .slice none 0 0, .pointer none, .slice none 0 0, .int .i64 0] 62))) := hkA
      obtain ⟨V12, hV12⟩ : ∃ V, (w11.alloc (.cells #[.int .i64 0, .string ⟨#[]⟩, .string ⟨#[]⟩, .slice none 0 0, .string ⟨#[]⟩, .slice none 0 0, .slice none 0 0, .pointer none, .pointer none, .slice none 0 0, .pointer none, .slice none 0 0, .int .i64 0] 62)).setCells w11.heap.size 0 (svOf 4 nm7).cells.toList = V := ⟨_, rfl⟩
      have hgV : w11.grownBy V12 (some A) := by rw [← hV12]; exact grown_sets _ 0 (grown_alloc _ _ _) (Nat.le_refl _)
      have H13 : Hid (SI A w11.heap.size W1 (ofS 4 nm7) l6 V12) := by
        refine ⟨?_, (H9.out.2.trans (grown_of_belowA hb _)).trans hgV, ⟨svOf 4 nm7, ?_, svis_of _ _ _ _⟩, by have := HB1.out.2.2.2; omega, by have h1 := (H9.out.2.trans (grown_of_belowA hb (some A))).size; exact h1⟩
        · rw [← hV12]
          exact RdIs.setsN _ 0 ((H9.out.1.below hb).below ((Below.refl _ _).alloc (Nat.le_refl _) _)) ((H9.out.1.below hb).lt)
        · rw [← hV12]
          exact hkA.stored
      have cxV12 : V12.cell? ⟨w.heap.size, 0, none⟩ = some (.pointer (some ⟨A, 0, none⟩)) := by rw [(HB1.out.1.keep (by have := HB1.out.2.2.2.2; omega) H13.out.gr).cell 0]; rfl
      clear hb hkA hgV
      go_wp2_with (refine wpList_store_mid rfl 62 _ _ rfl _ 0 (svOf 4 nm7).cells rfl rfl (HKA.out.there rfl) (s30 _) (svOf_rows 4 nm7).one ?_; rw [hV12])
      clear HKA
      go_wp2_with fail
      refine (need_any A l6 ⟨#[118, 97, 108, 117, 101, 115]⟩ V12 H13.out.rd).mono ?_
      rintro _ w14 ⟨hg, ⟨l15, hn, rfl, hr⟩ | ⟨hn, n1, m1, rfl⟩⟩
      · have H16 : Hid (SI A w11.heap.size W1 (ofS 4 nm7) l15 w14) := H13.out.grown hr hg
        have E17 : Hid (R = (listF rowF l15).map fun b => ({ ofS 4 nm7 with rows := b.1 }, b.2)) := by show _ = _; rw [E10.out, hn]; first | rw [Option.bind_some] | rw [Option.map_some]
        have cxw14 : w14.cell? ⟨w.heap.size, 0, none⟩ = some (.pointer (some ⟨A, 0, none⟩)) := by rw [(HB1.out.1.keep (by have := HB1.out.2.2.2.2; omega) H16.out.gr).cell 0]; rfl
        clear hg hn hr
        obtain ⟨sv23, hA1, hA2⟩ := H16.out.acc_rows (x := w.heap.size) rfl (HB1.out.1.keep (by have := HB1.out.2.2.2; omega) H16.out.gr) (by have := HB1.out.2.2.2; omega) (by have h1 := HB1.out.2.2.2; have h2 := H16.out.S0; omega)
        have HA : Hid (_ ∧ _) := ⟨hA1, hA2⟩
        clear hA1 hA2
        go_wp2_with fail
        refine (li_in HE.out HA.out.2 HA.out.1).mono ?_
        rintro _ w18 (⟨L20, l19, hn, rfl, ha⟩ | ⟨hn, ⟨n1, m1, rfl⟩, hg⟩)
        · have H21 : Hid (SI A w11.heap.size W1 { (ofS 4 nm7) with rows := L20 } l19 w18) := SI.of_rows ha (listS_ne hn)
          have E22 : Hid (R = some ({ ofS 4 nm7 with rows := L20 }, l19)) := by show _ = _; have hn : listF rowF l15 = _ := hn; rw [E17.out, hn]; first | rw [Option.bind_some] | rw [Option.map_some]
          have cxw18 : w18.cell? ⟨w.heap.size, 0, none⟩ = some (.pointer (some ⟨A, 0, none⟩)) := by rw [(HB1.out.1.keep (by have := HB1.out.2.2.2.2; omega) H21.out.gr).cell 0]; rfl
          clear hn ha HA
          obtain ⟨sv, hk, hv⟩ := H21.out.st
          have HK : Hid (Blk w11.heap.size sv.cells 62 w18 ∧ Blk (w.heap.size + 1) svZ.cells 62 w18 ∧ SVIs W1.heap.size sv { (ofS 4 nm7) with rows := L20 } w18) := ⟨hk, HB1.out.2.1.keep (by have := HB1.out.2.2.2; omega) H21.out.gr, hv⟩
          clear hk hv
          go_wp2_with (first | (refine wpList_load_mid rfl 62 _ rfl _ 0 rfl sv.cells.toList _ HK.out.1.range Tryz.underlying62 rfl (s30 sv) ?_) | (refine wpList_store_mid rfl 62 _ _ rfl _ 0 sv.cells rfl rfl (HK.out.2.1.there rfl) (s30 _) (HK.out.2.2.rowsOk).one ?_))
          refine bodyPost_ret (v := .agg sv.cells) (results_c Tryz.results87 _ _ _ rfl (load30 HK.out.2.1.stored)) rfl ?_
          refine ⟨grown_sets _ 0 (HB1.out.2.2.1.trans H21.out.gr) (by omega), .inl ⟨_, _, sv, E22.out, rfl, ?_, RdIs.setsN _ 0 H21.out.rd (by have := HB1.out.2.2.2; omega)⟩⟩
          exact (HK.out.2.2.st (by have := HB1.out.2.2.2; omega) (fr_sets _ 0 HK.out.2.1)).low (by have := HB1.out.2.2.2; omega)
        · have HG : Hid (w.grownBy w18 (some A) ∧ R = none) := ⟨HB1.out.2.2.1.trans hg, by have hn : listF rowF l15 = _ := hn; rw [E17.out, hn]; rfl⟩
          clear hg hn
          go_wp2
          exact ⟨by first | rfl | trivial, HG.out.1, .inr ⟨HG.out.2, n1, m1, rfl⟩⟩
      · have HG : Hid (w.grownBy w14 (some A) ∧ R = none) := ⟨HB1.out.2.2.1.trans (H13.out.gr.trans hg), by rw [E10.out, hn]; rfl⟩
        clear hg hn
        go_wp2
        exact ⟨by first | rfl | trivial, HG.out.1, .inr ⟨HG.out.2, n1, m1, rfl⟩⟩
    · have HG : Hid (w.grownBy w5 (some A) ∧ R = none) := ⟨HB1.out.2.2.1.trans (H3.out.2.trans hg), by rw [E4.out, hn]; rfl⟩
      clear hg hn
      go_wp2
      exact ⟨by first | rfl | trivial, HG.out.1, .inr ⟨HG.out.2, n1, m1, rfl⟩⟩
  · have HG : Hid (w.grownBy w1 (some A) ∧ R = none) := ⟨HB1.out.2.2.1.trans (HW.out.2.trans hg), by rw [E0.out]; unfold insertF; rw [hn]; rfl⟩
    clear hg hn
    go_wp2
    exact ⟨by first | rfl | trivial, HG.out.1, .inr ⟨HG.out.2, n1, m1, rfl⟩⟩
end Go.Proofs.YtmabfbffpedfnaaGreatDoor
namespace Go.Proofs.YtmabfbffpedfnaaGreatDoor
open Go.RowKit

/-- what is laid in an older block leaves an expression -/
theorem ExIs.setLow {n b : Nat} {w : World} (hb : b ≤ n) (o : Nat) (v : Value) {q : Ex} {p : Option Addr} (h : ExIs n w p q) : ExIs n (w.setCell ⟨b, o, none⟩ v) p q :=
  ExIs.fr (X := fun k _ => k = b) (Fr.set (fun _ => rfl) o v) (fun k _ _ hk _ e => by omega) q h
abbrev AccU (c A S x : Nat) (w0 : World) (sv : SV) (J : World → Prop) (L : List Ex) (l : List KT) (w : World) : Prop := Acc c A S x w0 (fun v => ({ sv with sets := v } : SV).cells) 62 26 1 (EP (w0.heap.size - 1)) J L l w
set_option maxRecDepth 100000 in
set_option maxHeartbeats 16000000 in
theorem cl_up (hE : ESpec Ef 0) {A S x : Nat} {w0 : World} {sv : SV} {J : World → Prop} (hJ : StaysJ A 26 62 J) {L : List Ex} {l : List KT} {w : World} (h : AccU 300 A S x w0 sv J L l w) :
    Calls Tryz.prog 108 #[.pointer (some ⟨x, 0, none⟩), .pointer (some ⟨S, 0, none⟩)] w fun e w' => (∃ L2 l2, oneOf setF L l = some (L2, l2) ∧ e = .returned (.tuple #[]) ∧ AccU 301 A S x w0 sv J L2 l2 w') ∨ (oneOf setF L l = none ∧ Thr e ∧ w0.grownBy w' (some A)) := by
  obtain ⟨i0, hi, hz0, hz1, hz2⟩ := info_parts infoPE
  have HE : Hid (ESpec Ef 0) := hE
  have H : Hid (AccU 300 A S x w0 sv J L l w) := h
  have HJ : Hid (StaysJ A 26 62 J) := hJ
  obtain ⟨v, hst, cs, hcs, hown⟩ := h.st
  obtain ⟨a4, c4, rfl⟩ := own_slice hown
  have hcnt := h.cnt
  have hLr : L.length ≤ 300 := by omega
  have hlo := h.lo
  have hS0 := h.S0
  have HCx : Hid (∀ wn, w.grownBy wn (some A) → wn.cell? ⟨x, 0, none⟩ = some (.pointer (some ⟨A, 0, none⟩))) := fun wn hg => by rw [(h.hx.keep h.nx hg).cell 0]; rfl
  have HKeep : Hid (All2 (EP (w0.heap.size - 1) w) L cs ∧ Blk S ({ sv with sets := .slice a4 L.length c4 } : SV).cells 62 w ∧ w.ownsRow w0.heap.size 26 1 (.slice a4 L.length c4) L.length cs.flatten) := ⟨hcs, hst, hown⟩
  have hcx := HCx.out w (grownA_refl _ _)
  obtain ⟨R, hR⟩ : ∃ R, oneOf setF L l = R := ⟨_, rfl⟩
  have E0 : Hid (R = (setF l).map fun x => (L ++ [x.1], x.2)) := hR.symm
  rw [hR]
  clear h hE hJ hst hcs hown hR
  go_enter Tryz.func108, Tryz.ntmps108
  go_wp2_with fail
  refine (name_any A l w H.out.rd).mono ?_
  rintro _ w1 ⟨hg1, ⟨nm, l1, hn1, rfl, hr1, _⟩ | ⟨hn1, n1, m1, rfl⟩⟩
  · obtain ⟨W, hW⟩ : ∃ W, w1.alloc (.cells #[.int .i64 2, .int .i64 0, .int .i64 0, .string ⟨#[]⟩, .string nm, .pointer none, .pointer none] 75) = W := ⟨_, rfl⟩
    have hbW : Below w1.heap.size w1 W := by rw [← hW]; exact (Below.refl _ _).alloc (Nat.le_refl _) _
    have hKW : Blk w1.heap.size #[.int .i64 2, .int .i64 0, .int .i64 0, .string ⟨#[]⟩, .string nm, .pointer none, .pointer none] 75 W := by rw [← hW]; exact Blk.new _ _ _
    have HW : Hid (RdIs A l1 W ∧ w.grownBy W (some A) ∧ Blk w1.heap.size #[.int .i64 2, .int .i64 0, .int .i64 0, .string ⟨#[]⟩, .string nm, .pointer none, .pointer none] 75 W) := ⟨hr1.below hbW, hg1.trans (grown_of_belowA hbW _), hKW⟩
    have hcxW := HCx.out W HW.out.2.1
    have HSz : Hid (w.heap.size ≤ w1.heap.size ∧ A < w1.heap.size ∧ w1.heap.size < W.heap.size) := ⟨hg1.size, hr1.lt, hKW.lt⟩
    have E1 : Hid (R = ((needF ⟨#[61]⟩ l1).bind fun l2 => (Ef l2).map fun b => (Ex.node 2 .none nm b.1 .nil, b.2)).map fun x => (L ++ [x.1], x.2)) := by show _ = _; rw [E0.out]; unfold setF; rw [hn1]; rfl
    clear hr1 hg1 hbW hKW hn1 hcx
    go_wp2_with fail
    refine (need_any A l1 ⟨#[61]⟩ W HW.out.1).mono ?_
    rintro _ w3 ⟨hg3, ⟨l3, hn3, rfl, hr3⟩ | ⟨hn3, n1, m1, rfl⟩⟩
    · have H3 : Hid (RdIs A l3 w3 ∧ w.grownBy w3 (some A) ∧ Blk w1.heap.size #[.int .i64 2, .int .i64 0, .int .i64 0, .string ⟨#[]⟩, .string nm, .pointer none, .pointer none] 75 w3) := ⟨hr3, HW.out.2.1.trans hg3, HW.out.2.2.keep (by have := HSz.out.2; omega) hg3⟩
      have hcx3 := HCx.out w3 H3.out.2.1
      have E3 : Hid (R = ((Ef l3).map fun b => (Ex.node 2 .none nm b.1 .nil, b.2)).map fun x => (L ++ [x.1], x.2)) := by show _ = _; rw [E1.out, hn3]; rfl
      clear hr3 hg3 hn3 hcxW hW
      go_wp2_with fail
      refine (HE.out A l3 w3 H3.out.1).mono ?_
      rintro _ w4 ⟨hg4, ⟨e4, l4, p, hn4, rfl, hx4, hr4⟩ | ⟨hn4, n1, m1, rfl⟩⟩
      · have hk4 := H3.out.2.2.keep (by have := HSz.out.2; omega) hg4
        have q5 : w4.cell? ⟨w1.heap.size, 5, none⟩ = some (.pointer none) := by rw [hk4.cell 5]; rfl
        have f5 := hk4.free 5
        obtain ⟨w5, hw5⟩ : ∃ w5, w4.setCell ⟨w1.heap.size, 5, none⟩ (.pointer p) = w5 := ⟨_, rfl⟩
        have HG5 : Hid (w.grownBy w5 (some A)) := by rw [← hw5]; exact grown_new (H3.out.2.1.trans hg4) HSz.out.1 5 _
        have HR5 : Hid (RdIs A l4 w5) := by rw [← hw5]; exact hr4.set HSz.out.2.1 5 _
        have hgr0 := H.out.gr.size
        have HX5 : Hid (ExIs (w0.heap.size - 1) w5 (some ⟨w1.heap.size, 0, none⟩) (.node 2 .none nm e4 .nil)) := by
          have h5 : Blk w1.heap.size #[.int .i64 2, .int .i64 0, .int .i64 0, .string ⟨#[]⟩, .string nm, .pointer p, .pointer none] 75 w5 := by rw [← hw5]; exact hk4.set 5 _
          refine ⟨w1.heap.size, p, none, rfl, by have := HSz.out.1; omega, h5, ?_, rfl⟩
          rw [← hw5]
          exact (ExIs.setLow (by have h1 := H3.out.2.2.lt; omega) 5 _ hx4).mono (by have h1 := H3.out.2.1.size; omega)
        have hs5 := HKeep.out.2.1.keep (by omega : S ≠ A) HG5.out
        have c6 : w5.cell? ⟨S, 6, none⟩ = some (.slice a4 L.length c4) := by rw [hs5.cell 6]; rfl
        have HOw : Hid (w5.ownsRow w0.heap.size 26 1 (.slice a4 L.length c4) L.length cs.flatten) := own_grownN hlo HKeep.out.2.2 HG5.out
        have hA5 : w0.heap.size ≤ w5.heap.size := by have := HG5.out.size; omega
        have E4 : Hid (R = some (L ++ [.node 2 .none nm e4 .nil], l4)) := by show _ = _; rw [E3.out, hn4]; rfl
        have HL4 : Hid (l4.length ≤ l.length) := by
          show _ ≤ _
          have hm : oneOf setF L l = some (L ++ [.node 2 .none nm e4 .nil], l4) := by rw [← E4.out, E0.out]; rfl
          exact (oneOf_reads setF_reads L l H.out.rd.ok _ hm).2
        clear hx4 hr4 hg4 hk4 hs5 hn4
        go_wp2_with (at_builtin; refine wpList_append_own _ rfl _ _ 58 rfl w0.heap.size 26 i0 (.pointer none) 1 8 Tryz.underlying58 hi hz0 hz1 hz2 rfl (by decide) _ _ _ rfl (HOw.out.alloc _) ⟨w5.heap.size, 0, none⟩ 1 1 [.pointer (some ⟨w1.heap.size, 0, none⟩)] rfl rfl (news_one w5 _ _) (by intro u hu; simp at hu; subst hu; rfl) (by simp [maxLen]; omega) (by omega) (by simp; omega) ?_)
        intro v6 w6 ho6 hg6 _
        obtain ⟨a7, c7, rfl⟩ := own_slice ho6
        have HO6 : Hid (w6.ownsRow w0.heap.size 26 1 (.slice a7 (L.length + 1) c7) (L.length + 1) (cs.flatten ++ [.pointer (some ⟨w1.heap.size, 0, none⟩)])) := ho6
        have HG6 : Hid ((w5.alloc (.cells #[.pointer (some ⟨w1.heap.size, 0, none⟩)] 26)).grownBy w6 (Value.slice a4 L.length c4).ownBlock) := hg6
        have hs6 := ((HKeep.out.2.1.keep (by omega : S ≠ A) HG5.out).below ((Below.refl _ _).alloc (Nat.le_refl _) (.cells #[.pointer (some ⟨w1.heap.size, 0, none⟩)] 26))).fr (Fr.row (X := fun _ o => ∃ c fz, o = .cells c 26 fz) (fun _ _ _ => ⟨_, _, rfl⟩) (HOw.out.alloc _) hg6) (by rintro ⟨c, fz, e⟩; cases e)
        have c6' : w6.cell? ⟨S, 6, none⟩ = some (.slice a4 L.length c4) := by rw [hs6.cell 6]; rfl
        have f6' := hs6.free 6
        clear ho6 hg6 hs6 hw5
        go_wp2
        go_end0
        exact .inl ⟨_, _, E4.out, rfl, Acc.snoc H.out (EP_stays (by omega) (by decide)) HJ.out (by decide) HKeep.out.2.1 HKeep.out.1 HKeep.out.2.2 HG5.out HR5.out ⟨_, rfl, HX5.out⟩ HG6.out HO6.out rfl HL4.out⟩
      · have HG : Hid (w0.grownBy w4 (some A) ∧ R = none) := ⟨H.out.gr.trans (H3.out.2.1.trans hg4), by rw [E3.out, hn4]; rfl⟩
        clear hg4 hn4
        go_wp2
        exact ⟨by first | rfl | trivial, .inr ⟨HG.out.2, ⟨n1, m1, rfl⟩, HG.out.1⟩⟩
    · have HG : Hid (w0.grownBy w3 (some A) ∧ R = none) := ⟨H.out.gr.trans (HW.out.2.1.trans hg3), by rw [E1.out, hn3]; rfl⟩
      clear hg3 hn3
      go_wp2
      exact ⟨by first | rfl | trivial, .inr ⟨HG.out.2, ⟨n1, m1, rfl⟩, HG.out.1⟩⟩
  · have HG : Hid (w0.grownBy w1 (some A) ∧ R = none) := ⟨H.out.gr.trans hg1, by rw [E0.out]; unfold setF; rw [hn1]; rfl⟩
    clear hg1 hn1
    go_wp2
    exact ⟨by first | rfl | trivial, .inr ⟨HG.out.2, ⟨n1, m1, rfl⟩, HG.out.1⟩⟩
end Go.Proofs.YtmabfbffpedfnaaGreatDoor
namespace Go.Proofs.YtmabfbffpedfnaaGreatDoor
open Go.RowKit

theorem li_up (hE : ESpec Ef 0) {A S x : Nat} {w0 : World} {sv : SV} {J : World → Prop} (hJ : StaysJ A 26 62 J) {L : List Ex} {l : List KT} {w : World} (h : Acc 300 A S x w0 (fun v => ({ sv with sets := v } : SV).cells) 62 26 1 (EP (w0.heap.size - 1)) J L l w) :
    Calls Tryz.prog 100 #[.pointer (some ⟨A, 0, none⟩), .func (.func 108) #[] #[.pointer (some ⟨x, 0, none⟩), .pointer (some ⟨S, 0, none⟩)]] w fun e w' =>
      (∃ L2 l2, listS (oneOf setF) L l = some (L2, l2) ∧ e = .returned (.tuple #[]) ∧ Acc 301 A S x w0 (fun v => ({ sv with sets := v } : SV).cells) 62 26 1 (EP (w0.heap.size - 1)) J L2 l2 w') ∨ (listS (oneOf setF) L l = none ∧ Thr e ∧ w0.grownBy w' (some A)) := by
  have hs : Stays A 26 62 (EP (w0.heap.size - 1)) := (EP_stays (by have := h.lo; omega) (by decide))
  refine list_up (fun s => oneOf_reads setF_reads s) A _ _ (fun L l w => Acc 300 A S x w0 (fun v => ({ sv with sets := v } : SV).cells) 62 26 1 (EP (w0.heap.size - 1)) J L l w) (fun L l w => Acc 301 A S x w0 (fun v => ({ sv with sets := v } : SV).cells) 62 26 1 (EP (w0.heap.size - 1)) J L l w) (fun w' => w0.grownBy w' (some A)) (fun _ _ _ h => h.rd) ?_ ?_ (fun s l w h => cl_up hE hJ h) L l w h h.rd.ok
  · intro L l w w1 h hr hg
    exact h.grown hs hJ hr hg h.cnt
  · intro L l w w1 h hr hg hl
    exact h.grown hs hJ hr hg (by have := h.cnt; omega)
end Go.Proofs.YtmabfbffpedfnaaGreatDoor
namespace Go.Proofs.YtmabfbffpedfnaaGreatDoor
open Go.RowKit

set_option maxRecDepth 100000 in
set_option maxHeartbeats 16000000 in
theorem update_any (hE : ESpec Ef 0) (A : Nat) (l : List KT) (w : World) (h : RdIs A l w) : Calls Tryz.prog 89 #[.pointer (some ⟨A, 0, none⟩)] w fun e w' => ToldT A (updateF l) w e w' := by
  have HE : Hid (ESpec Ef 0) := hE
  obtain ⟨W1, hW1⟩ : ∃ W, (w.alloc (.cells #[.pointer (some ⟨A, 0, none⟩)] 117)).alloc (.cells #[.int .i64 0, .string ⟨#[]⟩, .string ⟨#[]⟩, .slice none 0 0, .string ⟨#[]⟩, .slice none 0 0, .slice none 0 0, .pointer none, .pointer none, .slice none 0 0, .pointer none, .slice none 0 0, .int .i64 0] 62) = W := ⟨_, rfl⟩
  have hb1 : Below w.heap.size w W1 := by rw [← hW1]; exact ((Below.refl _ _).alloc (Nat.le_refl _) _).alloc (by simp) _
  have hs1 : W1.heap.size = w.heap.size + 2 := by rw [← hW1]; simp
  have hkx : Blk w.heap.size #[.pointer (some ⟨A, 0, none⟩)] 117 W1 := by rw [← hW1]; exact (Blk.new _ _ _).below ((Below.refl _ _).alloc (Nat.le_refl _) _)
  have hk1 : Blk (w.heap.size + 1) svZ.cells 62 W1 := by
    have := Blk.new (w.alloc (.cells #[.pointer (some ⟨A, 0, none⟩)] 117)) #[.int .i64 0, .string ⟨#[]⟩, .string ⟨#[]⟩, .slice none 0 0, .string ⟨#[]⟩, .slice none 0 0, .slice none 0 0, .pointer none, .pointer none, .slice none 0 0, .pointer none, .slice none 0 0, .int .i64 0] 62
    rw [hW1, World.size_alloc] at this
    exact this
  have HB1 : Hid (Blk w.heap.size #[.pointer (some ⟨A, 0, none⟩)] 117 W1 ∧ Blk (w.heap.size + 1) svZ.cells 62 W1 ∧ w.grownBy W1 (some A) ∧ W1.heap.size = w.heap.size + 2 ∧ A < w.heap.size) := ⟨hkx, hk1, grown_of_belowA hb1 _, hs1, h.lt⟩
  have cxW1 : W1.cell? ⟨w.heap.size, 0, none⟩ = some (.pointer (some ⟨A, 0, none⟩)) := by rw [hkx.cell 0]; rfl
  have HW : Hid (RdIs A l W1 ∧ W1.grownBy W1 (some A)) := ⟨h.below hb1, grownA_refl _ _⟩
  obtain ⟨R, hR⟩ : ∃ R, updateF l = R := ⟨_, rfl⟩
  have E0 : Hid (R = updateF l) := hR.symm
  unfold ToldT
  rw [hR]
  clear h hR hb1 hs1 hk1 hkx
  go_enter Tryz.func89, Tryz.ntmps89
  go_wp2_with fail
  refine (name_any A l W1 HW.out.1).mono ?_
  rintro _ w24 ⟨hg, ⟨nm26, l25, hn, rfl, hr, hz27⟩ | ⟨hn, n1, m1, rfl⟩⟩
  · have H28 : Hid (RdIs A l25 w24 ∧ W1.grownBy w24 (some A)) := ⟨hr, HW.out.2.trans hg⟩
    have E29 : Hid (R = (needF ⟨#[115, 101, 116]⟩ l25).bind fun l2 => (listF setF l2).bind fun b => (whereF ⟨#[119, 104, 101, 114, 101]⟩ b.2).map fun c => ({ ofS 6 nm26 with sets := b.1, wh := c.1 }, c.2)) := by show _ = _; rw [E0.out]; unfold updateF; rw [hn]; first | rw [Option.bind_some] | rw [Option.map_some]
    have cxw24 : w24.cell? ⟨w.heap.size, 0, none⟩ = some (.pointer (some ⟨A, 0, none⟩)) := by rw [(HB1.out.1.keep (by have := HB1.out.2.2.2.2; omega) H28.out.2).cell 0]; rfl
    clear hg hn hr
    go_wp2_with fail
    refine (of_any 6 nm26 w24).mono ?_
    rintro _ w30 ⟨rfl, hb⟩
    have hkA : Blk w30.heap.size svZ.cells 62 (w30.alloc (.cells #[.int .i64 0, .string ⟨#[]⟩, .string ⟨#[]⟩, .slice none 0 0, .string ⟨#[]⟩, .slice none 0 0, .slice none 0 0, .pointer none, .pointer none, .slice none 0 0, .pointer none, .slice none 0 0, .int .i64 0] 62)) := Blk.new _ _ _
    have HKA : Hid (Blk w30.heap.size svZ.cells 62 (w30.alloc (.cells #[.int .i64 0, .string ⟨#[]⟩, .string ⟨#[]⟩, .slice none 0 0, .string ⟨#[]⟩, .slice none 0 0, .slice none 0 0, .pointer none, .pointer none, .slice none 0 0, .pointer none, .slice none 0 0, .int .i64 0] 62))) := hkA
    obtain ⟨V31, hV31⟩ : ∃ V, (w30.alloc (.cells #[.int .i64 0, .string ⟨#[]⟩, .string ⟨#[]⟩, .slice none 0 0, .string ⟨#[]⟩, .slice none 0 0, .slice none 0 0, .pointer none, .pointer none, .slice none 0 0, .pointer none, .slice none 0 0, .int .i64 0] 62)).setCells w30.heap.size 0 (svOf 6 nm26).cells.toList = V := ⟨_, rfl⟩
    have hgV : w30.grownBy V31 (some A) := by rw [← hV31]; exact grown_sets _ 0 (grown_alloc _ _ _) (Nat.le_refl _)
    have H32 : Hid (SI A w30.heap.size W1 (ofS 6 nm26) l25 V31) := by
      refine ⟨?_, (H28.out.2.trans (grown_of_belowA hb _)).trans hgV, ⟨svOf 6 nm26, ?_, svis_of _ _ _ _⟩, by have := HB1.out.2.2.2; omega, by have h1 := (H28.out.2.trans (grown_of_belowA hb (some A))).size; exact h1⟩
      · rw [← hV31]
        exact RdIs.setsN _ 0 ((H28.out.1.below hb).below ((Below.refl _ _).alloc (Nat.le_refl _) _)) ((H28.out.1.below hb).lt)
      · rw [← hV31]
        exact hkA.stored
    have cxV31 : V31.cell? ⟨w.heap.size, 0, none⟩ = some (.pointer (some ⟨A, 0, none⟩)) := by rw [(HB1.out.1.keep (by have := HB1.out.2.2.2.2; omega) H32.out.gr).cell 0]; rfl
    clear hb hkA hgV
    go_wp2_with (refine wpList_store_mid rfl 62 _ _ rfl _ 0 (svOf 6 nm26).cells rfl rfl (HKA.out.there rfl) (s30 _) (svOf_rows 6 nm26).one ?_; rw [hV31])
    clear HKA
    go_wp2_with fail
    refine (need_any A l25 ⟨#[115, 101, 116]⟩ V31 H32.out.rd).mono ?_
    rintro _ w33 ⟨hg, ⟨l34, hn, rfl, hr⟩ | ⟨hn, n1, m1, rfl⟩⟩
    · have H35 : Hid (SI A w30.heap.size W1 (ofS 6 nm26) l34 w33) := H32.out.grown hr hg
      have E36 : Hid (R = (listF setF l34).bind fun b => (whereF ⟨#[119, 104, 101, 114, 101]⟩ b.2).map fun c => ({ ofS 6 nm26 with sets := b.1, wh := c.1 }, c.2)) := by show _ = _; rw [E29.out, hn]; first | rw [Option.bind_some] | rw [Option.map_some]
      have cxw33 : w33.cell? ⟨w.heap.size, 0, none⟩ = some (.pointer (some ⟨A, 0, none⟩)) := by rw [(HB1.out.1.keep (by have := HB1.out.2.2.2.2; omega) H35.out.gr).cell 0]; rfl
      clear hg hn hr
      obtain ⟨sv42, hA1, hA2⟩ := H35.out.acc_sets (x := w.heap.size) rfl rfl (HB1.out.1.keep (by have := HB1.out.2.2.2; omega) H35.out.gr) (by have := HB1.out.2.2.2; omega) (by have h1 := HB1.out.2.2.2; have h2 := H35.out.S0; omega)
      have HA : Hid (_ ∧ _) := ⟨hA1, hA2⟩
      clear hA1 hA2
      go_wp2_with fail
      refine (li_up HE.out HA.out.2 HA.out.1).mono ?_
      rintro _ w37 (⟨L39, l38, hn, rfl, ha⟩ | ⟨hn, ⟨n1, m1, rfl⟩, hg⟩)
      · have H40 : Hid (SI A w30.heap.size W1 { (ofS 6 nm26) with sets := L39 } l38 w37) := SI.of_sets ha (listS_ne hn)
        have E41 : Hid (R = (whereF ⟨#[119, 104, 101, 114, 101]⟩ l38).map fun c => ({ ofS 6 nm26 with sets := L39, wh := c.1 }, c.2)) := by show _ = _; have hn : listF setF l34 = _ := hn; rw [E36.out, hn]; first | rw [Option.bind_some] | rw [Option.map_some]
        have cxw37 : w37.cell? ⟨w.heap.size, 0, none⟩ = some (.pointer (some ⟨A, 0, none⟩)) := by rw [(HB1.out.1.keep (by have := HB1.out.2.2.2.2; omega) H40.out.gr).cell 0]; rfl
        clear hn ha HA
        go_wp2_with fail
        refine (behind_any HE.out A l38 ⟨#[119, 104, 101, 114, 101]⟩ w37 H40.out.rd).mono ?_
        rintro _ w43 ⟨hg, ⟨e45, l44, p46, hn, rfl, hx, hr⟩ | ⟨hn, n1, m1, rfl⟩⟩
        · have H47 : Hid (SI A w30.heap.size W1 { (ofS 6 nm26) with sets := L39 } l44 w43) := H40.out.grown hr hg
          obtain ⟨⟨v0, c0⟩, f0⟩ := H47.out.cell (i := 8) (by decide)
          obtain ⟨w49, hwz⟩ : ∃ u, w43.setCell ⟨w30.heap.size, 8, none⟩ (.pointer p46) = u := ⟨_, rfl⟩
          have H50 : Hid (SI A w30.heap.size W1 { { (ofS 6 nm26) with sets := L39 } with wh := e45 } l44 w49) := by
            rw [← hwz]
            exact H47.out.set_wh (hx.mono (by have := H40.out.gr.size; omega))
          have E48 : Hid (R = some ({ { ofS 6 nm26 with sets := L39 } with wh := e45 }, l44)) := by show _ = _; rw [E41.out, hn]; first | rw [Option.bind_some] | rw [Option.map_some]
          have cxw49 : w49.cell? ⟨w.heap.size, 0, none⟩ = some (.pointer (some ⟨A, 0, none⟩)) := by rw [(HB1.out.1.keep (by have := HB1.out.2.2.2.2; omega) H50.out.gr).cell 0]; rfl
          clear hg hn hx hr
          obtain ⟨sv, hk, hv⟩ := H50.out.st
          have HK : Hid (Blk w30.heap.size sv.cells 62 w49 ∧ Blk (w.heap.size + 1) svZ.cells 62 w49 ∧ SVIs W1.heap.size sv { { (ofS 6 nm26) with sets := L39 } with wh := e45 } w49) := ⟨hk, HB1.out.2.1.keep (by have := HB1.out.2.2.2; omega) H50.out.gr, hv⟩
          clear hk hv
          go_wp2_with (first | (refine wpList_load_mid rfl 62 _ rfl _ 0 rfl sv.cells.toList _ HK.out.1.range Tryz.underlying62 rfl (s30 sv) ?_) | (refine wpList_store_mid rfl 62 _ _ rfl _ 0 sv.cells rfl rfl (HK.out.2.1.there rfl) (s30 _) (HK.out.2.2.rowsOk).one ?_))
          refine bodyPost_ret (v := .agg sv.cells) (results_c Tryz.results89 _ _ _ rfl (load30 HK.out.2.1.stored)) rfl ?_
          refine ⟨grown_sets _ 0 (HB1.out.2.2.1.trans H50.out.gr) (by omega), .inl ⟨_, _, sv, E48.out, rfl, ?_, RdIs.setsN _ 0 H50.out.rd (by have := HB1.out.2.2.2; omega)⟩⟩
          exact (HK.out.2.2.st (by have := HB1.out.2.2.2; omega) (fr_sets _ 0 HK.out.2.1)).low (by have := HB1.out.2.2.2; omega)
        · have HG : Hid (w.grownBy w43 (some A) ∧ R = none) := ⟨HB1.out.2.2.1.trans (H40.out.gr.trans hg), by rw [E41.out, hn]; rfl⟩
          clear hg hn
          go_wp2
          exact ⟨by first | rfl | trivial, HG.out.1, .inr ⟨HG.out.2, n1, m1, rfl⟩⟩
      · have HG : Hid (w.grownBy w37 (some A) ∧ R = none) := ⟨HB1.out.2.2.1.trans hg, by have hn : listF setF l34 = _ := hn; rw [E36.out, hn]; rfl⟩
        clear hg hn
        go_wp2
        exact ⟨by first | rfl | trivial, HG.out.1, .inr ⟨HG.out.2, n1, m1, rfl⟩⟩
    · have HG : Hid (w.grownBy w33 (some A) ∧ R = none) := ⟨HB1.out.2.2.1.trans (H32.out.gr.trans hg), by rw [E29.out, hn]; rfl⟩
      clear hg hn
      go_wp2
      exact ⟨by first | rfl | trivial, HG.out.1, .inr ⟨HG.out.2, n1, m1, rfl⟩⟩
  · have HG : Hid (w.grownBy w24 (some A) ∧ R = none) := ⟨HB1.out.2.2.1.trans (HW.out.2.trans hg), by rw [E0.out]; unfold updateF; rw [hn]; rfl⟩
    clear hg hn
    go_wp2
    exact ⟨by first | rfl | trivial, HG.out.1, .inr ⟨HG.out.2, n1, m1, rfl⟩⟩
end Go.Proofs.YtmabfbffpedfnaaGreatDoor
