/- Part 2 of 30. -/
import Derived.Test.YtmabfbffpedfnaaGreatDoorK01
import Derived.Lib.Bytealg
namespace Go.Proofs.YtmabfbffpedfnaaGreatDoor
open Go.RowKit

theorem keep_cell {A : Nat} {w w' : World} (hg : w.grownBy w' (some A)) {b o : Nat} {v : Value} (hb : b < w.heap.size) (hA : b ≠ A) (h : w.cell? ⟨b, o, none⟩ = some v) : w'.cell? ⟨b, o, none⟩ = some v := by
  rw [World.cell?_of_block (w := w) (a := ⟨b, o, none⟩) (hg.block b hb (fun e => by cases e; exact hA rfl))]; exact h
/-- the boxes of the reader and of how deep it stands -/
structure BoxAt (A x y n : Nat) (w : World) : Prop where
  cx : w.cell? ⟨x, 0, none⟩ = some (.pointer (some ⟨A, 0, none⟩))
  cy : w.cell? ⟨y, 0, none⟩ = some (.int .i64 (n : Int))
  lx : x < w.heap.size
  ly : y < w.heap.size
  nx : x ≠ A
  ny : y ≠ A
theorem BoxAt.grown {A x y n : Nat} {w w' : World} (h : BoxAt A x y n w) (hg : w.grownBy w' (some A)) : BoxAt A x y n w' :=
  ⟨keep_cell hg h.lx h.nx h.cx, keep_cell hg h.ly h.ny h.cy, Nat.lt_of_lt_of_le h.lx hg.size, Nat.lt_of_lt_of_le h.ly hg.size, h.nx, h.ny⟩
theorem box_new {A : Nat} {w : World} (n : Nat) (hA : A < w.heap.size) : BoxAt A w.heap.size (w.heap.size + 1) n ((w.alloc (.cells #[.pointer (some ⟨A, 0, none⟩)] 117)).alloc (.cells #[.int .i64 (n : Int)] 3)) := by
  have h1 : (w.alloc (.cells #[.pointer (some ⟨A, 0, none⟩)] 117)).cell? ⟨w.heap.size, 0, none⟩ = some (.pointer (some ⟨A, 0, none⟩)) := by simp [go_sem]
  have hb : Below (w.alloc (.cells #[.pointer (some ⟨A, 0, none⟩)] 117)).heap.size (w.alloc (.cells #[.pointer (some ⟨A, 0, none⟩)] 117)) ((w.alloc (.cells #[.pointer (some ⟨A, 0, none⟩)] 117)).alloc (.cells #[.int .i64 (n : Int)] 3)) := (Below.refl _ _).alloc (Nat.le_refl _) _
  have h2 : ((w.alloc (.cells #[.pointer (some ⟨A, 0, none⟩)] 117)).alloc (.cells #[.int .i64 (n : Int)] 3)).cell? ⟨(w.alloc (.cells #[.pointer (some ⟨A, 0, none⟩)] 117)).heap.size, 0, none⟩ = some (.int .i64 (n : Int)) := by simp [go_sem]
  have e : (w.alloc (.cells #[.pointer (some ⟨A, 0, none⟩)] 117)).heap.size = w.heap.size + 1 := by simp
  rw [e] at h2
  exact ⟨(hb.cell (p := ⟨w.heap.size, 0, none⟩) (by simp)).trans h1, h2, by simp; omega, by simp, by omega, by omega⟩
theorem chain_stop {F : Rf Ex} {sg : List (ByteArray × Int)} {l : List KT} (h : sg.find? (fun s => isT s.1 l) = none) (f : Nat) (e : Ex) : chainL F sg f e l = some (e, l) := by
  cases f with
  | zero => rfl
  | succ f => rw [chainL, h]
theorem chain_step {F : Rf Ex} (hF : Reads F) {sg : List (ByteArray × Int)} {l : List KT} (hl : OkT l) {s : ByteArray × Int} (h : sg.find? (fun s => isT s.1 l) = some s) (e : Ex) : chainL F sg l.length e l = (F l.tail).bind fun x => chainL F sg x.2.length (.two s.2 e x.1) x.2 := by
  have h1 : l.length = l.tail.length + 1 := by rw [hl.cons]; rfl
  rw [h1, chainL, h]
  cases hb : F l.tail with
  | none => rfl
  | some y =>
    have h3 := hF _ (hl.seen (find_is h)) y hb
    exact chainL_fuel hF sg _ _ _ _ h3.1 h3.2 (Nat.le_refl _)
/-- the state at the head of a chain's loop -/
def ChSt (A q0 : Nat) (F : Rf Ex) (sg : List (ByteArray × Int)) (w0 : World) (R : Option (Ex × List KT)) (c : Int) (p : Option Addr) (e : Ex) (l : List KT) (w : World) : Prop :=
  (c = 0 ∧ R = some (e, l) ∨ c ≠ 0 ∧ R = (F l).bind fun x => chainL F sg x.2.length (.two c e x.1) x.2) ∧ ExIs q0 w p e ∧ RdIs A l w ∧ w0.grownBy w (some A)
theorem ch_of {A q0 : Nat} {F : Rf Ex} (hF : Reads F) {sg : List (ByteArray × Int)} {w0 w w' : World} {R : Option (Ex × List KT)} {p : Option Addr} {e : Ex} {l : List KT} {en : Ending} (hq : A ≤ q0) (hR : chainL F sg l.length e l = R) (hx : ExIs q0 w p e) (hl : OkT l) (h0 : w0.grownBy w (some A)) (hg : w.grownBy w' (some A))
    (h : (∃ s, sg.find? (fun s => isT s.1 l) = some s ∧ s.2 ≠ 0 ∧ en = .returned (.int .i64 s.2) ∧ RdIs A l.tail w') ∨ (sg.find? (fun s => isT s.1 l) = none ∧ en = .returned (.int .i64 0) ∧ RdIs A l w')) :
    ∃ (c : Int) (l' : List KT), en = .returned (.int .i64 c) ∧ ChSt A q0 F sg w0 R c p e l' w' ∧ 2 * l'.length + (if c = 0 then 0 else 1) ≤ 2 * l.length := by
  rcases h with ⟨s, h1, h2, h3, h4⟩ | ⟨h1, h3, h4⟩
  · have := hl.cons
    have hlen : l.length = l.tail.length + 1 := by rw [this]; rfl
    exact ⟨s.2, l.tail, h3, ⟨.inr ⟨h2, by rw [← hR]; exact chain_step hF hl h1 e⟩, ExIs.grownN hq hg hx, h4, h0.trans hg⟩, by rw [if_neg h2]; omega⟩
  · exact ⟨0, l, h3, ⟨.inl ⟨rfl, by rw [← hR]; exact chain_stop h1 _ e⟩, ExIs.grownN hq hg hx, h4, h0.trans hg⟩, by simp⟩
end Go.Proofs.YtmabfbffpedfnaaGreatDoor
namespace Go.Proofs.YtmabfbffpedfnaaGreatDoor
open Go.RowKit

set_option maxRecDepth 100000 in
set_option maxHeartbeats 8000000 in
theorem chain_e (A x y n : Nat) (F : Rf Ex) (hF : Reads F) (hB : ∀ l w, RdIs A l w → BoxAt A x y n w → Calls Tryz.prog 125 #[.pointer (some ⟨x, 0, none⟩), .pointer (some ⟨y, 0, none⟩)] w fun e w' => Told A (F l) w e w')
    {lv : Int} {sg : List (ByteArray × Int)} (hs : SgOf lv sg) (l : List KT) (w : World) (h : RdIs A l w) (hb : BoxAt A x y n w) :
    Calls Tryz.prog 124 #[.pointer (some ⟨A, 0, none⟩), .int .i64 lv, .func (.func 125) #[] #[.pointer (some ⟨x, 0, none⟩), .pointer (some ⟨y, 0, none⟩)]] w fun e w' => Told A (chainF F sg l) w e w' := by
  have HB : Hid (∀ l w, RdIs A l w → BoxAt A x y n w → Calls Tryz.prog 125 #[.pointer (some ⟨x, 0, none⟩), .pointer (some ⟨y, 0, none⟩)] w fun e w' => Told A (F l) w e w') := hB
  have HF : Hid (Reads F) := hF
  have HSg : Hid (SgOf lv sg) := hs
  have H : Hid (RdIs A l w ∧ BoxAt A x y n w) := ⟨h, hb⟩
  obtain ⟨q0, hq0⟩ : ∃ q0, w.heap.size - 1 = q0 := ⟨_, rfl⟩
  have HQ : Hid (A ≤ q0 ∧ q0 < w.heap.size) := by have := h.lt; exact ⟨by omega, by omega⟩
  obtain ⟨R, hR⟩ : ∃ R, chainF F sg l = R := ⟨_, rfl⟩
  have HR : Hid ((F l).bind (fun x => chainL F sg x.2.length x.1 x.2) = R) := hR
  unfold Told
  rw [hR, hq0]
  clear h hb hF hs hB hR
  have HQe : Hid (w.heap.size - 1 = q0) := hq0
  clear hq0
  go_enter Tryz.func124, Tryz.ntmps124
  go_wp2_with fail
  refine (HB.out l w H.out.1 H.out.2).mono ?_
  rintro en w1 ⟨hg1, hc⟩
  rw [HQe.out] at hc
  have HG1 : Hid (w.grownBy w1 (some A)) := hg1
  clear hg1
  rcases hc with ⟨e1, l1, p1, hF1, rfl, hx1, hr1⟩ | ⟨hF1, n1, m1, rfl⟩
  · have HR1 : Hid (chainL F sg l1.length e1 l1 = R) := by
      have := HR.out
      rw [hF1] at this
      exact this
    have HX1 : Hid (ExIs q0 w1 p1 e1 ∧ RdIs A l1 w1) := ⟨hx1, hr1⟩
    clear hF1 hx1 hr1 HR
    go_wp2_with fail
    refine (bet_any HSg.out A l1 w1 HX1.out.2).mono ?_
    rintro en w2 ⟨hg2, hc⟩
    obtain ⟨c, l2, rfl, hst, _⟩ := ch_of HF.out HQ.out.1 HR1.out HX1.out.1 HX1.out.2.ok HG1.out hg2 hc
    have HS : Hid (ChSt A q0 F sg w R c p1 e1 l2 w2) := hst
    clear hst hg2 hc HX1 HR1 HG1
    go_wp2
    go_loopw [7, 8] (fun v7 v8 wr => ∃ (c : Int) (p : Option Addr) (e' : Ex) (l' : List KT), v7 = .pointer p ∧ v8 = .int .i64 c ∧ Hid (ChSt A q0 F sg w R c p e' l' wr)) (fun _ v8 wr => 2 * lenCell (wr.cell? ⟨A, 0, none⟩) + (if intOf v8 = 0 then 0 else 1))
    case atStart => exact ⟨c, p1, e1, l2, rfl, rfl, HS⟩
    case round =>
      clear HS
      obtain ⟨c, p, e', l', rfl, rfl, HS⟩ := hrel
      obtain ⟨wo, rfl⟩ : ∃ wo, wo = wr := ⟨_, rfl⟩
      have HLen : Hid (lenCell (wo.cell? ⟨A, 0, none⟩) = l'.length) := HS.out.2.2.1.len
      rcases HS.out.1 with ⟨hc0, hRe⟩ | ⟨hc0, hRe⟩
      · subst hc0
        have HE : Hid (R = some (e', l')) := hRe
        clear hRe
        go_wp2
        go_ret
        exact ⟨HS.out.2.2.2, .inl ⟨e', l', p, HE.out, rfl, HS.out.2.1, HS.out.2.2.1⟩⟩
      · have d0 : (c != 0) = true := by simpa using hc0
        have HE : Hid (R = (F l').bind fun x => chainL F sg x.2.length (.two c e' x.1) x.2) := hRe
        have HC0 : Hid (c ≠ 0) := hc0
        clear hRe hc0
        go_wp2_with fail
        refine (HB.out l' wo HS.out.2.2.1 (H.out.2.grown HS.out.2.2.2)).mono ?_
        rintro en w3 ⟨hg3, hc⟩
        have HG3 : Hid (w.grownBy w3 (some A)) := HS.out.2.2.2.trans hg3
        have HX3 : Hid (ExIs q0 w3 p e') := ExIs.grownN HQ.out.1 hg3 HS.out.2.1
        rcases hc with ⟨e3, l3, p3, hF3, rfl, hx3, hr3⟩ | ⟨hF3, n3, m3, rfl⟩
        · have HL3 : Hid (l3.length ≤ l'.length) := (HF.out l' HS.out.2.2.1.ok _ hF3).2
          have HR3 : Hid (chainL F sg l3.length (.two c e' e3) l3 = R) := by
            show _ = _
            rw [HE.out, hF3]; rfl
          have HB3 : Hid _ := box_told (w0 := w) HQ.out.2 c .none ⟨#[]⟩ p p3 e' e3 hr3 HX3.out (hx3.mono (by have := HS.out.2.2.2.size; have := HQe.out; omega)) HG3.out
          clear hF3 hx3 hr3 hg3
          go_wp2_with fail
          refine (bet_any HSg.out A l3 _ HB3.out.2.2).mono ?_
          rintro en w4 ⟨hg4, hc⟩
          obtain ⟨c4, l4, rfl, hst, hme⟩ := ch_of HF.out HQ.out.1 HR3.out HB3.out.2.1 HB3.out.2.2.ok HB3.out.1 hg4 hc
          have HS4 : Hid (ChSt A q0 F sg w R c4 (some ⟨w3.heap.size, 0, none⟩) (.two c e' e3) l4 w4) := hst
          have HM : Hid (2 * lenCell (w4.cell? ⟨A, 0, none⟩) + (if c4 = 0 then 0 else 1) < 2 * lenCell (wo.cell? ⟨A, 0, none⟩) + (if c = 0 then 0 else 1)) := by
            show _ < _
            rw [hst.2.2.1.len, HLen.out, if_neg HC0.out]
            have := HL3.out
            omega
          clear hst hg4 hc hme
          go_wp2
          go_roundw
          case rel => exact ⟨c4, _, _, l4, rfl, rfl, HS4⟩
          case measure => exact HM.out
        · clear hg3
          go_wp2
          exact ⟨by first | rfl | trivial, HG3.out, .inr ⟨by rw [HE.out, hF3]; rfl, n3, m3, rfl⟩⟩
  · go_wp2
    exact ⟨by first | rfl | trivial, HG1.out, .inr ⟨by rw [← HR.out, hF1]; rfl, n1, m1, rfl⟩⟩
end Go.Proofs.YtmabfbffpedfnaaGreatDoor
namespace Go.Proofs.YtmabfbffpedfnaaGreatDoor
open Go.RowKit

set_option maxRecDepth 100000 in
set_option maxHeartbeats 8000000 in
theorem chain_b (A x y n : Nat) (F : Rf Ex) (hF : Reads F) (hB : ∀ l w, RdIs A l w → BoxAt A x y n w → Calls Tryz.prog 137 #[.pointer (some ⟨x, 0, none⟩), .pointer (some ⟨y, 0, none⟩)] w fun e w' => Told A (F l) w e w')
    {lv : Int} {sg : List (ByteArray × Int)} (hs : SgOf lv sg) (l : List KT) (w : World) (h : RdIs A l w) (hb : BoxAt A x y n w) :
    Calls Tryz.prog 124 #[.pointer (some ⟨A, 0, none⟩), .int .i64 lv, .func (.func 137) #[] #[.pointer (some ⟨x, 0, none⟩), .pointer (some ⟨y, 0, none⟩)]] w fun e w' => Told A (chainF F sg l) w e w' := by
  have HB : Hid (∀ l w, RdIs A l w → BoxAt A x y n w → Calls Tryz.prog 137 #[.pointer (some ⟨x, 0, none⟩), .pointer (some ⟨y, 0, none⟩)] w fun e w' => Told A (F l) w e w') := hB
  have HF : Hid (Reads F) := hF
  have HSg : Hid (SgOf lv sg) := hs
  have H : Hid (RdIs A l w ∧ BoxAt A x y n w) := ⟨h, hb⟩
  obtain ⟨q0, hq0⟩ : ∃ q0, w.heap.size - 1 = q0 := ⟨_, rfl⟩
  have HQ : Hid (A ≤ q0 ∧ q0 < w.heap.size) := by have := h.lt; exact ⟨by omega, by omega⟩
  obtain ⟨R, hR⟩ : ∃ R, chainF F sg l = R := ⟨_, rfl⟩
  have HR : Hid ((F l).bind (fun x => chainL F sg x.2.length x.1 x.2) = R) := hR
  unfold Told
  rw [hR, hq0]
  clear h hb hF hs hB hR
  have HQe : Hid (w.heap.size - 1 = q0) := hq0
  clear hq0
  go_enter Tryz.func124, Tryz.ntmps124
  go_wp2_with fail
  refine (HB.out l w H.out.1 H.out.2).mono ?_
  rintro en w1 ⟨hg1, hc⟩
  rw [HQe.out] at hc
  have HG1 : Hid (w.grownBy w1 (some A)) := hg1
  clear hg1
  rcases hc with ⟨e1, l1, p1, hF1, rfl, hx1, hr1⟩ | ⟨hF1, n1, m1, rfl⟩
  · have HR1 : Hid (chainL F sg l1.length e1 l1 = R) := by
      have := HR.out
      rw [hF1] at this
      exact this
    have HX1 : Hid (ExIs q0 w1 p1 e1 ∧ RdIs A l1 w1) := ⟨hx1, hr1⟩
    clear hF1 hx1 hr1 HR
    go_wp2_with fail
    refine (bet_any HSg.out A l1 w1 HX1.out.2).mono ?_
    rintro en w2 ⟨hg2, hc⟩
    obtain ⟨c, l2, rfl, hst, _⟩ := ch_of HF.out HQ.out.1 HR1.out HX1.out.1 HX1.out.2.ok HG1.out hg2 hc
    have HS : Hid (ChSt A q0 F sg w R c p1 e1 l2 w2) := hst
    clear hst hg2 hc HX1 HR1 HG1
    go_wp2
    go_loopw [7, 8] (fun v7 v8 wr => ∃ (c : Int) (p : Option Addr) (e' : Ex) (l' : List KT), v7 = .pointer p ∧ v8 = .int .i64 c ∧ Hid (ChSt A q0 F sg w R c p e' l' wr)) (fun _ v8 wr => 2 * lenCell (wr.cell? ⟨A, 0, none⟩) + (if intOf v8 = 0 then 0 else 1))
    case atStart => exact ⟨c, p1, e1, l2, rfl, rfl, HS⟩
    case round =>
      clear HS
      obtain ⟨c, p, e', l', rfl, rfl, HS⟩ := hrel
      obtain ⟨wo, rfl⟩ : ∃ wo, wo = wr := ⟨_, rfl⟩
      have HLen : Hid (lenCell (wo.cell? ⟨A, 0, none⟩) = l'.length) := HS.out.2.2.1.len
      rcases HS.out.1 with ⟨hc0, hRe⟩ | ⟨hc0, hRe⟩
      · subst hc0
        have HE : Hid (R = some (e', l')) := hRe
        clear hRe
        go_wp2
        go_ret
        exact ⟨HS.out.2.2.2, .inl ⟨e', l', p, HE.out, rfl, HS.out.2.1, HS.out.2.2.1⟩⟩
      · have d0 : (c != 0) = true := by simpa using hc0
        have HE : Hid (R = (F l').bind fun x => chainL F sg x.2.length (.two c e' x.1) x.2) := hRe
        have HC0 : Hid (c ≠ 0) := hc0
        clear hRe hc0
        go_wp2_with fail
        refine (HB.out l' wo HS.out.2.2.1 (H.out.2.grown HS.out.2.2.2)).mono ?_
        rintro en w3 ⟨hg3, hc⟩
        have HG3 : Hid (w.grownBy w3 (some A)) := HS.out.2.2.2.trans hg3
        have HX3 : Hid (ExIs q0 w3 p e') := ExIs.grownN HQ.out.1 hg3 HS.out.2.1
        rcases hc with ⟨e3, l3, p3, hF3, rfl, hx3, hr3⟩ | ⟨hF3, n3, m3, rfl⟩
        · have HL3 : Hid (l3.length ≤ l'.length) := (HF.out l' HS.out.2.2.1.ok _ hF3).2
          have HR3 : Hid (chainL F sg l3.length (.two c e' e3) l3 = R) := by
            show _ = _
            rw [HE.out, hF3]; rfl
          have HB3 : Hid _ := box_told (w0 := w) HQ.out.2 c .none ⟨#[]⟩ p p3 e' e3 hr3 HX3.out (hx3.mono (by have := HS.out.2.2.2.size; have := HQe.out; omega)) HG3.out
          clear hF3 hx3 hr3 hg3
          go_wp2_with fail
          refine (bet_any HSg.out A l3 _ HB3.out.2.2).mono ?_
          rintro en w4 ⟨hg4, hc⟩
          obtain ⟨c4, l4, rfl, hst, hme⟩ := ch_of HF.out HQ.out.1 HR3.out HB3.out.2.1 HB3.out.2.2.ok HB3.out.1 hg4 hc
          have HS4 : Hid (ChSt A q0 F sg w R c4 (some ⟨w3.heap.size, 0, none⟩) (.two c e' e3) l4 w4) := hst
          have HM : Hid (2 * lenCell (w4.cell? ⟨A, 0, none⟩) + (if c4 = 0 then 0 else 1) < 2 * lenCell (wo.cell? ⟨A, 0, none⟩) + (if c = 0 then 0 else 1)) := by
            show _ < _
            rw [hst.2.2.1.len, HLen.out, if_neg HC0.out]
            have := HL3.out
            omega
          clear hst hg4 hc hme
          go_wp2
          go_roundw
          case rel => exact ⟨c4, _, _, l4, rfl, rfl, HS4⟩
          case measure => exact HM.out
        · clear hg3
          go_wp2
          exact ⟨by first | rfl | trivial, HG3.out, .inr ⟨by rw [HE.out, hF3]; rfl, n3, m3, rfl⟩⟩
  · go_wp2
    exact ⟨by first | rfl | trivial, HG1.out, .inr ⟨by rw [← HR.out, hF1]; rfl, n1, m1, rfl⟩⟩
end Go.Proofs.YtmabfbffpedfnaaGreatDoor
namespace Go.Proofs.YtmabfbffpedfnaaGreatDoor
open Go.RowKit

set_option maxRecDepth 100000 in
set_option maxHeartbeats 8000000 in
theorem chain_s (A x y n : Nat) (F : Rf Ex) (hF : Reads F) (hB : ∀ l w, RdIs A l w → BoxAt A x y n w → Calls Tryz.prog 159 #[.pointer (some ⟨x, 0, none⟩), .pointer (some ⟨y, 0, none⟩)] w fun e w' => Told A (F l) w e w')
    {lv : Int} {sg : List (ByteArray × Int)} (hs : SgOf lv sg) (l : List KT) (w : World) (h : RdIs A l w) (hb : BoxAt A x y n w) :
    Calls Tryz.prog 124 #[.pointer (some ⟨A, 0, none⟩), .int .i64 lv, .func (.func 159) #[] #[.pointer (some ⟨x, 0, none⟩), .pointer (some ⟨y, 0, none⟩)]] w fun e w' => Told A (chainF F sg l) w e w' := by
  have HB : Hid (∀ l w, RdIs A l w → BoxAt A x y n w → Calls Tryz.prog 159 #[.pointer (some ⟨x, 0, none⟩), .pointer (some ⟨y, 0, none⟩)] w fun e w' => Told A (F l) w e w') := hB
  have HF : Hid (Reads F) := hF
  have HSg : Hid (SgOf lv sg) := hs
  have H : Hid (RdIs A l w ∧ BoxAt A x y n w) := ⟨h, hb⟩
  obtain ⟨q0, hq0⟩ : ∃ q0, w.heap.size - 1 = q0 := ⟨_, rfl⟩
  have HQ : Hid (A ≤ q0 ∧ q0 < w.heap.size) := by have := h.lt; exact ⟨by omega, by omega⟩
  obtain ⟨R, hR⟩ : ∃ R, chainF F sg l = R := ⟨_, rfl⟩
  have HR : Hid ((F l).bind (fun x => chainL F sg x.2.length x.1 x.2) = R) := hR
  unfold Told
  rw [hR, hq0]
  clear h hb hF hs hB hR
  have HQe : Hid (w.heap.size - 1 = q0) := hq0
  clear hq0
  go_enter Tryz.func124, Tryz.ntmps124
  go_wp2_with fail
  refine (HB.out l w H.out.1 H.out.2).mono ?_
  rintro en w1 ⟨hg1, hc⟩
  rw [HQe.out] at hc
  have HG1 : Hid (w.grownBy w1 (some A)) := hg1
  clear hg1
  rcases hc with ⟨e1, l1, p1, hF1, rfl, hx1, hr1⟩ | ⟨hF1, n1, m1, rfl⟩
  · have HR1 : Hid (chainL F sg l1.length e1 l1 = R) := by
      have := HR.out
      rw [hF1] at this
      exact this
    have HX1 : Hid (ExIs q0 w1 p1 e1 ∧ RdIs A l1 w1) := ⟨hx1, hr1⟩
    clear hF1 hx1 hr1 HR
    go_wp2_with fail
    refine (bet_any HSg.out A l1 w1 HX1.out.2).mono ?_
    rintro en w2 ⟨hg2, hc⟩
    obtain ⟨c, l2, rfl, hst, _⟩ := ch_of HF.out HQ.out.1 HR1.out HX1.out.1 HX1.out.2.ok HG1.out hg2 hc
    have HS : Hid (ChSt A q0 F sg w R c p1 e1 l2 w2) := hst
    clear hst hg2 hc HX1 HR1 HG1
    go_wp2
    go_loopw [7, 8] (fun v7 v8 wr => ∃ (c : Int) (p : Option Addr) (e' : Ex) (l' : List KT), v7 = .pointer p ∧ v8 = .int .i64 c ∧ Hid (ChSt A q0 F sg w R c p e' l' wr)) (fun _ v8 wr => 2 * lenCell (wr.cell? ⟨A, 0, none⟩) + (if intOf v8 = 0 then 0 else 1))
    case atStart => exact ⟨c, p1, e1, l2, rfl, rfl, HS⟩
    case round =>
      clear HS
      obtain ⟨c, p, e', l', rfl, rfl, HS⟩ := hrel
      obtain ⟨wo, rfl⟩ : ∃ wo, wo = wr := ⟨_, rfl⟩
      have HLen : Hid (lenCell (wo.cell? ⟨A, 0, none⟩) = l'.length) := HS.out.2.2.1.len
      rcases HS.out.1 with ⟨hc0, hRe⟩ | ⟨hc0, hRe⟩
      · subst hc0
        have HE : Hid (R = some (e', l')) := hRe
        clear hRe
        go_wp2
        go_ret
        exact ⟨HS.out.2.2.2, .inl ⟨e', l', p, HE.out, rfl, HS.out.2.1, HS.out.2.2.1⟩⟩
      · have d0 : (c != 0) = true := by simpa using hc0
        have HE : Hid (R = (F l').bind fun x => chainL F sg x.2.length (.two c e' x.1) x.2) := hRe
        have HC0 : Hid (c ≠ 0) := hc0
        clear hRe hc0
        go_wp2_with fail
        refine (HB.out l' wo HS.out.2.2.1 (H.out.2.grown HS.out.2.2.2)).mono ?_
        rintro en w3 ⟨hg3, hc⟩
        have HG3 : Hid (w.grownBy w3 (some A)) := HS.out.2.2.2.trans hg3
        have HX3 : Hid (ExIs q0 w3 p e') := ExIs.grownN HQ.out.1 hg3 HS.out.2.1
        rcases hc with ⟨e3, l3, p3, hF3, rfl, hx3, hr3⟩ | ⟨hF3, n3, m3, rfl⟩
        · have HL3 : Hid (l3.length ≤ l'.length) := (HF.out l' HS.out.2.2.1.ok _ hF3).2
          have HR3 : Hid (chainL F sg l3.length (.two c e' e3) l3 = R) := by
            show _ = _
            rw [HE.out, hF3]; rfl
          have HB3 : Hid _ := box_told (w0 := w) HQ.out.2 c .none ⟨#[]⟩ p p3 e' e3 hr3 HX3.out (hx3.mono (by have := HS.out.2.2.2.size; have := HQe.out; omega)) HG3.out
          clear hF3 hx3 hr3 hg3
          go_wp2_with fail
          refine (bet_any HSg.out A l3 _ HB3.out.2.2).mono ?_
          rintro en w4 ⟨hg4, hc⟩
          obtain ⟨c4, l4, rfl, hst, hme⟩ := ch_of HF.out HQ.out.1 HR3.out HB3.out.2.1 HB3.out.2.2.ok HB3.out.1 hg4 hc
          have HS4 : Hid (ChSt A q0 F sg w R c4 (some ⟨w3.heap.size, 0, none⟩) (.two c e' e3) l4 w4) := hst
          have HM : Hid (2 * lenCell (w4.cell? ⟨A, 0, none⟩) + (if c4 = 0 then 0 else 1) < 2 * lenCell (wo.cell? ⟨A, 0, none⟩) + (if c = 0 then 0 else 1)) := by
            show _ < _
            rw [hst.2.2.1.len, HLen.out, if_neg HC0.out]
            have := HL3.out
            omega
          clear hst hg4 hc hme
          go_wp2
          go_roundw
          case rel => exact ⟨c4, _, _, l4, rfl, rfl, HS4⟩
          case measure => exact HM.out
        · clear hg3
          go_wp2
          exact ⟨by first | rfl | trivial, HG3.out, .inr ⟨by rw [HE.out, hF3]; rfl, n3, m3, rfl⟩⟩
  · go_wp2
    exact ⟨by first | rfl | trivial, HG1.out, .inr ⟨by rw [← HR.out, hF1]; rfl, n1, m1, rfl⟩⟩
end Go.Proofs.YtmabfbffpedfnaaGreatDoor
namespace Go.Proofs.YtmabfbffpedfnaaGreatDoor
open Go.RowKit

set_option maxRecDepth 100000 in
set_option maxHeartbeats 8000000 in
theorem chain_p (A x y n : Nat) (F : Rf Ex) (hF : Reads F) (hB : ∀ l w, RdIs A l w → BoxAt A x y n w → Calls Tryz.prog 165 #[.pointer (some ⟨x, 0, none⟩), .pointer (some ⟨y, 0, none⟩)] w fun e w' => Told A (F l) w e w')
    {lv : Int} {sg : List (ByteArray × Int)} (hs : SgOf lv sg) (l : List KT) (w : World) (h : RdIs A l w) (hb : BoxAt A x y n w) :
    Calls Tryz.prog 124 #[.pointer (some ⟨A, 0, none⟩), .int .i64 lv, .func (.func 165) #[] #[.pointer (some ⟨x, 0, none⟩), .pointer (some ⟨y, 0, none⟩)]] w fun e w' => Told A (chainF F sg l) w e w' := by
  have HB : Hid (∀ l w, RdIs A l w → BoxAt A x y n w → Calls Tryz.prog 165 #[.pointer (some ⟨x, 0, none⟩), .pointer (some ⟨y, 0, none⟩)] w fun e w' => Told A (F l) w e w') := hB
  have HF : Hid (Reads F) := hF
  have HSg : Hid (SgOf lv sg) := hs
  have H : Hid (RdIs A l w ∧ BoxAt A x y n w) := ⟨h, hb⟩
  obtain ⟨q0, hq0⟩ : ∃ q0, w.heap.size - 1 = q0 := ⟨_, rfl⟩
  have HQ : Hid (A ≤ q0 ∧ q0 < w.heap.size) := by have := h.lt; exact ⟨by omega, by omega⟩
  obtain ⟨R, hR⟩ : ∃ R, chainF F sg l = R := ⟨_, rfl⟩
  have HR : Hid ((F l).bind (fun x => chainL F sg x.2.length x.1 x.2) = R) := hR
  unfold Told
  rw [hR, hq0]
  clear h hb hF hs hB hR
  have HQe : Hid (w.heap.size - 1 = q0) := hq0
  clear hq0
  go_enter Tryz.func124, Tryz.ntmps124
  go_wp2_with fail
  refine (HB.out l w H.out.1 H.out.2).mono ?_
  rintro en w1 ⟨hg1, hc⟩
  rw [HQe.out] at hc
  have HG1 : Hid (w.grownBy w1 (some A)) := hg1
  clear hg1
  rcases hc with ⟨e1, l1, p1, hF1, rfl, hx1, hr1⟩ | ⟨hF1, n1, m1, rfl⟩
  · have HR1 : Hid (chainL F sg l1.length e1 l1 = R) := by
      have := HR.out
      rw [hF1] at this
      exact this
    have HX1 : Hid (ExIs q0 w1 p1 e1 ∧ RdIs A l1 w1) := ⟨hx1, hr1⟩
    clear hF1 hx1 hr1 HR
    go_wp2_with fail
    refine (bet_any HSg.out A l1 w1 HX1.out.2).mono ?_
    rintro en w2 ⟨hg2, hc⟩
    obtain ⟨c, l2, rfl, hst, _⟩ := ch_of HF.out HQ.out.1 HR1.out HX1.out.1 HX1.out.2.ok HG1.out hg2 hc
    have HS : Hid (ChSt A q0 F sg w R c p1 e1 l2 w2) := hst
    clear hst hg2 hc HX1 HR1 HG1
    go_wp2
    go_loopw [7, 8] (fun v7 v8 wr => ∃ (c : Int) (p : Option Addr) (e' : Ex) (l' : List KT), v7 = .pointer p ∧ v8 = .int .i64 c ∧ Hid (ChSt A q0 F sg w R c p e' l' wr)) (fun _ v8 wr => 2 * lenCell (wr.cell? ⟨A, 0, none⟩) + (if intOf v8 = 0 then 0 else 1))
    case atStart => exact ⟨c, p1, e1, l2, rfl, rfl, HS⟩
    case round =>
      clear HS
      obtain ⟨c, p, e', l', rfl, rfl, HS⟩ := hrel
      obtain ⟨wo, rfl⟩ : ∃ wo, wo = wr := ⟨_, rfl⟩
      have HLen : Hid (lenCell (wo.cell? ⟨A, 0, none⟩) = l'.length) := HS.out.2.2.1.len
      rcases HS.out.1 with ⟨hc0, hRe⟩ | ⟨hc0, hRe⟩
      · subst hc0
        have HE : Hid (R = some (e', l')) := hRe
        clear hRe
        go_wp2
        go_ret
        exact ⟨HS.out.2.2.2, .inl ⟨e', l', p, HE.out, rfl, HS.out.2.1, HS.out.2.2.1⟩⟩
      · have d0 : (c != 0) = true := by simpa using hc0
        have HE : Hid (R = (F l').bind fun x => chainL F sg x.2.length (.two c e' x.1) x.2) := hRe
        have HC0 : Hid (c ≠ 0) := hc0
        clear hRe hc0
        go_wp2_with fail
        refine (HB.out l' wo HS.out.2.2.1 (H.out.2.grown HS.out.2.2.2)).mono ?_
        rintro en w3 ⟨hg3, hc⟩
        have HG3 : Hid (w.grownBy w3 (some A)) := HS.out.2.2.2.trans hg3
        have HX3 : Hid (ExIs q0 w3 p e') := ExIs.grownN HQ.out.1 hg3 HS.out.2.1
        rcases hc with ⟨e3, l3, p3, hF3, rfl, hx3, hr3⟩ | ⟨hF3, n3, m3, rfl⟩
        · have HL3 : Hid (l3.length ≤ l'.length) := (HF.out l' HS.out.2.2.1.ok _ hF3).2
          have HR3 : Hid (chainL F sg l3.length (.two c e' e3) l3 = R) := by
            show _ = _
            rw [HE.out, hF3]; rfl
          have HB3 : Hid _ := box_told (w0 := w) HQ.out.2 c .none ⟨#[]⟩ p p3 e' e3 hr3 HX3.out (hx3.mono (by have := HS.out.2.2.2.size; have := HQe.out; omega)) HG3.out
          clear hF3 hx3 hr3 hg3
          go_wp2_with fail
          refine (bet_any HSg.out A l3 _ HB3.out.2.2).mono ?_
          rintro en w4 ⟨hg4, hc⟩
          obtain ⟨c4, l4, rfl, hst, hme⟩ := ch_of HF.out HQ.out.1 HR3.out HB3.out.2.1 HB3.out.2.2.ok HB3.out.1 hg4 hc
          have HS4 : Hid (ChSt A q0 F sg w R c4 (some ⟨w3.heap.size, 0, none⟩) (.two c e' e3) l4 w4) := hst
          have HM : Hid (2 * lenCell (w4.cell? ⟨A, 0, none⟩) + (if c4 = 0 then 0 else 1) < 2 * lenCell (wo.cell? ⟨A, 0, none⟩) + (if c = 0 then 0 else 1)) := by
            show _ < _
            rw [hst.2.2.1.len, HLen.out, if_neg HC0.out]
            have := HL3.out
            omega
          clear hst hg4 hc hme
          go_wp2
          go_roundw
          case rel => exact ⟨c4, _, _, l4, rfl, rfl, HS4⟩
          case measure => exact HM.out
        · clear hg3
          go_wp2
          exact ⟨by first | rfl | trivial, HG3.out, .inr ⟨by rw [HE.out, hF3]; rfl, n3, m3, rfl⟩⟩
  · go_wp2
    exact ⟨by first | rfl | trivial, HG1.out, .inr ⟨by rw [← HR.out, hF1]; rfl, n1, m1, rfl⟩⟩
end Go.Proofs.YtmabfbffpedfnaaGreatDoor
namespace Go.Proofs.YtmabfbffpedfnaaGreatDoor
open Go.RowKit

def ESpec (F : Rf Ex) (n : Nat) : Prop := ∀ A l w, RdIs A l w → Calls Tryz.prog 109 #[.pointer (some ⟨A, 0, none⟩), .int .i64 (n : Int)] w fun e w' => Told A (F l) w e w'
def BSpec (F : Rf Ex) (n : Nat) : Prop := ∀ A l w, RdIs A l w → Calls Tryz.prog 126 #[.pointer (some ⟨A, 0, none⟩), .int .i64 (n : Int)] w fun e w' => Told A (F l) w e w'
def SSpec (F : Rf Ex) (n : Nat) : Prop := ∀ A l w, RdIs A l w → Calls Tryz.prog 153 #[.pointer (some ⟨A, 0, none⟩), .int .i64 (n : Int)] w fun e w' => Told A (F l) w e w'
def PSpec (F : Rf Ex) (n : Nat) : Prop := ∀ A l w, RdIs A l w → Calls Tryz.prog 160 #[.pointer (some ⟨A, 0, none⟩), .int .i64 (n : Int)] w fun e w' => Told A (F l) w e w'
def NSpec (F : Rf Ex) (n : Nat) : Prop := ∀ A l w, RdIs A l w → Calls Tryz.prog 138 #[.pointer (some ⟨A, 0, none⟩), .int .i64 (n : Int)] w fun e w' => Told A (F l) w e w'
def ASpec (F : Rf Ex) (n : Nat) : Prop := ∀ A l w, RdIs A l w → Calls Tryz.prog 146 #[.pointer (some ⟨A, 0, none⟩), .int .i64 (n : Int)] w fun e w' => Told A (F l) w e w'
def MSpec (F : Rf Ex) (n : Nat) : Prop := ∀ A l w, RdIs A l w → Calls Tryz.prog 166 #[.pointer (some ⟨A, 0, none⟩), .int .i64 (n : Int)] w fun e w' => Told A (F l) w e w'
def OSpec (F : Rf Ex) (n : Nat) : Prop := ∀ A l w, RdIs A l w → Calls Tryz.prog 168 #[.pointer (some ⟨A, 0, none⟩), .int .i64 (n : Int)] w fun e w' => Told A (F l) w e w'
theorem cl_p {F : Rf Ex} {n : Nat} (hF : MSpec F n) (A x y : Nat) (l : List KT) (w : World) (h : RdIs A l w) (hb : BoxAt A x y n w) : Calls Tryz.prog 165 #[.pointer (some ⟨x, 0, none⟩), .pointer (some ⟨y, 0, none⟩)] w fun e w' => Told A (F l) w e w' := by
  have HF : Hid (MSpec F n) := hF
  have H : Hid (RdIs A l w) := h
  have h1 := hb.cx
  have h2 := hb.cy
  clear hF h hb
  go_enter Tryz.func165, Tryz.ntmps165
  go_wp2_with fail
  refine (HF.out A l w H.out).mono ?_
  rintro _ w1 ⟨hg, ⟨x, l1, p, h1, rfl, h3, h4⟩ | ⟨h1, n1, m1, rfl⟩⟩
  · go_wp2
    go_ret
    exact ⟨hg, .inl ⟨x, l1, p, h1, rfl, h3, h4⟩⟩
  · go_wp2
    exact ⟨by first | rfl | trivial, hg, .inr ⟨h1, n1, m1, rfl⟩⟩
set_option maxHeartbeats 2000000 in
theorem prod_of {F : Rf Ex} {n : Nat} (hF : MSpec F n) (hFr : Reads F) : PSpec (chainF F mulS) n := by
  intro A l w h
  have HF : Hid (MSpec F n ∧ Reads F) := ⟨hF, hFr⟩
  obtain ⟨V, hV⟩ : ∃ V, (w.alloc (.cells #[.pointer (some ⟨A, 0, none⟩)] 117)).alloc (.cells #[.int .i64 (n : Int)] 3) = V := ⟨_, rfl⟩
  have hVb : Below w.heap.size w V := by rw [← hV]; exact ((Below.refl _ _).alloc (Nat.le_refl _) _).alloc (by simp) _
  have hbx : BoxAt A w.heap.size (w.heap.size + 1) n V := by rw [← hV]; exact box_new n h.lt
  have H : Hid (RdIs A l V ∧ BoxAt A w.heap.size (w.heap.size + 1) n V ∧ w.grownBy V (some A)) := ⟨h.below hVb, hbx, grown_of_belowA hVb _⟩
  have h1 := hbx.cx
  have h2 := hbx.cy
  clear hF hFr h hbx hVb
  go_enter Tryz.func160, Tryz.ntmps160
  go_wp2_with fail
  refine (chain_p A w.heap.size (w.heap.size + 1) n F HF.out.2 (fun l w h hb => cl_p HF.out.1 A _ _ l w h hb) sg_mul l V H.out.1 H.out.2.1).mono ?_
  rintro _ w1 ht
  have HT := Told.from ht H.out.2.2
  clear ht
  rcases HT with ⟨hg, ⟨x, l1, p, h1, rfl, h3, h4⟩ | ⟨h1, n1, m1, rfl⟩⟩
  · go_wp2
    go_ret
    exact ⟨hg, .inl ⟨x, l1, p, h1, rfl, h3, h4⟩⟩
  · go_wp2
    exact ⟨by first | rfl | trivial, hg, .inr ⟨h1, n1, m1, rfl⟩⟩
theorem cl_s {F : Rf Ex} {n : Nat} (hF : PSpec F n) (A x y : Nat) (l : List KT) (w : World) (h : RdIs A l w) (hb : BoxAt A x y n w) : Calls Tryz.prog 159 #[.pointer (some ⟨x, 0, none⟩), .pointer (some ⟨y, 0, none⟩)] w fun e w' => Told A (F l) w e w' := by
  have HF : Hid (PSpec F n) := hF
  have H : Hid (RdIs A l w) := h
  have h1 := hb.cx
  have h2 := hb.cy
  clear hF h hb
  go_enter Tryz.func159, Tryz.ntmps159
  go_wp2_with fail
  refine (HF.out A l w H.out).mono ?_
  rintro _ w1 ⟨hg, ⟨x, l1, p, h1, rfl, h3, h4⟩ | ⟨h1, n1, m1, rfl⟩⟩
  · go_wp2
    go_ret
    exact ⟨hg, .inl ⟨x, l1, p, h1, rfl, h3, h4⟩⟩
  · go_wp2
    exact ⟨by first | rfl | trivial, hg, .inr ⟨h1, n1, m1, rfl⟩⟩
set_option maxHeartbeats 2000000 in
theorem sum_of {F : Rf Ex} {n : Nat} (hF : PSpec F n) (hFr : Reads F) : SSpec (chainF F sumS) n := by
  intro A l w h
  have HF : Hid (PSpec F n ∧ Reads F) := ⟨hF, hFr⟩
  obtain ⟨V, hV⟩ : ∃ V, (w.alloc (.cells #[.pointer (some ⟨A, 0, none⟩)] 117)).alloc (.cells #[.int .i64 (n : Int)] 3) = V := ⟨_, rfl⟩
  have hVb : Below w.heap.size w V := by rw [← hV]; exact ((Below.refl _ _).alloc (Nat.le_refl _) _).alloc (by simp) _
  have hbx : BoxAt A w.heap.size (w.heap.size + 1) n V := by rw [← hV]; exact box_new n h.lt
  have H : Hid (RdIs A l V ∧ BoxAt A w.heap.size (w.heap.size + 1) n V ∧ w.grownBy V (some A)) := ⟨h.below hVb, hbx, grown_of_belowA hVb _⟩
  have h1 := hbx.cx
  have h2 := hbx.cy
  clear hF hFr h hbx hVb
  go_enter Tryz.func153, Tryz.ntmps153
  go_wp2_with fail
  refine (chain_s A w.heap.size (w.heap.size + 1) n F HF.out.2 (fun l w h hb => cl_s HF.out.1 A _ _ l w h hb) sg_sum l V H.out.1 H.out.2.1).mono ?_
  rintro _ w1 ht
  have HT := Told.from ht H.out.2.2
  clear ht
  rcases HT with ⟨hg, ⟨x, l1, p, h1, rfl, h3, h4⟩ | ⟨h1, n1, m1, rfl⟩⟩
  · go_wp2
    go_ret
    exact ⟨hg, .inl ⟨x, l1, p, h1, rfl, h3, h4⟩⟩
  · go_wp2
    exact ⟨by first | rfl | trivial, hg, .inr ⟨h1, n1, m1, rfl⟩⟩
theorem cl_b {F : Rf Ex} {n : Nat} (hF : NSpec F n) (A x y : Nat) (l : List KT) (w : World) (h : RdIs A l w) (hb : BoxAt A x y n w) : Calls Tryz.prog 137 #[.pointer (some ⟨x, 0, none⟩), .pointer (some ⟨y, 0, none⟩)] w fun e w' => Told A (F l) w e w' := by
  have HF : Hid (NSpec F n) := hF
  have H : Hid (RdIs A l w) := h
  have h1 := hb.cx
  have h2 := hb.cy
  clear hF h hb
  go_enter Tryz.func137, Tryz.ntmps137
  go_wp2_with fail
  refine (HF.out A l w H.out).mono ?_
  rintro _ w1 ⟨hg, ⟨x, l1, p, h1, rfl, h3, h4⟩ | ⟨h1, n1, m1, rfl⟩⟩
  · go_wp2
    go_ret
    exact ⟨hg, .inl ⟨x, l1, p, h1, rfl, h3, h4⟩⟩
  · go_wp2
    exact ⟨by first | rfl | trivial, hg, .inr ⟨h1, n1, m1, rfl⟩⟩
set_option maxHeartbeats 2000000 in
theorem both_of {F : Rf Ex} {n : Nat} (hF : NSpec F n) (hFr : Reads F) : BSpec (chainF F andS) n := by
  intro A l w h
  have HF : Hid (NSpec F n ∧ Reads F) := ⟨hF, hFr⟩
  obtain ⟨V, hV⟩ : ∃ V, (w.alloc (.cells #[.pointer (some ⟨A, 0, none⟩)] 117)).alloc (.cells #[.int .i64 (n : Int)] 3) = V := ⟨_, rfl⟩
  have hVb : Below w.heap.size w V := by rw [← hV]; exact ((Below.refl _ _).alloc (Nat.le_refl _) _).alloc (by simp) _
  have hbx : BoxAt A w.heap.size (w.heap.size + 1) n V := by rw [← hV]; exact box_new n h.lt
  have H : Hid (RdIs A l V ∧ BoxAt A w.heap.size (w.heap.size + 1) n V ∧ w.grownBy V (some A)) := ⟨h.below hVb, hbx, grown_of_belowA hVb _⟩
  have h1 := hbx.cx
  have h2 := hbx.cy
  clear hF hFr h hbx hVb
  go_enter Tryz.func126, Tryz.ntmps126
  go_wp2_with fail
  refine (chain_b A w.heap.size (w.heap.size + 1) n F HF.out.2 (fun l w h hb => cl_b HF.out.1 A _ _ l w h hb) sg_and l V H.out.1 H.out.2.1).mono ?_
  rintro _ w1 ht
  have HT := Told.from ht H.out.2.2
  clear ht
  rcases HT with ⟨hg, ⟨x, l1, p, h1, rfl, h3, h4⟩ | ⟨h1, n1, m1, rfl⟩⟩
  · go_wp2
    go_ret
    exact ⟨hg, .inl ⟨x, l1, p, h1, rfl, h3, h4⟩⟩
  · go_wp2
    exact ⟨by first | rfl | trivial, hg, .inr ⟨h1, n1, m1, rfl⟩⟩
theorem cl_e {F : Rf Ex} {n : Nat} (hF : BSpec F n) (A x y : Nat) (l : List KT) (w : World) (h : RdIs A l w) (hb : BoxAt A x y n w) : Calls Tryz.prog 125 #[.pointer (some ⟨x, 0, none⟩), .pointer (some ⟨y, 0, none⟩)] w fun e w' => Told A (F l) w e w' := by
  have HF : Hid (BSpec F n) := hF
  have H : Hid (RdIs A l w) := h
  have h1 := hb.cx
  have h2 := hb.cy
  clear hF h hb
  go_enter Tryz.func125, Tryz.ntmps125
  go_wp2_with fail
  refine (HF.out A l w H.out).mono ?_
  rintro _ w1 ⟨hg, ⟨x, l1, p, h1, rfl, h3, h4⟩ | ⟨h1, n1, m1, rfl⟩⟩
  · go_wp2
    go_ret
    exact ⟨hg, .inl ⟨x, l1, p, h1, rfl, h3, h4⟩⟩
  · go_wp2
    exact ⟨by first | rfl | trivial, hg, .inr ⟨h1, n1, m1, rfl⟩⟩
set_option maxHeartbeats 2000000 in
theorem expr_of {F : Rf Ex} {n : Nat} (hF : BSpec F n) (hFr : Reads F) : ESpec (chainF F orS) n := by
  intro A l w h
  have HF : Hid (BSpec F n ∧ Reads F) := ⟨hF, hFr⟩
  obtain ⟨V, hV⟩ : ∃ V, (w.alloc (.cells #[.pointer (some ⟨A, 0, none⟩)] 117)).alloc (.cells #[.int .i64 (n : Int)] 3) = V := ⟨_, rfl⟩
  have hVb : Below w.heap.size w V := by rw [← hV]; exact ((Below.refl _ _).alloc (Nat.le_refl _) _).alloc (by simp) _
  have hbx : BoxAt A w.heap.size (w.heap.size + 1) n V := by rw [← hV]; exact box_new n h.lt
  have H : Hid (RdIs A l V ∧ BoxAt A w.heap.size (w.heap.size + 1) n V ∧ w.grownBy V (some A)) := ⟨h.below hVb, hbx, grown_of_belowA hVb _⟩
  have h1 := hbx.cx
  have h2 := hbx.cy
  clear hF hFr h hbx hVb
  go_enter Tryz.func109, Tryz.ntmps109
  go_wp2_with fail
  refine (chain_e A w.heap.size (w.heap.size + 1) n F HF.out.2 (fun l w h hb => cl_e HF.out.1 A _ _ l w h hb) sg_or l V H.out.1 H.out.2.1).mono ?_
  rintro _ w1 ht
  have HT := Told.from ht H.out.2.2
  clear ht
  rcases HT with ⟨hg, ⟨x, l1, p, h1, rfl, h3, h4⟩ | ⟨h1, n1, m1, rfl⟩⟩
  · go_wp2
    go_ret
    exact ⟨hg, .inl ⟨x, l1, p, h1, rfl, h3, h4⟩⟩
  · go_wp2
    exact ⟨by first | rfl | trivial, hg, .inr ⟨h1, n1, m1, rfl⟩⟩
end Go.Proofs.YtmabfbffpedfnaaGreatDoor
namespace Go.Proofs.YtmabfbffpedfnaaGreatDoor
open Go.RowKit

theorem minus_yes {M O : Rf Ex} {l : List KT} (h : isT ⟨#[45]⟩ l = true) : minusF M O l = (M l.tail).map fun x => (.two 3 x.1 .nil, x.2) := by unfold minusF; rw [if_pos h]
theorem minus_no {M O : Rf Ex} {l : List KT} (h : isT ⟨#[45]⟩ l = false) : minusF M O l = O l := by unfold minusF; rw [if_neg (by rw [h]; decide)]
set_option maxHeartbeats 4000000 in
theorem minus_of {M O : Rf Ex} {n : Nat} (hn : n ≤ 12) (hM : MSpec M (n + 1)) (hO : OSpec O n) : MSpec (minusF M O) n := by
  intro A l w h
  have HM : Hid (MSpec M (n + 1) ∧ OSpec O n) := ⟨hM, hO⟩
  have H : Hid (RdIs A l w) := h
  obtain ⟨q0, hq0⟩ : ∃ q0, w.heap.size - 1 = q0 := ⟨_, rfl⟩
  have HQ : Hid (q0 < w.heap.size) := by have := h.lt; show _ < _; omega
  have HQe : Hid (w.heap.size - 1 = q0) := hq0
  obtain ⟨R, hR⟩ : ∃ R, minusF M O l = R := ⟨_, rfl⟩
  have HR : Hid (minusF M O l = R) := hR
  have HCast : Hid (((n : Int) + 1) = ((n + 1 : Nat) : Int)) := by show _ = _; omega
  unfold Told
  rw [hR, hq0]
  obtain ⟨b, hb⟩ : ∃ b, isT ⟨#[45]⟩ l = b := ⟨_, rfl⟩
  have HB : Hid (isT ⟨#[45]⟩ l = b) := hb
  clear h hM hO hR hq0 hb
  go_enter Tryz.func166, Tryz.ntmps166
  go_wp2_with fail
  refine (is_any A l ⟨#[45]⟩ b HB.out w H.out).mono ?_
  rintro _ w1 ⟨rfl, hb1⟩
  have H1 : Hid (RdIs A l w1 ∧ w.grownBy w1 (some A)) := ⟨H.out.below hb1, grown_of_belowA hb1 _⟩
  clear hb1
  cases b
  · have HE : Hid (O l = R) := by show _ = _; rw [← HR.out]; exact (minus_no HB.out).symm
    go_wp2_with fail
    refine (HM.out.2 A l w1 H1.out.1).mono ?_
    rintro _ w2 ht
    have HT := Told.from ht H1.out.2
    unfold Told at HT
    rw [HQe.out, HE.out] at HT
    clear ht
    rcases HT with ⟨hg, ⟨x, l1, p, h1, rfl, h3, h4⟩ | ⟨h1, n1, m1, rfl⟩⟩
    · go_wp2
      go_ret
      exact ⟨hg, .inl ⟨x, l1, p, h1, rfl, h3, h4⟩⟩
    · go_wp2
      exact ⟨by first | rfl | trivial, hg, .inr ⟨h1, n1, m1, rfl⟩⟩
  · have HE : Hid (R = (M l.tail).map fun x => (.two 3 x.1 .nil, x.2)) := by show _ = _; rw [← HR.out]; exact minus_yes HB.out
    go_wp2_with fail
    refine (most_yes A (n : Int) 12 (by omega) w1).mono ?_
    rintro _ w2 ⟨rfl, rfl⟩
    go_wp2_with fail
    refine (take_any A l w2 H1.out.1 (isT_ne HB.out)).mono ?_
    rintro _ w3 ⟨rfl, hr3, hg3⟩
    have H3 : Hid (RdIs A l.tail w3 ∧ w.grownBy w3 (some A)) := ⟨hr3, H1.out.2.trans hg3⟩
    clear hr3 hg3
    go_wp2_with fail
    rw [HCast.out]
    refine (HM.out.1 A l.tail w3 H3.out.1).mono ?_
    rintro _ w4 ht
    have HT := Told.from ht H3.out.2
    unfold Told at HT
    rw [HQe.out] at HT
    clear ht
    rcases HT with ⟨hg, ⟨x, l1, p, h1, rfl, h3, h4⟩ | ⟨h1, n1, m1, rfl⟩⟩
    · have HB4 : Hid _ := box_told (w0 := w) HQ.out 3 .none ⟨#[]⟩ p none x .nil h4 h3 (exNil _ _) hg
      have HE4 : Hid (R = some (.two 3 x .nil, l1)) := by show _ = _; rw [HE.out, h1]; rfl
      clear h1 h3 h4 hg
      go_wp2
      go_ret
      exact ⟨HB4.out.1, .inl ⟨_, _, _, HE4.out, rfl, HB4.out.2.1, HB4.out.2.2⟩⟩
    · go_wp2
      exact ⟨by first | rfl | trivial, hg, .inr ⟨by rw [HE.out, h1]; rfl, n1, m1, rfl⟩⟩
set_option maxHeartbeats 4000000 in
theorem minus_deep {O : Rf Ex} (hO : OSpec O 13) (hOn : ∀ l, O l = none) : MSpec (fun _ => none) 13 := by
  intro A l w h
  have HO : Hid (OSpec O 13 ∧ O l = none) := ⟨hO, hOn l⟩
  have H : Hid (RdIs A l w) := h
  obtain ⟨b, hb⟩ : ∃ b, isT ⟨#[45]⟩ l = b := ⟨_, rfl⟩
  have HB : Hid (isT ⟨#[45]⟩ l = b) := hb
  clear h hO hOn hb
  go_enter Tryz.func166, Tryz.ntmps166
  go_wp2_with fail
  refine (is_any A l ⟨#[45]⟩ b HB.out w H.out).mono ?_
  rintro _ w1 ⟨rfl, hb1⟩
  have H1 : Hid (RdIs A l w1 ∧ w.grownBy w1 (some A)) := ⟨H.out.below hb1, grown_of_belowA hb1 _⟩
  clear hb1
  cases b
  · go_wp2_with fail
    refine (HO.out.1 A l w1 H1.out.1).mono ?_
    rintro _ w2 ⟨hg, ⟨x, l1, p, h1, _⟩ | ⟨h1, n1, m1, rfl⟩⟩
    · rw [HO.out.2] at h1; cases h1
    · have HG : Hid (w.grownBy w2 (some A)) := H1.out.2.trans hg
      clear hg
      go_wp2
      exact ⟨by first | rfl | trivial, HG.out, .inr ⟨rfl, n1, m1, rfl⟩⟩
  · go_wp2_with fail
    refine (most_no A l 13 12 (by decide) w1 H1.out.1).mono ?_
    rintro _ w2 ⟨⟨n1, m1, rfl⟩, hb2⟩
    have HG : Hid (w.grownBy w2 (some A)) := H1.out.2.trans (grown_of_belowA hb2 _)
    clear hb2
    go_wp2
    exact ⟨by first | rfl | trivial, HG.out, .inr ⟨rfl, n1, m1, rfl⟩⟩
theorem not_yes {M O : Rf Ex} {l : List KT} (h : isT ⟨#[110, 111, 116]⟩ l = true) : notF M O l = (M l.tail).map fun x => (.two 4 x.1 .nil, x.2) := by unfold notF; rw [if_pos h]
theorem not_no {M O : Rf Ex} {l : List KT} (h : isT ⟨#[110, 111, 116]⟩ l = false) : notF M O l = O l := by unfold notF; rw [if_neg (by rw [h]; decide)]
set_option maxHeartbeats 4000000 in
theorem not_of {M O : Rf Ex} {n : Nat} (hn : n ≤ 12) (hM : NSpec M (n + 1)) (hO : ASpec O n) : NSpec (notF M O) n := by
  intro A l w h
  have HM : Hid (NSpec M (n + 1) ∧ ASpec O n) := ⟨hM, hO⟩
  have H : Hid (RdIs A l w) := h
  obtain ⟨q0, hq0⟩ : ∃ q0, w.heap.size - 1 = q0 := ⟨_, rfl⟩
  have HQ : Hid (q0 < w.heap.size) := by have := h.lt; show _ < _; omega
  have HQe : Hid (w.heap.size - 1 = q0) := hq0
  obtain ⟨R, hR⟩ : ∃ R, notF M O l = R := ⟨_, rfl⟩
  have HR : Hid (notF M O l = R) := hR
  have HCast : Hid (((n : Int) + 1) = ((n + 1 : Nat) : Int)) := by show _ = _; omega
  unfold Told
  rw [hR, hq0]
  obtain ⟨b, hb⟩ : ∃ b, isT ⟨#[110, 111, 116]⟩ l = b := ⟨_, rfl⟩
  have HB : Hid (isT ⟨#[110, 111, 116]⟩ l = b) := hb
  clear h hM hO hR hq0 hb
  go_enter Tryz.func138, Tryz.ntmps138
  go_wp2_with fail
  refine (is_any A l ⟨#[110, 111, 116]⟩ b HB.out w H.out).mono ?_
  rintro _ w1 ⟨rfl, hb1⟩
  have H1 : Hid (RdIs A l w1 ∧ w.grownBy w1 (some A)) := ⟨H.out.below hb1, grown_of_belowA hb1 _⟩
  clear hb1
  cases b
  · have HE : Hid (O l = R) := by show _ = _; rw [← HR.out]; exact (not_no HB.out).symm
    go_wp2_with fail
    refine (HM.out.2 A l w1 H1.out.1).mono ?_
    rintro _ w2 ht
    have HT := Told.from ht H1.out.2
    unfold Told at HT
    rw [HQe.out, HE.out] at HT
    clear ht
    rcases HT with ⟨hg, ⟨x, l1, p, h1, rfl, h3, h4⟩ | ⟨h1, n1, m1, rfl⟩⟩
    · go_wp2
      go_ret
      exact ⟨hg, .inl ⟨x, l1, p, h1, rfl, h3, h4⟩⟩
    · go_wp2
      exact ⟨by first | rfl | trivial, hg, .inr ⟨h1, n1, m1, rfl⟩⟩
  · have HE : Hid (R = (M l.tail).map fun x => (.two 4 x.1 .nil, x.2)) := by show _ = _; rw [← HR.out]; exact not_yes HB.out
    go_wp2_with fail
    refine (most_yes A (n : Int) 12 (by omega) w1).mono ?_
    rintro _ w2 ⟨rfl, rfl⟩
    go_wp2_with fail
    refine (take_any A l w2 H1.out.1 (isT_ne HB.out)).mono ?_
    rintro _ w3 ⟨rfl, hr3, hg3⟩
    have H3 : Hid (RdIs A l.tail w3 ∧ w.grownBy w3 (some A)) := ⟨hr3, H1.out.2.trans hg3⟩
    clear hr3 hg3
    go_wp2_with fail
    rw [HCast.out]
    refine (HM.out.1 A l.tail w3 H3.out.1).mono ?_
    rintro _ w4 ht
    have HT := Told.from ht H3.out.2
    unfold Told at HT
    rw [HQe.out] at HT
    clear ht
    rcases HT with ⟨hg, ⟨x, l1, p, h1, rfl, h3, h4⟩ | ⟨h1, n1, m1, rfl⟩⟩
    · have HB4 : Hid _ := box_told (w0 := w) HQ.out 4 .none ⟨#[]⟩ p none x .nil h4 h3 (exNil _ _) hg
      have HE4 : Hid (R = some (.two 4 x .nil, l1)) := by show _ = _; rw [HE.out, h1]; rfl
      clear h1 h3 h4 hg
      go_wp2
      go_ret
      exact ⟨HB4.out.1, .inl ⟨_, _, _, HE4.out, rfl, HB4.out.2.1, HB4.out.2.2⟩⟩
    · go_wp2
      exact ⟨by first | rfl | trivial, hg, .inr ⟨by rw [HE.out, h1]; rfl, n1, m1, rfl⟩⟩
set_option maxHeartbeats 4000000 in
theorem not_deep {O : Rf Ex} (hO : ASpec O 13) (hOn : ∀ l, O l = none) : NSpec (fun _ => none) 13 := by
  intro A l w h
  have HO : Hid (ASpec O 13 ∧ O l = none) := ⟨hO, hOn l⟩
  have H : Hid (RdIs A l w) := h
  obtain ⟨b, hb⟩ : ∃ b, isT ⟨#[110, 111, 116]⟩ l = b := ⟨_, rfl⟩
  have HB : Hid (isT ⟨#[110, 111, 116]⟩ l = b) := hb
  clear h hO hOn hb
  go_enter Tryz.func138, Tryz.ntmps138
  go_wp2_with fail
  refine (is_any A l ⟨#[110, 111, 116]⟩ b HB.out w H.out).mono ?_
  rintro _ w1 ⟨rfl, hb1⟩
  have H1 : Hid (RdIs A l w1 ∧ w.grownBy w1 (some A)) := ⟨H.out.below hb1, grown_of_belowA hb1 _⟩
  clear hb1
  cases b
  · go_wp2_with fail
    refine (HO.out.1 A l w1 H1.out.1).mono ?_
    rintro _ w2 ⟨hg, ⟨x, l1, p, h1, _⟩ | ⟨h1, n1, m1, rfl⟩⟩
    · rw [HO.out.2] at h1; cases h1
    · have HG : Hid (w.grownBy w2 (some A)) := H1.out.2.trans hg
      clear hg
      go_wp2
      exact ⟨by first | rfl | trivial, HG.out, .inr ⟨rfl, n1, m1, rfl⟩⟩
  · go_wp2_with fail
    refine (most_no A l 13 12 (by decide) w1 H1.out.1).mono ?_
    rintro _ w2 ⟨⟨n1, m1, rfl⟩, hb2⟩
    have HG : Hid (w.grownBy w2 (some A)) := H1.out.2.trans (grown_of_belowA hb2 _)
    clear hb2
    go_wp2
    exact ⟨by first | rfl | trivial, HG.out, .inr ⟨rfl, n1, m1, rfl⟩⟩
end Go.Proofs.YtmabfbffpedfnaaGreatDoor
namespace Go.Proofs.YtmabfbffpedfnaaGreatDoor
open Go.RowKit

theorem ixW (k : Nat) (hk : k < 39) (W : World) : (Instr.index 160 (.agg nameCells.toArray) (.int .i64 (k : Int))).run Tryz.prog W = .ok (.string (keepL.getD k ⟨#[]⟩)) W :=
  match k, hk with
  | 0, _ => by kernel_rfl
  | 1, _ => by kernel_rfl
  | 2, _ => by kernel_rfl
  | 3, _ => by kernel_rfl
  | 4, _ => by kernel_rfl
  | 5, _ => by kernel_rfl
  | 6, _ => by kernel_rfl
  | 7, _ => by kernel_rfl
  | 8, _ => by kernel_rfl
  | 9, _ => by kernel_rfl
  | 10, _ => by kernel_rfl
  | 11, _ => by kernel_rfl
  | 12, _ => by kernel_rfl
  | 13, _ => by kernel_rfl
  | 14, _ => by kernel_rfl
  | 15, _ => by kernel_rfl
  | 16, _ => by kernel_rfl
  | 17, _ => by kernel_rfl
  | 18, _ => by kernel_rfl
  | 19, _ => by kernel_rfl
  | 20, _ => by kernel_rfl
  | 21, _ => by kernel_rfl
  | 22, _ => by kernel_rfl
  | 23, _ => by kernel_rfl
  | 24, _ => by kernel_rfl
  | 25, _ => by kernel_rfl
  | 26, _ => by kernel_rfl
  | 27, _ => by kernel_rfl
  | 28, _ => by kernel_rfl
  | 29, _ => by kernel_rfl
  | 30, _ => by kernel_rfl
  | 31, _ => by kernel_rfl
  | 32, _ => by kernel_rfl
  | 33, _ => by kernel_rfl
  | 34, _ => by kernel_rfl
  | 35, _ => by kernel_rfl
  | 36, _ => by kernel_rfl
  | 37, _ => by kernel_rfl
  | 38, _ => by kernel_rfl
  | n + 39, h => absurd h (by omega)
theorem keep_step (k : Nat) (hk : k < 39) (s : ByteArray) : ((keepL.drop k).any fun x => decide (x = s)) = (decide (keepL.getD k ⟨#[]⟩ = s) || (keepL.drop (k + 1)).any fun x => decide (x = s)) := by
  have e : keepL.getD k ⟨#[]⟩ = keepL[k]'hk := by simp [List.getD, show k < keepL.length from hk]; rfl
  rw [List.drop_eq_getElem_cons (show k < keepL.length from hk), List.any_cons, e]; rfl
set_option maxRecDepth 100000 in
set_option maxHeartbeats 8000000 in
theorem isName_any (A : Nat) (l : List KT) (b : Bool) (hb : nameB l = b) (w : World) (h : RdIs A l w) : Calls Tryz.prog 103 #[.pointer (some ⟨A, 0, none⟩)] w fun e w' => e = .returned (.bool b) ∧ Below w.heap.size w w' := by
  have H : Hid (RdIs A l w) := h
  generalize hk : (hdT l).1 = k at *
  generalize ht : (hdT l).2 = t at *
  have HE : Hid ((hdT l).1 = k ∧ (hdT l).2 = t) := ⟨hk, ht⟩
  have HN : Hid (nameB l = (decide (k = 1) && !((keepL.drop 0).any fun x => decide (x = t)))) := by show nameB l = _; unfold nameB; rw [hk, ht]; rfl
  have HB : Hid (nameB l = b) := hb
  clear h hb hk ht
  go_enter Tryz.func103, Tryz.ntmps103
  go_wp2_with fail
  refine (now_any A l w H.out).mono ?_
  rintro _ w1 ⟨⟨p, rfl⟩, hb1⟩
  rw [HE.out.1, HE.out.2]
  have HB1 : Hid (Below w.heap.size w w1) := hb1
  have HS1 : Hid (w.heap.size ≤ w1.heap.size) := hb1.size
  obtain ⟨W, hW⟩ : ∃ W, w1.alloc (.cells #[.int .i64 k, .string t, .int .i64 p] 113) = W := ⟨_, rfl⟩
  have hbW : Below w1.heap.size w1 W := by rw [← hW]; exact (Below.refl _ _).alloc (Nat.le_refl _) _
  have HV : Hid (VrAt W) := ((H.out.below hb1).below hbW).vr
  have HBW : Hid (Below w.heap.size w W) := hb1.trans (hbW.mono hb1.size)
  have z0 : W.cell? ⟨w1.heap.size, 0, none⟩ = some (.int .i64 k) := by rw [← hW]; simp [go_sem]
  have z1 : W.cell? ⟨w1.heap.size, 1, none⟩ = some (.string t) := by rw [← hW]; simp [go_sem]
  have hsz : (Tryz.prog.info? 160).map (·.size) = some nameCells.length := by kernel_rfl
  clear hb1 hbW
  by_cases hk1 : k = 1
  · subst hk1
    have HN' : Hid (((keepL.drop 0).any fun x => decide (x = t)) = !b) := by
      show _ = _
      have h1 := HN.out
      rw [HB.out, decide_eq_true rfl, Bool.true_and] at h1
      rw [h1]; simp
    clear HN HB
    go_wp2_with (refine wpList_load_mid rfl 160 _ rfl _ 0 rfl nameCells _ HV.out.nm Tryz.underlying160 rfl hsz ?_)
    clear hsz
    go_loopw [12] (fun i wr => ∃ k : Nat, k ≤ 39 ∧ i = .int .i64 k ∧ Hid (((keepL.drop k).any fun x => decide (x = t)) = !b) ∧ wr = W) (fun i _ => 39 - (intOf i).toNat)
    case atStart => exact ⟨0, Nat.zero_le _, rfl, HN', rfl⟩
    case round =>
      clear HN'
      obtain ⟨k, hk, rfl, he, rfl⟩ := hrel
      by_cases hlt : k < 39
      · have hix := ixW k hlt wr
        have hst := he.out
        rw [keep_step k hlt] at hst
        generalize keepL.getD k ⟨#[]⟩ = m at *
        have hk' : (k : Int) < 39 := by omega
        by_cases hm : m = t
        · subst hm
          rw [decide_eq_true rfl, Bool.true_or] at hst
          have hbf : b = false := by cases b; rfl; cases hst
          subst hbf
          clear he hst
          have d1 : (m.toList == m.toList) = true := by simp
          go_wp2
          go_ret
          exact ⟨rfl, HBW.out⟩
        · rw [decide_eq_false hm, Bool.false_or] at hst
          have HS : Hid (((keepL.drop (k + 1)).any fun x => decide (x = t)) = !b) := hst
          have d1 : (t.toList == m.toList) = false := by rw [ba_beq]; exact decide_eq_false (fun e => hm e.symm)
          clear he hst hm
          go_wp2
          go_roundw
          case rel => exact ⟨k + 1, by omega, by go_num, HS, trivial⟩
          case measure => simp [intOf]; omega
      · obtain rfl : k = 39 := by omega
        have e : true = b := by have := he.out; cases b; cases this; rfl
        subst e
        clear he
        go_wp2
        go_ret
        exact ⟨rfl, HBW.out⟩
  · have d1 : (k != 1) = true := by simpa using hk1
    have e : false = b := by rw [← HB.out, HN.out, decide_eq_false hk1]; rfl
    subst e
    clear HN HB hk1 hsz
    go_wp2
    go_ret
    exact ⟨rfl, HBW.out⟩
/-- what name tells -/
def ToldN (A : Nat) (R : Option (ByteArray × List KT)) (w : World) (e : Ending) (w' : World) : Prop :=
  w.grownBy w' (some A) ∧ ((∃ x l, R = some (x, l) ∧ e = .returned (.string x) ∧ RdIs A l w' ∧ x.size ≤ 16) ∨ (R = none ∧ Thr e))
set_option maxHeartbeats 2000000 in
theorem name_any (A : Nat) (l : List KT) (w : World) (h : RdIs A l w) : Calls Tryz.prog 86 #[.pointer (some ⟨A, 0, none⟩)] w fun e w' => ToldN A (nameF l) w e w' := by
  have H : Hid (RdIs A l w) := h
  obtain ⟨b, hb⟩ : ∃ b, nameB l = b := ⟨_, rfl⟩
  have HB : Hid (nameB l = b) := hb
  generalize hk : (hdT l).1 = k at *
  generalize ht : (hdT l).2 = t at *
  have HE : Hid ((hdT l).1 = k ∧ (hdT l).2 = t) := ⟨hk, ht⟩
  have HN : Hid (nameF l = if b = true ∧ t.size ≤ 16 then some (t, l.tail) else none) := by show nameF l = _; unfold nameF; rw [ht, hb]
  have hts := h.ok.size
  rw [ht] at hts
  clear h hb hk ht
  have hf := field1 k
  go_enter Tryz.func86, Tryz.ntmps86
  go_wp2_with fail
  refine (isName_any A l b HB.out w H.out).mono ?_
  rintro _ w1 ⟨rfl, hb1⟩
  have H1 : Hid (RdIs A l w1 ∧ w.grownBy w1 (some A)) := ⟨H.out.below hb1, grown_of_belowA hb1 _⟩
  clear hb1
  cases b
  · go_wp2_with fail
    refine (must_no A l w1 H1.out.1).mono ?_
    rintro _ w2 ⟨⟨n, p, rfl⟩, hb2⟩
    have HG : Hid (w.grownBy w2 (some A)) := H1.out.2.trans (grown_of_belowA hb2 _)
    clear hb2
    go_wp2
    exact ⟨by first | rfl | trivial, HG.out, .inr ⟨by rw [HN.out]; rfl, n, p, rfl⟩⟩
  · have HK : Hid ((hdT l).1 ≠ 5) := by
      show (hdT l).1 ≠ 5
      have := HB.out
      simp only [nameB, Bool.and_eq_true, decide_eq_true_eq] at this
      omega
    go_wp2_with fail
    refine (must_yes A w1).mono ?_
    rintro _ w2 ⟨rfl, rfl⟩
    go_wp2_with fail
    refine (now_any A l w2 H1.out.1).mono ?_
    rintro _ w3 ⟨⟨p, rfl⟩, hb3⟩
    rw [HE.out.1, HE.out.2]
    have H3 : Hid (RdIs A l w3 ∧ w.grownBy w3 (some A)) := ⟨H1.out.1.below hb3, H1.out.2.trans (grown_of_belowA hb3 _)⟩
    clear hb3
    by_cases h16 : t.size ≤ 16
    · have HN' : Hid (nameF l = some (t, l.tail)) := by show _ = _; rw [HN.out]; simp [h16]
      go_wp2_with fail
      refine (most_yes A (t.size : Int) 16 (by omega) w3).mono ?_
      rintro _ w4 ⟨rfl, rfl⟩
      go_wp2_with fail
      refine (take_any A l w4 H3.out.1 HK.out).mono ?_
      rintro _ w5 ⟨rfl, hr5, hg5⟩
      have H5 : Hid (RdIs A l.tail w5 ∧ w.grownBy w5 (some A)) := ⟨hr5, H3.out.2.trans hg5⟩
      clear hr5 hg5
      go_wp2
      go_ret
      exact ⟨H5.out.2, .inl ⟨t, _, HN'.out, rfl, H5.out.1, h16⟩⟩
    · have HN' : Hid (nameF l = none) := by show _ = _; rw [HN.out, if_neg (fun h => h16 h.2)]
      go_wp2_with fail
      refine (most_no A l (t.size : Int) 16 (by omega) w3 H3.out.1).mono ?_
      rintro _ w4 ⟨⟨n, p, rfl⟩, hb4⟩
      have HG : Hid (w.grownBy w4 (some A)) := H3.out.2.trans (grown_of_belowA hb4 _)
      clear hb4
      go_wp2
      exact ⟨by first | rfl | trivial, HG.out, .inr ⟨HN'.out, n, p, rfl⟩⟩
end Go.Proofs.YtmabfbffpedfnaaGreatDoor
namespace Go.Proofs.YtmabfbffpedfnaaGreatDoor
open Go.RowKit

def lexF (i n : Nat) (l : List UInt8) : Except (Int × Nat) (List Tok) := lexL l.length i n l
theorem lexF_blank {c : UInt8} (h : blankC c = true) (i n : Nat) (l : List UInt8) : lexF i n (c :: l) = lexF (i + 1) n l := by
  unfold lexF
  rw [List.length_cons, lexL, if_pos h]
theorem lexF_tok {c : UInt8} {l : List UInt8} {k : Int} {t : List UInt8} {m : Nat} (hb : blankC c = false) (h : nextT (c :: l) = some (k, t, m)) {n : Nat} (hn : ¬ ((k = 2 ∧ 19 < m) ∨ n = 200)) (i : Nat) :
    lexF i n (c :: l) = (lexF (i + m) (n + 1) ((c :: l).drop m)).map (⟨k, ⟨t.toArray⟩, i⟩ :: ·) := by
  have hp := nextT_pos h
  unfold lexF
  rw [List.length_cons, lexL, if_neg (by rw [hb]; decide), h]
  simp only
  rw [if_neg hn, lexL_fuel l.length ((c :: l).drop m).length (i + m) (n + 1) ((c :: l).drop m) (by rw [List.length_drop, List.length_cons]; omega) (Nat.le_refl _)]
/-- a byte in the other size -/
def upN (x : Nat) : Nat := if 97 ≤ x ∧ x ≤ 122 then x - 32 else x
def upC (c : UInt8) : UInt8 := UInt8.ofNat (upN c.toNat)
def upL (l : List UInt8) : List UInt8 := l.map upC
/-- a quote is written as two -/
def esc : List UInt8 → List UInt8
  | [] => []
  | c :: l => if c.toNat = 39 then c :: c :: esc l else c :: esc l
/-- what a token is written as -/
def wr (up : Bool) (x : Tok) : List UInt8 :=
  if x.k = 3 then 39 :: (esc x.t.data.toList ++ [39]) else if x.k = 1 ∧ up = true then upL x.t.data.toList else x.t.data.toList
theorem byte_facts : ∀ n : Fin 256, (blankC n.val.toUInt8 = true → wordC n.val.toUInt8 = false ∧ isDg n.val.toUInt8 = false ∧ n.val.toUInt8.toNat ≠ 39 ∧ n.val.toUInt8.toNat ≠ 62 ∧ n.val.toUInt8.toNat ≠ 61) ∧
    (wordC n.val.toUInt8 = true → blankC n.val.toUInt8 = false ∧ wordC (low n.val.toUInt8) = true ∧ wordC (upC (low n.val.toUInt8)) = true ∧ low (low n.val.toUInt8) = low n.val.toUInt8 ∧ low (upC (low n.val.toUInt8)) = low n.val.toUInt8) ∧
    (isAl n.val.toUInt8 = true → isAl (low n.val.toUInt8) = true ∧ isAl (upC (low n.val.toUInt8)) = true) ∧ (markC n.val.toUInt8 = true → blankC n.val.toUInt8 = false) := by decide +kernel
theorem byte_at (c : UInt8) : (blankC c = true → wordC c = false ∧ isDg c = false ∧ c.toNat ≠ 39 ∧ c.toNat ≠ 62 ∧ c.toNat ≠ 61) ∧
    (wordC c = true → blankC c = false ∧ wordC (low c) = true ∧ wordC (upC (low c)) = true ∧ low (low c) = low c ∧ low (upC (low c)) = low c) ∧
    (isAl c = true → isAl (low c) = true ∧ isAl (upC (low c)) = true) ∧ (markC c = true → blankC c = false) := by
  have h := byte_facts ⟨c.toNat, UInt8.toNat_lt c⟩
  rw [show c.toNat.toUInt8 = c by simp] at h
  exact h
theorem while_all {p : UInt8 → Bool} (l r : List UInt8) (hl : ∀ c ∈ l, p c = true) (hr : ∀ c ∈ r.head?, p c = false) : (l ++ r).takeWhile p = l := by
  induction l with
  | nil =>
    cases r with
    | nil => rfl
    | cons c r => rw [List.nil_append, List.takeWhile_cons_of_neg (by rw [hr c rfl]; decide)]
  | cons c l ih => rw [List.cons_append, List.takeWhile_cons_of_pos (hl c (by simp)), ih (fun d hd => hl d (by simp [hd]))]
end Go.Proofs.YtmabfbffpedfnaaGreatDoor
namespace Go.Proofs.YtmabfbffpedfnaaGreatDoor
open Go.RowKit

set_option maxRecDepth 100000 in
set_option maxHeartbeats 1000000 in
theorem ix_lite (s : ByteArray) (c : Int) (w : World) : Calls Tryz.prog 115 #[.string s, .int .u8 c] w fun e w' => e = .returned (.int .i64 (Lib.indexByte s.data.toList c.toNat.toUInt8)) ∧ w' = w := by
  go_enter Tryz.func115, Tryz.ntmps115
  go_wp2
  rw [run_callFunc_extern Tryz.func129 (by kernel_rfl) (by kernel_rfl) (by kernel_rfl) (e := Extern.BytealgIndexByte.indexByte) (by kernel_rfl), Lib.run_indexByteString]
  simp only [Result.andThen]
  rw [Oper.upon_value]
  go_wp2
  go_ret
  exact ⟨rfl, rfl⟩
set_option maxRecDepth 100000 in
set_option maxHeartbeats 1000000 in
theorem strings_ix (s : ByteArray) (c : Int) (w : World) : Calls Tryz.prog 94 #[.string s, .int .u8 c] w fun e w' => e = .returned (.int .i64 (Lib.indexByte s.data.toList c.toNat.toUInt8)) ∧ w' = w := by
  go_enter Tryz.func94, Tryz.ntmps94
  go_wp2_with (go_at_call 115; refine (ix_lite _ _ _).mono ?_; rintro e w' ⟨rfl, rfl⟩)
  go_ret
  exact ⟨rfl, rfl⟩
end Go.Proofs.YtmabfbffpedfnaaGreatDoor
