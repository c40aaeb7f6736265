/- Part 4 of 30. -/
import Derived.Test.YtmabfbffpedfnaaGreatDoorK03
import Derived.Deep.RegionLaw
import Derived.Deep.DrawnRows
namespace Go.Proofs.YtmabfbffpedfnaaGreatDoor
open Go.RowKit

set_option maxRecDepth 100000 in
set_option maxHeartbeats 4000000 in
theorem inside_o {α : Type} {F : Rf α} (A : Nat) (x0 x1 x2 : Value) (Pre : List KT → World → Prop) (Inv : α → List KT → World → Prop) (Err : World → Prop) (hR : ∀ l w, Pre l w → RdIs A l w) (hP : ∀ l l1 w w1, Pre l w → RdIs A l1 w1 → w.grownBy w1 (some A) → l1.length ≤ l.length → Pre l1 w1)
    (hJ : ∀ a l w, Inv a l w → RdIs A l w) (hK : ∀ a l l1 w w1, Inv a l w → RdIs A l1 w1 → w.grownBy w1 (some A) → l1.length ≤ l.length → Inv a l1 w1) (hE : ∀ l w w1, Pre l w → w.grownBy w1 (some A) → Err w1) (hE2 : ∀ a l w w1, Inv a l w → w.grownBy w1 (some A) → Err w1)
    (hO : ∀ l w, Pre l w → Calls Tryz.prog 174 #[x0, x1, x2] w fun e w' => (∃ a l2, F l = some (a, l2) ∧ e = .returned (.tuple #[]) ∧ Inv a l2 w') ∨ (F l = none ∧ Thr e ∧ Err w')) (l : List KT) (w : World) (h : Pre l w) :
    Calls Tryz.prog 97 #[.pointer (some ⟨A, 0, none⟩), .func (.func 174) #[] #[x0, x1, x2]] w fun e w' => (∃ a l2, insideF F l = some (a, l2) ∧ e = .returned (.tuple #[]) ∧ Inv a l2 w') ∨ (insideF F l = none ∧ Thr e ∧ Err w') := by
  have HO : Hid (∀ l w, Pre l w → Calls Tryz.prog 174 #[x0, x1, x2] w fun e w' => (∃ a l2, F l = some (a, l2) ∧ e = .returned (.tuple #[]) ∧ Inv a l2 w') ∨ (F l = none ∧ Thr e ∧ Err w')) := hO
  have HP : Hid (∀ l l1 w w1, Pre l w → RdIs A l1 w1 → w.grownBy w1 (some A) → l1.length ≤ l.length → Pre l1 w1) := hP
  have HJ : Hid ((∀ a l w, Inv a l w → RdIs A l w) ∧ (∀ a l l1 w w1, Inv a l w → RdIs A l1 w1 → w.grownBy w1 (some A) → l1.length ≤ l.length → Inv a l1 w1) ∧ (∀ l w w1, Pre l w → w.grownBy w1 (some A) → Err w1) ∧ (∀ a l w w1, Inv a l w → w.grownBy w1 (some A) → Err w1)) := ⟨hJ, hK, hE, hE2⟩
  have H : Hid (Pre l w ∧ RdIs A l w) := ⟨h, hR l w h⟩
  obtain ⟨R, hRe⟩ : ∃ R, insideF F l = R := ⟨_, rfl⟩
  have HR : Hid (insideF F l = R) := hRe
  rw [hRe]
  clear hO hR hP hJ hK hE hE2 h hRe
  go_enter Tryz.func97, Tryz.ntmps97
  go_wp2_with fail
  refine (need_any A l ⟨#[40]⟩ w H.out.2).mono ?_
  rintro _ w1 ⟨hg1, ⟨l1, hn1, rfl, hr1⟩ | ⟨hn1, n1, m1, rfl⟩⟩
  · have H1 : Hid (Pre l1 w1) := HP.out l l1 w w1 H.out.1 hr1 hg1 (need_reads H.out.2.ok hn1).2
    have HR1 : Hid (R = (F l1).bind fun x => (needF ⟨#[41]⟩ x.2).map fun l2 => (x.1, l2)) := by
      show _ = _
      rw [← HR.out]; unfold insideF; rw [hn1]; rfl
    clear hg1 hn1 hr1
    go_wp2_with fail
    refine (HO.out l1 w1 H1.out).mono ?_
    rintro _ w2 (⟨a, l2, hf2, rfl, hi2⟩ | ⟨hf2, ⟨n1, m1, rfl⟩, he2⟩)
    · have HR2 : Hid (R = (needF ⟨#[41]⟩ l2).map fun l3 => (a, l3)) := by show _ = _; rw [HR1.out, hf2]; rfl
      have H2 : Hid (Inv a l2 w2) := hi2
      clear hf2 hi2
      go_wp2_with fail
      refine (need_any A l2 ⟨#[41]⟩ w2 (HJ.out.1 _ _ _ H2.out)).mono ?_
      rintro _ w3 ⟨hg3, ⟨l3, hn3, rfl, hr3⟩ | ⟨hn3, n1, m1, rfl⟩⟩
      · have H3 : Hid (Inv a l3 w3 ∧ R = some (a, l3)) := ⟨HJ.out.2.1 a l2 l3 w2 w3 H2.out hr3 hg3 (need_reads (HJ.out.1 _ _ _ H2.out).ok hn3).2, by rw [HR2.out, hn3]; rfl⟩
        clear hg3 hn3 hr3
        go_wp2
        go_end0
        exact .inl ⟨a, l3, H3.out.2, rfl, H3.out.1⟩
      · have H3 : Hid (Err w3 ∧ R = none) := ⟨HJ.out.2.2.2 a l2 w2 w3 H2.out hg3, by rw [HR2.out, hn3]; rfl⟩
        clear hg3 hn3
        go_wp2
        exact ⟨by first | rfl | trivial, .inr ⟨H3.out.2, ⟨n1, m1, rfl⟩, H3.out.1⟩⟩
    · have H3 : Hid (Err w2 ∧ R = none) := ⟨he2, by rw [HR1.out, hf2]; rfl⟩
      clear he2 hf2
      go_wp2
      exact ⟨by first | rfl | trivial, .inr ⟨H3.out.2, ⟨n1, m1, rfl⟩, H3.out.1⟩⟩
  · have H3 : Hid (Err w1 ∧ R = none) := ⟨HJ.out.2.2.1 l w w1 H.out.1 hg1, by rw [← HR.out]; unfold insideF; rw [hn1]; rfl⟩
    clear hg1 hn1
    go_wp2
    exact ⟨by first | rfl | trivial, .inr ⟨H3.out.2, ⟨n1, m1, rfl⟩, H3.out.1⟩⟩
end Go.Proofs.YtmabfbffpedfnaaGreatDoor
namespace Go.Proofs.YtmabfbffpedfnaaGreatDoor
open Go.RowKit

theorem ExIs.setB {A b T : Nat} {cs : Array Value} {u : World} (hb : Blk b cs T u) (hT : T ≠ 75) (o : Nat) (v : Value) {q : Ex} {p : Option Addr} (h : ExIs A u p q) : ExIs A (u.setCell ⟨b, o, none⟩ v) p q := by
  have hf : Fr (fun k _ => k = b) u (u.setCell ⟨b, o, none⟩ v) := Fr.set (fun _ => rfl) o v
  refine ExIs.fr hf (fun k cs' fz _ hk e => ?_) q h
  have hb' : u.heap[b]? = some (.cells cs T (0, 0)) := hb
  rw [e, hb'] at hk
  cases hk
  exact hT rfl
/-- between ( and ): what is read goes into a box -/
def PreO (A x y z n : Nat) (w0 : World) (l : List KT) (w : World) : Prop := RdIs A l w ∧ BoxAt A x y n w ∧ w0.grownBy w (some A) ∧ w0.heap.size ≤ z ∧ A < w0.heap.size ∧ Blk z #[.pointer none] 26 w
def InvO (A z : Nat) (w0 : World) (a : Ex) (l : List KT) (w : World) : Prop := RdIs A l w ∧ w0.grownBy w (some A) ∧ (z ≠ A ∧ A < w0.heap.size) ∧ ∃ p, Blk z #[.pointer p] 26 w ∧ ExIs (w0.heap.size - 1) w p a
set_option maxHeartbeats 4000000 in
theorem one1_any {E : Rf Ex} {n : Nat} (hE : ESpec E (n + 1)) (A x y z : Nat) (w0 : World) (hn : n ≤ 12) (l : List KT) (w : World) (h : PreO A x y z n w0 l w) : Calls Tryz.prog 174 #[.pointer (some ⟨x, 0, none⟩), .pointer (some ⟨y, 0, none⟩), .pointer (some ⟨z, 0, none⟩)] w fun e w' =>
    (∃ a l2, E l = some (a, l2) ∧ e = .returned (.tuple #[]) ∧ InvO A z w0 a l2 w') ∨ (E l = none ∧ Thr e ∧ w0.grownBy w' (some A)) := by
  have HE : Hid (ESpec E (n + 1)) := hE
  have H : Hid (PreO A x y z n w0 l w) := h
  have h1 := h.2.1.cx
  have h2 := h.2.1.cy
  have HCast : Hid (((n : Int) + 1) = ((n + 1 : Nat) : Int)) := by show _ = _; omega
  clear hE h
  go_enter Tryz.func174, Tryz.ntmps174
  go_wp2_with fail
  rw [HCast.out]
  refine (HE.out A l w H.out.1).mono ?_
  rintro _ w1 ⟨hg1, ⟨a, l1, p, hs1, rfl, hx1, hr1⟩ | ⟨hs1, n1, m1, rfl⟩⟩
  · have hzA : z ≠ A := by have h1 := H.out.2.2.2.1; have h2 := H.out.2.2.2.2.1; omega
    have hk := H.out.2.2.2.2.2.keep hzA hg1
    have hc : w1.cell? ⟨z, 0, none⟩ = some (.pointer none) := by rw [hk.cell 0]; rfl
    have hf := hk.free 0
    have H1 : Hid (E l = some (a, l1) ∧ InvO A z w0 a l1 (w1.setCell ⟨z, 0, none⟩ (.pointer p))) := by
      refine ⟨hs1, hr1.set (by have h1 := H.out.2.2.2.1; have h2 := H.out.2.2.2.2.1; omega) 0 _, grown_new (H.out.2.2.1.trans hg1) H.out.2.2.2.1 0 _, ⟨hzA, H.out.2.2.2.2.1⟩, p, hk.set 0 _, ?_⟩
      exact ExIs.setB hk (by decide) 0 _ (hx1.mono (by have := H.out.2.2.1.size; omega))
    clear hs1 hx1 hr1 hg1 hk
    go_wp2
    go_end0
    exact .inl ⟨a, l1, H1.out.1, rfl, H1.out.2⟩
  · have H1 : Hid (E l = none ∧ w0.grownBy w1 (some A)) := ⟨hs1, H.out.2.2.1.trans hg1⟩
    clear hs1 hg1
    go_wp2
    exact ⟨by first | rfl | trivial, .inr ⟨H1.out.1, ⟨n1, m1, rfl⟩, H1.out.2⟩⟩
theorem inO_any {E : Rf Ex} {n : Nat} (hE : ESpec E (n + 1)) (A x y z : Nat) (w0 : World) (hn : n ≤ 12) (l : List KT) (w : World) (h : PreO A x y z n w0 l w) :
    Calls Tryz.prog 97 #[.pointer (some ⟨A, 0, none⟩), .func (.func 174) #[] #[.pointer (some ⟨x, 0, none⟩), .pointer (some ⟨y, 0, none⟩), .pointer (some ⟨z, 0, none⟩)]] w fun e w' =>
      (∃ a l2, insideF E l = some (a, l2) ∧ e = .returned (.tuple #[]) ∧ InvO A z w0 a l2 w') ∨ (insideF E l = none ∧ Thr e ∧ w0.grownBy w' (some A)) := by
  refine inside_o A _ _ _ (PreO A x y z n w0) (InvO A z w0) (fun w' => w0.grownBy w' (some A)) (fun l w h => h.1) ?_ (fun a l w h => h.1) ?_ (fun l w w1 h hg => h.2.2.1.trans hg) (fun a l w w1 h hg => h.2.1.trans hg) (fun l w h => one1_any hE A x y z w0 hn l w h) l w h
  · intro l l1 w w1 h hr hg _
    exact ⟨hr, h.2.1.grown hg, h.2.2.1.trans hg, h.2.2.2.1, h.2.2.2.2.1, h.2.2.2.2.2.keep (by have h1 := h.2.2.2.1; have h2 := h.2.2.2.2.1; omega) hg⟩
  · rintro a l l1 w w1 ⟨h1, h2, h3, p, h4, h5⟩ hr hg _
    exact ⟨hr, h2.trans hg, h3, p, h4.keep h3.1 hg, ExIs.grownN (by have := h3.2; omega) hg h5⟩
def oneD (n : Nat) (E : Rf Ex) : Rf Ex := fun l => if n ≤ 12 then oneF E l else none
theorem one_num {E : Rf Ex} {l : List KT} (h : (hdT l).1 = 2) : oneF E l = (numF l).map fun x => (.node 1 x.1 ⟨#[]⟩ .nil .nil, x.2) := by unfold oneF; rw [if_pos h]
theorem one_txt {E : Rf Ex} {l : List KT} (h2 : (hdT l).1 = 3) : oneF E l = (textF l).map fun x => (.node 1 x.1 ⟨#[]⟩ .nil .nil, x.2) := by unfold oneF; rw [if_neg (by omega), if_pos h2]
theorem one_nul {E : Rf Ex} {l : List KT} (h1 : (hdT l).1 ≠ 2) (h2 : (hdT l).1 ≠ 3) (h : isT ⟨#[110, 117, 108, 108]⟩ l = true) : oneF E l = some (.node 1 .none ⟨#[]⟩ .nil .nil, l.tail) := by unfold oneF; rw [if_neg h1, if_neg h2, if_pos h]
theorem one_par {E : Rf Ex} {l : List KT} (h1 : (hdT l).1 ≠ 2) (h2 : (hdT l).1 ≠ 3) (h3 : isT ⟨#[110, 117, 108, 108]⟩ l = false) (h : isT ⟨#[40]⟩ l = true) : oneF E l = insideF E l := by
  unfold oneF insideF needF
  rw [if_neg h1, if_neg h2, if_neg (by rw [h3]; decide), if_pos h, if_pos h]; rfl
theorem one_col {E : Rf Ex} {l : List KT} (h1 : (hdT l).1 ≠ 2) (h2 : (hdT l).1 ≠ 3) (h3 : isT ⟨#[110, 117, 108, 108]⟩ l = false) (h4 : isT ⟨#[40]⟩ l = false) : oneF E l = colF l := by
  unfold oneF; rw [if_neg h1, if_neg h2, if_neg (by rw [h3]; decide), if_neg (by rw [h4]; decide)]
theorem col_no {l : List KT} (h : nameB l = false) : colF l = none := by unfold colF nameF; rw [if_neg (by rw [h]; simp)]; rfl
end Go.Proofs.YtmabfbffpedfnaaGreatDoor
attribute [local go_sem ↓] Go.wp_at_zero Go.wp_at_succ
namespace Go.Proofs.YtmabfbffpedfnaaGreatDoor
open Go.RowKit

set_option maxRecDepth 100000 in
set_option maxHeartbeats 32000000 in
theorem one_n (hPI : PIntSpec) {E : Rf Ex} {n : Nat} (hn13 : n ≤ 13) (hE : n ≤ 12 → ESpec E (n + 1)) (hEr : Reads E) (A : Nat) (l : List KT) (w : World) (h : RdIs A l w) (hc : (hdT l).1 = 2) : Calls Tryz.prog 168 #[.pointer (some ⟨A, 0, none⟩), .int .i64 (n : Int)] w fun e w' => Told A (oneD n E l) w e w' := by
  have HE : Hid (PIntSpec ∧ (n ≤ 12 → ESpec E (n + 1)) ∧ Reads E) := ⟨hPI, hE, hEr⟩
  obtain ⟨V, hV⟩ : ∃ V, (w.alloc (.cells #[.pointer (some ⟨A, 0, none⟩)] 117)).alloc (.cells #[.int .i64 (n : Int)] 3) = V := ⟨_, rfl⟩
  have hVb : Below w.heap.size w V := by rw [← hV]; exact ((Below.refl _ _).alloc (Nat.le_refl _) _).alloc (by simp) _
  have hbx : BoxAt A w.heap.size (w.heap.size + 1) n V := by rw [← hV]; exact box_new n h.lt
  have HV : Hid (RdIs A l V ∧ BoxAt A w.heap.size (w.heap.size + 1) n V ∧ w.grownBy V (some A) ∧ A < w.heap.size) := ⟨h.below hVb, hbx, grown_of_belowA hVb _, h.lt⟩
  have HBx : Hid (∀ wx, V.grownBy wx (some A) → wx.cell? ⟨w.heap.size, 0, none⟩ = some (.pointer (some ⟨A, 0, none⟩)) ∧ wx.cell? ⟨w.heap.size + 1, 0, none⟩ = some (.int .i64 (n : Int))) := fun wx hg => ⟨(hbx.grown hg).cx, (hbx.grown hg).cy⟩
  obtain ⟨q0, hq0⟩ : ∃ q0, w.heap.size - 1 = q0 := ⟨_, rfl⟩
  have HQ : Hid (q0 < w.heap.size) := by have := h.lt; show _ < _; omega
  have HQe : Hid (w.heap.size - 1 = q0) := hq0
  obtain ⟨R, hR⟩ : ∃ R, oneD n E l = R := ⟨_, rfl⟩
  have HR : Hid ((n ≤ 12 → oneF E l = R) ∧ (¬ n ≤ 12 → R = none)) := by
    rw [← hR]; unfold oneD
    exact ⟨fun h => (if_pos h).symm, fun h => if_neg h⟩
  unfold Told
  rw [hR, hq0]
  generalize hk : (hdT l).1 = k
  generalize ht : (hdT l).2 = t
  have HK : Hid ((hdT l).1 = k ∧ (hdT l).2 = t) := ⟨hk, ht⟩
  obtain ⟨b1, hb1⟩ : ∃ b, isT ⟨#[40]⟩ l = b := ⟨_, rfl⟩
  obtain ⟨b2, hb2⟩ : ∃ b, isT ⟨#[110, 117, 108, 108]⟩ l = b := ⟨_, rfl⟩
  obtain ⟨b5, hb5⟩ : ∃ b, nameB l = b := ⟨_, rfl⟩
  have HT : Hid (isT ⟨#[40]⟩ l = b1 ∧ isT ⟨#[110, 117, 108, 108]⟩ l = b2 ∧ nameB l = b5) := ⟨hb1, hb2, hb5⟩
  have h1 := hbx.cx
  have h2 := hbx.cy
  have hn13' : (n : Int) ≤ 13 := by omega
  have hf := field0 k
  have hka : b1 = true → k = 1 ∨ k = 4 := fun e => by rw [← hk]; exact (isT_k (by rw [hb1, e])).1
  have hkb : b2 = true → k = 1 ∨ k = 4 := fun e => by rw [← hk]; exact (isT_k (by rw [hb2, e])).1
  have hkc : b5 = true → k = 1 := fun e => by
    rw [e] at hb5
    simp only [nameB, Bool.and_eq_true, decide_eq_true_eq] at hb5
    rw [← hk]; exact hb5.1
  have hkd : b1 = true → b2 = false := fun e => by
    cases hh : b2 with
    | false => rfl
    | true =>
      have e1 := (isT_k (by rw [hb1, e])).2
      have e2 := (isT_k (by rw [hb2, hh])).2
      rw [e1] at e2
      exact absurd e2 (by decide)
  have hAw := h.lt
  clear h hPI hE hEr hbx hVb hR hq0 hk ht hb1 hb2 hb5
  go_enter Tryz.func168, Tryz.ntmps168
  go_wp2_with fail
  refine (now_any A l V HV.out.1).mono ?_
  rintro _ w1 ⟨⟨p, rfl⟩, hb1⟩
  rw [HK.out.1, HK.out.2]
  have HB : Hid (Below V.heap.size V w1) := hb1
  have HG0 : Hid (∀ wx, Below V.heap.size V wx → V.grownBy wx (some A) ∧ RdIs A l wx) := fun wx hb => ⟨grown_of_belowA hb _, HV.out.1.below hb⟩
  obtain ⟨c1, c2⟩ := HBx.out w1 (grown_of_belowA hb1 _)
  clear hb1 h1 h2 hV
  generalize hWB : w.heap.size = B at *
  have hk2 : k = 2 := by rw [← HK.out.1]; exact hc
  subst hk2
  obtain rfl : b1 = false := by cases hb : b1; rfl; have := hka hb; omega
  obtain rfl : b2 = false := by cases hb : b2; rfl; have := hkb hb; omega
  clear hka hkb hkc hkd
  clear hc
  go_wp2_with fail
  have HB : Hid (Below V.heap.size V w1.drew) := HB.out.drew
  have HC : Hid (w.heap.size = B ∧ A < B ∧ n ≤ 13 ∧ (n : Int) ≤ 13) := ⟨hWB, hAw, hn13, hn13'⟩
  clear hWB hAw hn13' hf hn13
  refine wp_region_held_drew (S := fun w' => w'.cell? ⟨B, 0, none⟩ = some (.pointer (some ⟨A, 0, none⟩))) (by kernel_rfl) (HBx.out _ (HG0.out _ HB.out).1).1 (fun hHeld => ?_)
  refine wpAnyH_take (i := 0) (oi := { dst := some 10, op := Op.load 117 (Operand.tmp 2), type := 117, pos := "expr.go:71", after := #[], guard := none }) (v := (.pointer (some ⟨A, 0, none⟩))) rfl (by kernel_rfl) (by kernel_rfl) (by kernel_rfl) (fun _ _ _ h => h) (Or.inl ⟨by rfl, fun w' hSw => ?_⟩) hHeld ?_
  · (try dsimp only at hSw)
    go_simp
  simp only [Act.put, List.setIfInBounds_toArray, List.set_cons_zero, List.set_cons_succ]
  refine wpAnyH_take (i := 1) (oi := { dst := some 11, op := Op.load 117 (Operand.tmp 2), type := 117, pos := "expr.go:71", after := #[], guard := none }) (v := (.pointer (some ⟨A, 0, none⟩))) rfl (by kernel_rfl) (by kernel_rfl) (by kernel_rfl) (fun _ _ _ h => h) (Or.inl ⟨by rfl, fun w' hSw => ?_⟩) hHeld ?_
  · (try dsimp only at hSw)
    go_simp
  simp only [Act.put, List.setIfInBounds_toArray, List.set_cons_zero, List.set_cons_succ]
  refine wpAnyH_ready (rs := [2]) (by kernel_rfl) (by simp) ?_
  refine AllReadyH.cons (o := { dst := some 12, op := Op.call { callee := Callee.value (Operand.func 91), args := #[Operand.tmp 11, Operand.const (Value.string { data := #[40] })], argTypes := #[117, 9] }, type := 4, pos := "expr.go:71", after := #[{ on := 1, ground := Ground.data }], guard := none }) rfl (fun K hK => ?_) AllReadyH.nil
  clear hHeld
  go_simp
  refine (is_any A l _ false HT.out.1 _ (HG0.out _ HB.out).2).mono ?_
  rintro _ w10 ⟨rfl, hb10⟩
  have HB : Hid (Below V.heap.size V w10) := HB.out.trans (hb10.mono HB.out.size)
  clear hb10
  go_simp
  refine hK.out _ _ (HBx.out _ (HG0.out _ HB.out).1).1 (fun hHeld => ?_)
  clear hK K
  refine wpAnyH_take (i := 3) (oi := { dst := some 13, op := Op.move (Operand.tmp 12), type := 4, pos := "expr.go:71", after := #[{ on := 2, ground := Ground.data }, { on := 2, ground := Ground.chain }], guard := none }) (v := (.bool false)) rfl (by kernel_rfl) (by kernel_rfl) (by kernel_rfl) (fun _ _ _ h => h) (Or.inl ⟨by rfl, fun w' hSw => ?_⟩) hHeld ?_
  · (try dsimp only at hSw)
    go_simp
  simp only [Act.put, List.setIfInBounds_toArray, List.set_cons_zero, List.set_cons_succ]
  refine wpAnyH_take (i := 4) (oi := { dst := some 14, op := Op.load 117 (Operand.tmp 2), type := 117, pos := "expr.go:71", after := #[{ on := 3, ground := Ground.guard }], guard := some (3, false) }) (v := (.pointer (some ⟨A, 0, none⟩))) rfl (by kernel_rfl) (by kernel_rfl) (by kernel_rfl) (fun _ _ _ h => h) (Or.inl ⟨by rfl, fun w' hSw => ?_⟩) hHeld ?_
  · (try dsimp only at hSw)
    go_simp
  simp only [Act.put, List.setIfInBounds_toArray, List.set_cons_zero, List.set_cons_succ]
  refine wpAnyH_ready (rs := [5]) (by kernel_rfl) (by simp) ?_
  refine AllReadyH.cons (o := { dst := some 15, op := Op.call { callee := Callee.value (Operand.func 91), args := #[Operand.tmp 14, Operand.const (Value.string { data := #[110, 117, 108, 108] })], argTypes := #[117, 9] }, type := 4, pos := "expr.go:71", after := #[{ on := 4, ground := Ground.data }, { on := 3, ground := Ground.chain }, { on := 3, ground := Ground.guard }], guard := some (3, false) }) rfl (fun K hK => ?_) AllReadyH.nil
  clear hHeld
  go_simp
  refine (is_any A l _ false HT.out.2.1 _ (HG0.out _ HB.out).2).mono ?_
  rintro _ w11 ⟨rfl, hb10⟩
  have HB : Hid (Below V.heap.size V w11) := HB.out.trans (hb10.mono HB.out.size)
  clear hb10
  go_simp
  refine hK.out _ _ (HBx.out _ (HG0.out _ HB.out).1).1 (fun hHeld => ?_)
  clear hK K
  refine wpAnyH_take (i := 6) (oi := { dst := some 16, op := Op.pick (Operand.tmp 13) (Operand.const (Value.bool true)) (Operand.tmp 15), type := 4, pos := "expr.go:71", after := #[{ on := 3, ground := Ground.data }, { on := 5, ground := Ground.data }], guard := none }) (v := (.bool false)) rfl (by kernel_rfl) (by kernel_rfl) (by kernel_rfl) (fun _ _ _ h => h) (Or.inl ⟨by rfl, fun w' hSw => ?_⟩) hHeld ?_
  · (try dsimp only at hSw)
    go_simp
  simp only [Act.put, List.setIfInBounds_toArray, List.set_cons_zero, List.set_cons_succ]
  refine wpAnyH_take (i := 7) (oi := { dst := some 17, op := Op.move (Operand.tmp 16), type := 4, pos := "expr.go:71", after := #[{ on := 6, ground := Ground.data }, { on := 5, ground := Ground.chain }], guard := none }) (v := (.bool false)) rfl (by kernel_rfl) (by kernel_rfl) (by kernel_rfl) (fun _ _ _ h => h) (Or.inl ⟨by rfl, fun w' hSw => ?_⟩) hHeld ?_
  · (try dsimp only at hSw)
    go_simp
  simp only [Act.put, List.setIfInBounds_toArray, List.set_cons_zero, List.set_cons_succ]
  refine wpAnyH_take (i := 8) (oi := { dst := some 18, op := Op.move (Operand.tmp 5), type := 3, pos := "expr.go:71", after := #[{ on := 7, ground := Ground.guard }], guard := some (7, false) }) (v := (.int .i64 2)) rfl (by kernel_rfl) (by kernel_rfl) (by kernel_rfl) (fun _ _ _ h => h) (Or.inl ⟨by rfl, fun w' hSw => ?_⟩) hHeld ?_
  · (try dsimp only at hSw)
    go_simp
  simp only [Act.put, List.setIfInBounds_toArray, List.set_cons_zero, List.set_cons_succ]
  refine wpAnyH_take (i := 9) (oi := { dst := some 19, op := Op.binOp BinOp.eql 3 (Operand.tmp 18) (Operand.const (Value.int IntKind.i64 2)) 3, type := 4, pos := "expr.go:71", after := #[{ on := 8, ground := Ground.data }, { on := 7, ground := Ground.guard }], guard := some (7, false) }) (v := (.bool true)) rfl (by kernel_rfl) (by kernel_rfl) (by kernel_rfl) (fun _ _ _ h => h) (Or.inl ⟨by rfl, fun w' hSw => ?_⟩) hHeld ?_
  · (try dsimp only at hSw)
    go_simp
  simp only [Act.put, List.setIfInBounds_toArray, List.set_cons_zero, List.set_cons_succ]
  refine wpAnyH_take (i := 10) (oi := { dst := some 20, op := Op.pick (Operand.tmp 17) (Operand.const (Value.bool true)) (Operand.tmp 19), type := 4, pos := "expr.go:71", after := #[{ on := 7, ground := Ground.data }, { on := 9, ground := Ground.data }], guard := none }) (v := (.bool true)) rfl (by kernel_rfl) (by kernel_rfl) (by kernel_rfl) (fun _ _ _ h => h) (Or.inl ⟨by rfl, fun w' hSw => ?_⟩) hHeld ?_
  · (try dsimp only at hSw)
    go_simp
  simp only [Act.put, List.setIfInBounds_toArray, List.set_cons_zero, List.set_cons_succ]
  refine wpAnyH_take (i := 11) (oi := { dst := some 21, op := Op.move (Operand.tmp 20), type := 4, pos := "expr.go:71", after := #[{ on := 10, ground := Ground.data }, { on := 7, ground := Ground.chain }], guard := none }) (v := (.bool true)) rfl (by kernel_rfl) (by kernel_rfl) (by kernel_rfl) (fun _ _ _ h => h) (Or.inl ⟨by rfl, fun w' hSw => ?_⟩) hHeld ?_
  · (try dsimp only at hSw)
    go_simp
  simp only [Act.put, List.setIfInBounds_toArray, List.set_cons_zero, List.set_cons_succ]
  refine wpAnyH_take (i := 12) (oi := { dst := some 22, op := Op.move (Operand.tmp 5), type := 3, pos := "expr.go:71", after := #[{ on := 11, ground := Ground.guard }], guard := some (11, false) }) (v := undef) rfl (by kernel_rfl) (by kernel_rfl) (by kernel_rfl) (fun _ _ _ h => h) (Or.inr ⟨by rfl, rfl⟩) hHeld ?_
  simp only [Act.put, List.setIfInBounds_toArray, List.set_cons_zero, List.set_cons_succ]
  refine wpAnyH_take (i := 13) (oi := { dst := some 23, op := Op.binOp BinOp.eql 3 (Operand.tmp 22) (Operand.const (Value.int IntKind.i64 3)) 3, type := 4, pos := "expr.go:71", after := #[{ on := 12, ground := Ground.data }, { on := 11, ground := Ground.guard }], guard := some (11, false) }) (v := undef) rfl (by kernel_rfl) (by kernel_rfl) (by kernel_rfl) (fun _ _ _ h => h) (Or.inr ⟨by rfl, rfl⟩) hHeld ?_
  simp only [Act.put, List.setIfInBounds_toArray, List.set_cons_zero, List.set_cons_succ]
  refine wpAnyH_take (i := 14) (oi := { dst := some 24, op := Op.pick (Operand.tmp 21) (Operand.const (Value.bool true)) (Operand.tmp 23), type := 4, pos := "expr.go:71", after := #[{ on := 11, ground := Ground.data }, { on := 13, ground := Ground.data }], guard := none }) (v := (.bool true)) rfl (by kernel_rfl) (by kernel_rfl) (by kernel_rfl) (fun _ _ _ h => h) (Or.inl ⟨by rfl, fun w' hSw => ?_⟩) hHeld ?_
  · (try dsimp only at hSw)
    go_simp
  simp only [Act.put, List.setIfInBounds_toArray, List.set_cons_zero, List.set_cons_succ]
  refine wpAnyH_take (i := 15) (oi := { dst := some 25, op := Op.move (Operand.tmp 24), type := 4, pos := "expr.go:71", after := #[{ on := 14, ground := Ground.data }, { on := 11, ground := Ground.chain }], guard := none }) (v := (.bool true)) rfl (by kernel_rfl) (by kernel_rfl) (by kernel_rfl) (fun _ _ _ h => h) (Or.inl ⟨by rfl, fun w' hSw => ?_⟩) hHeld ?_
  · (try dsimp only at hSw)
    go_simp
  simp only [Act.put, List.setIfInBounds_toArray, List.set_cons_zero, List.set_cons_succ]
  refine wpAnyH_take (i := 16) (oi := { dst := some 26, op := Op.load 117 (Operand.tmp 2), type := 117, pos := "expr.go:71", after := #[{ on := 15, ground := Ground.guard }], guard := some (15, false) }) (v := undef) rfl (by kernel_rfl) (by kernel_rfl) (by kernel_rfl) (fun _ _ _ h => h) (Or.inr ⟨by rfl, rfl⟩) hHeld ?_
  simp only [Act.put, List.setIfInBounds_toArray, List.set_cons_zero, List.set_cons_succ]
  refine wpAnyH_take (i := 17) (oi := { dst := some 27, op := Op.call { callee := Callee.value (Operand.func 103), args := #[Operand.tmp 26], argTypes := #[117] }, type := 4, pos := "expr.go:71", after := #[{ on := 16, ground := Ground.data }, { on := 15, ground := Ground.chain }, { on := 15, ground := Ground.guard }], guard := some (15, false) }) (v := undef) rfl (by kernel_rfl) (by kernel_rfl) (by kernel_rfl) (fun _ _ _ h => h) (Or.inr ⟨by rfl, rfl⟩) hHeld ?_
  simp only [Act.put, List.setIfInBounds_toArray, List.set_cons_zero, List.set_cons_succ]
  refine wpAnyH_take (i := 18) (oi := { dst := some 28, op := Op.pick (Operand.tmp 25) (Operand.const (Value.bool true)) (Operand.tmp 27), type := 4, pos := "expr.go:71", after := #[{ on := 15, ground := Ground.data }, { on := 17, ground := Ground.data }], guard := none }) (v := (.bool true)) rfl (by kernel_rfl) (by kernel_rfl) (by kernel_rfl) (fun _ _ _ h => h) (Or.inl ⟨by rfl, fun w' hSw => ?_⟩) hHeld ?_
  · (try dsimp only at hSw)
    go_simp
  simp only [Act.put, List.setIfInBounds_toArray, List.set_cons_zero, List.set_cons_succ]
  refine wpAnyH_ready (rs := [19]) (by kernel_rfl) (by simp) ?_
  refine AllReadyH.cons (o := { dst := some 29, op := Op.call { callee := Callee.value (Operand.func 68), args := #[Operand.tmp 10, Operand.tmp 28], argTypes := #[117, 4] }, type := 0, pos := "expr.go:71", after := #[{ on := 0, ground := Ground.data }, { on := 18, ground := Ground.data }, { on := 17, ground := Ground.chain }], guard := none }) rfl (fun K hK => ?_) AllReadyH.nil
  clear hHeld
  go_simp
  refine (must_yes A _).mono ?_
  rintro _ w12 ⟨rfl, hw12⟩
  subst hw12
  go_simp
  refine hK.out _ _ (HBx.out _ (HG0.out _ HB.out).1).1 (fun hHeld => ?_)
  clear hK K
  refine wpAnyH_done (by kernel_rfl) ?_ _
  obtain ⟨y1, y2⟩ := HBx.out _ (HG0.out _ HB.out).1
  have hWB := HC.out.1
  obtain rfl := hWB
  clear c1 c2
  go_wp2_with fail
  by_cases hn : n ≤ 12
  · refine (most_yes A (n : Int) 12 (by omega) _).mono ?_
    rintro _ w3 ⟨rfl, hw3⟩
    subst hw3
    have H3 : Hid (RdIs A l w3 ∧ w.grownBy w3 (some A) ∧ BoxAt A w.heap.size (w.heap.size + 1) n w3) := ⟨(HG0.out _ HB.out).2, HV.out.2.2.1.trans (HG0.out _ HB.out).1, HV.out.2.1.grown (HG0.out _ HB.out).1⟩
    have HR3 : Hid (oneF E l = R) := HR.out.1 hn
    clear hn
    go_wp2_with fail
    refine (number_any HE.out.1 A l HK.out.1 w3 H3.out.1).mono ?_
    rintro _ w4 ⟨hg4, ⟨v4, l4, hs4, rfl, hr4⟩ | ⟨hs4, n1, m1, rfl⟩⟩
    · have HB4 : Hid _ := box_told (w0 := w) HQ.out 1 v4 ⟨#[]⟩ none none .nil .nil hr4 (exNil _ _) (exNil _ _) (H3.out.2.1.trans hg4)
      have HR4 : Hid (R = some (.node 1 v4 ⟨#[]⟩ .nil .nil, l4)) := by show _ = _; rw [← HR3.out, one_num HK.out.1, hs4]; rfl
      clear hs4 hr4 hg4
      go_wp2
      go_ret
      exact ⟨HB4.out.1, .inl ⟨_, _, _, HR4.out, rfl, HB4.out.2.1, HB4.out.2.2⟩⟩
    · have HR4 : Hid (R = none ∧ w.grownBy w4 (some A)) := ⟨by rw [← HR3.out, one_num HK.out.1, hs4]; rfl, H3.out.2.1.trans hg4⟩
      clear hs4 hg4
      go_wp2
      exact ⟨by first | rfl | trivial, HR4.out.2, .inr ⟨HR4.out.1, n1, m1, rfl⟩⟩
  · refine (most_no A l (n : Int) 12 (by omega) _ (HG0.out _ HB.out).2).mono ?_
    rintro _ w4 ⟨⟨n1, m1, rfl⟩, hb4⟩
    have HG : Hid (w.grownBy w4 (some A) ∧ R = none) := ⟨(HV.out.2.2.1.trans (HG0.out _ HB.out).1).trans (grown_of_belowA hb4 _), HR.out.2 hn⟩
    clear hb4
    go_wp2
    exact ⟨by first | rfl | trivial, HG.out.1, .inr ⟨HG.out.2, n1, m1, rfl⟩⟩
end Go.Proofs.YtmabfbffpedfnaaGreatDoor
attribute [local go_sem ↓] Go.wp_at_zero Go.wp_at_succ
namespace Go.Proofs.YtmabfbffpedfnaaGreatDoor
open Go.RowKit

set_option maxRecDepth 100000 in
set_option maxHeartbeats 32000000 in
theorem one_x (hPI : PIntSpec) {E : Rf Ex} {n : Nat} (hn13 : n ≤ 13) (hE : n ≤ 12 → ESpec E (n + 1)) (hEr : Reads E) (A : Nat) (l : List KT) (w : World) (h : RdIs A l w) (hc : (hdT l).1 = 3) : Calls Tryz.prog 168 #[.pointer (some ⟨A, 0, none⟩), .int .i64 (n : Int)] w fun e w' => Told A (oneD n E l) w e w' := by
  have HE : Hid (PIntSpec ∧ (n ≤ 12 → ESpec E (n + 1)) ∧ Reads E) := ⟨hPI, hE, hEr⟩
  obtain ⟨V, hV⟩ : ∃ V, (w.alloc (.cells #[.pointer (some ⟨A, 0, none⟩)] 117)).alloc (.cells #[.int .i64 (n : Int)] 3) = V := ⟨_, rfl⟩
  have hVb : Below w.heap.size w V := by rw [← hV]; exact ((Below.refl _ _).alloc (Nat.le_refl _) _).alloc (by simp) _
  have hbx : BoxAt A w.heap.size (w.heap.size + 1) n V := by rw [← hV]; exact box_new n h.lt
  have HV : Hid (RdIs A l V ∧ BoxAt A w.heap.size (w.heap.size + 1) n V ∧ w.grownBy V (some A) ∧ A < w.heap.size) := ⟨h.below hVb, hbx, grown_of_belowA hVb _, h.lt⟩
  have HBx : Hid (∀ wx, V.grownBy wx (some A) → wx.cell? ⟨w.heap.size, 0, none⟩ = some (.pointer (some ⟨A, 0, none⟩)) ∧ wx.cell? ⟨w.heap.size + 1, 0, none⟩ = some (.int .i64 (n : Int))) := fun wx hg => ⟨(hbx.grown hg).cx, (hbx.grown hg).cy⟩
  obtain ⟨q0, hq0⟩ : ∃ q0, w.heap.size - 1 = q0 := ⟨_, rfl⟩
  have HQ : Hid (q0 < w.heap.size) := by have := h.lt; show _ < _; omega
  have HQe : Hid (w.heap.size - 1 = q0) := hq0
  obtain ⟨R, hR⟩ : ∃ R, oneD n E l = R := ⟨_, rfl⟩
  have HR : Hid ((n ≤ 12 → oneF E l = R) ∧ (¬ n ≤ 12 → R = none)) := by
    rw [← hR]; unfold oneD
    exact ⟨fun h => (if_pos h).symm, fun h => if_neg h⟩
  unfold Told
  rw [hR, hq0]
  generalize hk : (hdT l).1 = k
  generalize ht : (hdT l).2 = t
  have HK : Hid ((hdT l).1 = k ∧ (hdT l).2 = t) := ⟨hk, ht⟩
  obtain ⟨b1, hb1⟩ : ∃ b, isT ⟨#[40]⟩ l = b := ⟨_, rfl⟩
  obtain ⟨b2, hb2⟩ : ∃ b, isT ⟨#[110, 117, 108, 108]⟩ l = b := ⟨_, rfl⟩
  obtain ⟨b5, hb5⟩ : ∃ b, nameB l = b := ⟨_, rfl⟩
  have HT : Hid (isT ⟨#[40]⟩ l = b1 ∧ isT ⟨#[110, 117, 108, 108]⟩ l = b2 ∧ nameB l = b5) := ⟨hb1, hb2, hb5⟩
  have h1 := hbx.cx
  have h2 := hbx.cy
  have hn13' : (n : Int) ≤ 13 := by omega
  have hf := field0 k
  have hka : b1 = true → k = 1 ∨ k = 4 := fun e => by rw [← hk]; exact (isT_k (by rw [hb1, e])).1
  have hkb : b2 = true → k = 1 ∨ k = 4 := fun e => by rw [← hk]; exact (isT_k (by rw [hb2, e])).1
  have hkc : b5 = true → k = 1 := fun e => by
    rw [e] at hb5
    simp only [nameB, Bool.and_eq_true, decide_eq_true_eq] at hb5
    rw [← hk]; exact hb5.1
  have hkd : b1 = true → b2 = false := fun e => by
    cases hh : b2 with
    | false => rfl
    | true =>
      have e1 := (isT_k (by rw [hb1, e])).2
      have e2 := (isT_k (by rw [hb2, hh])).2
      rw [e1] at e2
      exact absurd e2 (by decide)
  have hAw := h.lt
  clear h hPI hE hEr hbx hVb hR hq0 hk ht hb1 hb2 hb5
  go_enter Tryz.func168, Tryz.ntmps168
  go_wp2_with fail
  refine (now_any A l V HV.out.1).mono ?_
  rintro _ w1 ⟨⟨p, rfl⟩, hb1⟩
  rw [HK.out.1, HK.out.2]
  have HB : Hid (Below V.heap.size V w1) := hb1
  have HG0 : Hid (∀ wx, Below V.heap.size V wx → V.grownBy wx (some A) ∧ RdIs A l wx) := fun wx hb => ⟨grown_of_belowA hb _, HV.out.1.below hb⟩
  obtain ⟨c1, c2⟩ := HBx.out w1 (grown_of_belowA hb1 _)
  clear hb1 h1 h2 hV
  generalize hWB : w.heap.size = B at *
  have hk2 : k = 3 := by rw [← HK.out.1]; exact hc
  subst hk2
  obtain rfl : b1 = false := by cases hb : b1; rfl; have := hka hb; omega
  obtain rfl : b2 = false := by cases hb : b2; rfl; have := hkb hb; omega
  clear hka hkb hkc hkd
  clear hc
  go_wp2_with fail
  have HB : Hid (Below V.heap.size V w1.drew) := HB.out.drew
  have HC : Hid (w.heap.size = B ∧ A < B ∧ n ≤ 13 ∧ (n : Int) ≤ 13) := ⟨hWB, hAw, hn13, hn13'⟩
  clear hWB hAw hn13' hf hn13
  refine wp_region_held_drew (S := fun w' => w'.cell? ⟨B, 0, none⟩ = some (.pointer (some ⟨A, 0, none⟩))) (by kernel_rfl) (HBx.out _ (HG0.out _ HB.out).1).1 (fun hHeld => ?_)
  refine wpAnyH_take (i := 0) (oi := { dst := some 10, op := Op.load 117 (Operand.tmp 2), type := 117, pos := "expr.go:71", after := #[], guard := none }) (v := (.pointer (some ⟨A, 0, none⟩))) rfl (by kernel_rfl) (by kernel_rfl) (by kernel_rfl) (fun _ _ _ h => h) (Or.inl ⟨by rfl, fun w' hSw => ?_⟩) hHeld ?_
  · (try dsimp only at hSw)
    go_simp
  simp only [Act.put, List.setIfInBounds_toArray, List.set_cons_zero, List.set_cons_succ]
  refine wpAnyH_take (i := 1) (oi := { dst := some 11, op := Op.load 117 (Operand.tmp 2), type := 117, pos := "expr.go:71", after := #[], guard := none }) (v := (.pointer (some ⟨A, 0, none⟩))) rfl (by kernel_rfl) (by kernel_rfl) (by kernel_rfl) (fun _ _ _ h => h) (Or.inl ⟨by rfl, fun w' hSw => ?_⟩) hHeld ?_
  · (try dsimp only at hSw)
    go_simp
  simp only [Act.put, List.setIfInBounds_toArray, List.set_cons_zero, List.set_cons_succ]
  refine wpAnyH_ready (rs := [2]) (by kernel_rfl) (by simp) ?_
  refine AllReadyH.cons (o := { dst := some 12, op := Op.call { callee := Callee.value (Operand.func 91), args := #[Operand.tmp 11, Operand.const (Value.string { data := #[40] })], argTypes := #[117, 9] }, type := 4, pos := "expr.go:71", after := #[{ on := 1, ground := Ground.data }], guard := none }) rfl (fun K hK => ?_) AllReadyH.nil
  clear hHeld
  go_simp
  refine (is_any A l _ false HT.out.1 _ (HG0.out _ HB.out).2).mono ?_
  rintro _ w10 ⟨rfl, hb10⟩
  have HB : Hid (Below V.heap.size V w10) := HB.out.trans (hb10.mono HB.out.size)
  clear hb10
  go_simp
  refine hK.out _ _ (HBx.out _ (HG0.out _ HB.out).1).1 (fun hHeld => ?_)
  clear hK K
  refine wpAnyH_take (i := 3) (oi := { dst := some 13, op := Op.move (Operand.tmp 12), type := 4, pos := "expr.go:71", after := #[{ on := 2, ground := Ground.data }, { on := 2, ground := Ground.chain }], guard := none }) (v := (.bool false)) rfl (by kernel_rfl) (by kernel_rfl) (by kernel_rfl) (fun _ _ _ h => h) (Or.inl ⟨by rfl, fun w' hSw => ?_⟩) hHeld ?_
  · (try dsimp only at hSw)
    go_simp
  simp only [Act.put, List.setIfInBounds_toArray, List.set_cons_zero, List.set_cons_succ]
  refine wpAnyH_take (i := 4) (oi := { dst := some 14, op := Op.load 117 (Operand.tmp 2), type := 117, pos := "expr.go:71", after := #[{ on := 3, ground := Ground.guard }], guard := some (3, false) }) (v := (.pointer (some ⟨A, 0, none⟩))) rfl (by kernel_rfl) (by kernel_rfl) (by kernel_rfl) (fun _ _ _ h => h) (Or.inl ⟨by rfl, fun w' hSw => ?_⟩) hHeld ?_
  · (try dsimp only at hSw)
    go_simp
  simp only [Act.put, List.setIfInBounds_toArray, List.set_cons_zero, List.set_cons_succ]
  refine wpAnyH_ready (rs := [5]) (by kernel_rfl) (by simp) ?_
  refine AllReadyH.cons (o := { dst := some 15, op := Op.call { callee := Callee.value (Operand.func 91), args := #[Operand.tmp 14, Operand.const (Value.string { data := #[110, 117, 108, 108] })], argTypes := #[117, 9] }, type := 4, pos := "expr.go:71", after := #[{ on := 4, ground := Ground.data }, { on := 3, ground := Ground.chain }, { on := 3, ground := Ground.guard }], guard := some (3, false) }) rfl (fun K hK => ?_) AllReadyH.nil
  clear hHeld
  go_simp
  refine (is_any A l _ false HT.out.2.1 _ (HG0.out _ HB.out).2).mono ?_
  rintro _ w11 ⟨rfl, hb10⟩
  have HB : Hid (Below V.heap.size V w11) := HB.out.trans (hb10.mono HB.out.size)
  clear hb10
  go_simp
  refine hK.out _ _ (HBx.out _ (HG0.out _ HB.out).1).1 (fun hHeld => ?_)
  clear hK K
  refine wpAnyH_take (i := 6) (oi := { dst := some 16, op := Op.pick (Operand.tmp 13) (Operand.const (Value.bool true)) (Operand.tmp 15), type := 4, pos := "expr.go:71", after := #[{ on := 3, ground := Ground.data }, { on := 5, ground := Ground.data }], guard := none }) (v := (.bool false)) rfl (by kernel_rfl) (by kernel_rfl) (by kernel_rfl) (fun _ _ _ h => h) (Or.inl ⟨by rfl, fun w' hSw => ?_⟩) hHeld ?_
  · (try dsimp only at hSw)
    go_simp
  simp only [Act.put, List.setIfInBounds_toArray, List.set_cons_zero, List.set_cons_succ]
  refine wpAnyH_take (i := 7) (oi := { dst := some 17, op := Op.move (Operand.tmp 16), type := 4, pos := "expr.go:71", after := #[{ on := 6, ground := Ground.data }, { on := 5, ground := Ground.chain }], guard := none }) (v := (.bool false)) rfl (by kernel_rfl) (by kernel_rfl) (by kernel_rfl) (fun _ _ _ h => h) (Or.inl ⟨by rfl, fun w' hSw => ?_⟩) hHeld ?_
  · (try dsimp only at hSw)
    go_simp
  simp only [Act.put, List.setIfInBounds_toArray, List.set_cons_zero, List.set_cons_succ]
  refine wpAnyH_take (i := 8) (oi := { dst := some 18, op := Op.move (Operand.tmp 5), type := 3, pos := "expr.go:71", after := #[{ on := 7, ground := Ground.guard }], guard := some (7, false) }) (v := (.int .i64 3)) rfl (by kernel_rfl) (by kernel_rfl) (by kernel_rfl) (fun _ _ _ h => h) (Or.inl ⟨by rfl, fun w' hSw => ?_⟩) hHeld ?_
  · (try dsimp only at hSw)
    go_simp
  simp only [Act.put, List.setIfInBounds_toArray, List.set_cons_zero, List.set_cons_succ]
  refine wpAnyH_take (i := 9) (oi := { dst := some 19, op := Op.binOp BinOp.eql 3 (Operand.tmp 18) (Operand.const (Value.int IntKind.i64 2)) 3, type := 4, pos := "expr.go:71", after := #[{ on := 8, ground := Ground.data }, { on := 7, ground := Ground.guard }], guard := some (7, false) }) (v := (.bool false)) rfl (by kernel_rfl) (by kernel_rfl) (by kernel_rfl) (fun _ _ _ h => h) (Or.inl ⟨by rfl, fun w' hSw => ?_⟩) hHeld ?_
  · (try dsimp only at hSw)
    go_simp
  simp only [Act.put, List.setIfInBounds_toArray, List.set_cons_zero, List.set_cons_succ]
  refine wpAnyH_take (i := 10) (oi := { dst := some 20, op := Op.pick (Operand.tmp 17) (Operand.const (Value.bool true)) (Operand.tmp 19), type := 4, pos := "expr.go:71", after := #[{ on := 7, ground := Ground.data }, { on := 9, ground := Ground.data }], guard := none }) (v := (.bool false)) rfl (by kernel_rfl) (by kernel_rfl) (by kernel_rfl) (fun _ _ _ h => h) (Or.inl ⟨by rfl, fun w' hSw => ?_⟩) hHeld ?_
  · (try dsimp only at hSw)
    go_simp
  simp only [Act.put, List.setIfInBounds_toArray, List.set_cons_zero, List.set_cons_succ]
  refine wpAnyH_take (i := 11) (oi := { dst := some 21, op := Op.move (Operand.tmp 20), type := 4, pos := "expr.go:71", after := #[{ on := 10, ground := Ground.data }, { on := 7, ground := Ground.chain }], guard := none }) (v := (.bool false)) rfl (by kernel_rfl) (by kernel_rfl) (by kernel_rfl) (fun _ _ _ h => h) (Or.inl ⟨by rfl, fun w' hSw => ?_⟩) hHeld ?_
  · (try dsimp only at hSw)
    go_simp
  simp only [Act.put, List.setIfInBounds_toArray, List.set_cons_zero, List.set_cons_succ]
  refine wpAnyH_take (i := 12) (oi := { dst := some 22, op := Op.move (Operand.tmp 5), type := 3, pos := "expr.go:71", after := #[{ on := 11, ground := Ground.guard }], guard := some (11, false) }) (v := (.int .i64 3)) rfl (by kernel_rfl) (by kernel_rfl) (by kernel_rfl) (fun _ _ _ h => h) (Or.inl ⟨by rfl, fun w' hSw => ?_⟩) hHeld ?_
  · (try dsimp only at hSw)
    go_simp
  simp only [Act.put, List.setIfInBounds_toArray, List.set_cons_zero, List.set_cons_succ]
  refine wpAnyH_take (i := 13) (oi := { dst := some 23, op := Op.binOp BinOp.eql 3 (Operand.tmp 22) (Operand.const (Value.int IntKind.i64 3)) 3, type := 4, pos := "expr.go:71", after := #[{ on := 12, ground := Ground.data }, { on := 11, ground := Ground.guard }], guard := some (11, false) }) (v := (.bool true)) rfl (by kernel_rfl) (by kernel_rfl) (by kernel_rfl) (fun _ _ _ h => h) (Or.inl ⟨by rfl, fun w' hSw => ?_⟩) hHeld ?_
  · (try dsimp only at hSw)
    go_simp
  simp only [Act.put, List.setIfInBounds_toArray, List.set_cons_zero, List.set_cons_succ]
  refine wpAnyH_take (i := 14) (oi := { dst := some 24, op := Op.pick (Operand.tmp 21) (Operand.const (Value.bool true)) (Operand.tmp 23), type := 4, pos := "expr.go:71", after := #[{ on := 11, ground := Ground.data }, { on := 13, ground := Ground.data }], guard := none }) (v := (.bool true)) rfl (by kernel_rfl) (by kernel_rfl) (by kernel_rfl) (fun _ _ _ h => h) (Or.inl ⟨by rfl, fun w' hSw => ?_⟩) hHeld ?_
  · (try dsimp only at hSw)
    go_simp
  simp only [Act.put, List.setIfInBounds_toArray, List.set_cons_zero, List.set_cons_succ]
  refine wpAnyH_take (i := 15) (oi := { dst := some 25, op := Op.move (Operand.tmp 24), type := 4, pos := "expr.go:71", after := #[{ on := 14, ground := Ground.data }, { on := 11, ground := Ground.chain }], guard := none }) (v := (.bool true)) rfl (by kernel_rfl) (by kernel_rfl) (by kernel_rfl) (fun _ _ _ h => h) (Or.inl ⟨by rfl, fun w' hSw => ?_⟩) hHeld ?_
  · (try dsimp only at hSw)
    go_simp
  simp only [Act.put, List.setIfInBounds_toArray, List.set_cons_zero, List.set_cons_succ]
  refine wpAnyH_take (i := 16) (oi := { dst := some 26, op := Op.load 117 (Operand.tmp 2), type := 117, pos := "expr.go:71", after := #[{ on := 15, ground := Ground.guard }], guard := some (15, false) }) (v := undef) rfl (by kernel_rfl) (by kernel_rfl) (by kernel_rfl) (fun _ _ _ h => h) (Or.inr ⟨by rfl, rfl⟩) hHeld ?_
  simp only [Act.put, List.setIfInBounds_toArray, List.set_cons_zero, List.set_cons_succ]
  refine wpAnyH_take (i := 17) (oi := { dst := some 27, op := Op.call { callee := Callee.value (Operand.func 103), args := #[Operand.tmp 26], argTypes := #[117] }, type := 4, pos := "expr.go:71", after := #[{ on := 16, ground := Ground.data }, { on := 15, ground := Ground.chain }, { on := 15, ground := Ground.guard }], guard := some (15, false) }) (v := undef) rfl (by kernel_rfl) (by kernel_rfl) (by kernel_rfl) (fun _ _ _ h => h) (Or.inr ⟨by rfl, rfl⟩) hHeld ?_
  simp only [Act.put, List.setIfInBounds_toArray, List.set_cons_zero, List.set_cons_succ]
  refine wpAnyH_take (i := 18) (oi := { dst := some 28, op := Op.pick (Operand.tmp 25) (Operand.const (Value.bool true)) (Operand.tmp 27), type := 4, pos := "expr.go:71", after := #[{ on := 15, ground := Ground.data }, { on := 17, ground := Ground.data }], guard := none }) (v := (.bool true)) rfl (by kernel_rfl) (by kernel_rfl) (by kernel_rfl) (fun _ _ _ h => h) (Or.inl ⟨by rfl, fun w' hSw => ?_⟩) hHeld ?_
  · (try dsimp only at hSw)
    go_simp
  simp only [Act.put, List.setIfInBounds_toArray, List.set_cons_zero, List.set_cons_succ]
  refine wpAnyH_ready (rs := [19]) (by kernel_rfl) (by simp) ?_
  refine AllReadyH.cons (o := { dst := some 29, op := Op.call { callee := Callee.value (Operand.func 68), args := #[Operand.tmp 10, Operand.tmp 28], argTypes := #[117, 4] }, type := 0, pos := "expr.go:71", after := #[{ on := 0, ground := Ground.data }, { on := 18, ground := Ground.data }, { on := 17, ground := Ground.chain }], guard := none }) rfl (fun K hK => ?_) AllReadyH.nil
  clear hHeld
  go_simp
  refine (must_yes A _).mono ?_
  rintro _ w12 ⟨rfl, hw12⟩
  subst hw12
  go_simp
  refine hK.out _ _ (HBx.out _ (HG0.out _ HB.out).1).1 (fun hHeld => ?_)
  clear hK K
  refine wpAnyH_done (by kernel_rfl) ?_ _
  obtain ⟨y1, y2⟩ := HBx.out _ (HG0.out _ HB.out).1
  have hWB := HC.out.1
  obtain rfl := hWB
  clear c1 c2
  go_wp2_with fail
  by_cases hn : n ≤ 12
  · refine (most_yes A (n : Int) 12 (by omega) _).mono ?_
    rintro _ w3 ⟨rfl, hw3⟩
    subst hw3
    have H3 : Hid (RdIs A l w3 ∧ w.grownBy w3 (some A) ∧ BoxAt A w.heap.size (w.heap.size + 1) n w3) := ⟨(HG0.out _ HB.out).2, HV.out.2.2.1.trans (HG0.out _ HB.out).1, HV.out.2.1.grown (HG0.out _ HB.out).1⟩
    have HR3 : Hid (oneF E l = R) := HR.out.1 hn
    clear hn
    go_wp2_with fail
    refine (text_any A l w3 H3.out.1).mono ?_
    rintro _ w4 ⟨hg4, ⟨v4, l4, hs4, rfl, hr4⟩ | ⟨hs4, n1, m1, rfl⟩⟩
    · have HB4 : Hid _ := box_told (w0 := w) HQ.out 1 v4 ⟨#[]⟩ none none .nil .nil hr4 (exNil _ _) (exNil _ _) (H3.out.2.1.trans hg4)
      have HR4 : Hid (R = some (.node 1 v4 ⟨#[]⟩ .nil .nil, l4)) := by show _ = _; rw [← HR3.out, one_txt HK.out.1, hs4]; rfl
      clear hs4 hr4 hg4
      go_wp2
      go_ret
      exact ⟨HB4.out.1, .inl ⟨_, _, _, HR4.out, rfl, HB4.out.2.1, HB4.out.2.2⟩⟩
    · have HR4 : Hid (R = none ∧ w.grownBy w4 (some A)) := ⟨by rw [← HR3.out, one_txt HK.out.1, hs4]; rfl, H3.out.2.1.trans hg4⟩
      clear hs4 hg4
      go_wp2
      exact ⟨by first | rfl | trivial, HR4.out.2, .inr ⟨HR4.out.1, n1, m1, rfl⟩⟩
  · refine (most_no A l (n : Int) 12 (by omega) _ (HG0.out _ HB.out).2).mono ?_
    rintro _ w4 ⟨⟨n1, m1, rfl⟩, hb4⟩
    have HG : Hid (w.grownBy w4 (some A) ∧ R = none) := ⟨(HV.out.2.2.1.trans (HG0.out _ HB.out).1).trans (grown_of_belowA hb4 _), HR.out.2 hn⟩
    clear hb4
    go_wp2
    exact ⟨by first | rfl | trivial, HG.out.1, .inr ⟨HG.out.2, n1, m1, rfl⟩⟩
end Go.Proofs.YtmabfbffpedfnaaGreatDoor
attribute [local go_sem ↓] Go.wp_at_zero Go.wp_at_succ
namespace Go.Proofs.YtmabfbffpedfnaaGreatDoor
open Go.RowKit

set_option maxRecDepth 100000 in
set_option maxHeartbeats 32000000 in
theorem one_u (hPI : PIntSpec) {E : Rf Ex} {n : Nat} (hn13 : n ≤ 13) (hE : n ≤ 12 → ESpec E (n + 1)) (hEr : Reads E) (A : Nat) (l : List KT) (w : World) (h : RdIs A l w) (hc : isT ⟨#[110, 117, 108, 108]⟩ l = true) : Calls Tryz.prog 168 #[.pointer (some ⟨A, 0, none⟩), .int .i64 (n : Int)] w fun e w' => Told A (oneD n E l) w e w' := by
  have HE : Hid (PIntSpec ∧ (n ≤ 12 → ESpec E (n + 1)) ∧ Reads E) := ⟨hPI, hE, hEr⟩
  obtain ⟨V, hV⟩ : ∃ V, (w.alloc (.cells #[.pointer (some ⟨A, 0, none⟩)] 117)).alloc (.cells #[.int .i64 (n : Int)] 3) = V := ⟨_, rfl⟩
  have hVb : Below w.heap.size w V := by rw [← hV]; exact ((Below.refl _ _).alloc (Nat.le_refl _) _).alloc (by simp) _
  have hbx : BoxAt A w.heap.size (w.heap.size + 1) n V := by rw [← hV]; exact box_new n h.lt
  have HV : Hid (RdIs A l V ∧ BoxAt A w.heap.size (w.heap.size + 1) n V ∧ w.grownBy V (some A) ∧ A < w.heap.size) := ⟨h.below hVb, hbx, grown_of_belowA hVb _, h.lt⟩
  have HBx : Hid (∀ wx, V.grownBy wx (some A) → wx.cell? ⟨w.heap.size, 0, none⟩ = some (.pointer (some ⟨A, 0, none⟩)) ∧ wx.cell? ⟨w.heap.size + 1, 0, none⟩ = some (.int .i64 (n : Int))) := fun wx hg => ⟨(hbx.grown hg).cx, (hbx.grown hg).cy⟩
  obtain ⟨q0, hq0⟩ : ∃ q0, w.heap.size - 1 = q0 := ⟨_, rfl⟩
  have HQ : Hid (q0 < w.heap.size) := by have := h.lt; show _ < _; omega
  have HQe : Hid (w.heap.size - 1 = q0) := hq0
  obtain ⟨R, hR⟩ : ∃ R, oneD n E l = R := ⟨_, rfl⟩
  have HR : Hid ((n ≤ 12 → oneF E l = R) ∧ (¬ n ≤ 12 → R = none)) := by
    rw [← hR]; unfold oneD
    exact ⟨fun h => (if_pos h).symm, fun h => if_neg h⟩
  unfold Told
  rw [hR, hq0]
  generalize hk : (hdT l).1 = k
  generalize ht : (hdT l).2 = t
  have HK : Hid ((hdT l).1 = k ∧ (hdT l).2 = t) := ⟨hk, ht⟩
  obtain ⟨b1, hb1⟩ : ∃ b, isT ⟨#[40]⟩ l = b := ⟨_, rfl⟩
  obtain ⟨b2, hb2⟩ : ∃ b, isT ⟨#[110, 117, 108, 108]⟩ l = b := ⟨_, rfl⟩
  obtain ⟨b5, hb5⟩ : ∃ b, nameB l = b := ⟨_, rfl⟩
  have HT : Hid (isT ⟨#[40]⟩ l = b1 ∧ isT ⟨#[110, 117, 108, 108]⟩ l = b2 ∧ nameB l = b5) := ⟨hb1, hb2, hb5⟩
  have h1 := hbx.cx
  have h2 := hbx.cy
  have hn13' : (n : Int) ≤ 13 := by omega
  have hf := field0 k
  have hka : b1 = true → k = 1 ∨ k = 4 := fun e => by rw [← hk]; exact (isT_k (by rw [hb1, e])).1
  have hkb : b2 = true → k = 1 ∨ k = 4 := fun e => by rw [← hk]; exact (isT_k (by rw [hb2, e])).1
  have hkc : b5 = true → k = 1 := fun e => by
    rw [e] at hb5
    simp only [nameB, Bool.and_eq_true, decide_eq_true_eq] at hb5
    rw [← hk]; exact hb5.1
  have hkd : b1 = true → b2 = false := fun e => by
    cases hh : b2 with
    | false => rfl
    | true =>
      have e1 := (isT_k (by rw [hb1, e])).2
      have e2 := (isT_k (by rw [hb2, hh])).2
      rw [e1] at e2
      exact absurd e2 (by decide)
  have hAw := h.lt
  clear h hPI hE hEr hbx hVb hR hq0 hk ht hb1 hb2 hb5
  go_enter Tryz.func168, Tryz.ntmps168
  go_wp2_with fail
  refine (now_any A l V HV.out.1).mono ?_
  rintro _ w1 ⟨⟨p, rfl⟩, hb1⟩
  rw [HK.out.1, HK.out.2]
  have HB : Hid (Below V.heap.size V w1) := hb1
  have HG0 : Hid (∀ wx, Below V.heap.size V wx → V.grownBy wx (some A) ∧ RdIs A l wx) := fun wx hb => ⟨grown_of_belowA hb _, HV.out.1.below hb⟩
  obtain ⟨c1, c2⟩ := HBx.out w1 (grown_of_belowA hb1 _)
  clear hb1 h1 h2 hV
  generalize hWB : w.heap.size = B at *
  obtain rfl : b2 = true := by rw [← HT.out.2.1]; exact hc
  have hk14 := hkb rfl
  obtain rfl : b1 = false := by cases hb : b1; rfl; exact absurd (hkd hb) (by decide)
  have hk2 : k ≠ 2 ∧ k ≠ 3 := by omega
  have HK2 : Hid ((hdT l).1 ≠ 2 ∧ (hdT l).1 ≠ 3) := by rw [HK.out.1]; exact hk2
  have d2 : (k == 2) = false := by rw [beq_eq_false_iff_ne]; exact hk2.1
  have d3 : (k == 3) = false := by rw [beq_eq_false_iff_ne]; exact hk2.2
  clear hk14 hka hkb hkc hkd hk2 hc
  go_wp2_with fail
  have HB : Hid (Below V.heap.size V w1.drew) := HB.out.drew
  have HC : Hid (w.heap.size = B ∧ A < B ∧ n ≤ 13 ∧ (n : Int) ≤ 13) := ⟨hWB, hAw, hn13, hn13'⟩
  clear hWB hAw hn13' hf hn13
  refine wp_region_held_drew (S := fun w' => w'.cell? ⟨B, 0, none⟩ = some (.pointer (some ⟨A, 0, none⟩))) (by kernel_rfl) (HBx.out _ (HG0.out _ HB.out).1).1 (fun hHeld => ?_)
  refine wpAnyH_take (i := 0) (oi := { dst := some 10, op := Op.load 117 (Operand.tmp 2), type := 117, pos := "expr.go:71", after := #[], guard := none }) (v := (.pointer (some ⟨A, 0, none⟩))) rfl (by kernel_rfl) (by kernel_rfl) (by kernel_rfl) (fun _ _ _ h => h) (Or.inl ⟨by rfl, fun w' hSw => ?_⟩) hHeld ?_
  · (try dsimp only at hSw)
    go_simp
  simp only [Act.put, List.setIfInBounds_toArray, List.set_cons_zero, List.set_cons_succ]
  refine wpAnyH_take (i := 1) (oi := { dst := some 11, op := Op.load 117 (Operand.tmp 2), type := 117, pos := "expr.go:71", after := #[], guard := none }) (v := (.pointer (some ⟨A, 0, none⟩))) rfl (by kernel_rfl) (by kernel_rfl) (by kernel_rfl) (fun _ _ _ h => h) (Or.inl ⟨by rfl, fun w' hSw => ?_⟩) hHeld ?_
  · (try dsimp only at hSw)
    go_simp
  simp only [Act.put, List.setIfInBounds_toArray, List.set_cons_zero, List.set_cons_succ]
  refine wpAnyH_ready (rs := [2]) (by kernel_rfl) (by simp) ?_
  refine AllReadyH.cons (o := { dst := some 12, op := Op.call { callee := Callee.value (Operand.func 91), args := #[Operand.tmp 11, Operand.const (Value.string { data := #[40] })], argTypes := #[117, 9] }, type := 4, pos := "expr.go:71", after := #[{ on := 1, ground := Ground.data }], guard := none }) rfl (fun K hK => ?_) AllReadyH.nil
  clear hHeld
  go_simp
  refine (is_any A l _ false HT.out.1 _ (HG0.out _ HB.out).2).mono ?_
  rintro _ w10 ⟨rfl, hb10⟩
  have HB : Hid (Below V.heap.size V w10) := HB.out.trans (hb10.mono HB.out.size)
  clear hb10
  go_simp
  refine hK.out _ _ (HBx.out _ (HG0.out _ HB.out).1).1 (fun hHeld => ?_)
  clear hK K
  refine wpAnyH_take (i := 3) (oi := { dst := some 13, op := Op.move (Operand.tmp 12), type := 4, pos := "expr.go:71", after := #[{ on := 2, ground := Ground.data }, { on := 2, ground := Ground.chain }], guard := none }) (v := (.bool false)) rfl (by kernel_rfl) (by kernel_rfl) (by kernel_rfl) (fun _ _ _ h => h) (Or.inl ⟨by rfl, fun w' hSw => ?_⟩) hHeld ?_
  · (try dsimp only at hSw)
    go_simp
  simp only [Act.put, List.setIfInBounds_toArray, List.set_cons_zero, List.set_cons_succ]
  refine wpAnyH_take (i := 4) (oi := { dst := some 14, op := Op.load 117 (Operand.tmp 2), type := 117, pos := "expr.go:71", after := #[{ on := 3, ground := Ground.guard }], guard := some (3, false) }) (v := (.pointer (some ⟨A, 0, none⟩))) rfl (by kernel_rfl) (by kernel_rfl) (by kernel_rfl) (fun _ _ _ h => h) (Or.inl ⟨by rfl, fun w' hSw => ?_⟩) hHeld ?_
  · (try dsimp only at hSw)
    go_simp
  simp only [Act.put, List.setIfInBounds_toArray, List.set_cons_zero, List.set_cons_succ]
  refine wpAnyH_ready (rs := [5]) (by kernel_rfl) (by simp) ?_
  refine AllReadyH.cons (o := { dst := some 15, op := Op.call { callee := Callee.value (Operand.func 91), args := #[Operand.tmp 14, Operand.const (Value.string { data := #[110, 117, 108, 108] })], argTypes := #[117, 9] }, type := 4, pos := "expr.go:71", after := #[{ on := 4, ground := Ground.data }, { on := 3, ground := Ground.chain }, { on := 3, ground := Ground.guard }], guard := some (3, false) }) rfl (fun K hK => ?_) AllReadyH.nil
  clear hHeld
  go_simp
  refine (is_any A l _ true HT.out.2.1 _ (HG0.out _ HB.out).2).mono ?_
  rintro _ w11 ⟨rfl, hb10⟩
  have HB : Hid (Below V.heap.size V w11) := HB.out.trans (hb10.mono HB.out.size)
  clear hb10
  go_simp
  refine hK.out _ _ (HBx.out _ (HG0.out _ HB.out).1).1 (fun hHeld => ?_)
  clear hK K
  refine wpAnyH_take (i := 6) (oi := { dst := some 16, op := Op.pick (Operand.tmp 13) (Operand.const (Value.bool true)) (Operand.tmp 15), type := 4, pos := "expr.go:71", after := #[{ on := 3, ground := Ground.data }, { on := 5, ground := Ground.data }], guard := none }) (v := (.bool true)) rfl (by kernel_rfl) (by kernel_rfl) (by kernel_rfl) (fun _ _ _ h => h) (Or.inl ⟨by rfl, fun w' hSw => ?_⟩) hHeld ?_
  · (try dsimp only at hSw)
    go_simp
  simp only [Act.put, List.setIfInBounds_toArray, List.set_cons_zero, List.set_cons_succ]
  refine wpAnyH_take (i := 7) (oi := { dst := some 17, op := Op.move (Operand.tmp 16), type := 4, pos := "expr.go:71", after := #[{ on := 6, ground := Ground.data }, { on := 5, ground := Ground.chain }], guard := none }) (v := (.bool true)) rfl (by kernel_rfl) (by kernel_rfl) (by kernel_rfl) (fun _ _ _ h => h) (Or.inl ⟨by rfl, fun w' hSw => ?_⟩) hHeld ?_
  · (try dsimp only at hSw)
    go_simp
  simp only [Act.put, List.setIfInBounds_toArray, List.set_cons_zero, List.set_cons_succ]
  refine wpAnyH_take (i := 8) (oi := { dst := some 18, op := Op.move (Operand.tmp 5), type := 3, pos := "expr.go:71", after := #[{ on := 7, ground := Ground.guard }], guard := some (7, false) }) (v := undef) rfl (by kernel_rfl) (by kernel_rfl) (by kernel_rfl) (fun _ _ _ h => h) (Or.inr ⟨by rfl, rfl⟩) hHeld ?_
  simp only [Act.put, List.setIfInBounds_toArray, List.set_cons_zero, List.set_cons_succ]
  refine wpAnyH_take (i := 9) (oi := { dst := some 19, op := Op.binOp BinOp.eql 3 (Operand.tmp 18) (Operand.const (Value.int IntKind.i64 2)) 3, type := 4, pos := "expr.go:71", after := #[{ on := 8, ground := Ground.data }, { on := 7, ground := Ground.guard }], guard := some (7, false) }) (v := undef) rfl (by kernel_rfl) (by kernel_rfl) (by kernel_rfl) (fun _ _ _ h => h) (Or.inr ⟨by rfl, rfl⟩) hHeld ?_
  simp only [Act.put, List.setIfInBounds_toArray, List.set_cons_zero, List.set_cons_succ]
  refine wpAnyH_take (i := 10) (oi := { dst := some 20, op := Op.pick (Operand.tmp 17) (Operand.const (Value.bool true)) (Operand.tmp 19), type := 4, pos := "expr.go:71", after := #[{ on := 7, ground := Ground.data }, { on := 9, ground := Ground.data }], guard := none }) (v := (.bool true)) rfl (by kernel_rfl) (by kernel_rfl) (by kernel_rfl) (fun _ _ _ h => h) (Or.inl ⟨by rfl, fun w' hSw => ?_⟩) hHeld ?_
  · (try dsimp only at hSw)
    go_simp
  simp only [Act.put, List.setIfInBounds_toArray, List.set_cons_zero, List.set_cons_succ]
  refine wpAnyH_take (i := 11) (oi := { dst := some 21, op := Op.move (Operand.tmp 20), type := 4, pos := "expr.go:71", after := #[{ on := 10, ground := Ground.data }, { on := 7, ground := Ground.chain }], guard := none }) (v := (.bool true)) rfl (by kernel_rfl) (by kernel_rfl) (by kernel_rfl) (fun _ _ _ h => h) (Or.inl ⟨by rfl, fun w' hSw => ?_⟩) hHeld ?_
  · (try dsimp only at hSw)
    go_simp
  simp only [Act.put, List.setIfInBounds_toArray, List.set_cons_zero, List.set_cons_succ]
  refine wpAnyH_take (i := 12) (oi := { dst := some 22, op := Op.move (Operand.tmp 5), type := 3, pos := "expr.go:71", after := #[{ on := 11, ground := Ground.guard }], guard := some (11, false) }) (v := undef) rfl (by kernel_rfl) (by kernel_rfl) (by kernel_rfl) (fun _ _ _ h => h) (Or.inr ⟨by rfl, rfl⟩) hHeld ?_
  simp only [Act.put, List.setIfInBounds_toArray, List.set_cons_zero, List.set_cons_succ]
  refine wpAnyH_take (i := 13) (oi := { dst := some 23, op := Op.binOp BinOp.eql 3 (Operand.tmp 22) (Operand.const (Value.int IntKind.i64 3)) 3, type := 4, pos := "expr.go:71", after := #[{ on := 12, ground := Ground.data }, { on := 11, ground := Ground.guard }], guard := some (11, false) }) (v := undef) rfl (by kernel_rfl) (by kernel_rfl) (by kernel_rfl) (fun _ _ _ h => h) (Or.inr ⟨by rfl, rfl⟩) hHeld ?_
  simp only [Act.put, List.setIfInBounds_toArray, List.set_cons_zero, List.set_cons_succ]
  refine wpAnyH_take (i := 14) (oi := { dst := some 24, op := Op.pick (Operand.tmp 21) (Operand.const (Value.bool true)) (Operand.tmp 23), type := 4, pos := "expr.go:71", after := #[{ on := 11, ground := Ground.data }, { on := 13, ground := Ground.data }], guard := none }) (v := (.bool true)) rfl (by kernel_rfl) (by kernel_rfl) (by kernel_rfl) (fun _ _ _ h => h) (Or.inl ⟨by rfl, fun w' hSw => ?_⟩) hHeld ?_
  · (try dsimp only at hSw)
    go_simp
  simp only [Act.put, List.setIfInBounds_toArray, List.set_cons_zero, List.set_cons_succ]
  refine wpAnyH_take (i := 15) (oi := { dst := some 25, op := Op.move (Operand.tmp 24), type := 4, pos := "expr.go:71", after := #[{ on := 14, ground := Ground.data }, { on := 11, ground := Ground.chain }], guard := none }) (v := (.bool true)) rfl (by kernel_rfl) (by kernel_rfl) (by kernel_rfl) (fun _ _ _ h => h) (Or.inl ⟨by rfl, fun w' hSw => ?_⟩) hHeld ?_
  · (try dsimp only at hSw)
    go_simp
  simp only [Act.put, List.setIfInBounds_toArray, List.set_cons_zero, List.set_cons_succ]
  refine wpAnyH_take (i := 16) (oi := { dst := some 26, op := Op.load 117 (Operand.tmp 2), type := 117, pos := "expr.go:71", after := #[{ on := 15, ground := Ground.guard }], guard := some (15, false) }) (v := undef) rfl (by kernel_rfl) (by kernel_rfl) (by kernel_rfl) (fun _ _ _ h => h) (Or.inr ⟨by rfl, rfl⟩) hHeld ?_
  simp only [Act.put, List.setIfInBounds_toArray, List.set_cons_zero, List.set_cons_succ]
  refine wpAnyH_take (i := 17) (oi := { dst := some 27, op := Op.call { callee := Callee.value (Operand.func 103), args := #[Operand.tmp 26], argTypes := #[117] }, type := 4, pos := "expr.go:71", after := #[{ on := 16, ground := Ground.data }, { on := 15, ground := Ground.chain }, { on := 15, ground := Ground.guard }], guard := some (15, false) }) (v := undef) rfl (by kernel_rfl) (by kernel_rfl) (by kernel_rfl) (fun _ _ _ h => h) (Or.inr ⟨by rfl, rfl⟩) hHeld ?_
  simp only [Act.put, List.setIfInBounds_toArray, List.set_cons_zero, List.set_cons_succ]
  refine wpAnyH_take (i := 18) (oi := { dst := some 28, op := Op.pick (Operand.tmp 25) (Operand.const (Value.bool true)) (Operand.tmp 27), type := 4, pos := "expr.go:71", after := #[{ on := 15, ground := Ground.data }, { on := 17, ground := Ground.data }], guard := none }) (v := (.bool true)) rfl (by kernel_rfl) (by kernel_rfl) (by kernel_rfl) (fun _ _ _ h => h) (Or.inl ⟨by rfl, fun w' hSw => ?_⟩) hHeld ?_
  · (try dsimp only at hSw)
    go_simp
  simp only [Act.put, List.setIfInBounds_toArray, List.set_cons_zero, List.set_cons_succ]
  refine wpAnyH_ready (rs := [19]) (by kernel_rfl) (by simp) ?_
  refine AllReadyH.cons (o := { dst := some 29, op := Op.call { callee := Callee.value (Operand.func 68), args := #[Operand.tmp 10, Operand.tmp 28], argTypes := #[117, 4] }, type := 0, pos := "expr.go:71", after := #[{ on := 0, ground := Ground.data }, { on := 18, ground := Ground.data }, { on := 17, ground := Ground.chain }], guard := none }) rfl (fun K hK => ?_) AllReadyH.nil
  clear hHeld
  go_simp
  refine (must_yes A _).mono ?_
  rintro _ w12 ⟨rfl, hw12⟩
  subst hw12
  go_simp
  refine hK.out _ _ (HBx.out _ (HG0.out _ HB.out).1).1 (fun hHeld => ?_)
  clear hK K
  refine wpAnyH_done (by kernel_rfl) ?_ _
  obtain ⟨y1, y2⟩ := HBx.out _ (HG0.out _ HB.out).1
  have hWB := HC.out.1
  obtain rfl := hWB
  clear c1 c2
  go_wp2_with fail
  by_cases hn : n ≤ 12
  · refine (most_yes A (n : Int) 12 (by omega) _).mono ?_
    rintro _ w3 ⟨rfl, hw3⟩
    subst hw3
    have H3 : Hid (RdIs A l w3 ∧ w.grownBy w3 (some A) ∧ BoxAt A w.heap.size (w.heap.size + 1) n w3) := ⟨(HG0.out _ HB.out).2, HV.out.2.2.1.trans (HG0.out _ HB.out).1, HV.out.2.1.grown (HG0.out _ HB.out).1⟩
    have HR3 : Hid (oneF E l = R) := HR.out.1 hn
    clear hn
    go_wp2_with fail
    refine (has_any A l ⟨#[110, 117, 108, 108]⟩ true HT.out.2.1 w3 H3.out.1).mono ?_
    rintro _ w4 ⟨rfl, hr4, hg4⟩
    have HB4 : Hid _ := box_told (w0 := w) HQ.out 1 .none ⟨#[]⟩ none none .nil .nil hr4 (exNil _ _) (exNil _ _) (H3.out.2.1.trans hg4)
    have HR4 : Hid (R = some (.node 1 .none ⟨#[]⟩ .nil .nil, l.tail)) := by show _ = _; rw [← HR3.out]; exact one_nul HK2.out.1 HK2.out.2 HT.out.2.1
    clear hr4 hg4
    go_wp2
    go_ret
    exact ⟨HB4.out.1, .inl ⟨_, _, _, HR4.out, rfl, HB4.out.2.1, HB4.out.2.2⟩⟩
  · refine (most_no A l (n : Int) 12 (by omega) _ (HG0.out _ HB.out).2).mono ?_
    rintro _ w4 ⟨⟨n1, m1, rfl⟩, hb4⟩
    have HG : Hid (w.grownBy w4 (some A) ∧ R = none) := ⟨(HV.out.2.2.1.trans (HG0.out _ HB.out).1).trans (grown_of_belowA hb4 _), HR.out.2 hn⟩
    clear hb4
    go_wp2
    exact ⟨by first | rfl | trivial, HG.out.1, .inr ⟨HG.out.2, n1, m1, rfl⟩⟩
end Go.Proofs.YtmabfbffpedfnaaGreatDoor
