/- The program's all and any, if one does what it should. -/
import Derived.Test.YtleegplecdknlaaDoorPOne3
namespace Go.Proofs.YtleegplecdknlaaDoor
open Go.RowKit

/-- how much is left, as the memory tells it -/
def lenP (w : World) (A : Nat) : Nat := match w.cell? ⟨A, 0, none⟩, w.cell? ⟨A, 2, none⟩ with
  | some (.int _ k), some (.string t) => if k = 0 then 0 else ((pcs t.data.toList.length t.data.toList).getD []).length + 1
  | _, _ => 0
theorem kind_ne (x : ByteArray) : (kindT x).1 ≠ 0 := by
  unfold kindT
  split
  · decide
  · split
    · decide
    · split
      · decide
      · split <;> simp
theorem lenP_of {A : Nat} {l : List ByteArray} {w : World} (h : Rd A l w) : lenP w A = l.length := by
  obtain ⟨⟨⟨h1, _, t, h3, _, h5⟩, _⟩, _⟩ := h
  unfold lenP
  rw [h1, h3]
  simp only
  cases l with
  | nil => exact if_pos rfl
  | cons x r =>
    rw [if_neg (show ¬ (headP (x :: r)).1 = 0 from kind_ne x)]
    have : pcs t.data.toList.length t.data.toList = some r := h5
    rw [this]; rfl
/-- what is known of a world in a round -/
def RP (A : Nat) (w : World) (p : Option Addr) (q : Qy) (l : List ByteArray) (wx : World) : Prop := MQ A wx p q ∧ Rd A l wx ∧ w.grownBy wx (some A)
theorem RP.to {A : Nat} {w : World} {p : Option Addr} {q : Qy} {l l' : List ByteArray} {wx wy : World} (h : RP A w p q l wx) (ha : Rd A l' wy) (hg : wx.grownBy wy (some A)) : RP A w p q l' wy := ⟨MQ.grown hg q h.1, ha, h.2.2.trans hg⟩
theorem RP.box {A : Nat} {w : World} {p p' : Option Addr} {q q' : Qy} {l : List ByteArray} {wx : World} (h : RP A w p q l wx) (h' : MQ A wx p' q') (k : Int) (hk : farOf k = 0) :
    RP A w (some ⟨wx.heap.size, 0, none⟩) (.node k [] q q') l (wx.alloc (.cells #[.int .i64 k, .slice none 0 0, .int .i64 0, .pointer p, .pointer p'] 51)) :=
  ⟨MQ.box h.2.1.lt k _ p p' [] q q' (rowW_none A wx) h.1 h' 0 hk, h.2.1.alloc _, grown_alloc h.2.2 _⟩
theorem anyL_bad (all : St → Qy × St) (f : Nat) (q : Qy) (s : St) (h : s.bad ≠ 0) : anyL all f q s = (q, s) := by
  cases f with
  | zero => rfl
  | succ f => rw [anyL, take_no (by rw [peek_bad h]; decide)]; rfl
theorem allL_bad (one : St → Qy × St) (f : Nat) (q : Qy) (s : St) (h : s.bad ≠ 0) : allL one f q s = (q, s) := by
  cases f with
  | zero => rfl
  | succ f => rw [allL, if_neg (by rw [peek_bad h]; decide)]
theorem st_zero {s : St} (h : s.bad = 0) : ∃ l, s = ⟨l, 0⟩ := ⟨s.l, by cases s; simp only at h; rw [h]⟩
theorem nu_zero (l : List ByteArray) : (⟨l, 0⟩ : St).nu = l.length := rfl

set_option maxRecDepth 100000 in
set_option maxHeartbeats 4000000 in
theorem pany_any (one : St → Qy × St) (d : Int) (hO : PReads 32 (allM one) d) (hn : ∀ s, (one s).2.nu ≤ s.nu) : PReads 23 (anyM one) d := by
  intro A l w h
  have HO : Hid (PReads 32 (allM one) d) := hO
  have HN : Hid (∀ s, (allM one s).2.nu ≤ s.nu) := fun s => Nat.le_trans (nu_allM hn s) (hn s)
  have H : Hid (Rd A l w) := h
  clear hO hn h
  obtain ⟨R, hR⟩ : ∃ R, anyM one ⟨l, 0⟩ = R := ⟨_, rfl⟩
  have HR : Hid (anyL (allM one) (allM one ⟨l, 0⟩).2.nu (allM one ⟨l, 0⟩).1 (allM one ⟨l, 0⟩).2 = R) := hR
  rw [hR]
  clear hR
  obtain ⟨all, hall⟩ : ∃ g, allM one = g := ⟨_, rfl⟩
  rw [hall] at HO HN HR
  clear hall
  obtain ⟨q1, s1, hqs⟩ : ∃ q s, all ⟨l, 0⟩ = (q, s) := ⟨_, _, rfl⟩
  have HQ : Hid (all ⟨l, 0⟩ = (q1, s1)) := hqs
  rw [hqs] at HR
  clear hqs
  go_enter Tryd.func23, Tryd.ntmps23
  go_wp2_with fail
  refine (HO.out A l w H.out).mono ?_
  rintro e w1 ⟨hg1, hcase⟩
  rw [HQ.out] at hcase
  have HG1 : Hid (w.grownBy w1 (some A)) := hg1
  clear hg1 H
  rcases hcase with ⟨hb, p1, rfl, hq1, hr1⟩ | ⟨hb, rfl⟩
  · simp only at hb hq1 hr1
    obtain ⟨l1, rfl⟩ := st_zero hb
    have HE : Hid (RP A w p1 q1 l1 w1) := ⟨hq1, hr1, HG1.out⟩
    clear hb hq1 hr1 HG1 HQ
    go_wp2
    go_loopw [5] (fun v wr => ∃ (p : Option Addr) (q : Qy) (l : List ByteArray) (f : Nat), v = .pointer p ∧ Hid (RP A w p q l wr) ∧ Hid (anyL all f q ⟨l, 0⟩ = R ∧ l.length ≤ f)) (fun _ wr => lenP wr A)
    case atStart => exact ⟨p1, q1, l1, l1.length, rfl, HE, HR.out, Nat.le_refl _⟩
    case round =>
      clear HE HR
      obtain ⟨p, q, l, f, rfl, HE, hz⟩ := hrel
      have hmu := lenP_of HE.out.2.1
      by_cases hg : (⟨l, 0⟩ : St).peek = tOr
      · obtain ⟨_, l2, hl2⟩ := peek_some (s := ⟨l, 0⟩) (by rw [hg]; decide)
        rw [hg] at hl2
        simp only at hl2
        obtain ⟨f', rfl⟩ : ∃ f', f = f' + 1 := by
          cases f with
          | zero => have := hz.out.2; rw [hl2] at this; simp at this
          | succ f => exact ⟨f, rfl⟩
        have ht : (⟨l, 0⟩ : St).take tOr = (true, ⟨l2, 0⟩) := by rw [take_yes hg, hl2]; rfl
        obtain ⟨q4, s4, hqs⟩ : ∃ q s, all ⟨l2, 0⟩ = (q, s) := ⟨_, _, rfl⟩
        have HZ2 : Hid (anyL all f' (.node 5 [] q q4) s4 = R) := by
          have h0 := hz.out.1
          rw [anyL, ht] at h0
          simp only [if_true] at h0
          rw [hqs] at h0
          exact h0
        have hnf : l2.length + 1 ≤ f' + 1 := by have := hz.out.2; rw [hl2] at this; exact this
        have hll : l.length = l2.length + 1 := by rw [hl2]; rfl
        have hlt2 : s4.nu ≤ l2.length := by have := HN.out ⟨l2, 0⟩; rw [hqs] at this; exact this
        have HT : Hid ((⟨l, 0⟩ : St).peek = tOr ∧ l.tail = l2 ∧ all ⟨l2, 0⟩ = (q4, s4)) := ⟨hg, by rw [hl2]; rfl, hqs⟩
        clear hz hg ht hl2 hqs
        go_wp2_with fail
        refine (signY_any A l tOr wr HE.out.2.1 kind_or (by decide) HT.out.1).mono ?_
        rintro _ w3 ⟨rfl, ha3, hg3⟩
        rw [HT.out.2.1] at ha3
        have HE3 : Hid (RP A w p q l2 w3) := RP.to HE.out ha3 hg3
        clear ha3 hg3 HE
        go_wp2_with fail
        refine (HO.out A l2 w3 HE3.out.2.1).mono ?_
        rintro e w4 ⟨hg4, hcase⟩
        rw [HT.out.2.2] at hcase
        rcases hcase with ⟨hb, p4, rfl, hq4, hr4⟩ | ⟨hb, rfl⟩
        · simp only at hb hq4 hr4
          obtain ⟨l4, rfl⟩ := st_zero hb
          have HE5 : Hid (RP A w (some ⟨w4.heap.size, 0, none⟩) (.node 5 [] q q4) l4 (w4.alloc (.cells #[.int .i64 5, .slice none 0 0, .int .i64 0, .pointer p, .pointer p4] 51))) := (RP.to HE3.out hr4 hg4).box hq4 5 rfl
          rw [nu_zero] at hlt2
          clear hb hq4 hr4 hg4 HE3 HT
          go_wp2
          go_roundw
          case rel => exact ⟨_, _, l4, f', rfl, HE5, HZ2.out, by omega⟩
          case measure => rw [hmu, lenP_of HE5.out.2.1]; omega
        · simp only at hb
          have HB : Hid (R.2.bad = s4.bad ∧ s4.bad ≠ 0 ∧ w.grownBy w4 (some A)) := ⟨by rw [← HZ2.out, anyL_bad _ _ _ _ hb], hb, HE3.out.2.2.trans hg4⟩
          clear hb hg4 HE3 HT HZ2
          go_wp2
          exact ⟨rfl, Out.thrown HB.out.1 HB.out.2.1 HB.out.2.2⟩
      · have e : (q, (⟨l, 0⟩ : St)) = R := by
          rw [← hz.out.1]
          cases f with
          | zero => rfl
          | succ f => rw [anyL, take_no hg]; rfl
        subst e
        have HG : Hid ((⟨l, 0⟩ : St).peek ≠ tOr) := hg
        clear hz hg
        go_wp2_with fail
        refine (signN_any A l tOr wr HE.out.2.1 kind_or (by decide) HG.out).mono ?_
        rintro _ w3 ⟨rfl, ha3, hg3⟩
        have HE3 : Hid (RP A w p q l w3) := RP.to HE.out ha3 hg3
        clear ha3 hg3 HE
        go_wp2
        go_ret
        exact Out.made rfl HE3.out.2.2 HE3.out.1 HE3.out.2.1
  · simp only at hb
    have HB : Hid (R.2.bad = s1.bad ∧ s1.bad ≠ 0) := ⟨by rw [← HR.out, anyL_bad _ _ _ _ hb], hb⟩
    clear hb HR
    go_wp2
    exact ⟨rfl, Out.thrown HB.out.1 HB.out.2 HG1.out⟩
end Go.Proofs.YtleegplecdknlaaDoor
