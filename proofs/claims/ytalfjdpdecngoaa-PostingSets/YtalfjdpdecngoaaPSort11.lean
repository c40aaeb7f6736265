/- The sort of places. -/
import Derived.Test.YtalfjdpdecngoaaPSort9
import Derived.Test.YtalfjdpdecngoaaPSort10
namespace Go.Proofs.Ytalfjdpdecngoaa
open Go.RowKit

theorem pivot_at {s : Sl} {B : Nat} {w : World} {d : Array Pl} {wx : World} (h : SE s B w d wx) (a b : Nat) (hab : a + 12 < b) (hb : b ≤ s.n) :
    Calls Try.prog 62 #[.agg #[(Value.func (.func 38) #[] #[.pointer (some ⟨s.Bs, 0, none⟩)]), (Value.func (.func s.sf) #[] s.sb)], .int .i64 a, .int .i64 b] wx fun e w' =>
      ∃ (pv : Nat) (hc : Int), e = .returned (.tuple #[.int .i64 pv, .int .i64 hc]) ∧ a ≤ pv ∧ pv < b ∧ SE s B w d w' := by
  refine (pivot_ss s d wx h.2.2.1 a b hab hb).mono ?_
  rintro e w' ⟨rfl, _, h2⟩
  obtain ⟨c1, c2⟩ := Sort.choosePivot_holds ltB d a b (by omega)
  exact ⟨_, _, rfl, c1, c2, h.step h2⟩

set_option maxHeartbeats 12800000 in
set_option maxRecDepth 1000000 in
theorem pdq_ss : ∀ (N : Nat) (s : Sl) (d : Array Pl) (w : World) (a b limit : Nat), b - a < N → SS s d w → a ≤ b → b ≤ s.n → limit < 1000000 → Sort.Below ltB a b d → ∀ (x y z : Int), x = a → y = b → z = limit →
    Calls Try.prog 46 #[.agg #[(Value.func (.func 38) #[] #[.pointer (some ⟨s.Bs, 0, none⟩)]), (Value.func (.func s.sf) #[] s.sb)], .int .i64 x, .int .i64 y, .int .i64 z] w fun e w' => e = .returned (.tuple #[]) ∧ ∃ d', SS s d' w' ∧ (Sort.PermIn a b d d' ∧ Sort.SortedIn ltB a b d') ∧ w.grownBy w' (some s.blk) := by
  intro N
  induction N with
  | zero => intro _ _ _ _ _ _ h; exact absurd h (Nat.not_lt_zero _)
  | succ N ih =>
    intro s d w a b limit hN h hab hb hlimit hB0 x y z hx hy hz
    subst hx hy hz
    have IH : Hid _ := ih
    clear ih
    have hn := h.2.2.2.1.2.2.2
    have HE : Hid (SE s w.heap.size w d (w.alloc (.cells #[(Value.func (.func 38) #[] #[.pointer (some ⟨s.Bs, 0, none⟩)]), (Value.func (.func s.sf) #[] s.sb)] 76)) ∧ Inv a b d a b d) := ⟨SE.box h, Inv.start a b d hB0⟩
    clear h hB0
    go_enter Try.func46, Try.ntmps46
    go_wp2
    go_loopg [1, 2, 3, 8, 9] (b - a) (fun kx s1 s2 s3 s8 s9 wr => ∃ (a' b' lim : Nat) (wb wp : Bool) (dk : Array Pl), s1 = .int .i64 a' ∧ s2 = .int .i64 b' ∧ s3 = .int .i64 lim ∧ s8 = .bool wb ∧ s9 = .bool wp ∧
      a' ≤ b' ∧ b' ≤ s.n ∧ b' - a' ≤ kx ∧ kx ≤ b - a ∧ lim ≤ limit ∧ Hid (SE s w.heap.size w dk wr ∧ Inv a b d a' b' dk))
    case atStart => exact ⟨a, b, limit, true, true, d, rfl, rfl, rfl, rfl, rfl, hab, hb, Nat.le_refl _, Nat.le_refl _, Nat.le_refl _, HE.out⟩
    case round =>
      clear HE
      obtain ⟨a', b', lim, wb, wp, dk, rfl, rfl, rfl, rfl, rfl, hab', hb', hkx, hkN, hlim, hz⟩ := hrel
      have HE : Hid _ := hz.out.1
      have HV : Hid _ := hz.out.2
      clear hz
      obtain ⟨x0, x1⟩ := HE.out.1
      have hds : dk.size = s.n := HE.out.2.2.1.2.1
      by_cases h12 : b' - a' ≤ 12
      · have h12z : (b' : Int) - (a' : Int) ≤ 12 := by omega
        have hc := insertion_ss s dk wr HE.out.2.2.1 a' b' hab' hb'
        go_wp2_with (go_at_call 59; refine hc.mono ?_; rintro e w1 ⟨rfl, h1, h2⟩)
        (try simp only [Exit.inBlock, Exit.then])
        refine bodyPost_ret (results_none rfl _ _ _) rfl ?_
        obtain ⟨p1, p2⟩ := Sort.insertionSort_holds swo dk a' b' hab' (by omega)
        exact ⟨rfl, _, h1, HV.out.2 _ p1 p2, HE.out.2.2.2.trans h2⟩
      · have h12z : ¬ ((b' : Int) - (a' : Int) ≤ 12) := by omega
        by_cases hl0 : lim = 0
        · subst hl0
          have hc := heap_ss s dk wr HE.out.2.2.1 a' b' (by omega) hb'
          go_wp2_with (go_at_call 60; refine hc.mono ?_; rintro e w1 ⟨rfl, h1, h2⟩)
          (try simp only [Exit.inBlock, Exit.then])
          refine bodyPost_ret (results_none rfl _ _ _) rfl ?_
          obtain ⟨p1, p2⟩ := Sort.heapSort_holds swo dk a' b' hab' (by omega)
          exact ⟨rfl, _, h1, HV.out.2 _ p1 p2, HE.out.2.2.2.trans h2⟩
        · have hl0z : ¬ ((lim : Int) = 0) := by omega
          go_upto_if 35 with fail
          go_cut [3] from 19 (fun s3 wc => ∃ (l1 : Nat) (d1 : Array Pl), s3 = .int .i64 l1 ∧ l1 ≤ limit ∧ Hid (SE s w.heap.size w d1 wc ∧ Inv a b d a' b' d1))
          case first =>
            cases wb
            · have hc := break_ss s dk wr HE.out.2.2.1 a' b' hab' hb'
              go_wp2_with (go_at_call 61; refine hc.mono ?_; rintro e w1 ⟨rfl, h1, h2⟩)
              go_meet
              case rel => exact ⟨lim - 1, _, by congr 1; omega, by omega, SE.grown HE.out h2 h1, Inv.perm HV.out (by omega) (Sort.breakPatterns_holds dk a' b' hab' (by omega))⟩
            · go_wp2_with fail
              go_meet
              case rel => exact ⟨lim, dk, rfl, by omega, HE.out, HV.out⟩
          case rest =>
            clear HE HV x0 x1 hds
            obtain ⟨l1, d1, rfl, hl1, hz⟩ := hcut
            have HE : Hid _ := hz.out.1
            have HV : Hid _ := hz.out.2
            clear hz
            obtain ⟨x0, x1⟩ := HE.out.1
            have hds : d1.size = s.n := HE.out.2.2.1.2.1
            go_upto_if 50 with (go_at_call 62; refine (pivot_at HE.out a' b' (by omega) hb').mono ?_; rintro e w2 ⟨pv, hc, rfl, hp1, hp2, he2⟩)
            have HE2 : Hid _ := he2
            clear he2 HE x0 x1
            have HE : Hid _ := HE2.out
            clear HE2
            obtain ⟨x0, x1⟩ := HE.out.1
            go_cut [11, 12] from 19 (fun s11 s12 wc => ∃ (pv : Nat) (hc : Int) (d2 : Array Pl), s11 = .int .i64 pv ∧ s12 = .int .i64 hc ∧ a' ≤ pv ∧ pv < b' ∧ Hid (SE s w.heap.size w d2 wc ∧ Inv a b d a' b' d2))
            case first =>
              by_cases hh : hc = 2
              · subst hh
                have hc3 := reverse_ss s d1 w2 HE.out.2.2.1 a' b' hab' hb'
                go_wp2_with (go_at_call 63; refine hc3.mono ?_; rintro e w3 ⟨rfl, h1, h2⟩)
                go_meet
                case rel => exact ⟨b' - 1 - (pv - a'), 1, _, by congr 1; omega, rfl, by omega, by omega, SE.grown HE.out h2 h1, Inv.perm HV.out (by omega) (Sort.reverseRange_holds d1 a' b' hab' (by omega))⟩
              · have hh' : (hc == 2) = false := by simpa using hh
                go_wp2_with fail
                go_meet
                case rel => exact ⟨pv, hc, d1, rfl, rfl, hp1, hp2, HE.out, HV.out⟩
            case rest =>
              clear HE HV x0 x1 hds hp1 hp2
              obtain ⟨pv, hc, d2, rfl, rfl, hp1, hp2, hz⟩ := hcut
              have HE : Hid _ := hz.out.1
              have HV : Hid _ := hz.out.2
              clear hz
              obtain ⟨x0, x1⟩ := HE.out.1
              have hds : d2.size = s.n := HE.out.2.2.1.2.1
              go_upto_region 16 with fail
              go_cut [68] from 19 (fun s68 wx => ∃ t : Bool, s68 = .bool t ∧ wx = wc)
              case first =>
                by_cases h1 : hc = 1
                · subst h1
                  cases wb <;> cases wp <;>
                    (go_wp2_with fail
                     go_meet
                     exact ⟨_, rfl, rfl⟩)
                · have h1' : (hc == 1) = false := by simpa using h1
                  cases wb <;> cases wp <;>
                    (go_wp2_with fail
                     go_meet
                     exact ⟨_, rfl, rfl⟩)
              case rest =>
                obtain ⟨t, rfl, rfl⟩ := hcut
                go_upto_if 68 with fail
                go_cut [] from 19 (fun wx => ∃ d3 : Array Pl, Hid (SE s w.heap.size w d3 wx ∧ Inv a b d a' b' d3))
                case first =>
                  cases t
                  · go_wp2_with fail
                    go_meet
                    case rel => exact ⟨d2, HE.out, HV.out⟩
                  · obtain ⟨⟨d3, r⟩, hr⟩ : ∃ R, Sort.partialInsertionSort ltB d2 a' b' = R := ⟨_, rfl⟩
                    have hc4 := partial_ss s d2 wc HE.out.2.2.1 a' b' (by omega) hb'
                    obtain ⟨q1, q2⟩ := Sort.partialInsertionSort_holds swo d2 a' b' (by omega) (by omega) HV.out.1
                    rw [hr] at hc4 q1 q2
                    have HQ1 : Hid _ := q1
                    have HQ2 : Hid _ := q2
                    clear q1 q2 hr
                    cases r
                    · go_wp2_with (go_at_call 64; refine hc4.mono ?_; rintro e w4 ⟨rfl, h1, h2⟩)
                      go_meet
                      case rel => exact ⟨d3, SE.grown HE.out h2 h1, Inv.perm HV.out (by omega) HQ1.out⟩
                    · go_wp2_with (go_at_call 64; refine hc4.mono ?_; rintro e w4 ⟨rfl, h1, h2⟩)
                      (try simp only [Exit.inBlock, Exit.then])
                      refine bodyPost_ret (results_none rfl _ _ _) rfl ?_
                      exact ⟨rfl, d3, h1, HV.out.2 _ HQ1.out (HQ2.out (by trivial)), HE.out.2.2.2.trans h2⟩
                case rest =>
                  clear HE HV x0 x1 hds
                  obtain ⟨d3, hz⟩ := hcut
                  have HE : Hid _ := hz.out.1
                  have HV : Hid _ := hz.out.2
                  clear hz
                  obtain ⟨x0, x1⟩ := HE.out.1
                  have hds : d3.size = s.n := HE.out.2.2.1.2.1
                  go_upto_region 18 with fail
                  go_cut [83] from 19 (fun s83 wx => ∃ t : Bool, s83 = .bool t ∧ (t = true → 0 < a' ∧ ltB d3[a' - 1]! d3[pv]! = false) ∧ Hid (SE s w.heap.size w d3 wx))
                  case first =>
                    by_cases ha0 : 0 < a'
                    · have ha0z : (0 : Int) < (a' : Int) := by omega
                      obtain ⟨lb, hlb⟩ : ∃ lb, ltB d3[a' - 1]! d3[pv]! = lb := ⟨_, rfl⟩
                      have HL : Hid _ := hlb
                      clear hlb
                      go_wp2_with (go_at_call 38; refine (less_at HE.out (a' - 1) pv (by omega) (by omega) _ HL.out (by omega) (by omega)).mono ?_; rintro e w5 ⟨rfl, he5⟩)
                      go_meet
                      case rel => exact ⟨_, rfl, fun ht => ⟨ha0, by rw [HL.out]; simpa using ht⟩, he5⟩
                    · have ha0z : ¬ (0 : Int) < (a' : Int) := by omega
                      go_wp2_with fail
                      go_meet
                      case rel => exact ⟨false, rfl, fun ht => by (cases ht), HE.out⟩
                  case rest =>
                    clear HE x0 x1
                    obtain ⟨t, rfl, ht, HE⟩ := hcut
                    obtain ⟨x0, x1⟩ := HE.out.1
                    cases t
                    · obtain ⟨⟨mid, ap, d4⟩, hr⟩ : ∃ R, Sort.partition ltB d3 a' b' pv = R := ⟨_, rfl⟩
                      obtain ⟨r1, r2, r3, r4, r5, r6, r7⟩ := Sort.round_part swo (Sort.partition_holds ltB) hp1 hp2 (by omega) HV.out.1 hr
                      have hc6 := partition_ss s d3 wc HE.out.2.2.1 a' b' pv (by omega) hb' (by omega)
                      rw [hr] at hc6
                      have R4 : Hid _ := r4
                      have R5 : Hid _ := r5
                      have R6 : Hid _ := r6
                      have R7 : Hid _ := r7
                      clear r4 r5 r6 r7 hr ht
                      go_upto_if 109 with (go_at_call 66; refine hc6.mono ?_; rintro e w7 ⟨rfl, h1, h2⟩)
                      have HE7 : Hid (SE s w.heap.size w d4 w7) := SE.grown HE.out h2 h1
                      clear h1 h2 hc6 HE x0 x1
                      obtain ⟨x0, x1⟩ := HE7.out.1
                      by_cases h4 : mid - a' < b' - mid
                      · have h4z : (mid : Int) - (a' : Int) < (b' : Int) - (mid : Int) := by omega
                        go_wp2_with (go_at_call 46; refine (IH.out s d4 w7 a' mid l1 (by omega) HE7.out.2.2.1 (by omega) (by omega) (by omega) R4.out _ _ _ (by omega) (by omega) (by omega)).mono ?_; rintro e w8 ⟨rfl, d5, h1, ⟨p1, p2⟩, h2⟩)
                        go_roundg (b' - (mid + 1))
                        case measure => omega
                        case rel =>
                          have e6 := R6.out d5 p1 p2
                          exact ⟨mid + 1, b', l1, _, ap, d5, by go_num, rfl, rfl, rfl, rfl, by omega, by omega, Nat.le_refl _, by omega, by omega, SE.grown HE7.out h2 h1, e6.1, fun R hR hs => HV.out.2 R (e6.2 R hR hs).1 (e6.2 R hR hs).2⟩
                      · have h4z : ¬ ((mid : Int) - (a' : Int) < (b' : Int) - (mid : Int)) := by omega
                        go_wp2_with (go_at_call 46; refine (IH.out s d4 w7 (mid + 1) b' l1 (by omega) HE7.out.2.2.1 (by omega) (by omega) (by omega) R5.out _ _ _ (by omega) (by omega) (by omega)).mono ?_; rintro e w8 ⟨rfl, d5, h1, ⟨p1, p2⟩, h2⟩)
                        go_roundg (mid - a')
                        case measure => omega
                        case rel =>
                          have e7 := R7.out d5 p1 p2
                          exact ⟨a', mid, l1, _, ap, d5, rfl, rfl, rfl, rfl, rfl, by omega, by omega, Nat.le_refl _, by omega, by omega, SE.grown HE7.out h2 h1, e7.1, fun R hR hs => HV.out.2 R (e7.2 R hR hs).1 (e7.2 R hR hs).2⟩
                    · obtain ⟨ha0, hnl⟩ := ht rfl
                      clear ht
                      obtain ⟨⟨mid, d4⟩, hr⟩ : ∃ R, Sort.partitionEqual ltB d3 a' b' pv = R := ⟨_, rfl⟩
                      obtain ⟨r1, r2, r3, r4, r5⟩ := Sort.round_eq swo (Sort.partitionEqual_holds ltB) ha0 hp1 hp2 (by omega) HV.out.1 hnl hr
                      have hc6 := equal_ss s d3 wc HE.out.2.2.1 a' b' pv (by omega) hb' (by omega)
                      rw [hr] at hc6
                      have R4 : Hid _ := r4
                      have R5 : Hid _ := r5
                      clear r4 r5 hr hnl
                      go_wp2_with (go_at_call 65; refine hc6.mono ?_; rintro e w7 ⟨rfl, h1, h2⟩)
                      go_roundg (b' - mid)
                      case measure => omega
                      case rel => exact ⟨mid, b', l1, wb, wp, d4, rfl, rfl, rfl, rfl, rfl, r2, hb', Nat.le_refl _, by omega, by omega, SE.grown HE.out h2 h1, R4.out, fun R hR hs => HV.out.2 R (R5.out R hR hs).1 (R5.out R hR hs).2⟩
end Go.Proofs.Ytalfjdpdecngoaa
