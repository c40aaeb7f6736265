/- The walk of DiskPlays. -/
import Derived.Test.YthmladfoaajklaaDoorState
import Derived.Test.YthmladfoaajklaaDoorPage
import Derived.Deep.DeepCutAuto
import Derived.Deep.CutBlock
import Derived.BigQuiet
namespace Go.Proofs.YthmladfoaajklaaDoor
open Go.RowKit Go.Maps

theorem pageOf_size (n : Int) : (pageOf n).size = 1024 := by
  unfold pageOf
  rw [ByteArray.size_append, rep_size, rep_size]
  omega

/-- a thing that is asked of both disks -/
structure Wt where
  q : Int
  a : Int
  n : Int

def Wt.Fits (x : Wt) : Prop := x.a ≤ 9223372036854775807

/-- a slice of them -/
def Row3 (w : World) (a : Option Addr) (len : Nat) (xs : List Wt) : Prop :=
  len = xs.length ∧ len ≤ maxLen ∧ (xs = [] ∨ ∃ b off, a = some ⟨b, off, none⟩ ∧ b < w.heap.size ∧ ∀ i (h : i < xs.length),
    w.cell? ⟨b, off + i * 3, none⟩ = some (.int .i64 xs[i].q) ∧ w.cell? ⟨b, off + i * 3 + 1, none⟩ = some (.int .i64 xs[i].a) ∧ w.cell? ⟨b, off + i * 3 + 2, none⟩ = some (.int .i64 xs[i].n) ∧ xs[i].Fits)

def st0 : St := ⟨fun _ => zeros, false, 0, 0⟩
theorem st0_ok : st0.Ok := ⟨Nat.zero_le _, (fun e => by cases e), by show (0 : Int) ≤ _; omega⟩

theorem new_on (w : World) : Calls Tryd.prog 14 #[] (w.alloc (.cells Tryd.zeroCells44 44)) fun e w' => e = .returned (.pointer (some ⟨w.heap.size + 2, 0, none⟩)) ∧ Prg w.heap.size st0 w' ∧ Doc (w.heap.size + 2) (w.heap.size + 1) 0 st0 w' ∧ Below w.heap.size w w' := by
  refine (refNew_any _).mono ?_
  rintro _ w1 ⟨rfl, hd, hb, _⟩
  have hs : (w.alloc (.cells Tryd.zeroCells44 44)).heap.size = w.heap.size + 1 := by simp
  rw [hs] at hd
  refine ⟨by rw [hs], DiskIs.below (disk_new w) hb, hd, ?_⟩
  exact ((Below.refl _ w).alloc (Nat.le_refl _) _).trans (hb.mono (by rw [hs]; omega))

theorem read_at {b : Nat} {s : St} {w : World} (h : Prg b s w) (a : Int) (j : Nat) (e : a = j) (hj : j < 4001) :
    Calls Tryd.prog 20 #[.pointer (some ⟨b, 0, none⟩), .int .i64 a] w fun e w' => e = .returned (.tuple #[.string (s.pg j), .nilIface]) ∧ Below w.heap.size w w' := by
  subst e
  exact read_yes h j hj
theorem refGet_at {b m n : Nat} {s : St} {w : World} (h : Doc b m n s w) (a : Int) (j : Nat) (e : a = j) (hj : j < 4001) :
    Calls Tryd.prog 22 #[.pointer (some ⟨b, 0, none⟩), .int .i64 a] w fun e w' => e = .returned (.string (s.pg j)) ∧ Below w.heap.size w w' := by
  subst e
  exact refGet_any h j hj
theorem where_is (a : Int) : (∃ j : Nat, Hid (a = j) ∧ j < 4001 ∧ 0 ≤ a ∧ a < 4001 ∧ True) ∨ (¬ 0 ≤ a ∧ Hid (a < 0 ∨ 4001 ≤ a)) ∨ (0 ≤ a ∧ decide (a < 4001) = false ∧ 4001 ≤ a ∧ Hid (a < 0 ∨ 4001 ≤ a)) := by
  by_cases h0 : 0 ≤ a
  · by_cases h1 : a < 4001
    · exact .inl ⟨a.toNat, (show a = (a.toNat : Int) by omega), by omega, h0, h1, trivial⟩
    · exact .inr (.inr ⟨h0, decide_eq_false h1, by omega, (show a < 0 ∨ 4001 ≤ a by omega)⟩)
  · exact .inr (.inl ⟨h0, (show a < 0 ∨ 4001 ≤ a by omega)⟩)

theorem on_as {b : Nat} {s : St} {w : World} (h : Prg b s w) (ho : s.Ok) {p : Bool} (hp : (s.rest != 0) = p) :
    Calls Tryd.prog 21 #[.pointer (some ⟨b, 0, none⟩)] w fun e w' => e = .returned (.bool p) ∧ w' = w := by
  rw [← hp]
  exact on_st h ho
theorem prg_drewN {b : Nat} {s : St} {w : World} (h : Prg b s w) (n : Nat) : Prg b s (w.drewN n) := DiskIs.block h rfl
theorem Env.drewN {w : World} {n bx : Nat} {s1 s2 : St} {a c : Int} {W : World} (h : Env w n bx s1 s2 a c W) (m : Nat) : Env w n bx s1 s2 a c (W.drewN m) := ⟨prg_drewN h.prg m, RefIs.block h.doc (fun _ _ => rfl), below_drewN h.below m, h.hg, h.hx, h.x1, h.x2⟩
theorem write_one (b : Nat) (a : Int) (j : Nat) (e : a = j) (hj : j < 4001) (w : World) :
    Calls Tryd.prog 15 #[.pointer (some ⟨b, 0, none⟩), .int .i64 a, .string ⟨#[120]⟩] w fun e w' => e = .returned (.iface 24 (.int .i64 1)) ∧ w' = w := by
  subst e
  exact write_arg b j ⟨#[120]⟩ w hj rfl

set_option maxRecDepth 100000 in
set_option maxHeartbeats 4000000 in
theorem plays_walk (ad : Option Addr) (len cap : Nat) (xs : List Wt) (at_ : Int) (w : World) (hr : Row3 w ad len xs) (hg : HG w) :
    Calls Tryd.prog 4 #[.slice ad len cap, .int .i64 at_] w fun e w' => e = .returned (.bool true) ∧ Below w.heap.size w w' := by
  obtain ⟨rfl, hm, hx⟩ := hr
  unfold maxLen at hm
  by_cases h40 : 40 < xs.length
  · have hd : (40 : Int) < (xs.length : Int) := by omega
    go_enter Tryd.func4, Tryd.ntmps4
    go_wp2
    go_ret
    exact ⟨rfl, Below.refl _ _⟩
  have hd : ¬ (40 : Int) < (xs.length : Int) := by omega
  have hz := Tryd.zeroValue44
  have HW : Hid (HG w) := hg
  clear hg
  go_enter Tryd.func4, Tryd.ntmps4
  go_wp2_with fail
  refine (new_on w).mono ?_
  rintro _ w1 ⟨rfl, hp1, hd1, hb1⟩
  have HP1 : Hid _ := hp1
  have HD1 : Hid _ := hd1
  have HB1 : Hid _ := hb1
  clear hp1 hd1 hb1 hz
  go_wp2_with fail
  go_loopw [7] (fun i wr => ∃ (k : Nat) (st : St), k ≤ xs.length ∧ i = .int .i64 k ∧ Hid st.Ok ∧ Hid (Prg w.heap.size st wr) ∧ Hid (Doc (w.heap.size + 2) (w.heap.size + 1) k st wr) ∧ Hid (Below w.heap.size w wr)) (fun i _ => xs.length - (intOf i).toNat)
  case atStart => exact ⟨0, st0, Nat.zero_le _, rfl, st0_ok, HP1, HD1, HB1⟩
  case round =>
    clear HP1 HD1 HB1
    obtain ⟨k, st, hk, rfl, HO, HP, HD, HB⟩ := hrel
    by_cases hlt : k < xs.length
    · rcases hx with hx | ⟨b, off, rfl, hb, hrow⟩
      · exact absurd hlt (by rw [hx]; simp)
      obtain ⟨g1, g2, g3, g4⟩ := hrow k hlt
      have i1 : (k : Int) < (xs.length : Int) := by omega
      have e1 := (HB.out.cell (p := ⟨b, off + k * 3, none⟩) hb).trans g1
      have e2 := (HB.out.cell (p := ⟨b, off + k * 3 + 1, none⟩) hb).trans g2
      have e3 := (HB.out.cell (p := ⟨b, off + k * 3 + 2, none⟩) hb).trans g3
      have hs3 : w.heap.size + 3 ≤ wr.heap.size := RefIs.lt HD.out
      clear hrow g1 g2 g3
      generalize xs[k] = x at *
      obtain ⟨q, a, c⟩ := x
      simp only at e1 e2 e3
      have HE : Hid (Env w k wr.heap.size st st a c (wr.alloc (.cells #[.int .i64 q, .int .i64 a, .int .i64 c] 48))) := by
        have hbl : Below wr.heap.size wr (wr.alloc (.cells #[.int .i64 q, .int .i64 a, .int .i64 c] 48)) := (Below.refl _ _).alloc (Nat.le_refl _) _
        have hb2 := HB.out.trans (hbl.mono HB.out.size)
        exact ⟨DiskIs.below HP.out hbl, RefIs.below HD.out hbl, hb2, hg_of HW.out hb2, hs3, by simp, by simp⟩
      clear HP HD HB
      have HF : Hid (a ≤ 9223372036854775807) := g4
      clear g4
      have hn : k ≤ 1000 := by omega
      have hq : (q = 0 ∧ True) ∨ (q = 1 ∧ True) ∨ (((q == 0) = false ∧ (q == 1) = false) ∧ True) := by
        by_cases q0 : q = 0
        · exact .inl ⟨q0, trivial⟩
        · by_cases q1 : q = 1
          · exact .inr (.inl ⟨q1, trivial⟩)
          · exact .inr (.inr ⟨⟨by simpa using q0, by simpa using q1⟩, trivial⟩)
      go_upto_block 2 with fail
      go_cut [] (fun wx => ∃ st2 : St, Hid st2.Ok ∧ Hid (Env w (k + 1) wr.heap.size st2 st2 a c wx))
      case first =>
        rcases hq with ⟨rfl, M0⟩ | ⟨rfl, M1⟩ | ⟨⟨q0, q1⟩, M2⟩
        · clear M0
          go_wp2_with fail
          have HE : Hid _ := HE.out.drew
          go_region_held3 (fun w' => w'.cell? ⟨wr.heap.size, 1, none⟩ = some (.int .i64 a) ∧ w'.cell? ⟨wr.heap.size, 2, none⟩ = some (.int .i64 c)) (exact ⟨HE.out.x1, HE.out.x2⟩)
            (first
              | (go_at_call 16; refine (page_any c _).mono ?_; rintro _ w2 ⟨rfl, hb2⟩; have HE : Hid _ := HE.out.step hb2; clear hb2)
              | (go_at_call 15; refine Calls.mono (write_st HE.out.prg HO.out a (pageOf c) (pageOf_size c)) ?_; rintro _ w3 ⟨E, rfl, hE, hp, hgr⟩; have HE : Hid _ := HE.out.wrote HW.out hp hgr; have HN : Hid (ErrNo E (st.code a)) := hE; clear hE hp hgr)
              | (go_at_call 17; refine Calls.mono (refWrite_st HE.out.doc HO.out hn a (pageOf c) (pageOf_size c)) ?_; rintro _ w4 ⟨rfl, hd4, ho4⟩; have HE : Hid _ := HE.out.wrote2 HW.out hd4 ho4; clear hd4 ho4)
              | (go_at_call 12; refine Calls.mono (bare_any E (st.code a) _ HE.out.hg (HN.out.is _)) ?_; rintro _ w5 ⟨rfl, hb5⟩; have HE : Hid _ := HE.out.step hb5; clear hb5))
          have HO : Hid _ := HO.out.wr a (pageOf c)
          generalize st.wr a (pageOf c) = st2 at HE HO
          clear HN
          go_wp2
          go_meet
          exact ⟨st2, HO, HE⟩
        · clear M1
          have x1 := HE.out.x1
          have x2 := HE.out.x2
          go_wp2_with fail
          refine Calls.mono (cut_st HE.out.prg a c) ?_
          rintro _ w2 ⟨rfl, hp2, hg2⟩
          have HE : Hid _ := HE.out.wrote HW.out hp2 hg2
          clear hp2 hg2 x1 x2
          have x1 := HE.out.x1
          have x2 := HE.out.x2
          go_wp2_with fail
          refine Calls.mono (refCut_st HE.out.doc a c) ?_
          rintro _ w3 ⟨rfl, hd3, hg3⟩
          have HE : Hid _ := (HE.out.wrote2 HW.out hd3 (Only2.of_grown hg3 (.inl rfl))).more
          have HO : Hid _ := St.Ok.cut (s := st) a c HF.out
          clear hd3 hg3 x1 x2
          generalize st.cut a c = st2 at HE HO
          go_wp2
          go_meet
          exact ⟨st2, HO, HE⟩
        · clear M2
          have HE : Hid _ := HE.out.more
          go_wp2
          go_meet
          exact ⟨st, HO, HE⟩
      case rest =>
        clear HE HO
        obtain ⟨st2, HO, HE⟩ := hcut
        clear hq
        cases hp : (st2.rest != 0)
        all_goals rcases where_is a with ⟨j, HJ, hj, h0, h1, MA⟩ | ⟨h0, MB⟩ | ⟨h0, h1, h2, MB⟩
        all_goals first
          | (have _m := MA
             have x1 := HE.out.x1
             go_wp2_with fail
             refine Calls.mono (read_at HE.out.prg a j HJ.out hj) ?_
             rintro _ w6 ⟨rfl, hb6⟩
             have HE : Hid _ := HE.out.step hb6
             clear hb6 x1
             have x1 := HE.out.x1
             go_wp2_with fail
             clear x1
             have HE : Hid _ := HE.out.drew
             go_region_held3 (fun w' => w'.cell? ⟨w.heap.size + 2, 1, none⟩ = some (.int .i64 st2.rest) ∧ w'.cell? ⟨wr.heap.size, 1, none⟩ = some (.int .i64 a)) (exact ⟨HE.out.doc.left, HE.out.x1⟩)
               (first
                 | (go_at_call 21; refine (on_as HE.out.prg HO.out hp).mono ?_; rintro _ _ ⟨rfl, rfl⟩)
                 | (go_at_call 22; refine Calls.mono (refGet_at HE.out.doc a j HJ.out hj) ?_; rintro _ w7 ⟨rfl, hb7⟩; have HE : Hid _ := HE.out.step hb7; clear hb7)))
          | (have _m := MB
             have x1 := HE.out.x1
             have l1 := HE.out.doc.left
             go_wp2_with fail
             refine Calls.mono (read_no _ a _ MB.out) ?_
             rintro _ w6 ⟨rfl, rfl⟩
             go_wp2_with fail
             go_quiet ((go_at_call 21; refine Calls.quiet_of_same (on_as (prg_drewN HE.out.prg _) HO.out hp)))
             have HE : Hid _ := HE.out.drewN nq)
        all_goals (go_wp2; go_roundw)
        all_goals first
          | (case rel => exact ⟨k + 1, st2, by omega, by go_num, HO, HE.out.prg, HE.out.doc, HE.out.below⟩)
          | (case measure => simp [intOf]; omega)
    · clear hx
      have hkl : (k : Int) = xs.length := by omega
      rcases where_is at_ with ⟨j, HJ, hj, h0, h1, MA⟩ | ⟨h0, MB⟩ | ⟨h0, h1, h2, MB⟩
      all_goals first
        | (have _m := MA
           go_wp2_with fail
           refine Calls.mono (read_at HP.out at_ j HJ.out hj) ?_
           rintro _ w6 ⟨rfl, hb6⟩
           have HP : Hid (Prg w.heap.size st w6) := DiskIs.below HP.out hb6
           have HD : Hid (Doc (w.heap.size + 2) (w.heap.size + 1) k st w6) := RefIs.below HD.out hb6
           have HB : Hid (Below w.heap.size w w6) := HB.out.trans (hb6.mono HB.out.size)
           clear hb6
           go_wp2_with fail
           refine Calls.mono (refGet_at HD.out at_ j HJ.out hj) ?_
           rintro _ w7 ⟨rfl, hb7⟩
           have HB : Hid (Below w.heap.size w w7) := HB.out.trans (hb7.mono HB.out.size)
           clear hb7
           go_wp2_with fail
           refine Calls.mono (write_one _ at_ j HJ.out hj _) ?_
           rintro _ _ ⟨rfl, rfl⟩
           go_wp2_with fail
           refine Calls.mono (bare_any _ 1 _ (hg_of HW.out HB.out) ((errIs_no 1).is _)) ?_
           rintro _ w8 ⟨rfl, hb8⟩
           have HB : Hid (Below w.heap.size w w8) := HB.out.trans (hb8.mono HB.out.size)
           clear hb8
           go_wp2
           go_ret
           exact ⟨rfl, HB.out⟩)
        | (have _m := MB
           go_wp2_with fail
           refine Calls.mono (read_no _ at_ _ MB.out) ?_
           rintro _ _ ⟨rfl, rfl⟩
           go_wp2_with fail
           refine Calls.mono (bare_any _ 2 _ (hg_of HW.out HB.out) ((errIs_no 2).is _)) ?_
           rintro _ w8 ⟨rfl, hb8⟩
           have HB : Hid (Below w.heap.size w w8) := HB.out.trans (hb8.mono HB.out.size)
           clear hb8
           go_wp2
           go_ret
           exact ⟨rfl, HB.out⟩)
end Go.Proofs.YthmladfoaajklaaDoor
