/- All at once, or not at all: for every two lists of acts and every three numbers the function PagerCrashes of the package concordancekeep returns true, and leaves the lists as they were. The package variable errors.errorType starts as the program's text lays it, and the card ties it. The seat is set up under a lid of 48,000 MB (the word MEM): two tuples of the pager with arrays of 2,000 cells want some 34,000 MB in the set-up's check of types; no text of the claim itself wants more than 10,240. -/
import Derived.Test.YtjnjjpdgifnnpaaGreatDoorR05
import Derived.BigQuiet
import Derived.Deep.DeepCutAuto
import Derived.Deep.CutBlock
import Derived.Test.YtjnjjpdgifnnpaaGreatDoorCards
import Derived.Test.YtjnjjpdgifnnpaaGreatDoorTie
import Derived.ProofKit
import Derived.Deep.Slices
import Derived.Deep.Strs
import Derived.OpenShut
import Derived.Deep.DeepHandedRow
import Derived.LaidHandle
import Derived.Stop.Joined
namespace Go.Proofs.YtjnjjpdgifnnpaaGreatDoor
open Go.RowKit Go.Maps

theorem cut_any {b : Nat} {pg : Nat → ByteArray} {ends : Bool} {left torn : Int} {w : World} (h : DiskIs b pg ends left torn w) (writes t : Int) :
    Calls Tryz.prog 25 #[.pointer (some ⟨b, 0, none⟩), .int .i64 writes, .int .i64 t] w fun e w' => e = .returned (.tuple #[]) ∧ DiskIs b pg (decide (0 ≤ writes)) writes (clip t) w' ∧ w.grownBy w' (some b) := by
  have q1 := h.ends
  have q2 := h.left
  have q3 := h.torn
  have f1 := h.free 4001
  have f2 := h.free 4002
  have f3 := h.free 4003
  have HD : Hid _ := ((h.setEnds (decide (0 ≤ writes))).setLeft writes).setTorn (clip t)
  have HG : Hid _ := ((grownBy_set w b 4001 (.bool (decide (0 ≤ writes)))).trans (grownBy_set _ b 4002 (.int .i64 writes))).trans (grownBy_set _ b 4003 (.int .i64 (clip t)))
  clear h
  go_enter Tryz.func25, Tryz.ntmps25
  go_wp2
  go_end0
  exact ⟨rfl, HD.out, HG.out⟩
theorem cut_st {b : Nat} {s : St} {w : World} (h : Prg b s w) (writes t : Int) :
    Calls Tryz.prog 25 #[.pointer (some ⟨b, 0, none⟩), .int .i64 writes, .int .i64 t] w fun e w' => e = .returned (.tuple #[]) ∧ Prg b (s.cut writes t) w' ∧ w.grownBy w' (some b) := by
  refine (cut_any h writes t).mono ?_
  rintro _ w' ⟨rfl, hd, hg⟩
  refine ⟨rfl, ?_, hg⟩
  have := clip_le t
  have e : (((clip t).toNat : Nat) : Int) = clip t := by omega
  show DiskIs b s.pg (decide (0 ≤ writes)) writes (((clip t).toNat : Nat) : Int) w'
  rw [e]; exact hd

/-- a new disk -/
def st1 : St := ⟨fun _ => zeros, false, 0, 0⟩
theorem st1_ok : st1.Ok := ⟨Nat.zero_le _, (fun e => by cases e), by show (0 : Int) ≤ _; omega⟩
theorem zeros_getD1 (k : Nat) : zeros.data.toList.getD k 0 = 0 := by
  have h : zeros.data.toList = List.replicate 1024 0 := by
    unfold zeros
    simp
  rw [h, List.getD_eq_getElem?_getD, List.getElem?_replicate]
  split <;> rfl
theorem st1_head : headOf st1.pg = zeros := rfl
theorem st1_used (c : Int) (d : Bool) (k : Nat) : (loaded st1.pg c d).used k = false := by
  show usedOf (headOf st1.pg) k = false
  rw [st1_head]
  unfold usedOf bitOf
  rw [zeros_getD1]
  simp
theorem st1_good : upperOf (headOf st1.pg) 0 = tb st1.pg := by
  have h1 : upperOf (headOf st1.pg) 0 = false := by
    rw [st1_head]
    unfold upperOf bitOf
    rw [zeros_getD1]
    simp
  have h2 : tb st1.pg = false := by
    show (zeros.data.toList.getD 0 0 != 0) = false
    rw [zeros_getD1]; rfl
  rw [h1, h2]

section
variable {bp bd bm K N : Nat} {s : St} {c : Int} {w0 w : World} {p : Pg}
/-- opened -/
theorem open_dst (hD : Prg bd s w) (ld : w0.heap.size ≤ bd) (hb : Below w0.heap.size w0 w) (hg : upperOf (headOf s.pg) 0 = tb s.pg) (hf : ∀ j, K < j → j < 2000 → (loaded s.pg 1 false).used j = false) :
    Calls Tryz.prog 5 #[.pointer (some ⟨bd, 0, none⟩)] w fun e w' => ∃ bp bm, e = .returned (.tuple #[.pointer (some ⟨bp, 0, none⟩), .nilIface]) ∧ Dst bp bd s 1 K 0 w0 (loaded s.pg 1 false) bm w' := by
  refine (open_any hD).mono ?_
  rintro _ w1 ⟨bp, bm, rfl, h1, h2, h3, h4, h5⟩
  have hs := hb.size
  exact ⟨bp, bm, rfl, ⟨by omega, ld, by omega, h3, h4, loaded_ok _ _ _, loaded_lies _ _ hg, rfl, rfl, hf, hf, hb.trans (h5.mono hs)⟩⟩
theorem Done.used {pg pg' : Nat → ByteArray} (h : Done p pg pg') (ho : p.Ok) (c : Int) (d : Bool) {k : Nat} (hk : k < 2000) : (loaded pg' c d).used k = p.used k := by
  obtain ⟨g, h1, h2, h3⟩ := h.headIs
  show usedOf (headOf pg') k = _
  rw [h1, head_used h2 h3 ho.zero hk]
theorem Dst.bel3 (h : Dst bp bd s c K N w0 p bm w) {wx : World} (ho : Only (fun b => b = bp ∨ b = bd ∨ b = bm) w wx) : Below w0.heap.size w0 wx :=
  h.bel ho (fun i e => by rcases e with e | e | e <;> (subst e; first | exact h.lp | exact h.ld | exact h.lm))
/-- a commit, told no error -/
theorem Dst.commit (h : Dst bp bd s c K N w0 p bm w) {s' : St} {wx : World} (hD : Prg bd s' wx) (hP : PagerIs bp bd bm N p.done wx) (hDn : Done p s.pg s'.pg) (ho : Only (fun b => b = bp ∨ b = bd ∨ b = bm) w wx) : Dst bp bd s' (c + 1) K N w0 p.done bm wx :=
  { lp := h.lp, ld := h.ld, lm := h.lm, pgr := hP, prg := hD, ok := Done.ok h.ok, lies := hDn.lies, down := h.down, com := by show p.commits + 1 = _; rw [h.com]
    few := h.few
    lfew := fun j hj h2 => by rw [hDn.used h.ok _ _ h2]; exact h.few j hj h2
    below := h.bel3 ho }
/-- a commit with power -/
theorem commit_on (h : Dst bp bd s c K N w0 p bm w) (ho : s.Ok) (he : s.ends = false) (hc : 0 ≤ c ∧ c < 1000) :
    Calls Tryz.prog 15 #[.pointer (some ⟨bp, 0, none⟩)] w fun e w' => e = .returned .nilIface ∧ ∃ s', Dst bp bd s' (c + 1) K N w0 p.done bm w' ∧ s'.Ok ∧ s'.ends = false ∧ Done p s.pg s'.pg := by
  refine (commit_any h.pgr h.prg ho h.ok h.down ⟨by rw [h.com]; omega, by rw [h.com]; omega⟩).mono ?_
  rintro e w1 ⟨s', h1, h2, h3, h4, h5⟩
  rcases h5 with ⟨rfl, h6, h7⟩ | ⟨_, _, h6, _⟩
  · exact ⟨rfl, s', h.commit h1 h6 h7 h4, h2, by rw [h3, he], h7⟩
  · rw [he] at h6; cases h6
/-- cut -/
theorem Dst.cut (h : Dst bp bd s c K N w0 p bm w) {writes t : Int} {wx : World} (hD : Prg bd (s.cut writes t) wx) (hg : w.grownBy wx (some bd)) : Dst bp bd (s.cut writes t) c K N w0 p bm wx :=
  have ho : Only (fun b => b = bd) w wx := Only.of_grown hg rfl
  { lp := h.lp, ld := h.ld, lm := h.lm, pgr := h.pgr.only ho (h.pgr.nd h.prg) (h.pgr.md h.prg), prg := hD, ok := h.ok, lies := ⟨h.lies.upper, h.lies.turn⟩, down := h.down, com := h.com, few := h.few, lfew := h.lfew
    below := h.bel ho (fun i e => by subst e; exact h.ld) }
end

theorem countU_one {f : Nat → Bool} : ∀ n, (∀ k, k < n → f k = decide (k = 1)) → countU f n = if n ≤ 1 then 0 else 1
  | 0, _ => rfl
  | n + 1, h => by
    have ih := countU_one n (fun k hk => h k (by omega))
    rw [countU, ih, h n (by omega)]
    by_cases h1 : n = 1
    · subst h1; rfl
    · by_cases h2 : n = 0
      · subst h2; rfl
      · rw [if_neg (by omega), if_neg (by simpa using h1), if_neg (by omega)]
end Go.Proofs.YtjnjjpdgifnnpaaGreatDoor
namespace Go.Proofs.YtjnjjpdgifnnpaaGreatDoor
open Go.RowKit Go.Maps

/-- the pager that paged commits -/
def pgd : Pg := (((loaded st1.pg 1 false).alloc 1).write 1 (pageOf 7)).setRoot 2 1 9
theorem pgd_used (k : Nat) : pgd.used k = decide (k = 1) := by
  show (if k = 1 then true else (loaded st1.pg 1 false).used k) = _
  rw [st1_used]
  by_cases e : k = 1
  · rw [if_pos e, decide_eq_true e]
  · rw [if_neg e, decide_eq_false e]
theorem pgd_view (pg : Nat → ByteArray) : pgd.view pg 1 = some (pageOf 7) := by
  rw [Pg.view_yes (by omega) (by rw [pgd_used]; rfl)]
  rfl

set_option maxRecDepth 100000 in
set_option maxHeartbeats 4000000 in
theorem paged_any (w : World) : Calls Tryz.prog 22 #[] w fun e w' => e = .returned (.bool true) ∧ Below w.heap.size w w' := by
  have hz := Tryz.zeroValue26
  have HD0 : Hid (Prg w.heap.size st1 (w.alloc (.cells Tryz.zeroCells26 26))) := disk_new w
  have HB0 : Hid (Below w.heap.size w (w.alloc (.cells Tryz.zeroCells26 26))) := (Below.refl _ w).alloc (Nat.le_refl _) _
  go_enter Tryz.func22, Tryz.ntmps22
  go_wp2_with fail
  refine (open_dst (K := 0) HD0.out (Nat.le_refl _) HB0.out st1_good (fun j _ _ => st1_used 1 false j)).mono ?_
  rintro _ w1 ⟨bp, bm, rfl, hE1⟩
  have HE1 : Hid _ := hE1
  clear hE1 HD0 HB0
  go_wp2_with fail
  refine (allocp_any HE1.out.pgr (by omega) HE1.out.down 1 (by omega) (by omega) (st1_used 1 false 1) (fun j h1 h2 => by omega)).mono ?_
  rintro _ w2 ⟨rfl, hP2, hO2⟩
  have HE2 : Hid _ := HE1.out.alloc (k := 1) (by omega) (by omega) (by omega) hP2 hO2
  clear hP2 hO2 HE1
  go_wp2_with fail
  refine (page2_any 7 _).mono ?_
  rintro _ w3 ⟨rfl, hb3⟩
  have HE3 : Hid _ := HE2.out.step hb3
  clear hb3 HE2
  go_wp2_with fail
  refine (writep_yes HE3.out.pgr (by omega) HE3.out.down 1 (by omega) rfl (pageOf 7) (pageOf_size 7)).mono ?_
  rintro _ w4 ⟨rfl, hP4, hO4⟩
  have HE4 : Hid _ := HE3.out.write (k := 1) (by omega) rfl (pageOf 7) (pageOf_size 7) hP4 hO4
  clear hP4 hO4 HE3
  go_wp2_with fail
  refine (setRoot_yes HE4.out.pgr.cells HE4.out.down 2 (by omega) 1 9 (by decide) (by decide)).mono ?_
  rintro _ w5 ⟨rfl, hC5, hO5⟩
  have HE5 : Hid (Dst bp w.heap.size st1 1 1 2 w pgd bm w5) := HE4.out.setRoot 2 (by decide) (by decide) hC5 hO5
  clear hC5 hO5 HE4
  go_wp2_with fail
  refine (commit_on HE5.out st1_ok rfl (by omega)).mono ?_
  rintro _ w6 ⟨rfl, s', hE6, hs6, he6, hDn⟩
  have hok : pgd.Ok := HE5.out.ok
  have HE6 : Hid _ := hE6
  have hused : ∀ k, k < 2000 → (loaded s'.pg 1 false).used k = decide (k = 1) := fun k hk => by rw [hDn.used hok 1 false hk]; exact pgd_used k
  have hview := (hDn.loaded_view hok 1 false 1).trans (pgd_view _)
  have hcnt := countU_one (f := (loaded s'.pg 1 false).used) 2000 hused
  have hrp : (loaded s'.pg 1 false).rp 2 = 1 := hDn.loaded_rp 1 false (by omega)
  have hrn : (loaded s'.pg 1 false).rn 2 = 9 := hDn.loaded_rn 1 false (by omega)
  have hu1 := hused 1 (by omega)
  have htext : (loaded s'.pg 1 false).text s'.pg 1 = pageOf 7 := by
    rw [Pg.view_yes (by omega) hu1] at hview
    exact Option.some.inj hview
  have HU : Hid (∀ k, k < 2000 → (loaded s'.pg 1 false).used k = decide (k = 1)) := hused
  have HU1 : Hid ((loaded s'.pg 1 false).used 1 = true) := hu1
  have HC : Hid (countU (loaded s'.pg 1 false).used 2000 = 1) := hcnt
  have HRP : Hid _ := hrp
  have HRN : Hid _ := hrn
  have HT : Hid _ := htext
  have HGD : Hid (upperOf (headOf s'.pg) 0 = tb s'.pg) := hDn.lies.good
  clear hE6 hDn hok hused hview hcnt hrp hrn hu1 htext HE5 hs6 he6
  go_wp2_with fail
  refine (open_dst (K := 1) HE6.out.prg HE6.out.ld HE6.out.below HGD.out (fun j h1 h2 => by rw [HU.out j h2]; exact decide_eq_false (by omega))).mono ?_
  rintro _ w7 ⟨bp2, bm2, rfl, hE7⟩
  have HE7 : Hid _ := hE7
  clear hE7 HE6 HGD HU
  go_wp2_with fail
  refine (readp_yes HE7.out.pgr HE7.out.prg HE7.out.down 1 (by omega) HU1.out).mono ?_
  rintro _ w8 ⟨rfl, hb8⟩
  have HE8 : Hid _ := HE7.out.step hb8
  clear hb8 HE7
  rw [HT.out]
  go_wp2_with fail
  refine (root_yes HE8.out.pgr.cells 2 (by omega)).mono ?_
  rintro _ w9 ⟨rfl, hb9⟩
  have HE9 : Hid _ := HE8.out.step hb9
  clear hb9 HE8
  rw [HRP.out, HRN.out]
  go_wp2_with fail
  refine (page2_any 7 _).mono ?_
  rintro _ w10 ⟨rfl, hb10⟩
  have HE10 : Hid _ := HE9.out.step hb10
  clear hb10 HE9
  go_wp2_with fail
  refine (used_any HE10.out.pgr.cells).mono ?_
  rintro _ w11 ⟨rfl, hw11⟩
  subst w11
  rw [HC.out]
  go_wp2
  go_ret
  exact ⟨rfl, HE10.out.below⟩
end Go.Proofs.YtjnjjpdgifnnpaaGreatDoor
namespace Go.Proofs.YtjnjjpdgifnnpaaGreatDoor
open Go.RowKit Go.Maps

theorem pick_40 (a : Int) (w : World) : Calls Tryz.prog 26 #[.int .i64 a, .int .i64 40] w fun e w' => e = .returned (.int .i64 (pk a 40 : Nat)) ∧ w' = w := pick_any a 40 (by omega) (by omega) w
theorem pick_20 (a : Int) (w : World) : Calls Tryz.prog 26 #[.int .i64 a, .int .i64 20] w fun e w' => e = .returned (.int .i64 (pk a 20 : Nat)) ∧ w' = w := pick_any a 20 (by omega) (by omega) w
theorem pick_1025 (a : Int) (w : World) : Calls Tryz.prog 26 #[.int .i64 a, .int .i64 1025] w fun e w' => e = .returned (.int .i64 (pk a 1025 : Nat)) ∧ w' = w := pick_any a 1025 (by omega) (by omega) w

/-- a disk as a commit left it; whether there is power for good -/
structure Cutd (w0 : World) (bd : Nat) (G : Nat → ByteArray) (on : Bool) (wr : World) : Prop where
  ld : w0.heap.size ≤ bd
  prg : ∃ s : St, Prg bd s wr ∧ s.Ok ∧ s.pg = G ∧ (on = true → s.ends = false)
  below : Below w0.heap.size w0 wr
section
variable {w0 wr wx : World} {bd : Nat} {G : Nat → ByteArray} {on : Bool}
theorem Cutd.step (h : Cutd w0 bd G on wr) (hb : Below wr.heap.size wr wx) : Cutd w0 bd G on wx :=
  ⟨h.ld, by obtain ⟨s, h1, h2, h3⟩ := h.prg; exact ⟨s, Prg.below h1 hb, h2, h3⟩, h.below.trans (hb.mono h.below.size)⟩
theorem cut_cutd (h : Cutd w0 bd G on wr) (writes t : Int) (hw : writes ≤ 9223372036854775807) :
    Calls Tryz.prog 25 #[.pointer (some ⟨bd, 0, none⟩), .int .i64 writes, .int .i64 t] wr fun e w' => e = .returned (.tuple #[]) ∧ Cutd w0 bd G (decide (writes < 0)) w' := by
  obtain ⟨s, h1, h2, h3, _⟩ := h.prg
  refine (cut_st h1 writes t).mono ?_
  rintro _ w1 ⟨rfl, hP, hg⟩
  have hk : (s.cut writes t).Ok := St.Ok.cut writes t hw
  refine ⟨rfl, ⟨h.ld, ⟨_, hP, hk, h3, fun hn => ?_⟩, h.below.grown hg h.below.size (fun k e => by cases e; exact h.ld)⟩⟩
  show decide (0 ≤ writes) = false
  have := of_decide_eq_true hn
  exact decide_eq_false (by omega)
/-- opened anew: a new pager -/
structure Cutp (w0 : World) (bd : Nat) (G : Nat → ByteArray) (on : Bool) (bp bm : Nat) (wr : World) : Prop extends Cutd w0 bd G on wr where
  lp : w0.heap.size ≤ bp
  lm : w0.heap.size ≤ bm
  pgr : PagerIs bp bd bm 0 (loaded G 1 false) wr
theorem Cutp.step {bp bm : Nat} (h : Cutp w0 bd G on bp bm wr) (hb : Below wr.heap.size wr wx) : Cutp w0 bd G on bp bm wx :=
  { h.toCutd.step hb with lp := h.lp, lm := h.lm, pgr := h.pgr.below hb }
theorem open_cutd (h : Cutd w0 bd G on wr) :
    Calls Tryz.prog 5 #[.pointer (some ⟨bd, 0, none⟩)] wr fun e w' => ∃ bp bm, e = .returned (.tuple #[.pointer (some ⟨bp, 0, none⟩), .nilIface]) ∧ Cutp w0 bd G on bp bm w' := by
  obtain ⟨s, h1, h2, h3, h4⟩ := h.prg
  subst h3
  refine (open_any h1).mono ?_
  rintro _ w1 ⟨bp, bm, rfl, k1, k2, k3, k4, k5⟩
  have hs := h.below.size
  exact ⟨bp, bm, rfl, { h.step k5 with lp := by omega, lm := by omega, pgr := k3 }⟩
/-- all of it -/
theorem all_cutd {bp bm : Nat} {S : ByteArray} (h : Cutp w0 bd G on bp bm wr) (hS : (loaded G 1 false).all G = S) :
    Calls Tryz.prog 24 #[.pointer (some ⟨bp, 0, none⟩)] wr fun e w' => e = .returned (.string S) ∧ Cutp w0 bd G on bp bm w' := by
  obtain ⟨s, h1, h2, h3, h4⟩ := h.prg
  subst h3
  refine (all_any h.pgr h1 (loaded_ok _ _ _) rfl).mono ?_
  rintro _ w1 ⟨rfl, hb⟩
  exact ⟨by rw [hS], h.step hb⟩
/-- committed with power: all is as it was -/
structure Cutq (w0 : World) (bd : Nat) (p : Pg) (S : ByteArray) (bp bm : Nat) (wr : World) : Prop where
  pgr : PagerIs bp bd bm 0 p wr
  ok : p.Ok
  down : p.down = false
  prg : ∃ s : St, Prg bd s wr ∧ p.all s.pg = S
  below : Below w0.heap.size w0 wr
theorem commit_cutd {bp bm : Nat} {S : ByteArray} (h : Cutp w0 bd G true bp bm wr) (hS : (loaded G 1 false).all G = S) :
    Calls Tryz.prog 15 #[.pointer (some ⟨bp, 0, none⟩)] wr fun e w' => e = .returned .nilIface ∧ Cutq w0 bd (loaded G 1 false).done S bp bm w' := by
  obtain ⟨s, h1, h2, h3, h4⟩ := h.prg
  subst h3
  refine (commit_any h.pgr h1 h2 (loaded_ok _ _ _) rfl ⟨by show (0 : Int) ≤ 1; omega, by show (1 : Int) < _; omega⟩).mono ?_
  rintro e w1 ⟨s', k1, k2, k3, k4, k5⟩
  rcases k5 with ⟨rfl, k6, k7⟩ | ⟨_, _, k6, _⟩
  · exact ⟨rfl, k6, Done.ok (loaded_ok _ _ _), rfl, ⟨s', k1, by rw [k7.all (loaded_ok _ _ _), hS]⟩, Only.below h.below k4 h.below.size (fun i e => by rcases e with e | e | e <;> (subst e; first | exact h.lp | exact h.ld | exact h.lm))⟩
  · rw [h4 rfl] at k6; cases k6
theorem all_cutq {bp bm : Nat} {p : Pg} {S : ByteArray} (h : Cutq w0 bd p S bp bm wr) :
    Calls Tryz.prog 24 #[.pointer (some ⟨bp, 0, none⟩)] wr fun e w' => e = .returned (.string S) ∧ Below w0.heap.size w0 w' := by
  obtain ⟨s, h1, h2⟩ := h.prg
  refine (all_any h.pgr h1 h.ok h.down).mono ?_
  rintro _ w1 ⟨rfl, hb⟩
  exact ⟨by rw [h2], h.below.trans (hb.mono h.below.size)⟩
end
theorem all_dst {bp bd bm K N : Nat} {s : St} {c : Int} {w0 w : World} {p : Pg} (h : Dst bp bd s c K N w0 p bm w) :
    Calls Tryz.prog 24 #[.pointer (some ⟨bp, 0, none⟩)] w fun e w' => e = .returned (.string (p.all s.pg)) ∧ Dst bp bd s c K N w0 p bm w' := by
  refine (all_any h.pgr h.prg h.ok h.down).mono ?_
  rintro _ w1 ⟨rfl, hb⟩
  exact ⟨rfl, h.step hb⟩
/-- a commit that the power may cut off -/
theorem commit_cut {bp bd bm K N : Nat} {s : St} {c : Int} {w0 w : World} {p : Pg} (h : Dst bp bd s c K N w0 p bm w) (ho : s.Ok) (hc : 0 ≤ c ∧ c < 1000) :
    Calls Tryz.prog 15 #[.pointer (some ⟨bp, 0, none⟩)] w fun e w' =>
      (e = .returned .nilIface ∧ ∃ s', Dst bp bd s' (c + 1) K N w0 p.done bm w' ∧ p.done.all s'.pg = p.all s.pg) ∨
      (e = .returned (.iface 33 (.int .i64 14)) ∧ ∃ G, Cutd w0 bd G false w' ∧ Cells bp bd bm p.off w' ∧ upperOf (headOf G) 0 = tb G ∧ ((loaded G 1 false).all G = (loaded s.pg 1 false).all s.pg ∨ (loaded G 1 false).all G = p.all s.pg)) := by
  refine (commit_any h.pgr h.prg ho h.ok h.down ⟨by rw [h.com]; omega, by rw [h.com]; omega⟩).mono ?_
  rintro e w1 ⟨s', h1, h2, h3, h4, h5⟩
  rcases h5 with ⟨rfl, h6, h7⟩ | ⟨rfl, h6, _, h7⟩
  · exact .inl ⟨rfl, s', h.commit h1 h6 h7 h4, h7.all h.ok⟩
  · refine .inr ⟨rfl, s'.pg, ⟨h.ld, ⟨s', h1, h2, rfl, fun e => by cases e⟩, h.bel3 h4⟩, h6.cells, ?_, ?_⟩
    · rcases h7 with h7 | h7
      · exact h7.good h.lies
      · exact h7.lies.good
    · rcases h7 with h7 | h7
      · exact .inl (h7.loaded_all h.lies 1 false)
      · exact .inr (h7.loaded_all h.ok 1 false)

set_option maxRecDepth 100000 in
set_option maxHeartbeats 40000000 in
theorem crashes_walk (a0 : Option Addr) (l0 c0 : Nat) (xs : List Ac) (a1 : Option Addr) (l1 c1 : Nat) (ys : List Ac) (cut torn again : Int) (w : World) (hr0 : Row3 w a0 l0 xs) (hr1 : Row3 w a1 l1 ys) (hg : HG w) :
    Calls Tryz.prog 4 #[.slice a0 l0 c0, .slice a1 l1 c1, .int .i64 cut, .int .i64 torn, .int .i64 again] w fun e w' => e = .returned (.bool true) ∧ Below w.heap.size w w' := by
  have HR0 : Hid (Row3 w a0 l0 xs) := hr0
  have HR1 : Hid (Row3 w a1 l1 ys) := hr1
  obtain ⟨e0, hm0, _⟩ := hr0
  obtain ⟨e1, hm1, _⟩ := hr1
  unfold maxLen at hm0 hm1
  by_cases h30 : 30 < l0
  · have hd : (30 : Int) < (l0 : Int) := by omega
    go_enter Tryz.func4, Tryz.ntmps4
    go_wp2
    go_ret
    exact ⟨rfl, Below.refl _ _⟩
  by_cases h31 : 30 < l1
  · have hd : (30 : Int) < (l1 : Int) := by omega
    have hd2 : ¬ (30 : Int) < (l0 : Int) := by omega
    go_enter Tryz.func4, Tryz.ntmps4
    go_wp2
    go_ret
    exact ⟨rfl, Below.refl _ _⟩
  have hd : ¬ (30 : Int) < (l0 : Int) := by omega
  have hd2 : ¬ (30 : Int) < (l1 : Int) := by omega
  have L0 : Hid (xs.length ≤ 30) := by show _ ≤ _; omega
  have L1 : Hid (ys.length ≤ 30) := by show _ ≤ _; omega
  have hz := Tryz.zeroValue26
  have HW : Hid (HG w) := hg
  clear hg e0 e1 hm0 hm1 h30 h31
  go_enter Tryz.func4, Tryz.ntmps4
  go_wp2_with fail
  refine (paged_any w).mono ?_
  rintro _ w1 ⟨rfl, hb1⟩
  have hs1 := hb1.size
  have HD1 : Hid (Prg w1.heap.size st1 (w1.alloc (.cells Tryz.zeroCells26 26))) := disk_new w1
  have HB1 : Hid (Below w.heap.size w (w1.alloc (.cells Tryz.zeroCells26 26))) := hb1.alloc hs1 _
  clear hb1
  go_wp2_with fail
  refine (open_dst (K := 0) HD1.out hs1 HB1.out st1_good (fun j _ _ => st1_used 1 false j)).mono ?_
  rintro _ w2 ⟨bp, bm, rfl, hE2⟩
  obtain ⟨bd, hbd⟩ : ∃ n, w1.heap.size = n := ⟨_, rfl⟩
  rw [hbd] at hE2
  have HE2 : Hid _ := hE2
  try rw [hbd]
  clear hE2 HD1 HB1 hs1 hz hbd
  go_wp2_with fail
  refine (does_any HE2.out (by omega) (by omega) a0 l0 c0 xs HR0.out L0.out).mono ?_
  rintro _ w3 ⟨rfl, p1, bm1, hE3⟩
  have HE3 : Hid _ := hE3
  clear hE3 HE2
  go_wp2_with fail
  refine (commit_on HE3.out st1_ok rfl (by omega)).mono ?_
  rintro _ w4 ⟨rfl, s1, hE4, ho4, he4, hDn4⟩
  have HE4 : Hid _ := hE4
  have HOLD : Hid ((loaded s1.pg 1 false).all s1.pg = p1.done.all s1.pg) := (hDn4.loaded_all HE3.out.ok 1 false).trans (hDn4.all HE3.out.ok).symm
  have HO4 : Hid s1.Ok := ho4
  clear hE4 HE3 ho4 he4 hDn4
  go_wp2_with fail
  refine (all_dst HE4.out).mono ?_
  rintro _ w5 ⟨rfl, hE5⟩
  have HE5 : Hid _ := hE5
  clear hE5 HE4
  obtain ⟨old, hold⟩ : ∃ old, p1.done.all s1.pg = old := ⟨_, rfl⟩
  rw [hold] at HOLD
  rw [hold]
  clear hold
  go_wp2_with fail
  refine (does_any HE5.out (by have := L0.out; omega) (by have := L0.out; omega) a1 l1 c1 ys HR1.out L1.out).mono ?_
  rintro _ w6 ⟨rfl, p2, bm2, hE6⟩
  have HE6 : Hid _ := hE6
  clear hE6 HE5
  go_wp2_with fail
  refine (all_dst HE6.out).mono ?_
  rintro _ w7 ⟨rfl, hE7⟩
  have HE7 : Hid _ := hE7
  clear hE7 HE6
  obtain ⟨now, hnow⟩ : ∃ now, p2.all s1.pg = now := ⟨_, rfl⟩
  rw [hnow]
  have HNOW : Hid (p2.all s1.pg = now) := hnow
  clear hnow
  go_wp2_with fail
  refine (pick_40 cut _).mono ?_
  rintro _ wa ⟨rfl, hwa⟩
  subst wa
  go_wp2_with fail
  refine (pick_1025 torn _).mono ?_
  rintro _ wa ⟨rfl, hwa⟩
  subst wa
  go_wp2_with fail
  refine (cut_st HE7.out.prg _ _).mono ?_
  rintro _ w8 ⟨rfl, hP8, hg8⟩
  have HE8 : Hid _ := HE7.out.cut hP8 hg8
  have HO8 : Hid (s1.cut (pk cut 40 : Nat) (pk torn 1025 : Nat)).Ok := St.Ok.cut _ _ (by have := pk_lt cut 40 (by omega); omega)
  clear hP8 hg8 HE7
  go_wp2_with fail
  refine (commit_cut HE8.out HO8.out (by omega)).mono ?_
  rintro _ w9 (⟨rfl, s2, hE9, hall9⟩ | ⟨rfl, G, hC9, hcl9, hgd9, hon9⟩)
  · have HE9 : Hid _ := hE9
    have HA9 : Hid (p2.done.all s2.pg = now) := hall9.trans HNOW.out
    clear hE9 hall9 HE8
    go_wp2_with fail
    refine (tell_nil _).mono ?_
    rintro _ wa ⟨rfl, hwa⟩
    subst wa
    go_wp2_with fail
    refine (all_dst HE9.out).mono ?_
    rintro _ w10 ⟨rfl, hE10⟩
    have HE10 : Hid _ := hE10
    clear hE10 HE9
    rw [HA9.out]
    go_wp2
    go_ret
    exact ⟨rfl, HE10.out.below⟩
  · have HC9 : Hid (Cutd w bd G false w9) := hC9
    have HCL : Hid (Cells bp bd bm2 p2.off w9) := hcl9
    have HGD : Hid (upperOf (headOf G) 0 = tb G) := hgd9
    obtain ⟨S, hS⟩ : ∃ S, (loaded G 1 false).all G = S := ⟨_, rfl⟩
    have HS : Hid ((loaded G 1 false).all G = S) := hS
    have HON : Hid (S = old ∨ S = now) := by
      rw [hS] at hon9
      rcases hon9 with h | h
      · exact .inl (h.trans HOLD.out)
      · exact .inr (h.trans HNOW.out)
    clear hC9 hcl9 hgd9 hon9 hS HE8 HOLD HNOW HO8 HO4
    go_wp2_with fail
    refine (tell_hit 14 _ (HW.out.below HC9.out.below HW.out.lt)).mono ?_
    rintro _ w10 ⟨rfl, hb10⟩
    have HC10 : Hid _ := HC9.out.step hb10
    have HCL : Hid (Cells bp bd bm2 p2.off w10) := HCL.out.block (hb10.block _ HCL.out.lt)
    clear hb10 HC9
    go_wp2_with fail
    refine (down_any HCL.out).mono ?_
    rintro _ wa ⟨rfl, hwa⟩
    subst wa
    rw [show p2.off.down = true from rfl]
    go_wp2_with fail
    refine (commit_down HCL.out rfl).mono ?_
    rintro _ wa ⟨rfl, hwa⟩
    subst wa
    go_wp2_with fail
    refine (tell_hit 6 _ (HW.out.below HC10.out.below HW.out.lt)).mono ?_
    rintro _ w11 ⟨rfl, hb11⟩
    have HC11 : Hid _ := HC10.out.step hb11
    clear hb11 HC10 HCL
    go_wp2_with fail
    go_loopw [17] (fun i wr => ∃ k : Nat, k ≤ 3 ∧ i = .int .i64 k ∧ Hid (∃ on, Cutd w bd G on wr)) (fun i _ => 3 - (intOf i).toNat)
    case atStart => exact ⟨0, by omega, rfl, ⟨_, HC11.out⟩⟩
    case round =>
      clear HC11
      obtain ⟨k, hk, rfl, HC0⟩ := hrel
      obtain ⟨on, hC0⟩ := HC0.out
      have HC : Hid _ := hC0
      clear hC0 HC0
      by_cases hlt : k < 3
      · have h1 : (k : Int) < 3 := by omega
        have hp20 := pk_lt again 20 (by omega)
        obtain ⟨m, hm⟩ : ∃ m, pk again 20 = m := ⟨_, rfl⟩
        rw [hm] at hp20
        have HM : Hid (pk again 20 = m) := hm
        clear hm
        go_wp2_with fail
        refine (pick_20 again _).mono ?_
        rintro _ wa ⟨rfl, hwa⟩
        subst wa
        rw [HM.out]
        go_wp2_with fail
        refine (pick_1025 torn _).mono ?_
        rintro _ wa ⟨rfl, hwa⟩
        subst wa
        go_wp2_with fail
        refine (cut_cutd HC.out _ _ (by omega)).mono ?_
        rintro _ w12 ⟨rfl, hC12⟩
        have HC12 : Hid _ := hC12
        clear hC12 HC
        go_wp2_with fail
        refine (open_cutd HC12.out).mono ?_
        rintro _ w13 ⟨bq, bn, rfl, hC13⟩
        have HC13 : Hid _ := hC13
        clear hC13 HC12
        go_wp2_with fail
        refine (all_cutd HC13.out HS.out).mono ?_
        rintro _ w14 ⟨rfl, hC14⟩
        have HC14 : Hid (∃ on, Cutd w bd G on w14) := ⟨_, hC14.toCutd⟩
        clear hC14 HC13
        rcases HON.out with h | h
        · subst h
          go_wp2_with fail
          go_roundw
          case rel => exact ⟨k + 1, by omega, by go_num, HC14⟩
          case measure => simp [intOf]; omega
        · subst h
          cases hq : (S.toList == old.toList)
          · go_wp2_with fail
            go_roundw
            case rel => exact ⟨k + 1, by omega, by go_num, HC14⟩
            case measure => simp [intOf]; omega
          · go_wp2_with fail
            go_roundw
            case rel => exact ⟨k + 1, by omega, by go_num, HC14⟩
            case measure => simp [intOf]; omega
      · have h1 : ¬ (k : Int) < 3 := by omega
        obtain rfl : k = 3 := by omega
        go_wp2_with fail
        refine (cut_cutd HC.out (-1) 0 (by omega)).mono ?_
        rintro _ w12 ⟨rfl, hC12⟩
        have HC12 : Hid (Cutd w bd G true w12) := hC12
        clear hC12 HC
        go_wp2_with fail
        refine (open_cutd HC12.out).mono ?_
        rintro _ w13 ⟨bq, bn, rfl, hC13⟩
        have HC13 : Hid _ := hC13
        clear hC13 HC12
        go_wp2_with fail
        refine (all_cutd HC13.out HS.out).mono ?_
        rintro _ w14 ⟨rfl, hC14⟩
        have HC14 : Hid (Cutd w bd G true w14) := hC14.toCutd
        clear hC14 HC13
        obtain ⟨eo, en, HEO, HEN, hee⟩ : ∃ eo en : Bool, Hid ((S.toList == old.toList) = eo) ∧ Hid ((S.toList == now.toList) = en) ∧ (eo = true ∨ (eo = false ∧ en = true)) := by
          rcases HON.out with h | h
          · subst h; exact ⟨_, _, rfl, rfl, .inl (by simp)⟩
          · subst h
            cases hq : (S.toList == old.toList)
            · exact ⟨false, _, rfl, rfl, .inr ⟨rfl, by simp⟩⟩
            · exact ⟨true, _, rfl, rfl, .inl rfl⟩
        have q1 : (S.toList == old.toList) = eo := HEO.out
        have q2 : (S.toList == now.toList) = en := HEN.out
        rcases hee with rfl | ⟨rfl, rfl⟩
        all_goals
          go_wp2_with fail
          refine (open_cutd HC14.out).mono ?_
          rintro _ w15 ⟨br, bo, rfl, hC15⟩
          have HC15 : Hid _ := hC15
          clear hC15 HC14 q1 q2
          go_wp2_with fail
          refine (all_cutd HC15.out HS.out).mono ?_
          rintro _ w16 ⟨rfl, hC16⟩
          have HC16 : Hid _ := hC16
          clear hC16 HC15
          go_wp2_with fail
          refine (commit_cutd HC16.out HS.out).mono ?_
          rintro _ w17 ⟨rfl, hC17⟩
          have HC17 : Hid _ := hC17
          clear hC17 HC16
          go_wp2_with fail
          refine (all_cutq HC17.out).mono ?_
          rintro _ w18 ⟨rfl, hb18⟩
          have HB18 : Hid _ := hb18
          clear hb18 HC17
          go_wp2
          go_ret
          exact ⟨rfl, HB18.out⟩
end Go.Proofs.YtjnjjpdgifnnpaaGreatDoor
namespace Go.Proofs.YtjnjjpdgifnnpaaGreatDoor
open Go.ChangeShapes Go.WideShapes Go.ChangeAt Go.RowKit

theorem gType : Tryz.prog.globalNamed "errors.errorType" = some 0 := by kernel_rfl
theorem rtRow : (Tryz.prog.cutTypes.find? (·.1 == "internal/reflectlite.rtype")).map (·.2) = some 155 := by kernel_rfl
theorem oneRow : ((List.range 216).filter fun t => Tryz.prog.rowNamed t [101, 114, 114, 111, 114]) = [29] := by kernel_rfl
theorem sizeT : Tryz.prog.types.size = 216 := by kernel_rfl
theorem cells97 : Tryz.prog.cellsOf 97 = 3 := by kernel_rfl

theorem trod_struct3 {H : Type} {enc : TypeId × Value → H} {P : Program} {w : World} {base : Nat} {spare : Nat → Bool} {held : Bool} {t : TypeId} {f0 f1 f2 : Field} {fuel : Nat} {cs : List Value} {x : DataW H × List MemPlace} (ht : P.underlying t = some (.struct #[f0, f1, f2])) (h : DataW.trod enc P w base spare held fuel t cs = some x) :
    ∃ y0 y1 y2 n, DataW.trod enc P w base spare held n f0.type ((cs.drop f0.offset).take (P.cellsOf f0.type)) = some y0 ∧
      DataW.trod enc P w base spare held n f1.type ((cs.drop f1.offset).take (P.cellsOf f1.type)) = some y1 ∧ DataW.trod enc P w base spare held n f2.type ((cs.drop f2.offset).take (P.cellsOf f2.type)) = some y2 := by
  obtain ⟨xs, n, _, rfl, hl, hlen, hf⟩ := DataW.trod_struct ht h
  match xs, hlen with
  | [y0, y1, y2], _ => exact ⟨y0, y1, y2, n, by simpa using hf 0, by simpa using hf 1, by simpa using hf 2⟩

set_option maxRecDepth 100000 in
theorem one_of {H : Type} {enc : TypeId × Value → H} {W : World} {spare : Nat → Bool} {held : Bool} {n : Nat} {cs : List Value} {y : DataW H × List MemPlace}
    (hl : cs.length = 3) (h : DataW.trod enc Tryz.prog W 0 spare held n 97 cs = some y) :
    ∃ x : Ac, cs = [.int .i64 x.q, .int .i64 x.a, .int .i64 x.n] := by
  obtain ⟨y0, y1, y2, m, t0, t1, t2⟩ := trod_struct3 Tryz.underlying97 h
  match cs, hl with
  | [c0, c1, c2], _ =>
    simp only [cells3] at t0 t1 t2
    obtain ⟨k, e0, _, w0⟩ := DataW.trod_int Tryz.underlying3 t0
    obtain ⟨i, e1, _, w1⟩ := DataW.trod_int Tryz.underlying3 t1
    obtain ⟨s, e2, _, w2⟩ := DataW.trod_int Tryz.underlying3 t2
    simp at e0 e1 e2
    subst e0 e1 e2
    exact ⟨⟨k, i, s⟩, rfl⟩

set_option maxRecDepth 100000 in
theorem row_of {H : Type} {enc : TypeId × Value → H} {W : World} {held : Bool} {a : Option Addr} {len cap : Nat} {d : DataW H} {p : List MemPlace}
    (h : DataW.Trod enc Tryz.prog W 0 (fun _ => true) held 68 (.slice a len cap) d p) : ∃ xs, Row3 W a len xs := by
  obtain ⟨fuel, hf⟩ := h
  rcases Deep.open_slice Tryz.underlying68 hf with ⟨hcs, _⟩ | ⟨ad, l, c, m, n, D, Pl, hcs, _, hl, hm, hmm, _, hx⟩
  · simp [Value.cells] at hcs
    obtain ⟨rfl, rfl, rfl⟩ := hcs
    exact ⟨[], rfl, Nat.zero_le _, .inl rfl⟩
  · simp [Value.cells] at hcs
    obtain ⟨rfl, rfl, rfl⟩ := hcs
    simp at hmm
    subst hmm
    have each : ∀ i, i < len → ∃ x : Ac, W.cell? (ad.add (i * 3)) = some (.int .i64 x.q) ∧ W.cell? (ad.add (i * 3 + 1)) = some (.int .i64 x.a) ∧ W.cell? (ad.add (i * 3 + 2)) = some (.int .i64 x.n) := by
      intro i hi
      obtain ⟨cs', h1, h2⟩ := hx i (by omega)
      rw [cells97] at h1
      obtain ⟨_, hlen, hcell⟩ := World.cells?_some h1
      obtain ⟨x, rfl⟩ := one_of hlen h2
      have c0 := hcell 0 (by omega)
      have c1 := hcell 1 (by omega)
      have c2 := hcell 2 (by omega)
      rw [Deep.add_add] at c0 c1 c2
      exact ⟨x, by simpa using c0, by simpa using c1, by simpa using c2⟩
    by_cases h0 : len = 0
    · subst h0
      exact ⟨[], rfl, Nat.zero_le _, .inl rfl⟩
    obtain ⟨b, off, spot⟩ := ad
    obtain ⟨x0, hx0, _⟩ := each 0 (by omega)
    have hspot : spot = none := by simpa [Addr.add] using World.cell?_spot hx0
    subst hspot
    have hbl : b < W.heap.size := by simpa [add_plain] using World.block_lt_of_cell? W _ hx0
    obtain ⟨X, hX⟩ : ∃ X : Nat → Ac, ∀ i, i < len → W.cell? ((⟨b, off, none⟩ : Addr).add (i * 3)) = some (.int .i64 (X i).q) ∧ W.cell? ((⟨b, off, none⟩ : Addr).add (i * 3 + 1)) = some (.int .i64 (X i).a) ∧ W.cell? ((⟨b, off, none⟩ : Addr).add (i * 3 + 2)) = some (.int .i64 (X i).n) := by
      refine ⟨fun i => if hi : i < len then Classical.choose (each i hi) else x0, fun i hi => ?_⟩
      simp only [dif_pos hi]
      exact Classical.choose_spec (each i hi)
    refine ⟨(List.range len).map X, by simp, by omega, .inr ⟨b, off, rfl, hbl, fun i hi => ?_⟩⟩
    have hi' : i < len := by simpa using hi
    obtain ⟨g1, g2, g3⟩ := hX i hi'
    rw [add_plain] at g1 g2 g3
    simp only [List.getElem_map, List.getElem_range]
    exact ⟨g1, by rw [Nat.add_assoc]; exact g2, by rw [Nat.add_assoc]; exact g3⟩

/-- what the row's list gives: the handle of the type error -/
theorem handle_of_laid {W : World} (h : laidMetH Tryz.prog Rows.pagerCrashesRow.laid W) : HG W := by
  have h' : laidMet Tryz.prog [] W ∧ handlesMet Tryz.prog [("errors.errorType", Rows.laid_errors_errorType)] W := h
  obtain ⟨name, u, ty, e1, e2, e3, e4, e5⟩ := h'.2 _ (List.mem_singleton.2 rfl)
  have en : name = [101, 114, 114, 111, 114] := (Option.some.inj e1).symm
  subst en
  obtain rfl := Option.some.inj (rtRow.symm.trans e2)
  have hm : ty ∈ (List.range 216).filter fun t => Tryz.prog.rowNamed t [101, 114, 114, 111, 114] := List.mem_filter.2 ⟨List.mem_range.2 (by rw [← sizeT]; exact e3), e4⟩
  rw [oneRow] at hm
  obtain rfl := List.mem_singleton.1 hm
  have hh : typeHandle Tryz.prog 29 = .pointer (some ⟨2, 29, none⟩) := by kernel_rfl
  rw [hh] at e5
  simpa [HG] using World.var?_cell gType e5 0

set_option maxRecDepth 100000 in
theorem contract (H : Type) (enc : TypeId × Value → H) (W : World) (base : Nat) (args : Array Value) (ds gs : List (DataW H)) (before : List MemPlace)
    (hval : ∀ (j : Nat) t v, Tryz.f4.params[j]? = some t → args[j]? = some v → Value.okWide Tryz.prog W .any base t v)
    (hW : DataW.Whole enc Tryz.prog Tryz.f4.params.toList Rows.pagerCrashesSpec.vars false W args.toList ds gs before) (hL : laidMetH Tryz.prog Rows.pagerCrashesRow.laid W) :
    Calls Tryz.prog 4 args W fun e W' => ∃ v, e = .returned v ∧ Rows.pagerCrashesSpec.post enc Tryz.prog Tryz.f4 false true false false W args v W' := by
  have hW' := hW
  obtain ⟨p, q, hA0, hV, rfl, hfz, hnd⟩ := hW
  have hA : DataW.TrodAll enc Tryz.prog W 0 (fun _ => true) true Tryz.f4.params.toList args.toList ds p := hA0
  rw [Tryz.params4] at hA hval
  obtain ⟨v0, vs, d0, ds', p0, q0, ha0, rfl, rfl, h0, hA⟩ := trodAll_cons hA
  obtain ⟨v1, vs, d1, ds', p1, q1, rfl, rfl, rfl, h1, hA⟩ := trodAll_cons hA
  obtain ⟨v2, vs, d2, ds', p2, q2, rfl, rfl, rfl, h2, hA⟩ := trodAll_cons hA
  obtain ⟨v3, vs, d3, ds', p3, q3, rfl, rfl, rfl, h3, hA⟩ := trodAll_cons hA
  obtain ⟨v4, vs, d4, ds', p4, q4, rfl, rfl, rfl, h4, hA⟩ := trodAll_cons hA
  obtain ⟨rfl, rfl, rfl⟩ := trodAll_nil hA
  obtain rfl : args = #[v0, v1, v2, v3, v4] := by cases args; simp_all
  obtain ⟨rfl, rfl⟩ := trodVars_none hV
  obtain ⟨a0, len0, cap0, rfl⟩ := okWide_slice Tryz.underlying68 (hval 0 68 v0 rfl rfl)
  obtain ⟨a1, len1, cap1, rfl⟩ := okWide_slice Tryz.underlying68 (hval 1 68 v1 rfl rfl)
  have lt0 : ∀ x ∈ p0, x.block < W.heap.size := by obtain ⟨m, hm⟩ := h0; exact DataW.trod_lt m _ _ _ hm
  have lt1 : ∀ x ∈ p1, x.block < W.heap.size := by obtain ⟨m, hm⟩ := h1; exact DataW.trod_lt m _ _ _ hm
  obtain ⟨xs, r0⟩ := row_of h0
  obtain ⟨ys, r1⟩ := row_of h1
  obtain ⟨z2, rfl, rfl, rfl, hz2⟩ := open_int Tryz.underlying3 (hval 2 3 v2 rfl rfl) h2
  obtain ⟨z3, rfl, rfl, rfl, hz3⟩ := open_int Tryz.underlying3 (hval 3 3 v3 rfl rfl) h3
  obtain ⟨z4, rfl, rfl, rfl, hz4⟩ := open_int Tryz.underlying3 (hval 4 3 v4 rfl rfl) h4
  clear hA0
  refine (crashes_walk a0 len0 cap0 xs a1 len1 cap1 ys z2 z3 z4 W r0 r1 (handle_of_laid hL)).mono fun e W' ⟨he, bel⟩ => ?_
  subst he
  exact ⟨_, rfl, _, _, _, [], _, [], hW', trodAll_mk1 (shut_bool Tryz.underlying4 _), ⟨_, _, Below.trod Tryz.laidOut (by kernel_rfl) (of_decide_eq_true (by kernel_rfl)) h0 bel lt0, trodAll_mk4 (Below.trod Tryz.laidOut (by kernel_rfl) (of_decide_eq_true (by kernel_rfl)) h1 bel lt1) (shut_int Tryz.underlying3 hz2) (shut_int Tryz.underlying3 hz3) (shut_int Tryz.underlying3 hz4), rfl⟩, rfl, bel.frame _, fun h => by cases h⟩
/-- a block's cells, laid -/
def layCells (cs : Array Value) : Obj → Obj
  | .cells _ t frozen => .cells cs t frozen
  | o => o

theorem laid_met (os : Os) : laidMetH Tryz.prog Rows.pagerCrashesRow.laid (({ World.holding Tryz.prog os ⟨#[], #[], []⟩ with heap := (World.holding Tryz.prog os ⟨#[], #[], []⟩).heap.modify 0 (layCells #[.iface 155 (.agg #[.pointer (some ⟨2, 29, none⟩)])]) } : World).forCall (fun _ _ => 0) ⟨#[], #[.slice none 0 0, .slice none 0 0, .int .i64 0, .int .i64 0, .int .i64 0], []⟩).memory :=
  laidMetH_of_parts (laidMet_of_run' 8 (by kernel_rfl) (by kernel_rfl)) (by kernel_rfl)
theorem reads (os : Os) {H : Type} (enc : TypeId × Value → H) : ∃ places, DataW.whole enc Tryz.prog (({ World.holding Tryz.prog os ⟨#[], #[], []⟩ with heap := (World.holding Tryz.prog os ⟨#[], #[], []⟩).heap.modify 0 (layCells #[.iface 155 (.agg #[.pointer (some ⟨2, 29, none⟩)])]) } : World).forCall (fun _ _ => 0) ⟨#[], #[.slice none 0 0, .slice none 0 0, .int .i64 0, .int .i64 0, .int .i64 0], []⟩).memory Tryz.f4.params.toList Rows.pagerCrashesSpec.vars false #[Value.slice none 0 0, Value.slice none 0 0, Value.int .i64 0, Value.int .i64 0, Value.int .i64 0].toList 8 = some ([.nil, .nil, .lit (.int .i64 0), .lit (.int .i64 0), .lit (.int .i64 0)], [], places) :=
  ⟨[], by kernel_rfl⟩

set_option maxRecDepth 100000 in
theorem lifted (os : Os) (started : os.Started) (H : Type) (enc : TypeId × Value → H) (F : Stop.Interp) :
    ReturnsInHanded {} Tryz.checked os 4 .any ((OpenSpec.ofChange Rows.pagerCrashesSpec).preRow enc Tryz.prog Tryz.f4 Rows.pagerCrashesRow.domain false Rows.pagerCrashesRow.laid) (((OpenSpec.ofChange Rows.pagerCrashesSpec).at F).post enc Tryz.prog Tryz.f4 false true false false) := by
  obtain ⟨places, hx⟩ := reads os enc
  refine returnsInHanded_of_row (C := Tryz.checked) (s := OpenSpec.ofChange Rows.pagerCrashesSpec) Tryz.own started (by kernel_rfl) Tryz.func4
    (witness_row_at (enc := enc) (C := Tryz.checked) false ({ World.holding Tryz.prog os ⟨#[], #[], []⟩ with heap := (World.holding Tryz.prog os ⟨#[], #[], []⟩).heap.modify 0 (layCells #[.iface 155 (.agg #[.pointer (some ⟨2, 29, none⟩)])]) } : World) #[.slice none 0 0, .slice none 0 0, .int .i64 0, .int .i64 0, .int .i64 0] rfl (by kernel_rfl) (by kernel_rfl) (by kernel_rfl)
      (OpenSpec.preRow_of_cond 8 hx (by kernel_rfl) (fun k hk => by cases hk) (by kernel_rfl) (laid_met os))) ?_
  intro W base args ds gs before hval hW _ _ _ hL _ _
  exact contract H enc W base args ds gs before hval hW hL

theorem crashes_said : Rows.PagerCrashesSaid :=
  OpenClaim.holds_of_cond 4 Tryz.f4 rfl rfl rfl rfl rfl rfl rfl ⟨rfl, rfl, rfl, rfl, rfl⟩ rfl rfl rfl rfl rfl (by kernel_rfl) Tryz.func4 (by kernel_rfl)
    (of_decide_eq_true (by kernel_rfl)) (by unfold Func.isWrapper; first | (rw [if_pos (by decide +kernel)]; kernel_rfl) | (rw [if_neg (by decide +kernel)]; exact ⟨rfl, rfl⟩))
    (fun os started H enc _ F => by rw [OpenClaim.pre_eq_preRow]; exact lifted os started H enc F)

/-- no parameter wants a stand-in; what the card asks of the looks -/
theorem plain (f : FuncId) (fn : Func) (hf : Tryz.pinned.checked.prog.funcNamed "concordance/concordancekeep.PagerCrashes" = some f) (hfn : Tryz.pinned.checked.prog.funcs[f]? = some fn) :
    true = Tryz.pinned.checked.prog.looks [] ∧ ∀ (j : Nat) t, fn.params[j]? = some t → Tryz.pinned.checked.prog.wantsStandIn t = false := by
  obtain rfl : f = 4 := Option.some.inj ((show Tryz.prog.funcNamed "concordance/concordancekeep.PagerCrashes" = some 4 by kernel_rfl).symm.trans hf) |>.symm
  obtain rfl : fn = Tryz.f4 := (Option.some.inj (Tryz.func4.symm.trans hfn)).symm
  refine ⟨by kernel_rfl, fun j t ht => ?_⟩
  rw [Tryz.params4] at ht
  have hm : t = 68 ∨ t = 3 := by
    have := Array.mem_of_getElem? ht
    simp at this
    omega
  rcases hm with rfl | rfl
  · exact (show Tryz.prog.wantsStandIn 68 = false by kernel_rfl)
  · exact (show Tryz.prog.wantsStandIn 3 = false by kernel_rfl)

theorem crashes_card : Rows.PagerCrashesCardSaid :=
  Claim7.holds_tied_plain_at .later [] _ _ _ _ crashes_said (fun _ h => by cases h) (by kernel_rfl) (fun _ h => by cases h) pagerCrashes_row_tie rfl ⟨rfl, rfl⟩ (by kernel_rfl) rfl plain (by kernel_rfl)
#print axioms crashes_card
end Go.Proofs.YtjnjjpdgifnnpaaGreatDoor
