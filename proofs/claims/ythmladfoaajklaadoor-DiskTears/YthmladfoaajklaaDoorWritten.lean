/- What is asked of a disk ahead of the second statement; errors told. -/
import Derived.Test.YthmladfoaajklaaDoorState
import Derived.Test.YthmladfoaajklaaDoorPage
namespace Go.Proofs.YthmladfoaajklaaDoor
open Go.RowKit Go.Maps

theorem tell_no {E : Value} {n : Int} (h : ErrNo E n) (w : World) (hg : HG w) : Calls Tryd.prog 25 #[E] w fun e w' => e = .returned (.int .i64 n) ∧ Below w.heap.size w w' := by
  rcases h with ⟨rfl, rfl⟩ | rfl
  · refine (tell_nil w).mono ?_
    rintro _ _ ⟨rfl, rfl⟩
    exact ⟨rfl, Below.refl _ _⟩
  · exact tell_hit n w hg

def stx : St := ⟨fun _ => zeros, true, 0, 2⟩
theorem stx_ok : stx.Ok := ⟨by show 2 ≤ 1024; omega, fun _ => by show (0 : Int) ≤ 0; omega, by show (0 : Int) ≤ _; omega⟩

theorem torn_written : tornPage (rep 120 1024) zeros 2 = ⟨#[120, 120]⟩ ++ rep 0 1022 := by
  apply ByteArray.ext
  apply Array.toList_inj.1
  rw [ByteArray.data_append, Array.toList_append]
  show (List.replicate 1024 (120 : UInt8)).take 2 ++ (List.replicate 1024 (0 : UInt8)).drop 2 = [120, 120] ++ List.replicate 1022 (0 : UInt8)
  rw [List.take_replicate, List.drop_replicate]
  rfl

theorem written_any (w : World) (hg : HG w) : Calls Tryd.prog 23 #[] w fun e w' => e = .returned (.bool true) ∧ Below w.heap.size w w' := by
  have hz := Tryd.zeroValue44
  have hp0 : Hid (Prg w.heap.size ⟨fun _ => zeros, false, 0, 0⟩ (w.alloc (.cells Tryd.zeroCells44 44))) := disk_new w
  have HW : Hid (HG w) := hg
  clear hg
  go_enter Tryd.func23, Tryd.ntmps23
  go_wp2_with fail
  refine Calls.mono (cut_st hp0.out 0 2) ?_
  rintro _ w1 ⟨rfl, hp1, hg1⟩
  have HP : Hid (Prg w.heap.size stx w1) := hp1
  have HB : Hid (Below w.heap.size w w1) := ((Below.refl _ w).alloc (Nat.le_refl _) _).grown hg1 (by simp) (fun k e => by cases e; exact Nat.le_refl _)
  clear hp0 hp1 hg1 hz
  go_wp2_with fail
  refine Calls.mono (rep_any 120 1024 (Nat.le_refl _) _) ?_
  rintro _ w2 ⟨rfl, hb2⟩
  have HP : Hid (Prg w.heap.size stx w2) := DiskIs.below HP.out hb2
  have HB : Hid (Below w.heap.size w w2) := HB.out.trans (hb2.mono HB.out.size)
  clear hb2
  go_wp2_with fail
  refine Calls.mono (write_st HP.out stx_ok 3 (rep 120 1024) (rep_size _ _)) ?_
  rintro _ w3 ⟨E, rfl, hE, hp3, hg3⟩
  have HP : Hid (Prg w.heap.size (stx.wr 3 (rep 120 1024)) w3) := hp3
  have HB : Hid (Below w.heap.size w w3) := HB.out.grown hg3 HB.out.size (fun k e => by cases e; exact Nat.le_refl _)
  have HE : Hid (ErrNo E 14) := hE
  clear hE hp3 hg3
  go_wp2_with fail
  refine Calls.mono (read_yes HP.out 3 (by omega)) ?_
  rintro _ w4 ⟨rfl, hb4⟩
  have HB : Hid (Below w.heap.size w w4) := HB.out.trans (hb4.mono HB.out.size)
  clear hb4
  have e3 : (stx.wr 3 (rep 120 1024)).pg 3 = ⟨#[120, 120]⟩ ++ rep 0 1022 := by
    rw [← torn_written]
    rfl
  rw [e3]
  go_wp2_with fail
  refine Calls.mono (tell_no HE.out _ (hg_of HW.out HB.out)) ?_
  rintro _ w5 ⟨rfl, hb5⟩
  have HB : Hid (Below w.heap.size w w5) := HB.out.trans (hb5.mono HB.out.size)
  clear hb5
  have hr := rep_size 0 1022
  go_wp2_with fail
  refine Calls.mono (rep_any 0 1022 (by omega) _) ?_
  rintro _ w6 ⟨rfl, hb6⟩
  have HB : Hid (Below w.heap.size w w6) := HB.out.trans (hb6.mono HB.out.size)
  clear hb6
  go_wp2
  go_ret
  exact ⟨rfl, HB.out⟩
end Go.Proofs.YthmladfoaajklaaDoor
