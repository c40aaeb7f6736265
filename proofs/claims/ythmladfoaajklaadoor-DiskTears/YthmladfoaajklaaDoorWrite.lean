/- The contract of Write. -/
import Derived.Test.YthmladfoaajklaaDoorTear
namespace Go.Proofs.YthmladfoaajklaaDoor
open Go.RowKit
section
variable {b : Nat} {pg : Nat → ByteArray} {ends : Bool} {left torn : Int} {w : World}

theorem grown_of_drew {w w' : World} (h : Below w.drew.heap.size w.drew w') (row : Option Nat) : w.grownBy w' row := ⟨h.os, h.tape, h.output, h.size, fun k hk _ => h.block k hk⟩

theorem write_range (b : Nat) (k : Int) (s : ByteArray) (w : World) (hk : k < 0 ∨ 4001 ≤ k) :
    Calls Tryd.prog 15 #[.pointer (some ⟨b, 0, none⟩), .int .i64 k, .string s] w fun e w' => e = .returned (.iface 24 (.int .i64 2)) ∧ w' = w := by
  go_enter Tryd.func15, Tryd.ntmps15
  go_wp2_with fail
  refine (there_no k w hk).mono ?_
  rintro _ _ ⟨rfl, rfl⟩
  go_wp2
  go_ret
  exact ⟨rfl, rfl⟩

theorem write_arg (b k : Nat) (s : ByteArray) (w : World) (hk : k < 4001) (hs : s.size = 1) :
    Calls Tryd.prog 15 #[.pointer (some ⟨b, 0, none⟩), .int .i64 k, .string s] w fun e w' => e = .returned (.iface 24 (.int .i64 1)) ∧ w' = w := by
  go_enter Tryd.func15, Tryd.ntmps15
  go_wp2_with fail
  refine (there_yes k w hk).mono ?_
  rintro _ _ ⟨rfl, rfl⟩
  go_wp2
  go_ret
  exact ⟨rfl, rfl⟩

set_option maxRecDepth 100000 in
set_option maxHeartbeats 400000 in
theorem write_off (t : Nat) (h : DiskIs b pg true 0 t w) (ht : t ≤ 1024) (k : Nat) (hk : k < 4001) (s : ByteArray) (hs : s.size = 1024) :
    Calls Tryd.prog 15 #[.pointer (some ⟨b, 0, none⟩), .int .i64 k, .string s] w fun e w' => e = .returned (.iface 24 (.int .i64 14)) ∧ DiskIs b (upd pg k (tornPage s (pg k) t)) true 0 0 w' ∧ w.grownBy w' (some b) := by
  have HD : Hid (DiskIs b pg true 0 t w) := h
  clear h
  go_enter Tryd.func15, Tryd.ntmps15
  go_wp2_with fail
  refine (there_yes k w hk).mono ?_
  rintro _ _ ⟨rfl, rfl⟩
  go_wp2_with fail
  refine (on_any HD.out).mono ?_
  rintro _ _ ⟨rfl, rfl⟩
  go_wp2_with fail
  refine (tear_any t HD.out ht k hk s hs).mono ?_
  rintro _ w1 ⟨rfl, hd1, hg1⟩
  have HD1 : Hid _ := hd1
  have HG1 : Hid _ := hg1
  clear hd1 hg1
  go_wp2
  go_ret
  exact ⟨rfl, HD1.out, HG1.out⟩

set_option maxRecDepth 100000 in
set_option maxHeartbeats 400000 in
theorem write_still (h : DiskIs b pg false left torn w) (k : Nat) (hk : k < 4001) (s : ByteArray) (hs : s.size = 1024) :
    Calls Tryd.prog 15 #[.pointer (some ⟨b, 0, none⟩), .int .i64 k, .string s] w fun e w' => e = .returned .nilIface ∧ DiskIs b (upd pg k s) false left torn w' ∧ w.grownBy w' (some b) := by
  have hk' : (k : Int) < 4001 := by omega
  have HD : Hid (DiskIs b pg false left torn w) := h
  clear h
  go_enter Tryd.func15, Tryd.ntmps15
  go_wp2_with fail
  refine (there_yes k w hk).mono ?_
  rintro _ _ ⟨rfl, rfl⟩
  go_wp2_with fail
  refine (on_any HD.out).mono ?_
  rintro _ _ ⟨rfl, rfl⟩
  go_wp2_with fail
  go_region_with (go_at_call 37; refine (clone_any s _ (by omega)).mono ?_; rintro _ w1 ⟨rfl, hb1⟩; have hd1 := (HD.out.drew).below hb1; obtain ⟨u, q3⟩ : ∃ u, w1.cell? ⟨b, k, none⟩ = some u := (by rcases hd1.page k hk with ⟨c, _⟩ | ⟨c, _⟩ <;> exact ⟨_, c⟩); have f1 := hd1.free k; have q4 := (hd1.setPage k hk s hs).ends; have HD1 : Hid _ := hd1; clear hd1)
  go_wp2
  go_ret
  refine ⟨rfl, HD1.out.setPage k hk s hs, ?_⟩
  exact (grown_of_drew hb1 (some b)).trans (grownBy_set _ b k _)

set_option maxRecDepth 100000 in
set_option maxHeartbeats 400000 in
theorem write_less (h : DiskIs b pg true left torn w) (h0 : 0 < left) (hl : left ≤ 9223372036854775807) (k : Nat) (hk : k < 4001) (s : ByteArray) (hs : s.size = 1024) :
    Calls Tryd.prog 15 #[.pointer (some ⟨b, 0, none⟩), .int .i64 k, .string s] w fun e w' => e = .returned .nilIface ∧ DiskIs b (upd pg k s) true (left - 1) torn w' ∧ w.grownBy w' (some b) := by
  have hk' : (k : Int) < 4001 := by omega
  have HD : Hid (DiskIs b pg true left torn w) := h
  clear h
  go_enter Tryd.func15, Tryd.ntmps15
  go_wp2_with fail
  refine (there_yes k w hk).mono ?_
  rintro _ _ ⟨rfl, rfl⟩
  go_wp2_with fail
  refine (on_any HD.out).mono ?_
  rintro _ _ ⟨rfl, rfl⟩
  go_wp2_with fail
  go_region_with (go_at_call 37; refine (clone_any s _ (by omega)).mono ?_; rintro _ w1 ⟨rfl, hb1⟩; have hd1 := (HD.out.drew).below hb1; obtain ⟨u, q3⟩ : ∃ u, w1.cell? ⟨b, k, none⟩ = some u := (by rcases hd1.page k hk with ⟨c, _⟩ | ⟨c, _⟩ <;> exact ⟨_, c⟩); have f1 := hd1.free k; have q4 := (hd1.setPage k hk s hs).ends; have q5 := (hd1.setPage k hk s hs).left; have f5 := (hd1.setPage k hk s hs).free 4002; have HD1 : Hid _ := hd1; clear hd1)
  go_wp2
  go_ret
  refine ⟨rfl, (HD1.out.setPage k hk s hs).setLeft (left - 1), ?_⟩
  exact ((grown_of_drew hb1 (some b)).trans (grownBy_set _ b k _)).trans (grownBy_set _ b 4002 _)
end
end Go.Proofs.YthmladfoaajklaaDoor
