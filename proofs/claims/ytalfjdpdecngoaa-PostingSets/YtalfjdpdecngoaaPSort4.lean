/- The sort by a heap: the whole. -/
import Derived.Test.YtalfjdpdecngoaaPSort3
namespace Go.Proofs.Ytalfjdpdecngoaa
open Go.RowKit

theorem sift_at {s : Sl} {B : Nat} {w : World} {d : Array Pl} {wx : World} (h : SE s B w d wx) (lo hi first : Nat) (hb : first + hi ≤ s.n) (hlo : lo ≤ s.n) {x y z : Int} (hx : x = lo) (hy : y = hi) (hz : z = first) :
    Calls Try.prog 68 #[.agg #[(Value.func (.func 38) #[] #[.pointer (some ⟨s.Bs, 0, none⟩)]), (Value.func (.func s.sf) #[] s.sb)], .int .i64 x, .int .i64 y, .int .i64 z] wx fun e w' => e = .returned (.tuple #[]) ∧ SE s B w (Sort.siftDown ltB hi first lo d) w' := by
  subst hx hy hz
  exact (sift_ss s d wx h.2.2.1 lo hi first hb hlo).mono fun _ _ ⟨he, h1, h2⟩ => ⟨he, h.grown h2 h1⟩

set_option maxHeartbeats 2000000 in
set_option maxRecDepth 100000 in
theorem heap_ss (s : Sl) (d : Array Pl) (w : World) (h : SS s d w) (a b : Nat) (hab : a < b) (hb : b ≤ s.n) :
    Calls Try.prog 60 #[.agg #[(Value.func (.func 38) #[] #[.pointer (some ⟨s.Bs, 0, none⟩)]), (Value.func (.func s.sf) #[] s.sb)], .int .i64 a, .int .i64 b] w fun e w' => e = .returned (.tuple #[]) ∧ SS s (Sort.heapSort ltB d a b) w' ∧ w.grownBy w' (some s.blk) := by
  have hn := h.2.2.2.1.2.2.2
  have HE : Hid (SE s w.heap.size w d (w.alloc (.cells #[(Value.func (.func 38) #[] #[.pointer (some ⟨s.Bs, 0, none⟩)]), (Value.func (.func s.sf) #[] s.sb)] 76))) := SE.box h
  clear h
  have q1 : (0 : Int) ≤ (b : Int) - a - 1 := by omega
  go_enter Try.func60, Try.ntmps60
  go_wp2
  go_loopw [9] (fun vi wr => ∃ (k : Nat) (i : Int) (dk : Array Pl), vi = .int .i64 i ∧ i + 1 = k ∧ k ≤ b - a ∧ Hid (SE s w.heap.size w dk wr ∧ Sort.heapPop ltB a (b - a) (Sort.heapBuild ltB (b - a) a k dk) = Sort.heapSort ltB d a b)) (fun vi _ => (intOf vi + 1).toNat)
  case atStart =>
    refine ⟨(b - a - 1) / 2 + 1, ((b - a - 1) / 2 : Nat), d, ?_, by omega, by omega, HE.out, rfl⟩
    congr 1
    first | omega | (rw [Int.tdiv_eq_ediv_of_nonneg (by omega)]; omega) | (trace_state; omega)
  case round =>
    clear HE
    obtain ⟨k, i, dk, rfl, hik, hk, hz⟩ := hrel
    have HE : Hid (SE s w.heap.size w dk wr) := hz.out.1
    obtain ⟨c0, c1⟩ := hz.out.1.1
    cases k with
    | zero =>
      have e : i = -1 := by omega
      subst e
      have HX : Hid (Sort.heapPop ltB a (b - a) dk = Sort.heapSort ltB d a b) := hz.out.2
      clear hz
      go_wp2
      go_loopw [10] (fun vi wr => ∃ (k : Nat) (i : Int) (dk : Array Pl), vi = .int .i64 i ∧ i + 1 = k ∧ k ≤ b - a ∧ Hid (SE s w.heap.size w dk wr ∧ Sort.heapPop ltB a k dk = Sort.heapSort ltB d a b)) (fun vi _ => (intOf vi + 1).toNat)
      case atStart => exact ⟨b - a, _, dk, rfl, by omega, by omega, HE.out, HX.out⟩
      case round =>
        clear HE HX
        obtain ⟨k, i, dk, rfl, hik, hk, hz⟩ := hrel
        have HE : Hid (SE s w.heap.size w dk wr) := hz.out.1
        obtain ⟨c0, c1⟩ := hz.out.1.1
        cases k with
        | zero =>
          have e : i = -1 := by omega
          subst e
          have HX : Hid (dk = Sort.heapSort ltB d a b) := hz.out.2
          clear hz
          go_wp2
          go_end0
          exact ⟨rfl, by rw [← HX.out]; exact HE.out.2.2.1, HE.out.2.2.2⟩
        | succ k =>
          have HX : Hid (Sort.heapPop ltB a k (Sort.siftDown ltB k a 0 (Sort.swp dk a (a + k))) = Sort.heapSort ltB d a b) := hz.out.2
          clear hz
          have e : i = k := by omega
          subst e
          go_wp2_with (fail)
          refine swap_upon HE.out a (a + k) (by omega) (by omega) (by omega) (by omega) ?_
          intro w2 he2
          rw [Oper.upon_value]
          obtain ⟨c0, c1⟩ := he2.1
          have HE2 : Hid _ := he2
          clear he2
          go_wp2_with (go_at_call 68; refine (sift_at HE2.out 0 k a (by omega) (by omega) (by omega) (by omega) (by omega)).mono ?_; rintro e w3 ⟨rfl, he3⟩; have HE3 : Hid _ := he3; clear he3)
          go_roundw
          case rel => exact ⟨k, (k : Int) - 1, _, rfl, by omega, by omega, HE3.out, HX.out⟩
          case measure => simp [intOf]
    | succ k =>
      have HX : Hid (Sort.heapPop ltB a (b - a) (Sort.heapBuild ltB (b - a) a k (Sort.siftDown ltB (b - a) a k dk)) = Sort.heapSort ltB d a b) := hz.out.2
      clear hz
      have e : i = k := by omega
      subst e
      go_wp2_with (go_at_call 68; refine (sift_at HE.out k (b - a) a (by omega) (by omega) (by omega) (by omega) (by omega)).mono ?_; rintro e w3 ⟨rfl, he3⟩; have HE3 : Hid _ := he3; clear he3)
      go_roundw
      case rel => exact ⟨k, (k : Int) - 1, _, rfl, by omega, by omega, HE3.out, HX.out⟩
      case measure => simp [intOf]
end Go.Proofs.Ytalfjdpdecngoaa
