/- The walk of ValueWrites. -/
import Derived.Test.YtkbnbkhloajmbaaDoorIs
namespace Go.Proofs.YtkbnbkhloajmbaaDoor
open Go.RowKit Go.Lib

theorem FineW.below {w w' : World} {B : Nat} (h : FineW w) (hb : Below B w w') (hB : 0 < B) : FineW w' :=
  ⟨(hb.cell (p := ⟨0, 0, none⟩) hB).trans h.1, (hb.cell (p := ⟨0, 1, none⟩) hB).trans h.2⟩

set_option maxRecDepth 100000 in
set_option maxHeartbeats 2000000 in
theorem writes_walk (a : Option Addr) (len cap : Nat) (xs : List Vl) (s : ByteArray) (w : World) (hr : Row w a len xs) (hf : ∀ x ∈ xs, Fits x) (hms : s.size ≤ maxLen) (hg : HG w) (hF : FineW w) :
    Calls Tryd.prog 3 #[.slice a len cap, .string s] w fun e w' => e = .returned (.bool true) ∧ Below w.heap.size w w' := by
  have el := hr.1
  subst el
  unfold maxLen at hms
  have HFs : Hid _ := hf
  clear hf
  cases b1 : shortB xs
  · have B1 : Hid _ := b1
    clear b1
    go_enter Tryd.func3, Tryd.ntmps3
    go_wp2_with fail
    refine (short_as a _ cap xs false B1.out w hr).mono ?_
    rintro _ w1 ⟨rfl, rfl⟩
    go_wp2
    go_ret
    exact ⟨rfl, Below.refl _ _⟩
  have B1 : Hid _ := b1
  clear b1
  by_cases h400 : s.size ≤ 400
  · have hd : ¬ (400 : Int) < (s.size : Int) := by omega
    have hl := shortB_len B1.out
    obtain ⟨ks, n, j, K1, K2⟩ := key_both xs HFs.out (by omega)
    obtain ⟨m, zs, R1, R2⟩ := read_both s (by omega)
    have HK1 : Hid _ := K1
    have HK2 : Hid _ := K2
    have HR1 : Hid _ := R1
    have HR2 : Hid _ := R2
    clear K1 K2 R1 R2
    go_enter Tryd.func3, Tryd.ntmps3
    go_wp2_with fail
    refine (short_as a _ cap xs true B1.out w hr).mono ?_
    rintro _ w1 ⟨rfl, rfl⟩
    clear B1
    go_wp2_with fail
    refine Calls.mono (HK1.out a cap _ hr hF) ?_
    rintro _ w2 ⟨rfl, hw2⟩
    have hs2 := hw2.size
    have hbx : Below w1.heap.size w1 (w2.alloc (.cells #[.int .i64 n, .int .i64 j] 26)) := hw2.alloc hs2 _
    have hbs := hbx.size
    have hz1 := hg.lt
    go_wp2_with fail
    refine Calls.mono (HK2.out a cap _ (hr.below hbx (Nat.le_refl _))) ?_
    rintro _ w3 ⟨E3, rfl, hE3, hb3⟩
    have hw3 := hbx.trans (hb3.mono hbs)
    have hs3 := hw3.size
    have hk3 := hb3
    have hks3 := hk3.size
    have HE3 : Hid (ErrIs E3 n j w3) := hE3
    clear hE3 hb3 hbx hbs HK1 HK2
    go_wp2_with fail
    refine Calls.mono (HR1.out _) ?_
    rintro _ w4 ⟨a4, c4, rfl, r4, hb4⟩
    have hw4 := hw3.trans (hb4.mono hs3)
    have hs4 := hw4.size
    have hk4 := hk3.trans (hb4.mono hks3)
    have hks4 := hk4.size
    have HE4 : Hid (ErrIs E3 n j w4) := ErrIs.below HE3.out hb4
    clear hb4 hw3 hs3 hk3 hks3 HE3 HR1
    go_wp2_with fail
    refine Calls.mono (HR2.out _) ?_
    rintro _ w5 ⟨a5, c5, E5, rfl, r5, hE5, hb5⟩
    have hw5 := hw4.trans (hb5.mono hs4)
    have hs5 := hw5.size
    have hk5 := hk4.trans (hb5.mono hks4)
    have hks5 := hk5.size
    have HE6 : Hid (ErrIs E3 n j w5) := ErrIs.below HE4.out hb5
    have HE5 : Hid (ErrIs E5 m (-1) w5) := hE5
    have q4 := r4.below hb5 (Nat.le_refl _)
    clear hb5 hw4 hs4 hk4 hks4 HE4 HR2 hE5 r4
    have k0 := hk5.cell (p := ⟨w2.heap.size, 0, none⟩) (by simp)
    have k1 := hk5.cell (p := ⟨w2.heap.size, 1, none⟩) (by simp)
    simp at k0 k1
    clear hk5 hks5
    go_wp2_with fail
    refine (is_any E3 n j _ (hg.below hw5 hz1) HE6.out).mono ?_
    rintro _ w6 ⟨rfl, hb6⟩
    have hw6 := hw5.trans (hb6.mono hs5)
    have hs6 := hw6.size
    have HE7 : Hid (ErrIs E5 m (-1) w6) := ErrIs.below HE5.out hb6
    have q6 := q4.below hb6 (Nat.le_refl _)
    have p6 := r5.below hb6 (Nat.le_refl _)
    clear hb6 hw5 hs5 HE6 HE5 q4 r5 k0 k1
    go_wp2_with fail
    refine (bare_any E5 m _ (hg.below hw6 hz1) HE7.out).mono ?_
    rintro _ w7 ⟨rfl, hb7⟩
    have hw7 := hw6.trans (hb7.mono hs6)
    have hs7 := hw7.size
    have q7 := q6.below hb7 (Nat.le_refl _)
    have p7 := p6.below hb7 (Nat.le_refl _)
    clear hb7 hw6 hs6 HE7 q6 p6
    go_wp2_with fail
    refine (same_any _ _ _ _ _ _ zs _ p7 q7).mono ?_
    rintro _ w8 ⟨rfl, hb8⟩
    have hw8 := hw7.trans (hb8.mono hs7)
    clear hb8 hw7 hs7
    go_wp2
    go_ret
    exact ⟨rfl, hw8⟩
  · have hd : (400 : Int) < (s.size : Int) := by omega
    go_enter Tryd.func3, Tryd.ntmps3
    go_wp2_with fail
    refine (short_as a _ cap xs true B1.out w hr).mono ?_
    rintro _ w1 ⟨rfl, rfl⟩
    go_wp2
    go_ret
    exact ⟨rfl, Below.refl _ _⟩
end Go.Proofs.YtkbnbkhloajmbaaDoor
