/- The walk of ValueKeeps. -/
import Derived.Test.YtkbnbkhloajmbaaAppend
import Derived.Test.YtkbnbkhloajmbaaKeyBad
namespace Go.Proofs.Ytkbnbkhloajmbaa
open Go.RowKit Go.Lib

theorem strOf_list (l : List UInt8) : (strOf l).data.toList = l := by simp [strOf]
theorem strOf_size (l : List UInt8) : (strOf l).size = l.length := by rw [size_list, strOf_list]
theorem strOf_app (a b : List UInt8) : strOf a ++ strOf b = strOf (a ++ b) := by
  apply bytes_ext
  simp [strOf]

theorem right_size {x : Vl} (h : rightW x = true) : x.s.size ≤ maxLen := by
  rcases right_cases h with rfl | ⟨n, rfl⟩ | ⟨s, rfl, hs⟩
  · exact Nat.zero_le _
  · exact Nat.zero_le _
  · have := textB_le hs
    unfold maxLen
    simp only
    omega

theorem read_back (xs : List Vl) (w : World) (hr : ∀ x ∈ xs, rightW x = true) (hf : ∀ x ∈ xs, Fits x) (hl : xs.length ≤ 1000) :
    Calls Try.prog 15 #[.string (strOf (keyL xs))] w fun e w' => ∃ a cap, e = .returned (.tuple #[.slice a xs.length cap, .nilIface]) ∧ Row w' a xs.length xs ∧ Below w.heap.size w w' := by
  have hk := keyL_le xs hr
  have h := read_any (strOf (keyL xs)) w (by rw [strOf_size]; omega)
  rw [strOf_list, strOf_size, read_key xs hr hf _ (Nat.le_refl _)] at h
  refine h.mono ?_
  rintro e w' ⟨hb, v, rfl, ho⟩
  obtain ⟨a, cap, rfl, hrow, _⟩ := row_of_own ho (fun x hx => right_size (hr x hx)) (by unfold maxLen; omega)
  exact ⟨a, cap, rfl, hrow, hb⟩

theorem read_two (xs ys : List Vl) (w : World) (hr : ∀ x ∈ xs, rightW x = true) (hr' : ∀ x ∈ ys, rightW x = true) (hf : ∀ x ∈ xs, Fits x) (hf' : ∀ x ∈ ys, Fits x) (hl : xs.length + ys.length ≤ 1000) :
    Calls Try.prog 15 #[.string (strOf (keyL xs) ++ strOf (keyL ys))] w fun e w' => ∃ a cap, e = .returned (.tuple #[.slice a (xs ++ ys).length cap, .nilIface]) ∧ Row w' a (xs ++ ys).length (xs ++ ys) ∧ Below w.heap.size w w' := by
  rw [strOf_app, ← keyL_app]
  refine read_back (xs ++ ys) w (fun x hx => ?_) (fun x hx => ?_) (by simpa using hl)
  · rcases List.mem_append.1 hx with h | h
    · exact hr x h
    · exact hr' x h
  · rcases List.mem_append.1 hx with h | h
    · exact hf x h
    · exact hf' x h

theorem Row.alloc {w : World} {a : Option Addr} {len : Nat} {xs : List Vl} (h : Row w a len xs) (o : Obj) : Row (w.alloc o) a len xs :=
  h.below ((Below.refl w.heap.size w).alloc (Nat.le_refl _) o) (Nat.le_refl _)

/-- how Key answers, either way, as far as its error goes -/
theorem key_some (a : Option Addr) (len cap : Nat) (xs : List Vl) (w : World) (hr : Row w a len xs) (hf : ∀ x ∈ xs, Fits x) (hlen : xs.length ≤ 1000) :
    Calls Try.prog 14 #[.slice a len cap] w fun e w' => ∃ s v, e = .returned (.tuple #[.string s, v]) ∧ (v = .nilIface ∨ ∃ u, v = .iface 45 u) ∧ Below w.heap.size w w' := by
  by_cases h : ∀ x ∈ xs, rightW x = true
  · refine (key_ok a len cap xs w hr hf hlen h).mono ?_
    rintro e w' ⟨rfl, hb⟩
    exact ⟨_, _, rfl, .inl rfl, hb⟩
  · obtain ⟨j, hj, h1, h2⟩ := first_bad xs h
    refine (key_bad a len cap xs w hr hf hlen j hj h1 h2).mono ?_
    rintro e w' ⟨g, rfl, _, _, _, _, hb⟩
    exact ⟨_, _, rfl, .inr ⟨_, rfl⟩, hb⟩

theorem shortB_len {xs : List Vl} (h : shortB xs = true) : xs.length ≤ 30 := by
  unfold shortB at h; simp at h; exact h.1

set_option maxHeartbeats 2000000 in
theorem keeps_walk (a : Option Addr) (len cap : Nat) (xs : List Vl) (a' : Option Addr) (len' cap' : Nat) (ys : List Vl) (w : World) (hr : Row w a len xs) (hr' : Row w a' len' ys)
    (hf : ∀ x ∈ xs, Fits x) (hf' : ∀ x ∈ ys, Fits x) (hn : a = none → cap = 0) (hn' : a' = none → cap' = 0) :
    Calls Try.prog 4 #[.slice a len cap, .slice a' len' cap'] w fun e w' => e = .returned (.bool true) ∧ Below w.heap.size w w' := by
  have el := hr.1
  have el' := hr'.1
  subst el
  subst el'
  have HF : Hid _ := hf
  have HF' : Hid _ := hf'
  have HN : Hid _ := hn
  have HN' : Hid _ := hn'
  clear hf hf' hn hn'
  cases b1 : shortB xs
  · have B1 : Hid _ := b1
    clear b1
    go_enter Try.func4, Try.ntmps4
    go_wp2_with fail
    refine (keepShort_as a _ cap xs false B1.out w hr).mono ?_
    rintro e w1 ⟨rfl, rfl⟩
    go_wp2
    go_ret
    exact ⟨rfl, Below.refl _ _⟩
  have B1 : Hid _ := b1
  clear b1
  cases b2 : shortB ys
  · have B2 : Hid _ := b2
    clear b2
    go_enter Try.func4, Try.ntmps4
    go_wp2_with fail
    refine (keepShort_as a _ cap xs true B1.out w hr).mono ?_
    rintro e w1 ⟨rfl, rfl⟩
    go_wp2_with fail
    refine (keepShort_as a' _ cap' ys false B2.out _ hr').mono ?_
    rintro e w1 ⟨rfl, rfl⟩
    go_wp2
    go_ret
    exact ⟨rfl, Below.refl _ _⟩
  have B2 : Hid _ := b2
  clear b2
  have hl1 := shortB_len B1.out
  have hl2 := shortB_len B2.out
  by_cases hx : ∀ x ∈ xs, rightW x = true
  · by_cases hy : ∀ y ∈ ys, rightW y = true
    · have HX : Hid _ := hx
      have HY : Hid _ := hy
      clear hx hy
      go_enter Try.func4, Try.ntmps4
      go_wp2_with fail
      refine (keepShort_as a _ cap xs true B1.out w hr).mono ?_
      rintro e w1 ⟨rfl, rfl⟩
      go_wp2_with fail
      refine (keepShort_as a' _ cap' ys true B2.out _ hr').mono ?_
      rintro e w1 ⟨rfl, rfl⟩
      clear B1 B2
      go_wp2_with fail
      refine (ordered_any _).mono ?_
      rintro e w2 ⟨rfl, hw2⟩
      have hs2 := hw2.size
      go_wp2_with fail
      refine (key_ok a _ cap xs _ (hr.below hw2 (Nat.le_refl _)) HF.out (by omega) HX.out).mono ?_
      rintro e w3 ⟨rfl, hb3⟩
      have hw3 := hw2.trans (hb3.mono hs2)
      have hs3 := hw3.size
      clear hb3 hw2 hs2
      go_wp2_with fail
      refine (key_ok a' _ cap' ys _ (hr'.below hw3 (Nat.le_refl _)) HF'.out (by omega) HY.out).mono ?_
      rintro e w4 ⟨rfl, hb4⟩
      have hw4 := hw3.trans (hb4.mono hs3)
      have hs4 := hw4.size
      clear hb4 hw3 hs3
      go_wp2_with fail
      refine (read_back xs _ HX.out HF.out (by omega)).mono ?_
      rintro e w5 ⟨a5, c5, rfl, r5, hb5⟩
      have hw5 := hw4.trans (hb5.mono hs4)
      have hs5 := hw5.size
      clear hb5 hw4 hs4
      go_wp2_with fail
      refine (read_back ys _ HY.out HF'.out (by omega)).mono ?_
      rintro e w6 ⟨a6, c6, rfl, r6, hb6⟩
      have hw6 := hw5.trans (hb6.mono hs5)
      have hs6 := hw6.size
      have r5' := r5.below hb6 (Nat.le_refl _)
      clear hb6 hw5 hs5 r5
      have hsum : (((strOf (keyL xs)).size : Int) + ((strOf (keyL ys)).size : Int)) ≤ 9223372036854775807 := by
        have k1 := keyL_le xs HX.out
        have k2 := keyL_le ys HY.out
        rw [strOf_size, strOf_size]
        omega
      go_wp2_with fail
      refine (read_two xs ys _ HX.out HY.out HF.out HF'.out (by omega)).mono ?_
      rintro e w7 ⟨a7, c7, rfl, r7, hb7⟩
      have hw7 := hw6.trans (hb7.mono hs6)
      have hs7 := hw7.size
      have q5 := r5'.below hb7 (Nat.le_refl _)
      have q6 := r6.below hb7 (Nat.le_refl _)
      clear hb7 hw6 hs6 r6 r5' hsum
      go_wp2_with fail
      refine (same_any _ _ _ _ _ _ xs _ q5 (hr.below hw7 (Nat.le_refl _))).mono ?_
      rintro e w8 ⟨rfl, hb8⟩
      have hw8 := hw7.trans (hb8.mono hs7)
      have hs8 := hw8.size
      have q6' := q6.below hb8 (Nat.le_refl _)
      have q7 := r7.below hb8 (Nat.le_refl _)
      clear hb8 hw7 hs7 q5 q6 r7
      go_wp2_with fail
      refine (same_any _ _ _ _ _ _ ys _ q6' (hr'.below hw8 (Nat.le_refl _))).mono ?_
      rintro e w9 ⟨rfl, hb9⟩
      have hw9 := hw8.trans (hb9.mono hs8)
      have hs9 := hw9.size
      have q7' := q7.below hb9 (Nat.le_refl _)
      clear hb9 hw8 hs8 q6' q7
      have o9 := World.ownsRow_made (base := w9.heap.size) (e := 26) (size := 3) w9 #[] 0 (Nat.le_refl _) (Nat.zero_le _) rfl
      have p9 := (hr.below hw9 (Nat.le_refl _)).alloc (.cells #[] 26)
      have n9 : w9.heap.size ≤ (w9.alloc (.cells #[] 26)).heap.size := by simp
      go_wp2_with (at_builtin; refine wpList_append_row rfl (.tmp 78) (.tmp 79) rfl rfl w9.heap.size _ [] rfl o9 n9 a cap xs rfl p9 HN.out (by simp; omega) ?_)
      intro v10 w10 o10 hb10
      have hk10 : Below w9.heap.size w9 w10 := ((Below.refl w9.heap.size w9).alloc (Nat.le_refl _) _).trans hb10
      have hw10 := hw9.trans (hk10.mono hs9)
      have n10 := hk10.size
      have p10 := hr'.below hw10 (Nat.le_refl _)
      clear o9 p9 n9 hb10
      have o10' : w10.ownsRow w9.heap.size 26 3 v10 xs.length (cellsL xs) := by simpa using o10
      go_wp2_with (at_builtin; refine wpList_append_row rfl (.tmp 80) (.tmp 81) rfl rfl w9.heap.size _ xs rfl o10' n10 a' cap' ys rfl p10 HN'.out (by omega) ?_)
      intro v11 w11 o11 hb11
      have hk11 := hk10.trans hb11
      have hw11 := hw9.trans (hk11.mono hs9)
      have hs11 := hw11.size
      have q11 := q7'.below hk11 (Nat.le_refl _)
      have o11' : w11.ownsRow w9.heap.size 26 3 v11 (xs ++ ys).length (cellsL (xs ++ ys)) := by simpa using o11
      obtain ⟨a11, c11, hv11, r11, _⟩ := row_of_own o11' (fun x hx => by
        rcases List.mem_append.1 hx with h | h
        · exact right_size (HX.out x h)
        · exact right_size (HY.out x h)) (by simp [maxLen]; omega)
      rw [List.length_append] at q11 r11 hv11
      subst hv11
      clear o10 o10' p10 n10 hk10 hw10 hb11 o11 o11' hk11 hw9 hs9 q7'
      go_wp2_with fail
      refine (same_any _ _ _ _ _ _ (xs ++ ys) _ q11 r11).mono ?_
      rintro e w12 ⟨rfl, hb12⟩
      have hw12 := hw11.trans (hb12.mono hs11)
      have hs12 := hw12.size
      clear hb12 hw11 hs11 q11 r11
      have HO : Hid _ := key_order xs ys HX.out HY.out HF.out HF'.out
      go_wp2_with fail
      refine (stringsCompare_any _ _ _).mono ?_
      rintro e w13 ⟨rfl, rfl⟩
      rw [strOf_list, strOf_list, HO.out]
      go_wp2_with fail
      refine (order_any _ _ _ xs _ _ _ ys _ (hr.below hw12 (Nat.le_refl _)) (hr'.below hw12 (Nat.le_refl _))).mono ?_
      rintro e w14 ⟨rfl, hb14⟩
      have hw14 := hw12.trans (hb14.mono hs12)
      clear hb14 hw12 hs12
      go_wp2
      go_ret
      exact ⟨ret_bool (by simp), hw14⟩
    · obtain ⟨j, hj, j1, j2⟩ := first_bad ys hy
      have HX : Hid _ := hx
      have J1 : Hid _ := j1
      have J2 : Hid _ := j2
      clear hx hy j1 j2
      go_enter Try.func4, Try.ntmps4
      go_wp2_with fail
      refine (keepShort_as a _ cap xs true B1.out w hr).mono ?_
      rintro e w1 ⟨rfl, rfl⟩
      go_wp2_with fail
      refine (keepShort_as a' _ cap' ys true B2.out _ hr').mono ?_
      rintro e w1 ⟨rfl, rfl⟩
      clear B1 B2
      go_wp2_with fail
      refine (ordered_any _).mono ?_
      rintro e w2 ⟨rfl, hw2⟩
      have hs2 := hw2.size
      go_wp2_with fail
      refine (key_ok a _ cap xs _ (hr.below hw2 (Nat.le_refl _)) HF.out (by omega) HX.out).mono ?_
      rintro e w3 ⟨rfl, hb3⟩
      have hw3 := hw2.trans (hb3.mono hs2)
      have hs3 := hw3.size
      clear hb3 hw2 hs2
      go_wp2_with fail
      refine (key_bad a' _ cap' ys _ (hr'.below hw3 (Nat.le_refl _)) HF'.out (by omega) j hj J1.out J2.out).mono ?_
      rintro e w4 ⟨g, rfl, _, _, _, _, hb4⟩
      have hw4 := hw3.trans (hb4.mono hs3)
      clear hb4 hw3 hs3
      go_wp2
      go_ret
      exact ⟨rfl, hw4⟩
  · obtain ⟨j, hj, j1, j2⟩ := first_bad xs hx
    have J1 : Hid _ := j1
    have J2 : Hid _ := j2
    clear hx j1 j2
    go_enter Try.func4, Try.ntmps4
    go_wp2_with fail
    refine (keepShort_as a _ cap xs true B1.out w hr).mono ?_
    rintro e w1 ⟨rfl, rfl⟩
    go_wp2_with fail
    refine (keepShort_as a' _ cap' ys true B2.out _ hr').mono ?_
    rintro e w1 ⟨rfl, rfl⟩
    clear B1 B2
    go_wp2_with fail
    refine (ordered_any _).mono ?_
    rintro e w2 ⟨rfl, hw2⟩
    have hs2 := hw2.size
    go_wp2_with fail
    refine (key_bad a _ cap xs _ (hr.below hw2 (Nat.le_refl _)) HF.out (by omega) j hj J1.out J2.out).mono ?_
    rintro e w3 ⟨g, rfl, _, _, _, _, hb3⟩
    have hw3 := hw2.trans (hb3.mono hs2)
    have hs3 := hw3.size
    clear hb3 hw2 hs2
    go_wp2_with fail
    refine (key_some a' _ cap' ys _ (hr'.below hw3 (Nat.le_refl _)) HF'.out (by omega)).mono ?_
    rintro e w4 ⟨s4, v4, rfl, _, hb4⟩
    have hw4 := hw3.trans (hb4.mono hs3)
    clear hb4 hw3 hs3
    go_wp2
    go_ret
    exact ⟨rfl, hw4⟩
end Go.Proofs.Ytkbnbkhloajmbaa
