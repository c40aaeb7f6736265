/- Plain facts of values, and the contract of sameValues. -/
import Derived.Test.YtkbnbkhloajmbaaDoorRead
import Derived.Test.YtkbnbkhloajmbaaDoorOpen
import Derived.Test.YtkbnbkhloajmbaaDoorKeyBad
import Derived.Deep.RegionHeld3
namespace Go.Proofs.YtkbnbkhloajmbaaDoor
open Go.RowKit Go.Lib

theorem lets_all (l : List UInt8) (h : lets l = l.length) : ∀ c ∈ l, c ≠ 0 := by
  unfold lets at h
  rw [List.findIdx_eq_length] at h
  intro c hc
  have := h c hc
  simpa using this

theorem textB_parts {s : ByteArray} (h : textB s = true) : s.data.toList.length ≤ 40 ∧ ∀ c ∈ s.data.toList, c ≠ 0 := by
  unfold textB at h
  simp at h
  refine ⟨by rw [← size_list]; exact h.1, lets_all _ (by rw [← size_list]; exact h.2)⟩

theorem empty_of {s : ByteArray} (h : s.toList.isEmpty = true) : s = ⟨#[]⟩ := by
  rw [ByteArray.toList_eq] at h
  apply bytes_ext
  simpa using h

/-- the three kinds of values that may be -/
theorem right_cases {x : Vl} (h : rightW x = true) : x = ⟨0, 0, ⟨#[]⟩⟩ ∨ (∃ n, x = ⟨1, n, ⟨#[]⟩⟩) ∨ ∃ s, x = ⟨2, 0, s⟩ ∧ textB s = true := by
  obtain ⟨k, n, s⟩ := x
  unfold rightW rightB at h
  simp only at h
  by_cases h0 : k = 0
  · subst h0
    simp at h
    obtain ⟨rfl, h2⟩ := h
    obtain rfl := empty_of (s := s) (by simpa using h2)
    exact .inl rfl
  · by_cases h1 : k = 1
    · subst h1
      simp at h
      obtain rfl := empty_of (s := s) (by simpa using h)
      exact .inr (.inl ⟨n, rfl⟩)
    · by_cases h2 : k = 2
      · subst h2
        simp at h
        obtain ⟨rfl, h2⟩ := h
        exact .inr (.inr ⟨s, rfl, h2⟩)
      · simp [h0, h1, h2] at h

theorem shifted_lt {n : Int} (h1 : -9223372036854775808 ≤ n) (h2 : n ≤ 9223372036854775807) : shifted n < 18446744073709551616 ∧ (shifted n : Int) = n + 9223372036854775808 := by
  unfold shifted; omega

theorem lets_text (a p : List UInt8) (hl : a.length ≤ 40) (ha : ∀ c ∈ a, c ≠ 0) : lets ((a ++ 0 :: p).take 41) = a.length := by
  have e : (a ++ 0 :: p).take 41 = a ++ 0 :: p.take (40 - a.length) := by
    rw [List.take_append, List.take_of_length_le (by omega)]
    congr 1
    rw [show 41 - a.length = (40 - a.length) + 1 by omega, List.take_succ_cons]
  rw [e]
  unfold lets
  rw [List.findIdx_append]
  have hn : a.findIdx (fun c => c == 0) = a.length := by
    rw [List.findIdx_eq_length]
    intro c hc
    simpa using ha c hc
  rw [hn, if_neg (by omega), List.findIdx_cons]
  simp

theorem strOf_data (s : ByteArray) : strOf s.data.toList = s := by
  apply bytes_ext
  simp [strOf]

theorem strOf_list (l : List UInt8) : (strOf l).data.toList = l := by simp [strOf]
theorem strOf_size (l : List UInt8) : (strOf l).size = l.length := by rw [size_list, strOf_list]
theorem strOf_app (a b : List UInt8) : strOf a ++ strOf b = strOf (a ++ b) := by
  apply bytes_ext
  simp [strOf]

theorem right_size {x : Vl} (h : rightW x = true) : x.s.size ≤ maxLen := by
  rcases right_cases h with rfl | ⟨n, rfl⟩ | ⟨s, rfl, hs⟩
  · exact Nat.zero_le _
  · exact Nat.zero_le _
  · have := textB_le hs
    unfold maxLen
    simp only
    omega

theorem shortB_len {xs : List Vl} (h : shortB xs = true) : xs.length ≤ 30 := by
  unfold shortB at h; simp at h; exact h.1

theorem cellsL_get (xs : List Vl) (i : Nat) (h : i < xs.length) : (cellsL xs)[i * 3]? = some (.int .i64 xs[i].k) ∧ (cellsL xs)[i * 3 + 1]? = some (.int .i64 xs[i].n) ∧ (cellsL xs)[i * 3 + 2]? = some (.string xs[i].s) := by
  induction xs generalizing i with
  | nil => simp at h
  | cons x xs ih =>
    cases i with
    | zero => simp [cellsL, cellsW]
    | succ i =>
      have := ih i (by simpa using h)
      have e : cellsL (x :: xs) = .int .i64 x.k :: .int .i64 x.n :: .string x.s :: cellsL xs := by simp [cellsL, cellsW]
      rw [e, show (i + 1) * 3 = i * 3 + 3 by omega]
      simpa using this

theorem row_of_own {w : World} {B : Nat} {v : Value} {xs : List Vl} (h : w.ownsRow B 42 3 v xs.length (cellsL xs)) (hs : ∀ x ∈ xs, x.s.size ≤ maxLen) (hl : xs.length ≤ maxLen) : ∃ a cap, v = .slice a xs.length cap ∧ Row w a xs.length xs ∧ (a = none → cap = 0) := by
  rcases h.2 with ⟨rfl, h0⟩ | ⟨g, cap, cur, rfl, _, hg, _⟩
  · have : xs = [] := List.length_eq_zero_iff.1 h0
    subst this
    exact ⟨none, 0, rfl, ⟨rfl, hl, .inl rfl⟩, fun _ => rfl⟩
  · refine ⟨some ⟨g, 0, none⟩, cap, rfl, ⟨rfl, hl, .inr ⟨g, 0, rfl, (Array.getElem?_eq_some_iff.1 hg).1, fun i hi => ?_⟩⟩, fun e => by simp at e⟩
    obtain ⟨c0, c1, c2⟩ := cellsL_get xs i hi
    have k0 := h.cells (g := g) rfl _ _ c0
    have k1 := h.cells (g := g) rfl _ _ c1
    have k2 := h.cells (g := g) rfl _ _ c2
    rw [Go.WideShapes.add_plain] at k0 k1 k2
    exact ⟨k0, k1, k2, hs _ (List.getElem_mem hi)⟩

theorem Row.alloc {w : World} {a : Option Addr} {len : Nat} {xs : List Vl} (h : Row w a len xs) (o : Obj) : Row (w.alloc o) a len xs :=
  h.below ((Below.refl w.heap.size w).alloc (Nat.le_refl _) o) (Nat.le_refl _)

set_option maxRecDepth 100000 in
set_option maxHeartbeats 1000000 in
theorem same_any (a : Option Addr) (len cap : Nat) (a' : Option Addr) (len' cap' : Nat) (xs : List Vl) (w : World) (hr : Row w a len xs) (hr' : Row w a' len' xs) :
    Calls Tryd.prog 11 #[.slice a len cap, .slice a' len' cap'] w fun e w' => e = .returned (.bool true) ∧ Below w.heap.size w w' := by
  have st26 := stood26
  have g26 := guard26
  obtain ⟨rfl, hm, hx⟩ := hr
  obtain ⟨rfl, _, hx'⟩ := hr'
  unfold maxLen at hm
  go_enter Tryd.func11, Tryd.ntmps11
  go_wp2
  go_loopw [5] (fun i wr => ∃ k : Nat, k ≤ xs.length ∧ i = .int .i64 k ∧ Below w.heap.size w wr) (fun i _ => xs.length - (intOf i).toNat)
  case atStart => exact ⟨0, Nat.zero_le _, rfl, Below.refl _ _⟩
  case round =>
    obtain ⟨k, hk, rfl, hbl⟩ := hrel
    by_cases hlt : k < xs.length
    · rcases hx with hx | ⟨b, off, rfl, hb, hrow⟩
      · simp [hx] at hlt
      rcases hx' with hx' | ⟨b', off', rfl, hb', hrow'⟩
      · simp [hx'] at hlt
      obtain ⟨g1, g2, g3, g4⟩ := hrow k hlt
      obtain ⟨e1, e2, e3, _⟩ := hrow' k hlt
      clear hrow hrow' g4
      rw [← hbl.cell (p := ⟨b, _, none⟩) hb] at g1 g2 g3
      rw [← hbl.cell (p := ⟨b', _, none⟩) hb'] at e1 e2 e3
      have i1 : (k : Int) < (xs.length : Int) := by omega
      generalize xs[k] = x at *
      go_wp2_with fail
      go_region_held3 (fun w' => w'.cell? ⟨b, off + k * 3, none⟩ = some (.int .i64 x.k) ∧ w'.cell? ⟨b, off + k * 3 + 1, none⟩ = some (.int .i64 x.n) ∧ w'.cell? ⟨b, off + k * 3 + 2, none⟩ = some (.string x.s) ∧ w'.cell? ⟨b', off' + k * 3, none⟩ = some (.int .i64 x.k) ∧ w'.cell? ⟨b', off' + k * 3 + 1, none⟩ = some (.int .i64 x.n) ∧ w'.cell? ⟨b', off' + k * 3 + 2, none⟩ = some (.string x.s)) (simp [*])
        (fail)
      have hb2 := hbl.drew
      clear hbl
      go_wp2
      go_roundw
      case rel => exact ⟨k + 1, by omega, by go_num, hb2⟩
      case measure => simp [intOf]; omega
    · go_wp2
      go_ret
      exact ⟨rfl, hbl⟩
theorem encW_ne (x : Vl) : ∃ c r, encW x = c :: r := by
  unfold encW enc1
  split
  · exact ⟨_, _, rfl⟩
  · split
    · exact ⟨_, _, rfl⟩
    · exact ⟨_, _, rfl⟩

theorem keyL_cons (x : Vl) (xs : List Vl) : keyL (x :: xs) = encW x ++ keyL xs := by simp [keyL]
theorem keyL_app (xs ys : List Vl) : keyL (xs ++ ys) = keyL xs ++ keyL ys := by simp [keyL]

end Go.Proofs.YtkbnbkhloajmbaaDoor
