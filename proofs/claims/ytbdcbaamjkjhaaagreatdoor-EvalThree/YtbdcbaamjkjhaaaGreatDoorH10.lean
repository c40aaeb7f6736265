/- Part 10 of 35. -/
import Derived.Test.YtbdcbaamjkjhaaaGreatDoorH09
namespace Go.Proofs.YtbdcbaamjkjhaaaGreatDoor
open Go.RowKit

/-- things with a comma between them -/
def lstT (F : Nat → List UInt8) : Nat → List UInt8
  | 0 => []
  | k + 1 => lstT F k ++ ((if 0 < k then [44, 32] else []) ++ F k)
theorem lstT_le (F : Nat → List UInt8) {k n : Nat} (h : k ≤ n) : (lstT F k).length ≤ (lstT F n).length := by
  induction n with
  | zero => obtain rfl : k = 0 := by omega
            exact Nat.le_refl _
  | succ n ih =>
    rcases Nat.lt_or_ge n k with h1 | h1
    · obtain rfl : k = n + 1 := by omega
      exact Nat.le_refl _
    · have := ih h1
      rw [lstT, List.length_append]; omega
/-- a closure that writes number i -/
def CSp (N b n : Nat) (c0 c1 : Addr) (I : World → Prop) (F : Nat → List UInt8) : Prop := ∀ (i : Nat) (l : List UInt8) (w : World), i < n → WS b l w → I w → l.length + (F i).length ≤ 1000000 →
  Calls Tryz.prog N #[.int .i64 (i : Int), .pointer (some c0), .pointer (some c1)] w fun r w' => Puts b l (F i) w r w'
set_option maxRecDepth 100000 in
set_option maxHeartbeats 4000000 in
theorem wli_w1 {b n : Nat} {c0 c1 : Addr} {I : World → Prop} {F : Nat → List UInt8} (hI : ∀ u u', I u → WK b u u' → I u') (hC : CSp 55 b n c0 c1 I F) (hn : n ≤ 1000000) (l : List UInt8) (w : World) (hw : WS b l w) (hi : I w) (hl : l.length + (lstT F n).length ≤ 1000000) :
    Calls Tryz.prog 54 #[.pointer (some ⟨b, 0, none⟩), .int .i64 (n : Int), .func (.func 55) #[] #[.pointer (some c0), .pointer (some c1)]] w fun r w' => Puts b l (lstT F n) w r w' := by
  have HC : Hid (CSp 55 b n c0 c1 I F ∧ (∀ u u', I u → WK b u u' → I u') ∧ l.length + (lstT F n).length ≤ 1000000) := ⟨hC, hI, hl⟩
  have H0 : Hid (WS b l w ∧ I w) := ⟨hw, hi⟩
  clear hC hI hw hi hl
  go_enter Tryz.func54, Tryz.ntmps54
  go_wp2
  go_loopw [8] (fun i wr => ∃ k : Nat, k ≤ n ∧ i = .int .i64 k ∧ Hid (WS b (l ++ lstT F k) wr ∧ I wr ∧ WK b w wr)) (fun i _ => n - (intOf i).toNat)
  case atStart => exact ⟨0, Nat.zero_le _, rfl, by rw [lstT, List.append_nil]; exact H0.out.1, H0.out.2, WK.refl _ _⟩
  case round =>
    obtain ⟨k, hk, rfl, hst⟩ := hrel
    obtain ⟨wo, rfl⟩ : ∃ wo, wo = wr := ⟨_, rfl⟩
    by_cases hlt : k < n
    · have hk' : (k : Int) < (n : Int) := by omega
      have HL : Hid (l.length + ((lstT F k).length + ((if 0 < k then [44, 32] else ([] : List UInt8)).length + (F k).length)) ≤ 1000000) := by
        show _ ≤ _
        have h1 := lstT_le F (show k + 1 ≤ n from hlt)
        have h2 := HC.out.2.2
        rw [lstT, List.length_append, List.length_append] at h1
        omega
      by_cases h0 : 0 < k
      · have h0' : (0 : Int) < (k : Int) := by omega
        rw [if_pos h0] at HL
        go_wp2_with fail
        refine (put1 b _ ⟨#[44, 32]⟩ wo hst.out.1 (by have h9 := HL.out; simp at h9 ⊢; omega)).mono ?_
        rintro _ w1 ⟨rfl, h2, h3⟩
        have H1 : Hid (WS b (l ++ lstT F k ++ [44, 32]) w1 ∧ I w1 ∧ WK b w w1) := ⟨h2, HC.out.2.1 _ _ hst.out.2.1 h3, hst.out.2.2.trans h3⟩
        clear h2 h3
        go_wp2_with fail
        refine (HC.out.1 k _ w1 hlt H1.out.1 H1.out.2.1 (by have h9 := HL.out; simp at h9 ⊢; omega)).mono ?_
        rintro _ w2 ⟨rfl, h2, h3⟩
        have H2 : Hid (WS b (l ++ lstT F (k + 1)) w2 ∧ I w2 ∧ WK b w w2) := ⟨by rw [lstT, if_pos h0]; simpa using h2, HC.out.2.1 _ _ H1.out.2.1 h3, H1.out.2.2.trans h3⟩
        clear h2 h3 hst
        go_wp2
        go_roundw
        case rel => exact ⟨k + 1, by omega, by go_num, H2⟩
        case measure => simp [intOf]; omega
      · obtain rfl : k = 0 := by omega
        go_wp2_with fail
        refine (HC.out.1 0 _ wo hlt hst.out.1 hst.out.2.1 (by have h9 := HL.out; simp at h9 ⊢; omega)).mono ?_
        rintro _ w2 ⟨rfl, h2, h3⟩
        have H2 : Hid (WS b (l ++ lstT F 1) w2 ∧ I w2 ∧ WK b w w2) := ⟨by simpa [lstT] using h2, HC.out.2.1 _ _ hst.out.2.1 h3, hst.out.2.2.trans h3⟩
        clear h2 h3 hst
        go_wp2
        go_roundw
        case rel => exact ⟨1, by omega, by go_num, H2⟩
        case measure => simp [intOf]; omega
    · obtain rfl : k = n := by omega
      go_wp2
      go_end0
      exact ⟨rfl, hst.out.1, hst.out.2.2⟩
set_option maxRecDepth 100000 in
set_option maxHeartbeats 4000000 in
theorem wli_w2 {b n : Nat} {c0 c1 : Addr} {I : World → Prop} {F : Nat → List UInt8} (hI : ∀ u u', I u → WK b u u' → I u') (hC : CSp 57 b n c0 c1 I F) (hn : n ≤ 1000000) (l : List UInt8) (w : World) (hw : WS b l w) (hi : I w) (hl : l.length + (lstT F n).length ≤ 1000000) :
    Calls Tryz.prog 54 #[.pointer (some ⟨b, 0, none⟩), .int .i64 (n : Int), .func (.func 57) #[] #[.pointer (some c0), .pointer (some c1)]] w fun r w' => Puts b l (lstT F n) w r w' := by
  have HC : Hid (CSp 57 b n c0 c1 I F ∧ (∀ u u', I u → WK b u u' → I u') ∧ l.length + (lstT F n).length ≤ 1000000) := ⟨hC, hI, hl⟩
  have H0 : Hid (WS b l w ∧ I w) := ⟨hw, hi⟩
  clear hC hI hw hi hl
  go_enter Tryz.func54, Tryz.ntmps54
  go_wp2
  go_loopw [8] (fun i wr => ∃ k : Nat, k ≤ n ∧ i = .int .i64 k ∧ Hid (WS b (l ++ lstT F k) wr ∧ I wr ∧ WK b w wr)) (fun i _ => n - (intOf i).toNat)
  case atStart => exact ⟨0, Nat.zero_le _, rfl, by rw [lstT, List.append_nil]; exact H0.out.1, H0.out.2, WK.refl _ _⟩
  case round =>
    obtain ⟨k, hk, rfl, hst⟩ := hrel
    obtain ⟨wo, rfl⟩ : ∃ wo, wo = wr := ⟨_, rfl⟩
    by_cases hlt : k < n
    · have hk' : (k : Int) < (n : Int) := by omega
      have HL : Hid (l.length + ((lstT F k).length + ((if 0 < k then [44, 32] else ([] : List UInt8)).length + (F k).length)) ≤ 1000000) := by
        show _ ≤ _
        have h1 := lstT_le F (show k + 1 ≤ n from hlt)
        have h2 := HC.out.2.2
        rw [lstT, List.length_append, List.length_append] at h1
        omega
      by_cases h0 : 0 < k
      · have h0' : (0 : Int) < (k : Int) := by omega
        rw [if_pos h0] at HL
        go_wp2_with fail
        refine (put1 b _ ⟨#[44, 32]⟩ wo hst.out.1 (by have h9 := HL.out; simp at h9 ⊢; omega)).mono ?_
        rintro _ w1 ⟨rfl, h2, h3⟩
        have H1 : Hid (WS b (l ++ lstT F k ++ [44, 32]) w1 ∧ I w1 ∧ WK b w w1) := ⟨h2, HC.out.2.1 _ _ hst.out.2.1 h3, hst.out.2.2.trans h3⟩
        clear h2 h3
        go_wp2_with fail
        refine (HC.out.1 k _ w1 hlt H1.out.1 H1.out.2.1 (by have h9 := HL.out; simp at h9 ⊢; omega)).mono ?_
        rintro _ w2 ⟨rfl, h2, h3⟩
        have H2 : Hid (WS b (l ++ lstT F (k + 1)) w2 ∧ I w2 ∧ WK b w w2) := ⟨by rw [lstT, if_pos h0]; simpa using h2, HC.out.2.1 _ _ H1.out.2.1 h3, H1.out.2.2.trans h3⟩
        clear h2 h3 hst
        go_wp2
        go_roundw
        case rel => exact ⟨k + 1, by omega, by go_num, H2⟩
        case measure => simp [intOf]; omega
      · obtain rfl : k = 0 := by omega
        go_wp2_with fail
        refine (HC.out.1 0 _ wo hlt hst.out.1 hst.out.2.1 (by have h9 := HL.out; simp at h9 ⊢; omega)).mono ?_
        rintro _ w2 ⟨rfl, h2, h3⟩
        have H2 : Hid (WS b (l ++ lstT F 1) w2 ∧ I w2 ∧ WK b w w2) := ⟨by simpa [lstT] using h2, HC.out.2.1 _ _ hst.out.2.1 h3, hst.out.2.2.trans h3⟩
        clear h2 h3 hst
        go_wp2
        go_roundw
        case rel => exact ⟨1, by omega, by go_num, H2⟩
        case measure => simp [intOf]; omega
    · obtain rfl : k = n := by omega
      go_wp2
      go_end0
      exact ⟨rfl, hst.out.1, hst.out.2.2⟩
set_option maxRecDepth 100000 in
set_option maxHeartbeats 4000000 in
theorem wli_w3 {b n : Nat} {c0 c1 : Addr} {I : World → Prop} {F : Nat → List UInt8} (hI : ∀ u u', I u → WK b u u' → I u') (hC : CSp 60 b n c0 c1 I F) (hn : n ≤ 1000000) (l : List UInt8) (w : World) (hw : WS b l w) (hi : I w) (hl : l.length + (lstT F n).length ≤ 1000000) :
    Calls Tryz.prog 54 #[.pointer (some ⟨b, 0, none⟩), .int .i64 (n : Int), .func (.func 60) #[] #[.pointer (some c0), .pointer (some c1)]] w fun r w' => Puts b l (lstT F n) w r w' := by
  have HC : Hid (CSp 60 b n c0 c1 I F ∧ (∀ u u', I u → WK b u u' → I u') ∧ l.length + (lstT F n).length ≤ 1000000) := ⟨hC, hI, hl⟩
  have H0 : Hid (WS b l w ∧ I w) := ⟨hw, hi⟩
  clear hC hI hw hi hl
  go_enter Tryz.func54, Tryz.ntmps54
  go_wp2
  go_loopw [8] (fun i wr => ∃ k : Nat, k ≤ n ∧ i = .int .i64 k ∧ Hid (WS b (l ++ lstT F k) wr ∧ I wr ∧ WK b w wr)) (fun i _ => n - (intOf i).toNat)
  case atStart => exact ⟨0, Nat.zero_le _, rfl, by rw [lstT, List.append_nil]; exact H0.out.1, H0.out.2, WK.refl _ _⟩
  case round =>
    obtain ⟨k, hk, rfl, hst⟩ := hrel
    obtain ⟨wo, rfl⟩ : ∃ wo, wo = wr := ⟨_, rfl⟩
    by_cases hlt : k < n
    · have hk' : (k : Int) < (n : Int) := by omega
      have HL : Hid (l.length + ((lstT F k).length + ((if 0 < k then [44, 32] else ([] : List UInt8)).length + (F k).length)) ≤ 1000000) := by
        show _ ≤ _
        have h1 := lstT_le F (show k + 1 ≤ n from hlt)
        have h2 := HC.out.2.2
        rw [lstT, List.length_append, List.length_append] at h1
        omega
      by_cases h0 : 0 < k
      · have h0' : (0 : Int) < (k : Int) := by omega
        rw [if_pos h0] at HL
        go_wp2_with fail
        refine (put1 b _ ⟨#[44, 32]⟩ wo hst.out.1 (by have h9 := HL.out; simp at h9 ⊢; omega)).mono ?_
        rintro _ w1 ⟨rfl, h2, h3⟩
        have H1 : Hid (WS b (l ++ lstT F k ++ [44, 32]) w1 ∧ I w1 ∧ WK b w w1) := ⟨h2, HC.out.2.1 _ _ hst.out.2.1 h3, hst.out.2.2.trans h3⟩
        clear h2 h3
        go_wp2_with fail
        refine (HC.out.1 k _ w1 hlt H1.out.1 H1.out.2.1 (by have h9 := HL.out; simp at h9 ⊢; omega)).mono ?_
        rintro _ w2 ⟨rfl, h2, h3⟩
        have H2 : Hid (WS b (l ++ lstT F (k + 1)) w2 ∧ I w2 ∧ WK b w w2) := ⟨by rw [lstT, if_pos h0]; simpa using h2, HC.out.2.1 _ _ H1.out.2.1 h3, H1.out.2.2.trans h3⟩
        clear h2 h3 hst
        go_wp2
        go_roundw
        case rel => exact ⟨k + 1, by omega, by go_num, H2⟩
        case measure => simp [intOf]; omega
      · obtain rfl : k = 0 := by omega
        go_wp2_with fail
        refine (HC.out.1 0 _ wo hlt hst.out.1 hst.out.2.1 (by have h9 := HL.out; simp at h9 ⊢; omega)).mono ?_
        rintro _ w2 ⟨rfl, h2, h3⟩
        have H2 : Hid (WS b (l ++ lstT F 1) w2 ∧ I w2 ∧ WK b w w2) := ⟨by simpa [lstT] using h2, HC.out.2.1 _ _ hst.out.2.1 h3, hst.out.2.2.trans h3⟩
        clear h2 h3 hst
        go_wp2
        go_roundw
        case rel => exact ⟨1, by omega, by go_num, H2⟩
        case measure => simp [intOf]; omega
    · obtain rfl : k = n := by omega
      go_wp2
      go_end0
      exact ⟨rfl, hst.out.1, hst.out.2.2⟩
set_option maxRecDepth 100000 in
set_option maxHeartbeats 4000000 in
theorem wli_wr {b n : Nat} {c0 c1 : Addr} {I : World → Prop} {F : Nat → List UInt8} (hI : ∀ u u', I u → WK b u u' → I u') (hC : CSp 99 b n c0 c1 I F) (hn : n ≤ 1000000) (l : List UInt8) (w : World) (hw : WS b l w) (hi : I w) (hl : l.length + (lstT F n).length ≤ 1000000) :
    Calls Tryz.prog 54 #[.pointer (some ⟨b, 0, none⟩), .int .i64 (n : Int), .func (.func 99) #[] #[.pointer (some c0), .pointer (some c1)]] w fun r w' => Puts b l (lstT F n) w r w' := by
  have HC : Hid (CSp 99 b n c0 c1 I F ∧ (∀ u u', I u → WK b u u' → I u') ∧ l.length + (lstT F n).length ≤ 1000000) := ⟨hC, hI, hl⟩
  have H0 : Hid (WS b l w ∧ I w) := ⟨hw, hi⟩
  clear hC hI hw hi hl
  go_enter Tryz.func54, Tryz.ntmps54
  go_wp2
  go_loopw [8] (fun i wr => ∃ k : Nat, k ≤ n ∧ i = .int .i64 k ∧ Hid (WS b (l ++ lstT F k) wr ∧ I wr ∧ WK b w wr)) (fun i _ => n - (intOf i).toNat)
  case atStart => exact ⟨0, Nat.zero_le _, rfl, by rw [lstT, List.append_nil]; exact H0.out.1, H0.out.2, WK.refl _ _⟩
  case round =>
    obtain ⟨k, hk, rfl, hst⟩ := hrel
    obtain ⟨wo, rfl⟩ : ∃ wo, wo = wr := ⟨_, rfl⟩
    by_cases hlt : k < n
    · have hk' : (k : Int) < (n : Int) := by omega
      have HL : Hid (l.length + ((lstT F k).length + ((if 0 < k then [44, 32] else ([] : List UInt8)).length + (F k).length)) ≤ 1000000) := by
        show _ ≤ _
        have h1 := lstT_le F (show k + 1 ≤ n from hlt)
        have h2 := HC.out.2.2
        rw [lstT, List.length_append, List.length_append] at h1
        omega
      by_cases h0 : 0 < k
      · have h0' : (0 : Int) < (k : Int) := by omega
        rw [if_pos h0] at HL
        go_wp2_with fail
        refine (put1 b _ ⟨#[44, 32]⟩ wo hst.out.1 (by have h9 := HL.out; simp at h9 ⊢; omega)).mono ?_
        rintro _ w1 ⟨rfl, h2, h3⟩
        have H1 : Hid (WS b (l ++ lstT F k ++ [44, 32]) w1 ∧ I w1 ∧ WK b w w1) := ⟨h2, HC.out.2.1 _ _ hst.out.2.1 h3, hst.out.2.2.trans h3⟩
        clear h2 h3
        go_wp2_with fail
        refine (HC.out.1 k _ w1 hlt H1.out.1 H1.out.2.1 (by have h9 := HL.out; simp at h9 ⊢; omega)).mono ?_
        rintro _ w2 ⟨rfl, h2, h3⟩
        have H2 : Hid (WS b (l ++ lstT F (k + 1)) w2 ∧ I w2 ∧ WK b w w2) := ⟨by rw [lstT, if_pos h0]; simpa using h2, HC.out.2.1 _ _ H1.out.2.1 h3, H1.out.2.2.trans h3⟩
        clear h2 h3 hst
        go_wp2
        go_roundw
        case rel => exact ⟨k + 1, by omega, by go_num, H2⟩
        case measure => simp [intOf]; omega
      · obtain rfl : k = 0 := by omega
        go_wp2_with fail
        refine (HC.out.1 0 _ wo hlt hst.out.1 hst.out.2.1 (by have h9 := HL.out; simp at h9 ⊢; omega)).mono ?_
        rintro _ w2 ⟨rfl, h2, h3⟩
        have H2 : Hid (WS b (l ++ lstT F 1) w2 ∧ I w2 ∧ WK b w w2) := ⟨by simpa [lstT] using h2, HC.out.2.1 _ _ hst.out.2.1 h3, hst.out.2.2.trans h3⟩
        clear h2 h3 hst
        go_wp2
        go_roundw
        case rel => exact ⟨1, by omega, by go_num, H2⟩
        case measure => simp [intOf]; omega
    · obtain rfl : k = n := by omega
      go_wp2
      go_end0
      exact ⟨rfl, hst.out.1, hst.out.2.2⟩
set_option maxRecDepth 100000 in
set_option maxHeartbeats 4000000 in
theorem wli_wi {b n : Nat} {c0 c1 : Addr} {I : World → Prop} {F : Nat → List UInt8} (hI : ∀ u u', I u → WK b u u' → I u') (hC : CSp 101 b n c0 c1 I F) (hn : n ≤ 1000000) (l : List UInt8) (w : World) (hw : WS b l w) (hi : I w) (hl : l.length + (lstT F n).length ≤ 1000000) :
    Calls Tryz.prog 54 #[.pointer (some ⟨b, 0, none⟩), .int .i64 (n : Int), .func (.func 101) #[] #[.pointer (some c0), .pointer (some c1)]] w fun r w' => Puts b l (lstT F n) w r w' := by
  have HC : Hid (CSp 101 b n c0 c1 I F ∧ (∀ u u', I u → WK b u u' → I u') ∧ l.length + (lstT F n).length ≤ 1000000) := ⟨hC, hI, hl⟩
  have H0 : Hid (WS b l w ∧ I w) := ⟨hw, hi⟩
  clear hC hI hw hi hl
  go_enter Tryz.func54, Tryz.ntmps54
  go_wp2
  go_loopw [8] (fun i wr => ∃ k : Nat, k ≤ n ∧ i = .int .i64 k ∧ Hid (WS b (l ++ lstT F k) wr ∧ I wr ∧ WK b w wr)) (fun i _ => n - (intOf i).toNat)
  case atStart => exact ⟨0, Nat.zero_le _, rfl, by rw [lstT, List.append_nil]; exact H0.out.1, H0.out.2, WK.refl _ _⟩
  case round =>
    obtain ⟨k, hk, rfl, hst⟩ := hrel
    obtain ⟨wo, rfl⟩ : ∃ wo, wo = wr := ⟨_, rfl⟩
    by_cases hlt : k < n
    · have hk' : (k : Int) < (n : Int) := by omega
      have HL : Hid (l.length + ((lstT F k).length + ((if 0 < k then [44, 32] else ([] : List UInt8)).length + (F k).length)) ≤ 1000000) := by
        show _ ≤ _
        have h1 := lstT_le F (show k + 1 ≤ n from hlt)
        have h2 := HC.out.2.2
        rw [lstT, List.length_append, List.length_append] at h1
        omega
      by_cases h0 : 0 < k
      · have h0' : (0 : Int) < (k : Int) := by omega
        rw [if_pos h0] at HL
        go_wp2_with fail
        refine (put1 b _ ⟨#[44, 32]⟩ wo hst.out.1 (by have h9 := HL.out; simp at h9 ⊢; omega)).mono ?_
        rintro _ w1 ⟨rfl, h2, h3⟩
        have H1 : Hid (WS b (l ++ lstT F k ++ [44, 32]) w1 ∧ I w1 ∧ WK b w w1) := ⟨h2, HC.out.2.1 _ _ hst.out.2.1 h3, hst.out.2.2.trans h3⟩
        clear h2 h3
        go_wp2_with fail
        refine (HC.out.1 k _ w1 hlt H1.out.1 H1.out.2.1 (by have h9 := HL.out; simp at h9 ⊢; omega)).mono ?_
        rintro _ w2 ⟨rfl, h2, h3⟩
        have H2 : Hid (WS b (l ++ lstT F (k + 1)) w2 ∧ I w2 ∧ WK b w w2) := ⟨by rw [lstT, if_pos h0]; simpa using h2, HC.out.2.1 _ _ H1.out.2.1 h3, H1.out.2.2.trans h3⟩
        clear h2 h3 hst
        go_wp2
        go_roundw
        case rel => exact ⟨k + 1, by omega, by go_num, H2⟩
        case measure => simp [intOf]; omega
      · obtain rfl : k = 0 := by omega
        go_wp2_with fail
        refine (HC.out.1 0 _ wo hlt hst.out.1 hst.out.2.1 (by have h9 := HL.out; simp at h9 ⊢; omega)).mono ?_
        rintro _ w2 ⟨rfl, h2, h3⟩
        have H2 : Hid (WS b (l ++ lstT F 1) w2 ∧ I w2 ∧ WK b w w2) := ⟨by simpa [lstT] using h2, HC.out.2.1 _ _ hst.out.2.1 h3, hst.out.2.2.trans h3⟩
        clear h2 h3 hst
        go_wp2
        go_roundw
        case rel => exact ⟨1, by omega, by go_num, H2⟩
        case measure => simp [intOf]; omega
    · obtain rfl : k = n := by omega
      go_wp2
      go_end0
      exact ⟨rfl, hst.out.1, hst.out.2.2⟩
set_option maxRecDepth 100000 in
set_option maxHeartbeats 4000000 in
theorem wli_wo {b n : Nat} {c0 c1 : Addr} {I : World → Prop} {F : Nat → List UInt8} (hI : ∀ u u', I u → WK b u u' → I u') (hC : CSp 103 b n c0 c1 I F) (hn : n ≤ 1000000) (l : List UInt8) (w : World) (hw : WS b l w) (hi : I w) (hl : l.length + (lstT F n).length ≤ 1000000) :
    Calls Tryz.prog 54 #[.pointer (some ⟨b, 0, none⟩), .int .i64 (n : Int), .func (.func 103) #[] #[.pointer (some c0), .pointer (some c1)]] w fun r w' => Puts b l (lstT F n) w r w' := by
  have HC : Hid (CSp 103 b n c0 c1 I F ∧ (∀ u u', I u → WK b u u' → I u') ∧ l.length + (lstT F n).length ≤ 1000000) := ⟨hC, hI, hl⟩
  have H0 : Hid (WS b l w ∧ I w) := ⟨hw, hi⟩
  clear hC hI hw hi hl
  go_enter Tryz.func54, Tryz.ntmps54
  go_wp2
  go_loopw [8] (fun i wr => ∃ k : Nat, k ≤ n ∧ i = .int .i64 k ∧ Hid (WS b (l ++ lstT F k) wr ∧ I wr ∧ WK b w wr)) (fun i _ => n - (intOf i).toNat)
  case atStart => exact ⟨0, Nat.zero_le _, rfl, by rw [lstT, List.append_nil]; exact H0.out.1, H0.out.2, WK.refl _ _⟩
  case round =>
    obtain ⟨k, hk, rfl, hst⟩ := hrel
    obtain ⟨wo, rfl⟩ : ∃ wo, wo = wr := ⟨_, rfl⟩
    by_cases hlt : k < n
    · have hk' : (k : Int) < (n : Int) := by omega
      have HL : Hid (l.length + ((lstT F k).length + ((if 0 < k then [44, 32] else ([] : List UInt8)).length + (F k).length)) ≤ 1000000) := by
        show _ ≤ _
        have h1 := lstT_le F (show k + 1 ≤ n from hlt)
        have h2 := HC.out.2.2
        rw [lstT, List.length_append, List.length_append] at h1
        omega
      by_cases h0 : 0 < k
      · have h0' : (0 : Int) < (k : Int) := by omega
        rw [if_pos h0] at HL
        go_wp2_with fail
        refine (put1 b _ ⟨#[44, 32]⟩ wo hst.out.1 (by have h9 := HL.out; simp at h9 ⊢; omega)).mono ?_
        rintro _ w1 ⟨rfl, h2, h3⟩
        have H1 : Hid (WS b (l ++ lstT F k ++ [44, 32]) w1 ∧ I w1 ∧ WK b w w1) := ⟨h2, HC.out.2.1 _ _ hst.out.2.1 h3, hst.out.2.2.trans h3⟩
        clear h2 h3
        go_wp2_with fail
        refine (HC.out.1 k _ w1 hlt H1.out.1 H1.out.2.1 (by have h9 := HL.out; simp at h9 ⊢; omega)).mono ?_
        rintro _ w2 ⟨rfl, h2, h3⟩
        have H2 : Hid (WS b (l ++ lstT F (k + 1)) w2 ∧ I w2 ∧ WK b w w2) := ⟨by rw [lstT, if_pos h0]; simpa using h2, HC.out.2.1 _ _ H1.out.2.1 h3, H1.out.2.2.trans h3⟩
        clear h2 h3 hst
        go_wp2
        go_roundw
        case rel => exact ⟨k + 1, by omega, by go_num, H2⟩
        case measure => simp [intOf]; omega
      · obtain rfl : k = 0 := by omega
        go_wp2_with fail
        refine (HC.out.1 0 _ wo hlt hst.out.1 hst.out.2.1 (by have h9 := HL.out; simp at h9 ⊢; omega)).mono ?_
        rintro _ w2 ⟨rfl, h2, h3⟩
        have H2 : Hid (WS b (l ++ lstT F 1) w2 ∧ I w2 ∧ WK b w w2) := ⟨by simpa [lstT] using h2, HC.out.2.1 _ _ hst.out.2.1 h3, hst.out.2.2.trans h3⟩
        clear h2 h3 hst
        go_wp2
        go_roundw
        case rel => exact ⟨1, by omega, by go_num, H2⟩
        case measure => simp [intOf]; omega
    · obtain rfl : k = n := by omega
      go_wp2
      go_end0
      exact ⟨rfl, hst.out.1, hst.out.2.2⟩
end Go.Proofs.YtbdcbaamjkjhaaaGreatDoor
