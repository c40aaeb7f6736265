/- The contract of the document's Small. -/
import Derived.Test.YtgmibjcccdgkgaaDoorWPure
namespace Go.Proofs.YtgmibjcccdgkgaaDoor
open Go.RowKit

/-- the text of the bytes -/
theorem Half.text {B n : Nat} {l m : Nat → Nat} {w : World} {cap : Nat} (h : Half B n n l m w) (t : List UInt8) (ht : t.length = n) (hl : ∀ j (hj : j < t.length), (t[j]).toNat = l j) :
    (convert 41 9 (.slice (some ⟨B, 0, none⟩) n cap)).run Tryd.prog w = .ok (.string ⟨t.toArray⟩) w := by
  subst ht
  exact run_convert_bytes_back (P := Tryd.prog) w 41 9 5 ⟨B, 0, none⟩ cap t Tryd.underlying41 Tryd.underlying5 Tryd.underlying9 (fun j hj => by
    rw [Addr.add_lit, Nat.zero_add, h.cell j hj, if_pos hj, hl j hj])
/-- noughts in a new row -/
theorem made_of (n : Nat) (hn : n ≤ 1000000) (w : World) : ∃ w', (Instr.makeSlice 41 (.int .i64 (n : Int)) (.int .i64 (n : Int))).run Tryd.prog w = .ok (.slice (some ⟨w.heap.size, 0, none⟩) n n) w' ∧ Below w.heap.size w w' ∧
    (∀ j, j < n → w'.cell? ⟨w.heap.size, j, none⟩ = some (.int .u8 0)) ∧ (∀ j, j < n → w'.frozen? ⟨w.heap.size, j, none⟩ = false) := by
  obtain ⟨i0, hi, hz0, hz1, hz2⟩ := info_parts info5
  have h := run_make (P := Tryd.prog) w 41 5 i0 (.int .u8 0) Tryd.underlying41 hi hz0 .i64 .i64 n n (by omega) (Int.le_refl _) (by rw [hz2]; omega) (by omega)
  rw [hz1] at h
  simp only [Int.toNat_natCast, Nat.mul_one] at h
  refine ⟨_, h, (Below.refl _ w).alloc (Nat.le_refl _) _, fun j hj => ?_, fun j hj => ?_⟩
  · have hn' := heap_alloc_new w (.cells (madeCells (Value.int .u8 0).cells n) 5)
    simp only [World.cell?, hn']
    simp [madeCells, hj, Value.cells, Nat.mod_one]
  · have hn' := heap_alloc_new w (.cells (madeCells (Value.int .u8 0).cells n) 5)
    simp only [World.frozen?, hn']
    simp
set_option maxHeartbeats 1000000 in
theorem refSmall_any (s : ByteArray) (w : World) (hs : s.size ≤ 1000000) :
    Calls Tryd.prog 17 #[.string s] w fun e w' => e = .returned (.string (smallS s)) ∧ Below w.heap.size w w' := by
  obtain ⟨w1, hcv, hb1, hc1, hf1⟩ := made_of s.size hs w
  have h0 : Half w.heap.size s.size 0 (fun j => lown (bt s j)) (fun _ => 0) w1 := ⟨fun j hj => by rw [hc1 j hj]; simp, hf1⟩
  clear hc1 hf1
  go_enter Tryd.func17, Tryd.ntmps17
  go_wp2
  go_loopw [11] (fun i wr => ∃ k : Nat, k ≤ s.size ∧ i = .int .i64 k ∧ Hid (Half w.heap.size s.size k (fun j => lown (bt s j)) (fun _ => 0) wr ∧ Below w.heap.size w wr)) (fun i _ => s.size - (intOf i).toNat)
  case atStart => exact ⟨0, Nat.zero_le _, rfl, h0, hb1⟩
  case round =>
    clear h0 hb1 hcv
    obtain ⟨k, hk, rfl, hz⟩ := hrel
    by_cases hlt : k < s.size
    · have hc := hz.out.1.cell k hlt
      have hf := hz.out.1.free k hlt
      simp only [Nat.lt_irrefl, if_false] at hc
      have hbt := bt_lt s k
      have hx := bt_at s k hlt
      obtain ⟨x, hy⟩ : ∃ x, s[k].toNat = x := ⟨_, rfl⟩
      rw [hx, hy] at hbt
      rw [hy] at hx
      have HX : Hid (bt s k = x) := hx
      clear hx
      obtain ⟨a1, e1⟩ : ∃ b, decide ((65 : Int) ≤ (x : Int)) = b := ⟨_, rfl⟩
      obtain ⟨a2, e2⟩ : ∃ b, decide ((x : Int) ≤ 90) = b := ⟨_, rfl⟩
      have hi : (k : Int) < (s.size : Int) := by omega
      cases a1
      · go_wp2
        go_roundw
        case rel =>
          refine ⟨k + 1, by omega, by go_num, hz.out.1.set hlt _ ?_, hz.out.2.setCell (p := ⟨_, k, none⟩) (Nat.le_refl _) _⟩
          show _ = ((lown (bt s k) : Nat) : Int)
          simp only [decide_eq_false_iff_not] at e1
          rw [HX.out, lown, if_neg (by omega)]
        case measure => simp [intOf]; omega
      · cases a2
        · go_wp2
          go_roundw
          case rel =>
            refine ⟨k + 1, by omega, by go_num, hz.out.1.set hlt _ ?_, hz.out.2.setCell (p := ⟨_, k, none⟩) (Nat.le_refl _) _⟩
            show _ = ((lown (bt s k) : Nat) : Int)
            simp only [decide_eq_false_iff_not] at e2
            rw [HX.out, lown, if_neg (by omega)]
          case measure => simp [intOf]; omega
        · simp only [decide_eq_true_eq] at e1 e2
          go_wp2
          go_roundw
          case rel =>
            refine ⟨k + 1, by omega, by go_num, hz.out.1.set hlt _ ?_, hz.out.2.setCell (p := ⟨_, k, none⟩) (Nat.le_refl _) _⟩
            show _ = ((lown (bt s k) : Nat) : Int)
            rw [HX.out, lown, if_pos (by omega)]
            omega
          case measure => simp [intOf]; omega
    · obtain rfl : k = s.size := by omega
      have ht := hz.out.1.text (cap := s.size) (smallL s.data.toList) (small_len s) (small_text s)
      go_wp2
      go_ret
      exact ⟨rfl, hz.out.2⟩
end Go.Proofs.YtgmibjcccdgkgaaDoor
