/- The contract of the program's Small. -/
import Derived.Test.YtleegplecdknlaaDoorWRef
import Derived.Test.YtleegplecdknlaaDoorWLett
namespace Go.Proofs.YtleegplecdknlaaDoor
open Go.RowKit

/-- bytes of a text in a new row -/
theorem bytes_of (s : ByteArray) (w : World) : ∃ cap w', (convert 9 86 (.string s)).run Tryd.prog w = .ok (.slice (some ⟨w.heap.size, 0, none⟩) s.size cap) w' ∧ Below w.heap.size w w' ∧ w'.heap.size = w.heap.size + 1 ∧
    (∀ j (hj : j < s.data.toList.length), w'.cell? ⟨w.heap.size, j, none⟩ = some (.int .u8 (s.data.toList[j].toNat : Int))) ∧ (∀ j, j < s.size → w'.frozen? ⟨w.heap.size, j, none⟩ = false) := by
  have h := run_bytes_of_string (P := Tryd.prog) w 9 86 5 s Tryd.underlying9 Tryd.underlying86 Tryd.underlying5
  refine ⟨_, _, h, (Below.refl _ w).drew.alloc (Nat.le_refl _) _, ?_, ?_, ?_⟩
  · simp
  · intro j hj
    have hn : (w.drew.alloc (.cells (bytesRow s (grownCap w s.size 0 5)) 5 ((bytesRow s (grownCap w s.size 0 5)).size, (bytesRow s (grownCap w s.size 0 5)).size + 1))).heap[w.heap.size]? = _ := heap_alloc_new w.drew _
    have hj' : j < s.data.size := by simpa using hj
    simp only [World.cell?, hn]
    have hj2 : j < s.size := hj'
    simp [bytesRow, Array.getElem?_append, hj2]
  · intro j hj
    have hn : (w.drew.alloc (.cells (bytesRow s (grownCap w s.size 0 5)) 5 ((bytesRow s (grownCap w s.size 0 5)).size, (bytesRow s (grownCap w s.size 0 5)).size + 1))).heap[w.heap.size]? = _ := heap_alloc_new w.drew _
    have hj' : j < (bytesRow s (grownCap w s.size 0 5)).size := by
      have e : s.data.size = s.size := rfl
      simp [bytesRow]; omega
    simp only [World.frozen?, hn]
    simp
    omega
set_option maxHeartbeats 1000000 in
theorem small_any (s : ByteArray) (w : World) (hs : s.size ≤ 1000000) :
    Calls Tryd.prog 69 #[.string s] w fun e w' => e = .returned (.string (smallS s)) ∧ Below w.heap.size w w' := by
  obtain ⟨cap, w1, hcv, hb1, hz1, hc1, hf1⟩ := bytes_of s w
  have h0 : Half w.heap.size s.size 0 (fun j => lown (bt s j)) (bt s) w1 := ⟨fun j hj => by rw [hc1 j (by simpa using hj)]; simp [bt_at s j hj]; rfl, hf1⟩
  clear hc1 hf1 hz1
  go_enter Tryd.func69, Tryd.ntmps69
  go_wp2
  go_loopw [10] (fun i wr => ∃ k : Nat, k ≤ s.size ∧ i = .int .i64 k ∧ Hid (Half w.heap.size s.size k (fun j => lown (bt s j)) (bt s) wr ∧ Below w.heap.size w wr)) (fun i _ => s.size - (intOf i).toNat)
  case atStart => exact ⟨0, Nat.zero_le _, rfl, h0, hb1⟩
  case round =>
    clear h0 hb1 hcv
    obtain ⟨k, hk, rfl, hz⟩ := hrel
    by_cases hlt : k < s.size
    · have hc := hz.out.1.cell k hlt
      have hf := hz.out.1.free k hlt
      simp only [Nat.lt_irrefl, if_false] at hc
      have hbt := bt_lt s k
      obtain ⟨x, hx⟩ : ∃ x, bt s k = x := ⟨_, rfl⟩
      rw [hx] at hc hbt
      have HX : Hid (bt s k = x) := hx
      clear hx
      obtain ⟨a1, e1⟩ : ∃ b, decide ((65 : Int) ≤ (x : Int)) = b := ⟨_, rfl⟩
      obtain ⟨a2, e2⟩ : ∃ b, decide ((x : Int) ≤ 90) = b := ⟨_, rfl⟩
      have hi : (k : Int) < (s.size : Int) := by omega
      cases a1
      · go_wp2
        go_roundw
        case rel =>
          refine ⟨k + 1, by omega, by go_num, hz.out.1.keep hlt ?_, hz.out.2⟩
          show lown (bt s k) = _
          simp only [decide_eq_false_iff_not] at e1
          rw [HX.out, lown, if_neg (by omega)]
        case measure => simp [intOf]; omega
      · cases a2
        · go_wp2
          go_roundw
          case rel =>
            refine ⟨k + 1, by omega, by go_num, hz.out.1.keep hlt ?_, hz.out.2⟩
            show lown (bt s k) = _
            simp only [decide_eq_false_iff_not] at e2
            rw [HX.out, lown, if_neg (by omega)]
          case measure => simp [intOf]; omega
        · simp only [decide_eq_true_eq] at e1 e2
          go_wp2
          go_roundw
          case rel =>
            refine ⟨k + 1, by omega, by go_num, hz.out.1.set hlt _ ?_, hz.out.2.setCell (p := ⟨_, k, none⟩) (Nat.le_refl _) _⟩
            show _ = ((lown (bt s k) : Nat) : Int)
            rw [HX.out, lown, if_pos (by omega)]
            omega
          case measure => simp [intOf]; omega
    · obtain rfl : k = s.size := by omega
      have ht := hz.out.1.text (cap := cap) (smallL s.data.toList) (small_len s) (small_text s)
      go_wp2
      go_ret
      exact ⟨rfl, hz.out.2⟩

end Go.Proofs.YtleegplecdknlaaDoor
