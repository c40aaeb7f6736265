/- The contract of readText. -/
import Derived.Test.YtkbnbkhloajmbaaDoorLeaf
namespace Go.Proofs.YtkbnbkhloajmbaaDoor
open Go.RowKit

set_option maxRecDepth 100000 in
theorem conv_there (s : ByteArray) (w : World) : ∃ v W', (convert 9 44 (.string s)).run Tryd.prog w = .ok v W' ∧
    (convert 44 9 v).run Tryd.prog W' = .ok (.string s) W' ∧ Below w.heap.size w W' := by
  refine ⟨_, _, run_bytes_of_string w 9 44 5 s Tryd.underlying9 Tryd.underlying44 Tryd.underlying5, ?_, ?_⟩
  · have := run_convert_bytes_back (P := Tryd.prog) (w.drew.alloc (.cells (bytesRow s (grownCap w s.size 0 5)) 5 ((bytesRow s (grownCap w s.size 0 5)).size, (bytesRow s (grownCap w s.size 0 5)).size + 1))) 44 9 5 ⟨w.heap.size, 0, none⟩ (grownCap w s.size 0 5) s.data.toList Tryd.underlying44 Tryd.underlying5 Tryd.underlying9 (fun j hj => by
      rw [Go.WideShapes.add_plain]
      have hj' : j < s.data.size := by simpa using hj
      have h1 := World.cell?_alloc_mark w.drew (bytesRow s (grownCap w s.size 0 5)) 5 ((bytesRow s (grownCap w s.size 0 5)).size, (bytesRow s (grownCap w s.size 0 5)).size + 1) j
      have h2 := bytesRow_at s (grownCap w s.size 0 5) j hj'
      rw [Nat.zero_add]
      rw [h2] at h1
      rw [Array.getElem_toList]
      exact h1)
    have e1 : s.data.toList.length = s.size := by simp
    have e2 : (⟨s.data.toList.toArray⟩ : ByteArray) = s := by simp
    rw [e1, e2] at this
    exact this
  · exact ((Below.refl _ w).drew).alloc (Nat.le_refl _) _

theorem letters_as (s : ByteArray) (n : Nat) (hn : lets s.data.toList = n) (w : World) (hs : s.size ≤ maxLen) :
    Calls Tryd.prog 26 #[.string s] w fun e w' => e = .returned (.int .i64 n) ∧ w' = w := by
  rw [← hn]; exact letters_any s w hs

theorem lets_le (l : List UInt8) : lets l ≤ l.length := List.findIdx_le_length

/-- the text and how many bytes are passed, of what is looked at -/
def textOf (t : ByteArray) : Value := if lets t.data.toList = t.size then .tuple #[.agg #[.int .i64 0, .int .i64 0, .string ⟨#[]⟩], .int .i64 0]
  else .tuple #[.agg #[.int .i64 2, .int .i64 0, .string (t.extract 0 (lets t.data.toList))], .int .i64 (1 + (lets t.data.toList : Int) + 1)]

set_option maxRecDepth 100000 in
set_option maxHeartbeats 1000000 in
theorem readText_any (s : ByteArray) (w : World) (hs : 0 < s.size) (hm : s.size ≤ maxLen) :
    Calls Tryd.prog 24 #[.string s] w fun e w' => e = .returned (textOf (s.extract 1 (min s.size 42))) ∧ Below w.heap.size w w' := by
  unfold maxLen at hm
  by_cases h42 : s.size ≤ 42
  · have hmin : min s.size 42 = s.size := by omega
    rw [hmin]
    clear hmin
    have h42' : (s.size : Int) ≤ 42 := by omega
    generalize htx : textOf (s.extract 1 s.size) = tx
    have HT : Hid _ := htx
    clear htx
    go_enter Tryd.func24, Tryd.ntmps24
    go_wp2_with fail
    have hts : (s.extract 1 s.size).size ≤ 41 := by simp; omega
    generalize s.extract 1 s.size = t at *
    obtain ⟨n, hn⟩ : ∃ n, lets t.data.toList = n := ⟨_, rfl⟩
    have hle := lets_le t.data.toList
    have e1 : t.data.toList.length = t.size := by simp
    rw [e1, hn] at hle
    clear e1
    refine (letters_as t n hn _ (by unfold maxLen; omega)).mono ?_
    rintro e w1 ⟨rfl, rfl⟩
    by_cases hz : n = t.size
    · have hz' : ((n : Int) == (t.size : Int)) = true := by simp; omega
      have HR : Hid (tx = .tuple #[.agg #[.int .i64 0, .int .i64 0, .string ⟨#[]⟩], .int .i64 0]) := by
        show _ = _
        rw [← HT.out, textOf, hn, if_pos hz]
      have HN : Hid _ := hn
      clear hn HT hz
      go_wp2
      rw [HR.out]
      exact bodyPost_ret (v := .tuple #[.agg #[.int .i64 0, .int .i64 0, .string ⟨#[]⟩], .int .i64 0]) (by simp [results, Tryd.results24, go_sem]) rfl ⟨rfl, (Below.refl _ _).alloc (Nat.le_refl _) _⟩
    · have hz' : ((n : Int) == (t.size : Int)) = false := by simp; omega
      have HR : Hid (tx = .tuple #[.agg #[.int .i64 2, .int .i64 0, .string (t.extract 0 n)], .int .i64 (1 + (n : Int) + 1)]) := by
        show _ = _
        rw [← HT.out, textOf, hn, if_neg hz]
      have HN : Hid _ := hn
      have hlt : n < t.size := by omega
      clear hn HT hz
      obtain ⟨vb, W', c1, c2, c3⟩ := conv_there (t.extract 0 n) (w.alloc (.cells #[.int .i64 0, .int .i64 0, .string ⟨#[]⟩] 42))
      have q0 := c3.cell (p := ⟨w.heap.size, 0, none⟩) (by simp)
      have q1 := c3.cell (p := ⟨w.heap.size, 1, none⟩) (by simp)
      have q2 := c3.cell (p := ⟨w.heap.size, 2, none⟩) (by simp)
      have f0 := c3.frozen (p := ⟨w.heap.size, 0, none⟩) (by simp)
      have f1 := c3.frozen (p := ⟨w.heap.size, 1, none⟩) (by simp)
      have f2 := c3.frozen (p := ⟨w.heap.size, 2, none⟩) (by simp)
      simp at q0 q1 q2 f0 f1 f2
      have hbw : Below w.heap.size w W' := ((Below.refl w.heap.size w).alloc (Nat.le_refl _) _).trans (c3.mono (by simp))
      clear c3
      go_wp2
      rw [HR.out]
      refine bodyPost_ret (v := .tuple #[.agg #[.int .i64 2, .int .i64 0, .string (t.extract 0 n)], .int .i64 (1 + (n : Int) + 1)]) ?_ rfl ⟨rfl, ?_⟩
      · simp [results, Tryd.results24, go_sem, q0, q1, q2]
      · exact ((hbw.setCell (Nat.le_refl _) _).setCell (Nat.le_refl _) _).setCell (Nat.le_refl _) _
  · have hmin : min s.size 42 = 42 := by omega
    rw [hmin]
    clear hmin
    have h42' : ¬ (s.size : Int) ≤ 42 := by omega
    generalize htx : textOf (s.extract 1 42) = tx
    have HT : Hid _ := htx
    clear htx
    go_enter Tryd.func24, Tryd.ntmps24
    go_wp2_with fail
    have hts : (s.extract 1 42).size ≤ 41 := by simp; omega
    generalize s.extract 1 42 = t at *
    obtain ⟨n, hn⟩ : ∃ n, lets t.data.toList = n := ⟨_, rfl⟩
    have hle := lets_le t.data.toList
    have e1 : t.data.toList.length = t.size := by simp
    rw [e1, hn] at hle
    clear e1
    refine (letters_as t n hn _ (by unfold maxLen; omega)).mono ?_
    rintro e w1 ⟨rfl, rfl⟩
    by_cases hz : n = t.size
    · have hz' : ((n : Int) == (t.size : Int)) = true := by simp; omega
      have HR : Hid (tx = .tuple #[.agg #[.int .i64 0, .int .i64 0, .string ⟨#[]⟩], .int .i64 0]) := by
        show _ = _
        rw [← HT.out, textOf, hn, if_pos hz]
      have HN : Hid _ := hn
      clear hn HT hz
      go_wp2
      rw [HR.out]
      exact bodyPost_ret (v := .tuple #[.agg #[.int .i64 0, .int .i64 0, .string ⟨#[]⟩], .int .i64 0]) (by simp [results, Tryd.results24, go_sem]) rfl ⟨rfl, (Below.refl _ _).alloc (Nat.le_refl _) _⟩
    · have hz' : ((n : Int) == (t.size : Int)) = false := by simp; omega
      have HR : Hid (tx = .tuple #[.agg #[.int .i64 2, .int .i64 0, .string (t.extract 0 n)], .int .i64 (1 + (n : Int) + 1)]) := by
        show _ = _
        rw [← HT.out, textOf, hn, if_neg hz]
      have HN : Hid _ := hn
      have hlt : n < t.size := by omega
      clear hn HT hz
      obtain ⟨vb, W', c1, c2, c3⟩ := conv_there (t.extract 0 n) (w.alloc (.cells #[.int .i64 0, .int .i64 0, .string ⟨#[]⟩] 42))
      have q0 := c3.cell (p := ⟨w.heap.size, 0, none⟩) (by simp)
      have q1 := c3.cell (p := ⟨w.heap.size, 1, none⟩) (by simp)
      have q2 := c3.cell (p := ⟨w.heap.size, 2, none⟩) (by simp)
      have f0 := c3.frozen (p := ⟨w.heap.size, 0, none⟩) (by simp)
      have f1 := c3.frozen (p := ⟨w.heap.size, 1, none⟩) (by simp)
      have f2 := c3.frozen (p := ⟨w.heap.size, 2, none⟩) (by simp)
      simp at q0 q1 q2 f0 f1 f2
      have hbw : Below w.heap.size w W' := ((Below.refl w.heap.size w).alloc (Nat.le_refl _) _).trans (c3.mono (by simp))
      clear c3
      go_wp2
      rw [HR.out]
      refine bodyPost_ret (v := .tuple #[.agg #[.int .i64 2, .int .i64 0, .string (t.extract 0 n)], .int .i64 (1 + (n : Int) + 1)]) ?_ rfl ⟨rfl, ?_⟩
      · simp [results, Tryd.results24, go_sem, q0, q1, q2]
      · exact ((hbw.setCell (Nat.le_refl _) _).setCell (Nat.le_refl _) _).setCell (Nat.le_refl _) _
end Go.Proofs.YtkbnbkhloajmbaaDoor
