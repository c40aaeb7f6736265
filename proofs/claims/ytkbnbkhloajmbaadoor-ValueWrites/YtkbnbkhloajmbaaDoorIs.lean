/- The contracts of is and bare; Key and Read of the program beside the document's. -/
import Derived.Test.YtkbnbkhloajmbaaDoorPlace
import Derived.Test.YtkbnbkhloajmbaaDoorRefBad
import Derived.Test.YtkbnbkhloajmbaaDoorRefRead
namespace Go.Proofs.YtkbnbkhloajmbaaDoor
open Go.RowKit Go.Lib

/-- an error is this one, and there -/
def ErrIs (E : Value) (n j : Int) (w : World) : Prop :=
  (E = .nilIface ∧ n = 0 ∧ j = -1) ∨ (∃ b, E = .iface 46 (.pointer (some ⟨b, 0, none⟩)) ∧ w.cell? ⟨b, 0, none⟩ = some (.int .i64 n) ∧ w.cell? ⟨b, 1, none⟩ = some (.int .i64 j)) ∨ (E = .iface 24 (.int .i64 n) ∧ j = -1)

theorem ErrIs.below {E : Value} {n j : Int} {w w' : World} (h : ErrIs E n j w) (hb : Below w.heap.size w w') : ErrIs E n j w' := by
  rcases h with h | ⟨b, h1, h2, h3⟩ | h
  · exact .inl h
  · have hlt := World.block_lt_of_cell? w _ h2
    exact .inr (.inl ⟨b, h1, (hb.cell (p := ⟨b, 0, none⟩) hlt).trans h2, (hb.cell (p := ⟨b, 1, none⟩) hlt).trans h3⟩)
  · exact .inr (.inr h)

theorem place_any (E : Value) (n j : Int) (w : World) (hg : HG w) (h : ErrIs E n j w) : Calls Tryd.prog 18 #[E] w fun e w' => e = .returned (.tuple #[.int .i64 n, .int .i64 j]) ∧ Below w.heap.size w w' := by
  rcases h with ⟨rfl, rfl, rfl⟩ | ⟨b, rfl, h2, h3⟩ | ⟨rfl, rfl⟩
  · exact place_nil w
  · exact place_at b n j w hg h2 h3
  · exact place_errno n w hg

set_option maxRecDepth 100000 in
set_option maxHeartbeats 1000000 in
theorem is_any (E : Value) (n j : Int) (w : World) (hg : HG w) (h : ErrIs E n j w) : Calls Tryd.prog 9 #[E, .agg #[.int .i64 n, .int .i64 j]] w fun e w' => e = .returned (.bool true) ∧ Below w.heap.size w w' := by
  have hb0 : Below w.heap.size w (w.alloc (.cells #[.int .i64 n, .int .i64 j] 26)) := (Below.refl _ w).alloc (Nat.le_refl _) _
  have hg2 := hg.below hb0 hg.lt
  have h2 := h.below hb0
  have HH : Hid _ := h2
  clear h h2
  go_enter Tryd.func9, Tryd.ntmps9
  go_wp2_with fail
  refine (place_any E n j _ hg2 HH.out).mono ?_
  rintro _ w1 ⟨rfl, hb1⟩
  have q0 := hb1.cell (p := ⟨w.heap.size, 0, none⟩) (by simp)
  have q1 := hb1.cell (p := ⟨w.heap.size, 1, none⟩) (by simp)
  simp at q0 q1
  have hb2 := hb0.trans (hb1.mono (by simp))
  clear hb1 hb0 HH hg2
  go_wp2
  go_ret
  exact ⟨rfl, hb2⟩

theorem refBare_any (n : Int) (w : World) : Calls Tryd.prog 19 #[.int .i64 n] w fun e w' => e = .returned (.agg #[.int .i64 n, .int .i64 (-1)]) ∧ Below w.heap.size w w' := by
  go_enter Tryd.func19, Tryd.ntmps19
  go_wp2
  exact bodyPost_ret (v := .agg #[.int .i64 n, .int .i64 (-1)]) (by simp [results, Tryd.results19, go_sem]) rfl ⟨rfl, (Below.refl _ _).alloc (Nat.le_refl _) _⟩

set_option maxRecDepth 100000 in
set_option maxHeartbeats 1000000 in
theorem bare_any (E : Value) (n : Int) (w : World) (hg : HG w) (h : ErrIs E n (-1) w) : Calls Tryd.prog 10 #[E, .int .i64 n] w fun e w' => e = .returned (.bool true) ∧ Below w.heap.size w w' := by
  have HH : Hid (ErrIs E n (-1) w) := h
  clear h
  go_enter Tryd.func10, Tryd.ntmps10
  go_wp2_with fail
  refine (refBare_any n _).mono ?_
  rintro _ w1 ⟨rfl, hb1⟩
  have hs1 := hb1.size
  go_wp2_with fail
  refine (is_any E n (-1) _ (hg.below hb1 hg.lt) (ErrIs.below HH.out hb1)).mono ?_
  rintro _ w2 ⟨rfl, hb2⟩
  have hb3 := hb1.trans (hb2.mono hs1)
  clear hb1 hb2 HH
  go_wp2
  go_ret
  exact ⟨rfl, hb3⟩

/-- what the document's Fine holds -/
def FineW (w : World) : Prop := w.cell? ⟨0, 0, none⟩ = some (.int .i64 0) ∧ w.cell? ⟨0, 1, none⟩ = some (.int .i64 (-1))

theorem key_both (xs : List Vl) (hf : ∀ x ∈ xs, Fits x) (hlen : xs.length ≤ 1000) : ∃ (s : ByteArray) (n j : Int),
    (∀ a cap w, Row w a xs.length xs → FineW w → Calls Tryd.prog 5 #[.slice a xs.length cap] w fun e w' => e = .returned (.tuple #[.string s, .agg #[.int .i64 n, .int .i64 j]]) ∧ Below w.heap.size w w') ∧
    (∀ a cap w, Row w a xs.length xs → Calls Tryd.prog 6 #[.slice a xs.length cap] w fun e w' => ∃ E, e = .returned (.tuple #[.string s, E]) ∧ ErrIs E n j w' ∧ Below w.heap.size w w') := by
  by_cases h : ∀ x ∈ xs, rightW x = true
  · refine ⟨strOf (keyL xs), 0, -1, fun a cap w hr hF => refKey_ok a _ cap xs w hr hf hlen h hF.1 hF.2, fun a cap w hr => ?_⟩
    refine (key_ok a _ cap xs w hr hf hlen h).mono ?_
    rintro e w' ⟨rfl, hb⟩
    exact ⟨_, rfl, .inl ⟨rfl, rfl, rfl⟩, hb⟩
  · obtain ⟨i, hi, h1, h2⟩ := first_bad xs h
    refine ⟨⟨#[]⟩, 1, i, fun a cap w hr _ => refKey_bad a _ cap xs w hr hf hlen i hi h1 h2, fun a cap w hr => ?_⟩
    refine (key_bad a _ cap xs w hr hf hlen i hi h1 h2).mono ?_
    rintro e w' ⟨g, rfl, _, _, c0, c1, hb⟩
    exact ⟨_, rfl, .inr (.inl ⟨g, rfl, c0, c1⟩), hb⟩

theorem decV_small (l : List UInt8) : (decV l).1.s.size ≤ 41 := by
  cases l with
  | nil => exact Nat.zero_le _
  | cons c r =>
    by_cases c1 : c = 1
    · rw [c1, dec_1]; exact Nat.zero_le _
    by_cases c2 : c = 2
    · by_cases h8 : 8 ≤ r.length
      · rw [c2, dec_2 r h8]; exact Nat.zero_le _
      · have : decV (2 :: r) = (⟨0, 0, ⟨#[]⟩⟩, 0) := by simp [decV, dec1, h8]
        rw [c2, this]; exact Nat.zero_le _
    by_cases c3 : c = 3
    · rw [c3, dec_3e]
      split
      · exact Nat.zero_le _
      · have := lets_le (r.take 41)
        simp only [strOf_size, List.length_take] at this ⊢
        omega
    · have : decV (c :: r) = (⟨0, 0, ⟨#[]⟩⟩, 0) := by simp [decV, dec1, c1, c2, c3]
      rw [this]; exact Nat.zero_le _

theorem readF_small (f : Nat) : ∀ (l : List UInt8) (zs : List Vl), readF f l = some zs → ∀ x ∈ zs, x.s.size ≤ maxLen := by
  induction f with
  | zero =>
    intro l zs h x hx
    simp [readF] at h
    subst h
    cases hx
  | succ f ih =>
    intro l zs h x hx
    simp only [readF] at h
    by_cases h1 : l.isEmpty = true
    · simp [h1] at h
      subst h
      cases hx
    · by_cases h2 : (decV l).2 = 0
      · simp [h1, h2] at h
      · simp only [if_neg h1, if_neg h2] at h
        rw [Option.map_eq_some_iff] at h
        obtain ⟨ys, hy, rfl⟩ := h
        rcases List.mem_cons.1 hx with rfl | hx
        · have := decV_small l
          unfold maxLen
          omega
        · exact ih _ _ hy x hx

theorem readF_len (f : Nat) : ∀ (l : List UInt8) (zs : List Vl), readF f l = some zs → zs.length ≤ f := by
  induction f with
  | zero =>
    intro l zs h
    simp [readF] at h
    subst h
    simp
  | succ f ih =>
    intro l zs h
    simp only [readF] at h
    by_cases h1 : l.isEmpty = true
    · simp [h1] at h
      subst h
      simp
    · by_cases h2 : (decV l).2 = 0
      · simp [h1, h2] at h
      · simp only [if_neg h1, if_neg h2] at h
        rw [Option.map_eq_some_iff] at h
        obtain ⟨ys, hy, rfl⟩ := h
        have := ih _ _ hy
        simp; omega

theorem read_both (s : ByteArray) (hs : s.size ≤ 100000) : ∃ (m : Int) (zs : List Vl),
    (∀ w, Calls Tryd.prog 7 #[.string s] w fun e w' => ∃ a cap, e = .returned (.tuple #[.slice a zs.length cap, .int .i64 m]) ∧ Row w' a zs.length zs ∧ Below w.heap.size w w') ∧
    (∀ w, Calls Tryd.prog 8 #[.string s] w fun e w' => ∃ a cap E, e = .returned (.tuple #[.slice a zs.length cap, E]) ∧ Row w' a zs.length zs ∧ ErrIs E m (-1) w' ∧ Below w.heap.size w w') := by
  cases h : readF s.size s.data.toList with
  | none =>
    refine ⟨3, [], fun w => ?_, fun w => ?_⟩
    · have := refRead_any s w hs
      rw [h] at this
      refine this.mono ?_
      rintro e w' ⟨hb, rfl⟩
      exact ⟨none, 0, rfl, ⟨rfl, Nat.zero_le _, .inl rfl⟩, hb⟩
    · have := read_any s w hs
      rw [h] at this
      refine this.mono ?_
      rintro e w' ⟨hb, rfl⟩
      exact ⟨none, 0, _, rfl, ⟨rfl, Nat.zero_le _, .inl rfl⟩, .inr (.inr ⟨rfl, rfl⟩), hb⟩
  | some zs =>
    have hsm := readF_small _ _ _ h
    have hln := readF_len _ _ _ h
    refine ⟨0, zs, fun w => ?_, fun w => ?_⟩
    · have := refRead_any s w hs
      rw [h] at this
      refine this.mono ?_
      rintro e w' ⟨hb, v, rfl, ho⟩
      obtain ⟨a, cap, rfl, hr, _⟩ := row_of_own ho hsm (by unfold maxLen; omega)
      exact ⟨a, cap, rfl, hr, hb⟩
    · have := read_any s w hs
      rw [h] at this
      refine this.mono ?_
      rintro e w' ⟨hb, v, rfl, ho⟩
      obtain ⟨a, cap, rfl, hr, _⟩ := row_of_own ho hsm (by unfold maxLen; omega)
      exact ⟨a, cap, _, rfl, hr, .inl ⟨rfl, rfl, rfl⟩, hb⟩
end Go.Proofs.YtkbnbkhloajmbaaDoor
