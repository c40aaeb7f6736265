/- The document's reader of what is looked for: its state in memory; peek, take, fails, plain. -/
import Derived.Test.YtleegplecdknlaaDoorAPure
import Derived.Test.YtleegplecdknlaaDoorWRef
namespace Go.Proofs.YtleegplecdknlaaDoor
open Go.RowKit

/-- texts in a row that lies below A -/
def RowL (A : Nat) (w : World) (a : Option Addr) (xs : List ByteArray) : Prop :=
  xs = [] ∨ ∃ b off, a = some ⟨b, off, none⟩ ∧ b < A ∧ ∀ i (h : i < xs.length), w.cell? ⟨b, off + i, none⟩ = some (.string xs[i])
/-- block A is the reader, in this state -/
def AskIs (A : Nat) (s : St) (w : World) : Prop :=
  (∃ a c, w.cell? ⟨A, 0, none⟩ = some (.slice a s.l.length c) ∧ RowL A w a s.l ∧ s.l.length ≤ c ∧ s.l.length ≤ 1000) ∧ w.cell? ⟨A, 1, none⟩ = some (.int .i64 s.bad) ∧ w.frozen? ⟨A, 0, none⟩ = false ∧ w.frozen? ⟨A, 1, none⟩ = false ∧ A < w.heap.size ∧ ∀ x ∈ s.l, x.size ≤ 1000

theorem grownA_refl (w : World) (r : Option Nat) : w.grownBy w r := ⟨rfl, rfl, rfl, Nat.le_refl _, fun _ _ _ => rfl⟩
theorem grown_of_belowA {w w' : World} (h : Below w.heap.size w w') (row : Option Nat) : w.grownBy w' row := ⟨h.os, h.tape, h.output, h.size, fun k hk _ => h.block k hk⟩
theorem grownA_set (W : World) (b o : Nat) (v : Value) : W.grownBy (W.setCell ⟨b, o, none⟩ v) (some b) :=
  ⟨rfl, rfl, rfl, by simp [World.setCell], fun k _ hk => Below.heap_setCell W ⟨b, o, none⟩ v k (fun e => hk (by rw [e]))⟩
theorem RowL.keep {A : Nat} {w w' : World} {a : Option Addr} {xs : List ByteArray} (h : RowL A w a xs) (hb : ∀ k, k < A → w'.heap[k]? = w.heap[k]?) : RowL A w' a xs := by
  rcases h with h | ⟨b, off, e, hlt, hc⟩
  · exact .inl h
  · exact .inr ⟨b, off, e, hlt, fun i hi => by rw [World.cell?_of_block (w := w) (a := ⟨b, off + i, none⟩) (hb b hlt)]; exact hc i hi⟩
theorem AskIs.below {A : Nat} {s : St} {w w' : World} (h : AskIs A s w) (hb : Below w.heap.size w w') : AskIs A s w' := by
  obtain ⟨⟨a, c, h1, h2, h3⟩, h4, h5, h6, h7, h8⟩ := h
  have hs := hb.size
  refine ⟨⟨a, c, by rw [hb.cell (p := ⟨A, _, none⟩) h7]; exact h1, h2.keep (fun k hk => hb.block k (by omega)), h3⟩, by rw [hb.cell (p := ⟨A, _, none⟩) h7]; exact h4, ?_, ?_, by omega, h8⟩
  · rw [World.frozen?_of_block (w := w) (a := ⟨A, 0, none⟩) (hb.block A h7)]; exact h5
  · rw [World.frozen?_of_block (w := w) (a := ⟨A, 1, none⟩) (hb.block A h7)]; exact h6

theorem peek_nil {s : St} (h : s.l = []) : s.peek = tNone := by unfold St.peek; rw [h]; split <;> rfl
theorem peek_bad {s : St} (h : s.bad ≠ 0) : s.peek = tNone := by unfold St.peek; rw [if_neg h]; rfl
theorem peek_cons {s : St} {x : ByteArray} {r : List ByteArray} (h : s.l = x :: r) (hb : s.bad = 0) : s.peek = x := by unfold St.peek; rw [h, if_pos hb]; rfl

set_option maxHeartbeats 1000000 in
theorem peek_any (A : Nat) (s : St) (w : World) (h : AskIs A s w) : Calls Tryd.prog 27 #[.pointer (some ⟨A, 0, none⟩)] w fun e w' => e = .returned (.string s.peek) ∧ w' = w := by
  obtain ⟨⟨a, c, h1, h2, h3, h3'⟩, h4, _, _, _, _⟩ := h
  cases hl : s.l with
  | nil =>
    rw [hl] at h1
    simp only [List.length_nil] at h1
    have HP : Hid (s.peek = tNone) := peek_nil hl
    clear hl
    go_enter Tryd.func27, Tryd.ntmps27
    go_wp2
    go_ret
    exact ⟨by rw [HP.out]; rfl, rfl⟩
  | cons x r =>
    rw [hl] at h1 h2 h3
    rcases h2 with h2 | ⟨b, off, rfl, _, hc⟩
    · cases h2
    have hx := hc 0 (by simp)
    simp only [Nat.add_zero, List.getElem_cons_zero] at hx
    clear hc
    simp only [List.length_cons] at h1 h3
    obtain ⟨n, hn⟩ : ∃ n, r.length = n := ⟨_, rfl⟩
    rw [hn] at h1 h3
    have d1 : ((n : Int) + 1 == 0) = false := by simp; omega
    by_cases hb : s.bad = 0
    · have HP : Hid (s.peek = x) := peek_cons hl hb
      rw [hb] at h4
      clear hb hl
      go_enter Tryd.func27, Tryd.ntmps27
      go_wp2
      go_ret
      exact ⟨by rw [HP.out]; rfl, rfl⟩
    · have HP : Hid (s.peek = tNone) := peek_bad hb
      have d2 : (s.bad == 0) = false := by simpa using hb
      clear hb hl
      go_enter Tryd.func27, Tryd.ntmps27
      go_wp2
      go_ret
      exact ⟨by rw [HP.out]; rfl, rfl⟩
theorem peek_as (x : ByteArray) (A : Nat) (s : St) (w : World) (h : AskIs A s w) (hx : s.peek = x) : Calls Tryd.prog 27 #[.pointer (some ⟨A, 0, none⟩)] w fun e w' => e = .returned (.string x) ∧ w' = w := by
  rw [← hx]; exact peek_any A s w h

set_option maxHeartbeats 1000000 in
theorem fails_any (A : Nat) (s : St) (n : Int) (w : World) (h : AskIs A s w) : Calls Tryd.prog 10 #[.pointer (some ⟨A, 0, none⟩), .int .i64 n] w fun e w' => e = .returned (.tuple #[]) ∧ AskIs A (s.fails n) w' ∧ w.grownBy w' (some A) := by
  have H : Hid (AskIs A s w) := h
  obtain ⟨_, h4, _, h6, _, _⟩ := h
  by_cases hb : s.bad = 0
  · have HS : Hid (s.fails n = ⟨s.l, n⟩) := by show _ = _; rw [St.fails, if_pos hb]
    rw [hb] at h4
    clear hb
    go_enter Tryd.func10, Tryd.ntmps10
    go_wp2
    go_end0
    refine ⟨rfl, ?_, grownA_set _ _ _ _⟩
    rw [HS.out]
    obtain ⟨⟨a, c, k1, k2, k3⟩, k4, k5, k6, k7, k8⟩ := H.out
    refine ⟨⟨a, c, ?_, k2.keep (fun k hk => Below.heap_setCell w ⟨A, 1, none⟩ _ k (fun e => by simp only at e; omega)), k3⟩, World.cell?_setCell_same _ _ _ k4, ?_, ?_, by simpa [World.setCell] using k7, k8⟩
    · rw [World.cell?_setCell_other _ _ _ _ (fun e => by cases e)]; exact k1
    · rw [World.frozen?_setCell]; exact k5
    · rw [World.frozen?_setCell]; exact k6
  · have HS : Hid (s.fails n = s) := by show _ = _; rw [St.fails, if_neg hb]
    have d2 : (s.bad == 0) = false := by simpa using hb
    clear hb
    go_enter Tryd.func10, Tryd.ntmps10
    go_wp2
    go_end0
    exact ⟨rfl, by rw [HS.out]; exact H.out, grownA_refl _ _⟩

set_option maxHeartbeats 1000000 in
theorem takeN_any (A : Nat) (s : St) (x : ByteArray) (w : World) (h : AskIs A s w) (hx : s.peek ≠ x) : Calls Tryd.prog 19 #[.pointer (some ⟨A, 0, none⟩), .string x] w fun e w' => e = .returned (.bool false) ∧ w' = w := by
  have H : Hid (AskIs A s w) := h
  clear h
  have d1 : (s.peek.toList == x.toList) = false := by
    have : s.peek.toList ≠ x.toList := fun e => hx (ba_ext (by rw [← ByteArray.toList_eq, ← ByteArray.toList_eq]; exact e))
    simpa using this
  go_enter Tryd.func19, Tryd.ntmps19
  go_wp2_with fail
  refine (peek_any A s w H.out).mono ?_
  rintro _ _ ⟨rfl, rfl⟩
  go_wp2
  go_ret
  exact ⟨rfl, rfl⟩

theorem ask_tail {A : Nat} {s : St} {x : ByteArray} {r : List ByteArray} {w : World} {b off n c : Nat} (h : AskIs A s w) (hl : s.l = x :: r) (hn : r.length = n) (hc : w.cell? ⟨A, 0, none⟩ = some (.slice (some ⟨b, off, none⟩) (n + 1) c)) (a' : Option Addr) (c' : Nat) (ha : r = [] ∨ a' = some ⟨b, off + 1, none⟩) (hc' : n ≤ c') :
    AskIs A ⟨s.l.tail, s.bad⟩ (w.setCell ⟨A, 0, none⟩ (.slice a' n c')) := by
  obtain ⟨⟨a, c0, h1, h2, h3, h3'⟩, h4, h5, h6, h7, h8⟩ := h
  rw [hl] at h2 h3' h8
  rw [hl, List.tail_cons]
  obtain rfl : a = some ⟨b, off, none⟩ := by
    rw [h1] at hc
    injection hc with hc
    injection hc
  refine ⟨⟨a', c', ?_, ?_, ?_, ?_⟩, ?_, ?_, ?_, ?_, fun y hy => h8 y (by simp [hy])⟩
  · show _ = some (Value.slice a' r.length c')
    rw [hn]; exact World.cell?_setCell_same _ _ _ h1
  · rcases ha with ha | rfl
    · exact .inl ha
    · rcases h2 with h2 | ⟨b', off', e, hbA, hc⟩
      · cases h2
      · cases e
        refine .inr ⟨b, off + 1, rfl, hbA, fun i hi => ?_⟩
        rw [World.cell?_of_block (w := w) (a := ⟨b, off + 1 + i, none⟩) (Below.heap_setCell w ⟨A, 0, none⟩ _ b (fun e => by simp only at e; omega))]
        have hi' : i < r.length := hi
        have := hc (i + 1) (by simp; omega)
        simp only [List.getElem_cons_succ] at this
        rw [show off + 1 + i = off + (i + 1) by omega]; exact this
  · show r.length ≤ c'; omega
  · show r.length ≤ 1000
    simp at h3'; omega
  · rw [World.cell?_setCell_other _ _ _ _ (fun e => by cases e)]; exact h4
  · rw [World.frozen?_setCell]; exact h5
  · rw [World.frozen?_setCell]; exact h6
  · simpa [World.setCell] using h7

set_option maxHeartbeats 1000000 in
theorem takeY_any (A : Nat) (s : St) (x : ByteArray) (w : World) (h : AskIs A s w) (hx : s.peek = x) (hne : x ≠ tNone) : Calls Tryd.prog 19 #[.pointer (some ⟨A, 0, none⟩), .string x] w fun e w' => e = .returned (.bool true) ∧ AskIs A ⟨s.l.tail, s.bad⟩ w' ∧ w.grownBy w' (some A) := by
  have H : Hid (AskIs A s w) := h
  obtain ⟨hb, r, hl⟩ := peek_some (s := s) (by rw [hx]; exact hne)
  obtain ⟨⟨a, c, h1, h2, h3, h3'⟩, h4, h5, h6, h7, h8⟩ := h
  have HX : Hid (s.peek = x) := hx
  rw [hx] at hl
  clear hx
  rw [hl] at h1 h2 h3
  rcases h2 with h2 | ⟨b, off, rfl, hbA, hc⟩
  · cases h2
  have HL : Hid (s.l = x :: r) := hl
  simp only [List.length_cons] at h1 h3
  obtain ⟨n, hn⟩ : ∃ n, r.length = n := ⟨_, rfl⟩
  rw [hn] at h1 h3
  have HH : Hid (w.cell? ⟨A, 0, none⟩ = some (.slice (some ⟨b, off, none⟩) (n + 1) c) ∧ r.length = n) := ⟨h1, hn⟩
  clear hc hl h8 hb hn
  by_cases hc1 : c = 1
  · have e0 : n = 0 := by omega
    subst hc1
    subst e0
    go_enter Tryd.func19, Tryd.ntmps19
    go_wp2_with fail
    refine (peek_as x A s w H.out HX.out).mono ?_
    rintro _ _ ⟨rfl, rfl⟩
    go_wp2
    go_ret
    exact ⟨rfl, ask_tail H.out HL.out HH.out.2 HH.out.1 _ _ (.inl (List.length_eq_zero_iff.1 HH.out.2)) (Nat.le_refl _), grownA_set _ _ _ _⟩
  · have hc2 : (1 : Nat) < c := by omega
    go_enter Tryd.func19, Tryd.ntmps19
    go_wp2_with fail
    refine (peek_as x A s w H.out HX.out).mono ?_
    rintro _ _ ⟨rfl, rfl⟩
    go_wp2
    go_ret
    exact ⟨rfl, ask_tail H.out HL.out HH.out.2 HH.out.1 _ _ (.inr rfl) (by omega), grownA_set _ _ _ _⟩
end Go.Proofs.YtleegplecdknlaaDoor
