/- The document's reader of what is looked for: what it makes, in memory; plain. -/
import Derived.Test.YtleegplecdknlaaDoorASt
namespace Go.Proofs.YtleegplecdknlaaDoor
open Go.RowKit

theorem beqT (p : ByteArray) (l : List UInt8) : (p.toList == l) = decide (p = (⟨l.toArray⟩ : ByteArray)) := by
  rw [Bool.eq_iff_iff, ByteArray.toList_eq]
  simp only [beq_iff_eq, decide_eq_true_eq]
  constructor
  · intro h
    apply ba_ext
    rw [h]
  · intro h; rw [h]

/-- texts in a row that lies behind A -/
def RowW (A : Nat) (w : World) (v : Value) (ws : List ByteArray) : Prop :=
  ∃ a c, v = .slice a ws.length c ∧ ws.length ≤ 1000000 ∧ (ws = [] ∨ ∃ b off, a = some ⟨b, off, none⟩ ∧ A < b ∧ b < w.heap.size ∧ ∀ i (h : i < ws.length), w.cell? ⟨b, off + i, none⟩ = some (.string ws[i]))
/-- what lies there is this -/
def QIs (A : Nat) (w : World) : Option Addr → Qy → Prop
  | p, .nil => p = none
  | p, .node k ws a b => ∃ B vw pa pb, p = some ⟨B, 0, none⟩ ∧ (A < B ∧ B < w.heap.size) ∧ (w.cell? ⟨B, 0, none⟩ = some (.int .i64 k) ∧ w.cell? ⟨B, 1, none⟩ = some vw ∧ w.cell? ⟨B, 2, none⟩ = some (.pointer pa) ∧ w.cell? ⟨B, 3, none⟩ = some (.pointer pb)) ∧ RowW A w vw ws ∧ QIs A w pa a ∧ QIs A w pb b

theorem RowW.grown {A : Nat} {w w' : World} {v : Value} {ws : List ByteArray} (h : RowW A w v ws) (hg : w.grownBy w' (some A)) : RowW A w' v ws := by
  obtain ⟨a, c, rfl, hl, h⟩ := h
  refine ⟨a, c, rfl, hl, ?_⟩
  rcases h with h | ⟨b, off, e, h1, h2, h3⟩
  · exact .inl h
  · exact .inr ⟨b, off, e, h1, Nat.lt_of_lt_of_le h2 hg.size, fun i hi => by rw [World.cell?_of_block (w := w) (a := ⟨b, off + i, none⟩) (hg.block b h2 (fun e => by cases e; omega))]; exact h3 i hi⟩
theorem QIs.grown {A : Nat} {w w' : World} (hg : w.grownBy w' (some A)) (q : Qy) : ∀ {p : Option Addr}, QIs A w p q → QIs A w' p q := by
  induction q with
  | nil => intro p h; exact h
  | node k ws a b ha hb =>
    intro p h
    obtain ⟨B, vw, pa, pb, e, ⟨h1, h2⟩, ⟨c0, c1, c2, c3⟩, hr, qa, qb⟩ := h
    have key : ∀ o, w'.cell? ⟨B, o, none⟩ = w.cell? ⟨B, o, none⟩ := fun o => World.cell?_of_block (w := w) (a := ⟨B, o, none⟩) (hg.block B h2 (fun e => by cases e; omega))
    exact ⟨B, vw, pa, pb, e, ⟨h1, Nat.lt_of_lt_of_le h2 hg.size⟩, ⟨by rw [key]; exact c0, by rw [key]; exact c1, by rw [key]; exact c2, by rw [key]; exact c3⟩, hr.grown hg, ha qa, hb qb⟩

theorem grownA_trans {w w1 w2 : World} {A : Nat} (h : w.grownBy w1 (some A)) (k : w1.grownBy w2 (some A)) : w.grownBy w2 (some A) := h.trans k
/-- a new one -/
theorem QIs.box {A : Nat} {w : World} (hA : A < w.heap.size) (k : Int) (vw : Value) (pa pb : Option Addr) (ws : List ByteArray) (a b : Qy) (hw : RowW A w vw ws) (ha : QIs A w pa a) (hb : QIs A w pb b) :
    QIs A (w.alloc (.cells #[.int .i64 k, vw, .pointer pa, .pointer pb] 49)) (some ⟨w.heap.size, 0, none⟩) (.node k ws a b) := by
  have hg : w.grownBy (w.alloc (.cells #[.int .i64 k, vw, .pointer pa, .pointer pb] 49)) (some A) := grown_of_belowA ((Below.refl _ _).alloc (Nat.le_refl _) _) _
  exact ⟨w.heap.size, vw, pa, pb, rfl, ⟨hA, by simp⟩, ⟨by simp, by simp, by simp, by simp⟩, hw.grown hg, QIs.grown hg a ha, QIs.grown hg b hb⟩
theorem rowW_none (A : Nat) (w : World) : RowW A w (.slice none 0 0) [] := ⟨none, 0, rfl, by simp, .inl rfl⟩
theorem rowW_of_own {A : Nat} {w : World} {B : Nat} {v : Value} {ws : List ByteArray} (h : w.ownsRow B 9 1 v ws.length (sc ws)) (hA : A < B) (hl : ws.length ≤ 1000000) : RowW A w v ws := by
  rcases h.2 with ⟨rfl, h0⟩ | ⟨g, cap, cur, rfl, hBg, hg, _⟩
  · have : ws = [] := List.length_eq_zero_iff.1 h0
    subst this
    exact rowW_none A w
  · refine ⟨_, cap, rfl, hl, .inr ⟨g, 0, rfl, by omega, (Array.getElem?_eq_some_iff.1 hg).1, fun i hi => ?_⟩⟩
    have k0 := h.cells (g := g) rfl i (.string ws[i]) (by simp [sc, hi])
    rw [Go.WideShapes.add_plain] at k0
    exact k0

set_option maxHeartbeats 1000000 in
theorem plain_any (A : Nat) (s : St) (x : ByteArray) (w : World) (h : AskIs A s w) (hx : x.size ≤ 1000) :
    Calls Tryd.prog 38 #[.pointer (some ⟨A, 0, none⟩), .string x] w fun e w' => e = .returned (.string (s.plain x).1) ∧ AskIs A (s.plain x).2 w' ∧ w.grownBy w' (some A) := by
  have H : Hid (AskIs A s w) := h
  clear h
  obtain ⟨ws, hws⟩ : ∃ ws, wordsL x.data.toList = ws := ⟨_, rfl⟩
  have HW : Hid (wordsL x.data.toList = ws) := hws
  have hwl : ws.length ≤ 1001 := by rw [← hws]; have := words_length x.data.toList; rw [ba_len] at this; omega
  clear hws
  by_cases h1 : ws.length = 1
  · obtain ⟨y, rfl⟩ := List.length_eq_one_iff.1 h1
    have HP : Hid (s.plain x = (y, s)) := plain_one HW.out
    clear h1
    go_enter Tryd.func38, Tryd.ntmps38
    go_wp2_with fail
    refine (words_any x w (by omega)).mono ?_
    rintro _ w1 ⟨v1, rfl, ho1, hb1⟩
    rw [HW.out] at ho1
    have HA1 : Hid (AskIs A s w1) := H.out.below hb1
    have HB1 : Hid (Below w.heap.size w w1) := hb1
    rcases ho1.2 with ⟨_, h0⟩ | ⟨g, cap, cur, rfl, _⟩
    · cases h0
    have hc := ho1.cells (g := g) rfl 0 (.string y) (by simp [sc])
    rw [Go.WideShapes.add_plain] at hc
    simp only [Nat.add_zero] at hc
    clear ho1 hb1
    go_wp2
    go_ret
    rw [HP.out]
    exact ⟨rfl, HA1.out, grown_of_belowA HB1.out _⟩
  · have HP : Hid (s.plain x = (⟨#[]⟩, s.fails 3)) := plain_other HW.out h1
    go_enter Tryd.func38, Tryd.ntmps38
    go_wp2_with fail
    refine (words_any x w (by omega)).mono ?_
    rintro _ w1 ⟨v1, rfl, ho1, hb1⟩
    rw [HW.out] at ho1
    have HA1 : Hid (AskIs A s w1) := H.out.below hb1
    have HB1 : Hid (Below w.heap.size w w1) := hb1
    obtain ⟨a, cap, rfl⟩ : ∃ a cap, v1 = .slice a ws.length cap := by
      rcases ho1.2 with ⟨rfl, h0⟩ | ⟨g, cap, cur, rfl, _⟩
      · exact ⟨none, 0, by rw [h0]⟩
      · exact ⟨_, cap, rfl⟩
    clear ho1 hb1
    obtain ⟨n, hn⟩ : ∃ n, ws.length = n := ⟨_, rfl⟩
    rw [hn] at h1 hwl ⊢
    have d1 : ((n : Int) == 1) = false := by simp; omega
    go_wp2_with fail
    refine (fails_any A s 3 w1 HA1.out).mono ?_
    rintro _ w2 ⟨rfl, ha2, hg2⟩
    have HA2 : Hid (AskIs A (s.fails 3) w2) := ha2
    have HG2 : Hid (w.grownBy w2 (some A)) := (grown_of_belowA HB1.out _).trans hg2
    clear ha2 hg2
    go_wp2
    go_ret
    rw [HP.out]
    exact ⟨rfl, HA2.out, HG2.out⟩
end Go.Proofs.YtleegplecdknlaaDoor
