/- What the program makes of a text, in memory; what its parts tell. -/
import Derived.Test.YtleegplecdknlaaDoorPBegin
import Derived.Test.YtleegplecdknlaaDoorASame
namespace Go.Proofs.YtleegplecdknlaaDoor
open Go.RowKit

/-- what lies there is this, and lies behind A -/
def MQ (A : Nat) (w : World) : Option Addr → Qy → Prop
  | p, .nil => p = none
  | p, .node k ws a b => ∃ B vw pa pb, p = some ⟨B, 0, none⟩ ∧ (A < B ∧ B < w.heap.size) ∧ (w.cell? ⟨B, 0, none⟩ = some (.int .i64 k) ∧ w.cell? ⟨B, 1, none⟩ = some vw ∧ w.cell? ⟨B, 2, none⟩ = some (.int .i64 (farOf k)) ∧ w.cell? ⟨B, 3, none⟩ = some (.pointer pa) ∧ w.cell? ⟨B, 4, none⟩ = some (.pointer pb)) ∧ RowW A w vw ws ∧ MQ A w pa a ∧ MQ A w pb b
theorem MQ.grown {A : Nat} {w w' : World} (hg : w.grownBy w' (some A)) (q : Qy) : ∀ {p : Option Addr}, MQ A w p q → MQ A w' p q := by
  induction q with
  | nil => intro p h; exact h
  | node k ws a b ha hb =>
    intro p h
    obtain ⟨B, vw, pa, pb, e, ⟨h1, h2⟩, ⟨c0, c1, c2, c3, c4⟩, hr, qa, qb⟩ := h
    have key : ∀ o, w'.cell? ⟨B, o, none⟩ = w.cell? ⟨B, o, none⟩ := fun o => World.cell?_of_block (w := w) (a := ⟨B, o, none⟩) (hg.block B h2 (fun e => by cases e; omega))
    exact ⟨B, vw, pa, pb, e, ⟨h1, Nat.lt_of_lt_of_le h2 hg.size⟩, ⟨by rw [key]; exact c0, by rw [key]; exact c1, by rw [key]; exact c2, by rw [key]; exact c3, by rw [key]; exact c4⟩, hr.grown hg, ha qa, hb qb⟩
theorem MQ.box {A : Nat} {w : World} (hA : A < w.heap.size) (k : Int) (vw : Value) (pa pb : Option Addr) (ws : List ByteArray) (a b : Qy) (hw : RowW A w vw ws) (ha : MQ A w pa a) (hb : MQ A w pb b) (F : Int) (hF : farOf k = F) :
    MQ A (w.alloc (.cells #[.int .i64 k, vw, .int .i64 F, .pointer pa, .pointer pb] 51)) (some ⟨w.heap.size, 0, none⟩) (.node k ws a b) := by
  have hg : w.grownBy (w.alloc (.cells #[.int .i64 k, vw, .int .i64 F, .pointer pa, .pointer pb] 51)) (some A) := grown_of_belowA ((Below.refl _ _).alloc (Nat.le_refl _) _) _
  subst hF
  exact ⟨w.heap.size, vw, pa, pb, rfl, ⟨hA, by simp⟩, ⟨by simp, by simp, by simp, by simp, by simp⟩, hw.grown hg, MQ.grown hg a ha, MQ.grown hg b hb⟩
theorem MQ.mis {A : Nat} {w : World} (q : Qy) : ∀ {p : Option Addr}, MQ A w p q → MIs w p q := by
  induction q with
  | nil => intro p h; exact h
  | node k ws a b ha hb =>
    intro p h
    obtain ⟨B, vw, pa, pb, e, ⟨_, h2⟩, ⟨c0, c1, c2, c3, c4⟩, hr, qa, qb⟩ := h
    obtain ⟨x, c, rfl, hrs⟩ := rowS_of_W hr
    exact ⟨B, x, _, c, pa, pb, e, h2, ⟨c0, c1, c2, c3, c4⟩, hrs, ha qa, hb qb⟩

/-- what a part tells: what it makes and what is left, or what is thrown -/
def Out (A : Nat) (R : Qy × St) (w : World) (e : Ending) (w' : World) : Prop :=
  w.grownBy w' (some A) ∧ ((R.2.bad = 0 ∧ ∃ p, e = .returned (.pointer p) ∧ MQ A w' p R.1 ∧ Rd A R.2.l w') ∨ (R.2.bad ≠ 0 ∧ e = .panicked [{ v := .iface 55 (.agg #[.int .i64 R.2.bad]), recovered := false }]))
def PReads (f : FuncId) (g : St → Qy × St) (d : Int) : Prop := ∀ (A : Nat) (l : List ByteArray) (w : World), Rd A l w →
  Calls Tryd.prog f #[.pointer (some ⟨A, 0, none⟩), .int .i64 d] w fun e w' => Out A (g ⟨l, 0⟩) w e w'
theorem Out.thrown {A : Nat} {R : Qy × St} {w w' : World} {n : Int} (hR : R.2.bad = n) (hn : n ≠ 0) (hg : w.grownBy w' (some A)) : Out A R w (.panicked [{ v := .iface 55 (.agg #[.int .i64 n]), recovered := false }]) w' := ⟨hg, .inr ⟨by rw [hR]; exact hn, by rw [hR]⟩⟩
theorem Out.made {A : Nat} {R : Qy × St} {w w' : World} {p : Option Addr} {q : Qy} {l : List ByteArray} (hR : R = (q, ⟨l, 0⟩)) (hg : w.grownBy w' (some A)) (hq : MQ A w' p q) (hr : Rd A l w') : Out A R w (.returned (.pointer p)) w' := by
  subst hR
  exact ⟨hg, .inl ⟨rfl, p, rfl, hq, hr⟩⟩
theorem take_as (A : Nat) (l : List ByteArray) (k : Int) (x : ByteArray) (r : List ByteArray) (w : World) (h : Rd A l w) (hl : headP l = (k, x)) (hr : l.tail = r) : Calls Tryd.prog 22 #[.pointer (some ⟨A, 0, none⟩)] w fun e w' => e = .returned (.agg #[.int .i64 k, .string x]) ∧ Rd A r w' ∧ w.grownBy w' (some A) := by
  have := take_any A l w h
  rw [hl, hr] at this
  exact this
theorem cell_grown {A : Nat} {w w' : World} (hg : w.grownBy w' (some A)) {b : Nat} (hb : b < w.heap.size) (hA : b ≠ A) (o : Nat) : w'.cell? ⟨b, o, none⟩ = w.cell? ⟨b, o, none⟩ :=
  World.cell?_of_block (w := w) (a := ⟨b, o, none⟩) (hg.block b hb (fun e => by cases e; exact hA rfl))
theorem Rd.lt {A : Nat} {l : List ByteArray} {w : World} (h : Rd A l w) : A < w.heap.size := h.1.2.2.1
theorem Rd.ends {A : Nat} {l : List ByteArray} {w : World} (h : Rd A l w) : EndsAt w := h.1.2.2.2.2
theorem grown_alloc {A : Nat} {w w' : World} (hg : w.grownBy w' (some A)) (o : Obj) : w.grownBy (w'.alloc o) (some A) := hg.trans (grown_of_belowA ((Below.refl _ _).alloc (Nat.le_refl _) _) _)
theorem Rd.alloc {A : Nat} {l : List ByteArray} {w : World} (h : Rd A l w) (o : Obj) : Rd A l (w.alloc o) := h.below ((Below.refl _ _).alloc (Nat.le_refl _) _)
def POne (A : Nat) (d : Int) (w : World) (R : Qy × St) : Prop := Calls Tryd.prog 43 #[.pointer (some ⟨A, 0, none⟩), .int .i64 d] w fun e w' => Out A R w e w'

set_option maxRecDepth 100000 in
set_option maxHeartbeats 2000000 in
theorem pone_over (A : Nat) (d : Int) (w : World) (R : Qy × St) (hd : 12 < d) (hR : R.2.bad = 4) : POne A d w R := by
  show Calls _ _ _ _ _
  have HR : Hid (R.2.bad = 4) := hR
  clear hR
  go_enter Tryd.func43, Tryd.ntmps43
  go_wp2
  exact ⟨rfl, Out.thrown HR.out (by decide) (grownA_refl _ _)⟩
set_option maxRecDepth 100000 in
set_option maxHeartbeats 2000000 in
theorem pone_bad (A : Nat) (d : Int) (l : List ByteArray) (k : Int) (x : ByteArray) (w : World) (R : Qy × St) (h : Rd A l w) (hd : ¬ 12 < d) (hl : headP l = (k, x)) (h1 : k ≠ 1) (h4 : k ≠ 4) (h5 : k ≠ 5) (hR : R.2.bad = 3) : POne A d w R := by
  show Calls _ _ _ _ _
  have HR : Hid (R.2.bad = 3) := hR
  have H : Hid (Rd A l w ∧ headP l = (k, x)) := ⟨h, hl⟩
  have j1 : (k == 1) = false := by simpa using h1
  have j4 : (k == 4) = false := by simpa using h4
  have j5 : (k == 5) = false := by simpa using h5
  clear hR h hl h1 h4 h5
  go_enter Tryd.func43, Tryd.ntmps43
  go_wp2_with fail
  refine (take_as A l k x _ w H.out.1 H.out.2 rfl).mono ?_
  rintro _ w1 ⟨rfl, hr1, hg1⟩
  have HG : Hid (w.grownBy w1 (some A)) := hg1
  clear hr1 hg1
  go_wp2_with (go_at_call 20; refine (must_no _).mono ?_; rintro _ _ ⟨rfl, rfl⟩)
  exact ⟨rfl, Out.thrown HR.out (by decide) (grown_alloc HG.out _)⟩
set_option maxRecDepth 100000 in
set_option maxHeartbeats 2000000 in
theorem pone_sign (A : Nat) (d : Int) (l : List ByteArray) (x : ByteArray) (w : World) (R : Qy × St) (h : Rd A l w) (hd : ¬ 12 < d) (hl : headP l = (5, x)) (hx : signT x = true) (hR : R.2.bad = 3) : POne A d w R := by
  show Calls _ _ _ _ _
  have HR : Hid (R.2.bad = 3) := hR
  have H : Hid (Rd A l w ∧ headP l = (5, x) ∧ signT x = true) := ⟨h, hl, hx⟩
  clear hR h hl hx
  go_enter Tryd.func43, Tryd.ntmps43
  go_wp2_with fail
  refine (take_as A l 5 x _ w H.out.1 H.out.2.1 rfl).mono ?_
  rintro _ w1 ⟨rfl, hr1, hg1⟩
  have HG : Hid (w.grownBy w1 (some A)) := hg1
  clear hr1 hg1
  go_wp2_with first | (go_at_call 20; refine (must_no _).mono ?_; rintro _ _ ⟨rfl, rfl⟩) | (go_at_call 56; refine (isSign_any x true H.out.2.2 _).mono ?_; rintro _ _ ⟨rfl, rfl⟩)
  exact ⟨rfl, Out.thrown HR.out (by decide) (grown_alloc HG.out _)⟩
end Go.Proofs.YtleegplecdknlaaDoor
