/- Texts of the proof of MatchSets: PBegin, PMem, POne, POneP, POne2. -/
import Derived.Test.YtjgdnainhoipgaaGreatDoorM33
namespace Go.Proofs.YtjgdnainhoipgaaGreatDoor
open Go.RowKit

/-- words may begin so -/
def begB (x : ByteArray) : Bool := decide (x.size ≤ 12) && (smallL x.data.toList).all alnum
theorem begins_bad {x : ByteArray} (l : List UInt8) : ∀ s : Rst, s.bad ≠ 0 → s.begins x l = s := by
  induction l with
  | nil => intro s _; rfl
  | cons c l ih =>
    intro s h
    have e : (if !alnum c || decide (12 < x.size) then s.fails 3 else s) = s := by
      rw [show s.fails 3 = s by rw [Rst.fails, if_neg h]]; split <;> rfl
    rw [Rst.begins, e, ih s h]
theorem begins_ok {x : ByteArray} (hx : x.size ≤ 12) (l : List UInt8) (r : List ByteArray) : (⟨r, 0⟩ : Rst).begins x l = if l.all alnum = true then ⟨r, 0⟩ else ⟨r, 3⟩ := by
  induction l with
  | nil => rfl
  | cons c l ih =>
    rw [Rst.begins, decide_eq_false (by omega : ¬ 12 < x.size), Bool.or_false, List.all_cons]
    cases hc : alnum c with
    | true => rw [Bool.true_and, if_neg (by decide)]; exact ih
    | false =>
      rw [Bool.false_and, if_pos (by decide), if_neg (by decide)]
      exact begins_bad l _ (by show (3 : Int) ≠ 0; decide)
theorem begins_is (x : ByteArray) (r : List ByteArray) : (⟨r, 0⟩ : Rst).begins x (smallL x.data.toList) = if begB x = true then ⟨r, 0⟩ else ⟨r, 3⟩ := by
  unfold begB
  by_cases hx : x.size ≤ 12
  · rw [begins_ok hx, decide_eq_true hx, Bool.true_and]
  · rw [decide_eq_false hx, Bool.false_and, if_neg (by decide)]
    have hl := small_len x
    cases hs : smallL x.data.toList with
    | nil => rw [hs] at hl; simp at hl; omega
    | cons c l =>
      rw [Rst.begins, decide_eq_true (by omega : 12 < x.size), Bool.or_true, if_pos rfl]
      exact begins_bad l _ (by show (3 : Int) ≠ 0; decide)

set_option maxHeartbeats 2000000 in
theorem begLong_any (x : ByteArray) (w : World) (hx : 12 < x.size) : Calls Tryz.prog 157 #[.string x] w fun e w' => e = .panicked [{ v := .iface 104 (.agg #[.int .i64 3]), recovered := false }] ∧ Below w.heap.size w w' := by
  have d1 : decide ((x.size : Int) ≤ 12) = false := decide_eq_false (by omega)
  go_enter Tryz.func157, Tryz.ntmps157
  go_wp2_with (go_at_call 42; refine (must_no _).mono ?_; rintro _ _ ⟨rfl, rfl⟩)
  exact ⟨rfl, rfl, Below.refl _ _⟩
set_option maxRecDepth 100000 in
set_option maxHeartbeats 4000000 in
theorem begShort_any (x : ByteArray) (w : World) (hx : x.size ≤ 12) (b : Bool) (hb : (smallL x.data.toList).all alnum = b) : Calls Tryz.prog 157 #[.string x] w fun e w' => (b = true ∧ e = .returned (.string (smallS x)) ∨ b = false ∧ e = .panicked [{ v := .iface 104 (.agg #[.int .i64 3]), recovered := false }]) ∧ Below w.heap.size w w' := by
  have d1 : decide ((x.size : Int) ≤ 12) = true := decide_eq_true (by omega)
  obtain ⟨s, hs⟩ : ∃ s, smallS x = s := ⟨_, rfl⟩
  have hsz : s.size ≤ 12 := by rw [← hs, smallS_size]; exact hx
  have HS : Hid (smallS x = s) := hs
  have HB : Hid ((s.data.toList.drop 0).all alnum = b) := by
    show _ = _
    rw [← hs, ← hb]; rfl
  rw [hs]
  clear hs hb
  go_enter Tryz.func157, Tryz.ntmps157
  go_wp2_with (go_at_call 42; refine (must_yes _).mono ?_; rintro _ w0 ⟨rfl, hw0⟩; obtain rfl : w = w0 := hw0.symm)
  refine (small_any x w (by omega)).mono ?_
  rintro _ w1 ⟨rfl, hb1⟩
  rw [HS.out]
  have HB1 : Hid (Below w.heap.size w w1) := hb1
  clear hb1 d1
  go_wp2
  go_loopw [13] (fun i wr => ∃ j : Nat, j ≤ s.size ∧ i = .int .i64 j ∧ Hid ((s.data.toList.drop j).all alnum = b) ∧ wr = w1) (fun i _ => s.size - (intOf i).toNat)
  case atStart => exact ⟨0, Nat.zero_le _, rfl, HB, rfl⟩
  case round =>
    clear HB
    obtain ⟨j, hj, rfl, hej, rfl⟩ := hrel
    by_cases hjs : j < s.size
    · have hjs' : (j : Int) < (s.size : Int) := by omega
      obtain ⟨y, hy⟩ : ∃ y, s[j].toNat = y := ⟨_, rfl⟩
      obtain ⟨a, ha⟩ : ∃ a, alnum s[j] = a := ⟨_, rfl⟩
      have HJ : Hid ((a && (s.data.toList.drop (j + 1)).all alnum) = b) := by
        show _ = _
        rw [← hej.out, drop_at s j hjs, List.all_cons, ha]
      obtain ⟨a3, e3⟩ : ∃ b, decide ((97 : Int) ≤ (y : Int)) = b := ⟨_, rfl⟩
      obtain ⟨a4, e4⟩ : ∃ b, decide ((y : Int) ≤ 122) = b := ⟨_, rfl⟩
      obtain ⟨a5, e5⟩ : ∃ b, decide ((48 : Int) ≤ (y : Int)) = b := ⟨_, rfl⟩
      obtain ⟨a6, e6⟩ : ∃ b, decide ((y : Int) ≤ 57) = b := ⟨_, rfl⟩
      have HA : Hid (a = (a3 && a4 || a5 && a6)) := by
        show _ = _
        rw [← ha, ← e3, ← e4, ← e5, ← e6, alnum, hy, Bool.eq_iff_iff]
        simp
        omega
      clear ha hej
      cases a3 <;> cases a4 <;> cases a5 <;> cases a6 <;> first
        | (exfalso; simp only [decide_eq_true_eq, decide_eq_false_iff_not] at e3 e4 e5 e6; clear HA HJ; omega)
        | (have e : a = true := HA.out
           have HE2 : Hid ((s.data.toList.drop (j + 1)).all alnum = b) := by
             have h := HJ.out
             rw [e, Bool.true_and] at h
             exact h
           clear HJ HA e
           go_wp2_with (go_at_call 42; refine (must_yes _).mono ?_; rintro _ _ ⟨rfl, rfl⟩)
           go_roundw
           case rel => exact ⟨j + 1, by omega, by go_num, HE2, trivial⟩
           case measure => simp [intOf]; omega)
        | (have e : a = false := HA.out
           have HE2 : Hid (b = false) := by
             have h := HJ.out
             rw [e, Bool.false_and] at h
             exact h.symm
           clear HJ HA e
           go_wp2_with (go_at_call 42; refine (must_no _).mono ?_; rintro _ _ ⟨rfl, rfl⟩)
           exact ⟨rfl, .inr ⟨HE2.out, rfl⟩, HB1.out⟩)
    · have hjs' : ¬ (j : Int) < (s.size : Int) := by omega
      have HE2 : Hid (b = true) := by
        show _ = _
        rw [← hej.out, List.drop_eq_nil_of_le (by rw [ba_len]; omega)]; rfl
      clear hej
      go_wp2
      go_ret
      exact ⟨.inl ⟨HE2.out, rfl⟩, HB1.out⟩
theorem beg_any (x : ByteArray) (w : World) : Calls Tryz.prog 157 #[.string x] w fun e w' => (begB x = true ∧ e = .returned (.string (smallS x)) ∨ begB x = false ∧ e = .panicked [{ v := .iface 104 (.agg #[.int .i64 3]), recovered := false }]) ∧ Below w.heap.size w w' := by
  unfold begB
  by_cases hx : x.size ≤ 12
  · rw [decide_eq_true hx, Bool.true_and]
    exact begShort_any x w hx _ rfl
  · rw [decide_eq_false hx]
    refine (begLong_any x w (by omega)).mono ?_
    rintro e w' ⟨rfl, hb⟩
    exact ⟨.inr ⟨rfl, rfl⟩, hb⟩
end Go.Proofs.YtjgdnainhoipgaaGreatDoor
namespace Go.Proofs.YtjgdnainhoipgaaGreatDoor
open Go.RowKit

/-- what lies there is this, and lies behind A -/
def MQ (A : Nat) (w : World) : Option Addr → Qy → Prop
  | p, .nil => p = none
  | p, .node k ws a b => ∃ B vw pa pb, p = some ⟨B, 0, none⟩ ∧ (A < B ∧ B < w.heap.size) ∧ (w.cell? ⟨B, 0, none⟩ = some (.int .i64 k) ∧ w.cell? ⟨B, 1, none⟩ = some vw ∧ w.cell? ⟨B, 2, none⟩ = some (.int .i64 (farOf k)) ∧ w.cell? ⟨B, 3, none⟩ = some (.pointer pa) ∧ w.cell? ⟨B, 4, none⟩ = some (.pointer pb)) ∧ RowW A w vw ws ∧ MQ A w pa a ∧ MQ A w pb b
theorem MQ.grown {A : Nat} {w w' : World} (hg : w.grownBy w' (some A)) (q : Qy) : ∀ {p : Option Addr}, MQ A w p q → MQ A w' p q := by
  induction q with
  | nil => intro p h; exact h
  | node k ws a b ha hb =>
    intro p h
    obtain ⟨B, vw, pa, pb, e, ⟨h1, h2⟩, ⟨c0, c1, c2, c3, c4⟩, hr, qa, qb⟩ := h
    have key : ∀ o, w'.cell? ⟨B, o, none⟩ = w.cell? ⟨B, o, none⟩ := fun o => World.cell?_of_block (w := w) (a := ⟨B, o, none⟩) (hg.block B h2 (fun e => by cases e; omega))
    exact ⟨B, vw, pa, pb, e, ⟨h1, Nat.lt_of_lt_of_le h2 hg.size⟩, ⟨by rw [key]; exact c0, by rw [key]; exact c1, by rw [key]; exact c2, by rw [key]; exact c3, by rw [key]; exact c4⟩, hr.grown hg, ha qa, hb qb⟩
theorem MQ.box {A : Nat} {w : World} (hA : A < w.heap.size) (k : Int) (vw : Value) (pa pb : Option Addr) (ws : List ByteArray) (a b : Qy) (hw : RowW A w vw ws) (ha : MQ A w pa a) (hb : MQ A w pb b) (F : Int) (hF : farOf k = F) :
    MQ A (w.alloc (.cells #[.int .i64 k, vw, .int .i64 F, .pointer pa, .pointer pb] 38)) (some ⟨w.heap.size, 0, none⟩) (.node k ws a b) := by
  have hg : w.grownBy (w.alloc (.cells #[.int .i64 k, vw, .int .i64 F, .pointer pa, .pointer pb] 38)) (some A) := grown_of_belowA ((Below.refl _ _).alloc (Nat.le_refl _) _) _
  subst hF
  exact ⟨w.heap.size, vw, pa, pb, rfl, ⟨hA, by simp⟩, ⟨by simp, by simp, by simp, by simp, by simp⟩, hw.grown hg, MQ.grown hg a ha, MQ.grown hg b hb⟩
theorem MQ.mis {A : Nat} {w : World} (q : Qy) : ∀ {p : Option Addr}, MQ A w p q → MIs w p q := by
  induction q with
  | nil => intro p h; exact h
  | node k ws a b ha hb =>
    intro p h
    obtain ⟨B, vw, pa, pb, e, ⟨_, h2⟩, ⟨c0, c1, c2, c3, c4⟩, hr, qa, qb⟩ := h
    obtain ⟨x, c, rfl, hrs⟩ := rowS_of_W hr
    exact ⟨B, x, _, c, pa, pb, e, h2, ⟨c0, c1, c2, c3, c4⟩, hrs, ha qa, hb qb⟩

/-- what a part tells: what it makes and what is left, or what is thrown -/
def Out (A : Nat) (R : Qy × Rst) (w : World) (e : Ending) (w' : World) : Prop :=
  w.grownBy w' (some A) ∧ ((R.2.bad = 0 ∧ ∃ p, e = .returned (.pointer p) ∧ MQ A w' p R.1 ∧ Rd A R.2.l w') ∨ (R.2.bad ≠ 0 ∧ e = .panicked [{ v := .iface 104 (.agg #[.int .i64 R.2.bad]), recovered := false }]))
def PReads (f : FuncId) (g : Rst → Qy × Rst) (d : Int) : Prop := ∀ (A : Nat) (l : List ByteArray) (w : World), Rd A l w →
  Calls Tryz.prog f #[.pointer (some ⟨A, 0, none⟩), .int .i64 d] w fun e w' => Out A (g ⟨l, 0⟩) w e w'
theorem Out.thrown {A : Nat} {R : Qy × Rst} {w w' : World} {n : Int} (hR : R.2.bad = n) (hn : n ≠ 0) (hg : w.grownBy w' (some A)) : Out A R w (.panicked [{ v := .iface 104 (.agg #[.int .i64 n]), recovered := false }]) w' := ⟨hg, .inr ⟨by rw [hR]; exact hn, by rw [hR]⟩⟩
theorem Out.made {A : Nat} {R : Qy × Rst} {w w' : World} {p : Option Addr} {q : Qy} {l : List ByteArray} (hR : R = (q, ⟨l, 0⟩)) (hg : w.grownBy w' (some A)) (hq : MQ A w' p q) (hr : Rd A l w') : Out A R w (.returned (.pointer p)) w' := by
  subst hR
  exact ⟨hg, .inl ⟨rfl, p, rfl, hq, hr⟩⟩
theorem take_as (A : Nat) (l : List ByteArray) (k : Int) (x : ByteArray) (r : List ByteArray) (w : World) (h : Rd A l w) (hl : headP l = (k, x)) (hr : l.tail = r) : Calls Tryz.prog 44 #[.pointer (some ⟨A, 0, none⟩)] w fun e w' => e = .returned (.agg #[.int .i64 k, .string x]) ∧ Rd A r w' ∧ w.grownBy w' (some A) := by
  have := take_any A l w h
  rw [hl, hr] at this
  exact this
theorem cell_grown {A : Nat} {w w' : World} (hg : w.grownBy w' (some A)) {b : Nat} (hb : b < w.heap.size) (hA : b ≠ A) (o : Nat) : w'.cell? ⟨b, o, none⟩ = w.cell? ⟨b, o, none⟩ :=
  World.cell?_of_block (w := w) (a := ⟨b, o, none⟩) (hg.block b hb (fun e => by cases e; exact hA rfl))
theorem Rd.lt {A : Nat} {l : List ByteArray} {w : World} (h : Rd A l w) : A < w.heap.size := h.1.2.2.1
theorem Rd.ends {A : Nat} {l : List ByteArray} {w : World} (h : Rd A l w) : EndsAt w := h.1.2.2.2.2
theorem grown_alloc {A : Nat} {w w' : World} (hg : w.grownBy w' (some A)) (o : Obj) : w.grownBy (w'.alloc o) (some A) := hg.trans (grown_of_belowA ((Below.refl _ _).alloc (Nat.le_refl _) _) _)
theorem Rd.alloc {A : Nat} {l : List ByteArray} {w : World} (h : Rd A l w) (o : Obj) : Rd A l (w.alloc o) := h.below ((Below.refl _ _).alloc (Nat.le_refl _) _)
def POne (A : Nat) (d : Int) (w : World) (R : Qy × Rst) : Prop := Calls Tryz.prog 117 #[.pointer (some ⟨A, 0, none⟩), .int .i64 d] w fun e w' => Out A R w e w'

set_option maxRecDepth 100000 in
set_option maxHeartbeats 2000000 in
theorem pone_over (A : Nat) (d : Int) (w : World) (R : Qy × Rst) (hd : 12 < d) (hR : R.2.bad = 4) : POne A d w R := by
  show Calls _ _ _ _ _
  have HR : Hid (R.2.bad = 4) := hR
  clear hR
  go_enter Tryz.func117, Tryz.ntmps117
  go_wp2
  exact ⟨rfl, Out.thrown HR.out (by decide) (grownA_refl _ _)⟩
set_option maxRecDepth 100000 in
set_option maxHeartbeats 2000000 in
theorem pone_bad (A : Nat) (d : Int) (l : List ByteArray) (k : Int) (x : ByteArray) (w : World) (R : Qy × Rst) (h : Rd A l w) (hd : ¬ 12 < d) (hl : headP l = (k, x)) (h1 : k ≠ 1) (h4 : k ≠ 4) (h5 : k ≠ 5) (hR : R.2.bad = 3) : POne A d w R := by
  show Calls _ _ _ _ _
  have HR : Hid (R.2.bad = 3) := hR
  have H : Hid (Rd A l w ∧ headP l = (k, x)) := ⟨h, hl⟩
  have j1 : (k == 1) = false := by simpa using h1
  have j4 : (k == 4) = false := by simpa using h4
  have j5 : (k == 5) = false := by simpa using h5
  clear hR h hl h1 h4 h5
  go_enter Tryz.func117, Tryz.ntmps117
  go_wp2_with fail
  refine (take_as A l k x _ w H.out.1 H.out.2 rfl).mono ?_
  rintro _ w1 ⟨rfl, hr1, hg1⟩
  have HG : Hid (w.grownBy w1 (some A)) := hg1
  clear hr1 hg1
  go_wp2_with (go_at_call 42; refine (must_no _).mono ?_; rintro _ _ ⟨rfl, rfl⟩)
  exact ⟨rfl, Out.thrown HR.out (by decide) (grown_alloc HG.out _)⟩
set_option maxRecDepth 100000 in
set_option maxHeartbeats 2000000 in
theorem pone_sign (A : Nat) (d : Int) (l : List ByteArray) (x : ByteArray) (w : World) (R : Qy × Rst) (h : Rd A l w) (hd : ¬ 12 < d) (hl : headP l = (5, x)) (hx : signT x = true) (hR : R.2.bad = 3) : POne A d w R := by
  show Calls _ _ _ _ _
  have HR : Hid (R.2.bad = 3) := hR
  have H : Hid (Rd A l w ∧ headP l = (5, x) ∧ signT x = true) := ⟨h, hl, hx⟩
  clear hR h hl hx
  go_enter Tryz.func117, Tryz.ntmps117
  go_wp2_with fail
  refine (take_as A l 5 x _ w H.out.1 H.out.2.1 rfl).mono ?_
  rintro _ w1 ⟨rfl, hr1, hg1⟩
  have HG : Hid (w.grownBy w1 (some A)) := hg1
  clear hr1 hg1
  go_wp2_with first | (go_at_call 42; refine (must_no _).mono ?_; rintro _ _ ⟨rfl, rfl⟩) | (go_at_call 156; refine (isSign_any x true H.out.2.2 _).mono ?_; rintro _ _ ⟨rfl, rfl⟩)
  exact ⟨rfl, Out.thrown HR.out (by decide) (grown_alloc HG.out _)⟩
end Go.Proofs.YtjgdnainhoipgaaGreatDoor
namespace Go.Proofs.YtjgdnainhoipgaaGreatDoor
open Go.RowKit

theorem head_shut {l : List ByteArray} (hg : ∀ x ∈ l.head?, Good x) : (∃ x r, l = tShut :: r ∧ headP l = (2, x)) ∨ (∃ k x, k ≠ 2 ∧ headP l = (k, x) ∧ (⟨l, 0⟩ : Rst).peek ≠ tShut) := by
  cases l with
  | nil => exact .inr ⟨0, _, by decide, rfl, by decide⟩
  | cons y r =>
    have hp : (⟨y :: r, 0⟩ : Rst).peek = y := rfl
    rw [hp]
    have hy : Good y := hg y rfl
    cases hy with
    | opens => exact .inr ⟨1, _, by decide, rfl, by decide⟩
    | shuts => exact .inl ⟨_, r, rfl, rfl⟩
    | star => exact .inr ⟨3, _, by decide, rfl, by decide⟩
    | quoted r' _ => exact .inr ⟨4, _, by decide, kind_quoted r', mk_ne (by decide)⟩
    | run c r' _ h => exact .inr ⟨5, _, by decide, kind_run (h c (by simp)), mk_ne (fun e => by have := h c (by simp); rw [e] at this; exact absurd this (by decide))⟩
theorem oneM_open (any : Rst → Qy × Rst) (r : List ByteArray) : oneM any false ⟨tOpen :: r, 0⟩ = ((any ⟨r, 0⟩).1, if ((any ⟨r, 0⟩).2.take tShut).1 then ((any ⟨r, 0⟩).2.take tShut).2 else ((any ⟨r, 0⟩).2.take tShut).2.fails 3) := rfl
theorem open_bad {q : Qy} {s : Rst} {R : Qy × Rst} (hb : s.bad ≠ 0) (hR : R = (q, if (s.take tShut).1 then (s.take tShut).2 else (s.take tShut).2.fails 3)) : R.2.bad = s.bad := by
  have hp : s.peek ≠ tShut := by rw [peek_badQ hb]; decide
  rw [hR, take_no hp, Rst.fails, if_neg hb]; rfl
theorem open_yes {q : Qy} {r : List ByteArray} {R : Qy × Rst} (hR : R = (q, if ((⟨tShut :: r, 0⟩ : Rst).take tShut).1 then ((⟨tShut :: r, 0⟩ : Rst).take tShut).2 else ((⟨tShut :: r, 0⟩ : Rst).take tShut).2.fails 3)) : R = (q, ⟨r, 0⟩) := hR
theorem open_no {q : Qy} {l : List ByteArray} {R : Qy × Rst} (hp : (⟨l, 0⟩ : Rst).peek ≠ tShut) (hR : R = (q, if ((⟨l, 0⟩ : Rst).take tShut).1 then ((⟨l, 0⟩ : Rst).take tShut).2 else ((⟨l, 0⟩ : Rst).take tShut).2.fails 3)) : R.2.bad = 3 := by
  rw [hR, take_no hp]; rfl

theorem field0 (k : Int) (x : ByteArray) (w : World) : (Instr.field 110 (.agg #[.int .i64 k, .string x]) 0).run Tryz.prog w = .ok (.int .i64 k) w := by kernel_rfl
set_option maxRecDepth 100000 in
set_option maxHeartbeats 4000000 in
theorem pone_open (any : Rst → Qy × Rst) (A : Nat) (d : Int) (r : List ByteArray) (w : World) (h : Rd A (tOpen :: r) w) (hd0 : 0 ≤ d) (hd : ¬ 12 < d) (hO : PReads 45 any (d + 1)) : POne A d w (oneM any false ⟨tOpen :: r, 0⟩) := by
  show Calls _ _ _ _ _
  obtain ⟨R, hR⟩ : ∃ R, oneM any false ⟨tOpen :: r, 0⟩ = R := ⟨_, rfl⟩
  rw [hR]
  have H : Hid (Rd A (tOpen :: r) w) := h
  obtain ⟨q, s, hqs⟩ : ∃ q s, any ⟨r, 0⟩ = (q, s) := ⟨_, _, rfl⟩
  have HR : Hid (R = (q, if (s.take tShut).1 then (s.take tShut).2 else (s.take tShut).2.fails 3)) := by
    show _ = _
    rw [← hR, oneM_open, hqs]
  have HQ : Hid (any ⟨r, 0⟩ = (q, s)) := hqs
  have HO : Hid (PReads 45 any (d + 1)) := hO
  clear h hR hqs hO
  go_enter Tryz.func117, Tryz.ntmps117
  go_wp2_with fail
  refine (take_as A (tOpen :: r) 1 ⟨#[]⟩ r w H.out rfl rfl).mono ?_
  rintro _ w1 ⟨rfl, hr1, hg1⟩
  have HG : Hid (w.grownBy (w1.alloc (.cells #[.int .i64 1, .string ⟨#[]⟩] 110)) (some A) ∧ Rd A r (w1.alloc (.cells #[.int .i64 1, .string ⟨#[]⟩] 110))) := ⟨grown_alloc hg1 _, hr1.alloc _⟩
  clear hr1 hg1
  go_wp2_with fail
  refine (HO.out A r _ HG.out.2).mono ?_
  rintro e w2 ⟨hg2, hcase⟩
  rw [HQ.out] at hcase
  have HG2 : Hid (w.grownBy w2 (some A)) := HG.out.1.trans hg2
  clear hg2
  rcases hcase with ⟨hb, p, rfl, hq, hrd⟩ | ⟨hb, rfl⟩
  · simp only at hb hq hrd
    obtain ⟨l2, rfl⟩ : ∃ l2, s = ⟨l2, 0⟩ := ⟨s.l, by cases s; simp only at hb; rw [hb]⟩
    simp only at hrd
    have HK : Hid (MQ A w2 p q ∧ Rd A l2 w2) := ⟨hq, hrd⟩
    rcases head_shut hrd.2 with ⟨x, l3, rfl, hx⟩ | ⟨k, x, hk2, hx, hp⟩
    · have HX : Hid (headP (tShut :: l3) = (2, x)) := hx
      clear hb hq hrd hx HG
      go_wp2_with fail
      have hf := field0 2 x
      refine (take_as A (tShut :: l3) 2 x l3 w2 HK.out.2 HX.out rfl).mono ?_
      rintro _ w3 ⟨rfl, hr3, hg3⟩
      have HG3 : Hid (w.grownBy w3 (some A) ∧ Rd A l3 w3 ∧ MQ A w3 p q) := ⟨HG2.out.trans hg3, hr3, MQ.grown hg3 q HK.out.1⟩
      clear hr3 hg3
      go_wp2_with (go_at_call 42; refine (must_yes _).mono ?_; rintro _ w0 ⟨rfl, hw0⟩; obtain rfl : w3 = w0 := hw0.symm)
      go_ret
      exact Out.made (open_yes HR.out) HG3.out.1 HG3.out.2.2 HG3.out.2.1
    · have HX : Hid (headP l2 = (k, x) ∧ (⟨l2, 0⟩ : Rst).peek ≠ tShut) := ⟨hx, hp⟩
      have j2 : (k == 2) = false := by simpa using hk2
      clear hb hq hrd hx hp HG hk2
      go_wp2_with fail
      have hf := field0 k x
      refine (take_as A l2 k x _ w2 HK.out.2 HX.out.1 rfl).mono ?_
      rintro _ w3 ⟨rfl, hr3, hg3⟩
      have HG3 : Hid (w.grownBy w3 (some A)) := HG2.out.trans hg3
      clear hr3 hg3
      go_wp2_with (go_at_call 42; refine (must_no _).mono ?_; rintro _ w0 ⟨rfl, hw0⟩; obtain rfl : w3 = w0 := hw0.symm)
      exact ⟨rfl, Out.thrown (open_no HX.out.2 HR.out) (by decide) HG3.out⟩
  · simp only at hb
    have HB : Hid (s.bad ≠ 0) := hb
    clear hb HG
    go_wp2
    exact ⟨rfl, Out.thrown (open_bad HB.out HR.out) HB.out HG2.out⟩

theorem oneM_quote (any : Rst → Qy × Rst) (q : List UInt8) (r : List ByteArray) : oneM any false ⟨⟨(34 :: q).toArray⟩ :: r, 0⟩ = (.node 1 (wordsL q) .nil .nil, if wordsL q = [] then ⟨r, 3⟩ else ⟨r, 0⟩) := by
  have hp : (⟨(⟨(34 :: q).toArray⟩ : ByteArray) :: r, 0⟩ : Rst).peek = ⟨(34 :: q).toArray⟩ := rfl
  have n0 := mk_none 34 q
  have k : ∀ d : UInt8, (34 : UInt8) ≠ d → (⟨(34 :: q).toArray⟩ : ByteArray) ≠ ⟨#[d]⟩ := fun d h => mk_ne h
  have kk : ∀ (d : UInt8) (m : List UInt8), (34 : UInt8) ≠ d → (⟨(34 :: q).toArray⟩ : ByteArray) ≠ ⟨(d :: m).toArray⟩ := fun d m h e => by
    have := congrArg firstB e
    rw [first_mk, first_mk] at this
    exact h this
  have hno : noOne ⟨(34 :: q).toArray⟩ = false := by
    unfold noOne
    rw [decide_eq_false n0, decide_eq_false (show ¬ _ = tShut from k 41 (by decide)), decide_eq_false (show ¬ _ = tStar from k 42 (by decide)), decide_eq_false (show ¬ _ = tAnd from kk 65 [78, 68] (by decide)), decide_eq_false (show ¬ _ = tOr from kk 79 [82] (by decide)), decide_eq_false (show ¬ _ = tNot from kk 78 [79, 84] (by decide)), decide_eq_false (show ¬ _ = tNear from kk 78 [69, 65, 82] (by decide))]
    rfl
  unfold oneM
  rw [hp]
  simp only [Bool.false_eq_true, if_false]
  rw [if_neg (show ¬ _ = tOpen from k 40 (by decide)), if_neg (by rw [hno]; decide), if_pos (first_mk 34 q), take_yes hp]
  rfl

set_option maxRecDepth 100000 in
set_option maxHeartbeats 4000000 in
theorem pone_quote (any : Rst → Qy × Rst) (A : Nat) (d : Int) (q : List UInt8) (r : List ByteArray) (w : World) (h : Rd A (⟨(34 :: q).toArray⟩ :: r) w) (hq : q.length ≤ 400) (hd : ¬ 12 < d) : POne A d w (oneM any false ⟨⟨(34 :: q).toArray⟩ :: r, 0⟩) := by
  show Calls _ _ _ _ _
  have H : Hid (Rd A (⟨(34 :: q).toArray⟩ :: r) w) := h
  obtain ⟨ws, hws⟩ : ∃ ws, wordsL q = ws := ⟨_, rfl⟩
  obtain ⟨R, hR⟩ : ∃ R, oneM any false ⟨⟨(34 :: q).toArray⟩ :: r, 0⟩ = R := ⟨_, rfl⟩
  rw [hR]
  have HR : Hid (R = (.node 1 ws .nil .nil, if ws = [] then ⟨r, 3⟩ else ⟨r, 0⟩)) := by
    show _ = _
    rw [← hR, oneM_quote, hws]
  have hwl : ws.length ≤ 401 := by rw [← hws]; have := words_length q; omega
  have HW : Hid (wordsL (⟨q.toArray⟩ : ByteArray).data.toList = ws ∧ (⟨q.toArray⟩ : ByteArray).size ≤ 400) := ⟨hws, by rw [← ba_len]; exact hq⟩
  clear h hR hws hq
  go_enter Tryz.func117, Tryz.ntmps117
  go_wp2_with fail
  refine (take_as A (⟨(34 :: q).toArray⟩ :: r) 4 ⟨q.toArray⟩ r w H.out (kind_quoted q) rfl).mono ?_
  rintro _ w1 ⟨rfl, hr1, hg1⟩
  have HG : Hid (w.grownBy (w1.alloc (.cells #[.int .i64 4, .string ⟨q.toArray⟩] 110)) (some A) ∧ Rd A r (w1.alloc (.cells #[.int .i64 4, .string ⟨q.toArray⟩] 110))) := ⟨grown_alloc hg1 _, hr1.alloc _⟩
  have hA1 := hr1.lt
  clear hr1 hg1
  go_wp2_with fail
  refine (split_any ⟨q.toArray⟩ _ (by have := HW.out.2; omega) HG.out.2.ends).mono ?_
  rintro _ w2 ⟨v2, rfl, ho2, hb2⟩
  rw [HW.out.1] at ho2
  have HG2 : Hid (w.grownBy w2 (some A) ∧ Rd A r w2) := ⟨HG.out.1.trans (grown_of_belowA hb2 _), HG.out.2.below hb2⟩
  have HRow : Hid (RowW A w2 v2 ws) := rowW_of_own ho2 (by simp; omega) (by omega)
  obtain ⟨a, cap, rfl⟩ : ∃ a cap, v2 = .slice a ws.length cap := by
    rcases ho2.2 with ⟨rfl, h0⟩ | ⟨g, cap, cur, rfl, _⟩
    · exact ⟨none, 0, by rw [h0]⟩
    · exact ⟨_, cap, rfl⟩
  clear ho2 hb2 HG
  obtain ⟨n, hn⟩ : ∃ n, ws.length = n := ⟨_, rfl⟩
  by_cases h0 : ws = []
  · have HT : Hid (R.2.bad = 3) := by show _ = _; rw [HR.out, if_pos h0]
    subst h0
    clear HR hn
    go_wp2_with (go_at_call 42; refine (must_no _).mono ?_; rintro _ w0 ⟨rfl, hw0⟩; obtain rfl : w2 = w0 := hw0.symm)
    exact ⟨rfl, Out.thrown HT.out (by decide) HG2.out.1⟩
  · have HT : Hid (R = (.node 1 ws .nil .nil, ⟨r, 0⟩)) := by show _ = _; rw [HR.out, if_neg h0]
    have hpos : 0 < n := by rw [← hn]; exact List.length_pos_iff.2 h0
    have HRow2 : Hid (RowW A w2 (.slice a n cap) ws) := by have := HRow.out; rw [hn] at this; exact this
    rw [hn]
    have d1 : decide ((0 : Int) < (n : Int)) = true := decide_eq_true (by omega)
    clear HR HRow hn h0
    go_wp2_with (go_at_call 42; refine (must_yes _).mono ?_; rintro _ w0 ⟨rfl, hw0⟩; obtain rfl : w2 = w0 := hw0.symm)
    go_ret
    exact Out.made HT.out (grown_alloc HG2.out.1 _) (MQ.box HG2.out.2.lt 1 _ none none ws .nil .nil HRow2.out rfl rfl 0 rfl) (HG2.out.2.alloc _)
end Go.Proofs.YtjgdnainhoipgaaGreatDoor
namespace Go.Proofs.YtjgdnainhoipgaaGreatDoor
open Go.RowKit

theorem head_star {l : List ByteArray} (hg : ∀ x ∈ l.head?, Good x) : (∃ x r, l = tStar :: r ∧ headP l = (3, x)) ∨ (∃ k x, k ≠ 3 ∧ headP l = (k, x) ∧ (⟨l, 0⟩ : Rst).peek ≠ tStar) := by
  cases l with
  | nil => exact .inr ⟨0, _, by decide, rfl, by decide⟩
  | cons y r =>
    have hp : (⟨y :: r, 0⟩ : Rst).peek = y := rfl
    rw [hp]
    have hy : Good y := hg y rfl
    cases hy with
    | opens => exact .inr ⟨1, _, by decide, rfl, by decide⟩
    | shuts => exact .inr ⟨2, _, by decide, rfl, by decide⟩
    | star => exact .inl ⟨_, r, rfl, rfl⟩
    | quoted r' _ => exact .inr ⟨4, _, by decide, kind_quoted r', mk_ne (by decide)⟩
    | run c r' _ h => exact .inr ⟨5, _, by decide, kind_run (h c (by simp)), mk_ne (fun e => by have := h c (by simp); rw [e] at this; exact absurd this (by decide))⟩
/-- a run, in words that are not its bytes -/
def RunP (x : ByteArray) : Prop := ∃ c m, x = ⟨(c :: m).toArray⟩ ∧ m.length < 400 ∧ ∀ d ∈ c :: m, notC d = true
theorem RunP.kind {x : ByteArray} (h : RunP x) : kindT x = (5, x) := by
  obtain ⟨c, m, rfl, _, h⟩ := h
  exact kind_run (h c (by simp))
theorem RunP.size {x : ByteArray} (h : RunP x) : x.size ≤ 400 := by
  obtain ⟨c, m, rfl, h1, _⟩ := h
  rw [← ba_len]; simp; omega
theorem RunP.first {x : ByteArray} (h : RunP x) : isSign (firstB x) = false := by
  obtain ⟨c, m, rfl, _, h⟩ := h
  rw [first_mk]
  have hc := h c (by simp)
  have key : ∀ d : UInt8, notC d = false → (c == d) = false := fun d hd => by
    rw [beq_eq_false_iff_ne]; intro e; rw [e, hd] at hc; cases hc
  unfold isSign
  rw [key 40 (by decide), key 41 (by decide), key 42 (by decide), key 34 (by decide)]; rfl
theorem RunP.some {x : ByteArray} (h : RunP x) : x ≠ tNone := by
  obtain ⟨c, m, rfl, _, _⟩ := h
  exact mk_none c m
theorem RunP.ne {x : ByteArray} (h : RunP x) (d : UInt8) (hd : notC d = false) : x ≠ ⟨#[d]⟩ := by
  obtain ⟨c, m, rfl, _, h⟩ := h
  exact mk_ne (fun e => by have hc := h c (by simp); rw [e, hd] at hc; cases hc)
theorem RunP.not34 {x : ByteArray} (h : RunP x) : firstB x ≠ 34 := by
  obtain ⟨c, m, rfl, _, h⟩ := h
  rw [first_mk]
  intro e
  have hc := h c (by simp)
  rw [e] at hc
  exact absurd hc (by decide)
theorem RunP.noOne {x : ByteArray} (h : RunP x) : noOne x = signT x := by
  unfold Go.Proofs.YtjgdnainhoipgaaGreatDoor.noOne signT
  rw [decide_eq_false h.some, decide_eq_false (show ¬ x = tShut from h.ne 41 (by decide)), decide_eq_false (show ¬ x = tStar from h.ne 42 (by decide))]
  rfl
theorem head_run {l : List ByteArray} (hg : ∀ x ∈ l.head?, Good x) : (∃ x r, l = x :: r ∧ RunP x) ∨ (∃ k x, k ≠ 5 ∧ headP l = (k, x) ∧ ((⟨l, 0⟩ : Rst).peek = tNone ∨ isSign (firstB (⟨l, 0⟩ : Rst).peek) = true)) := by
  cases l with
  | nil => exact .inr ⟨0, _, by decide, rfl, .inl rfl⟩
  | cons y r =>
    have hp : (⟨y :: r, 0⟩ : Rst).peek = y := rfl
    rw [hp]
    have hy : Good y := hg y rfl
    cases hy with
    | opens => exact .inr ⟨1, _, by decide, rfl, .inr rfl⟩
    | shuts => exact .inr ⟨2, _, by decide, rfl, .inr rfl⟩
    | star => exact .inr ⟨3, _, by decide, rfl, .inr rfl⟩
    | quoted r' _ => exact .inr ⟨4, _, by decide, kind_quoted r', .inr (by rw [first_mk]; rfl)⟩
    | run c r' h1 h => exact .inl ⟨_, r, rfl, c, r', rfl, h1, h⟩
theorem oneM_run (any : Rst → Qy × Rst) {x : ByteArray} (h : RunP x) (r : List ByteArray) (hs : signT x = false) : oneM any false ⟨x :: r, 0⟩ = if (⟨r, 0⟩ : Rst).peek = tStar then (.node 2 [smallS x] .nil .nil, (⟨r.tail, 0⟩ : Rst).begins x (smallL x.data.toList)) else nearM x ⟨r, 0⟩ := by
  have hp : (⟨x :: r, 0⟩ : Rst).peek = x := rfl
  unfold oneM
  rw [hp]
  simp only [Bool.false_eq_true, if_false]
  rw [if_neg (show ¬ x = tOpen from h.ne 40 (by decide)), if_neg (by rw [h.noOne, hs]; decide), if_neg h.not34, take_yes hp]
  show (if ((⟨r, 0⟩ : Rst).take tStar).1 = true then (Qy.node 2 [smallS x] .nil .nil, ((⟨r, 0⟩ : Rst).take tStar).2.begins x (smallL x.data.toList)) else nearM x ((⟨r, 0⟩ : Rst).take tStar).2) = _
  by_cases h3 : (⟨r, 0⟩ : Rst).peek = tStar
  · rw [take_yes h3, if_pos rfl, if_pos h3]
  · rw [take_no h3, if_neg (show ¬ false = true by decide), if_neg h3]
theorem oneM_sign (any : Rst → Qy × Rst) {x : ByteArray} (h : RunP x) (r : List ByteArray) (hs : signT x = true) : (oneM any false ⟨x :: r, 0⟩).2.bad = 3 := by
  have hp : (⟨x :: r, 0⟩ : Rst).peek = x := rfl
  unfold oneM
  rw [hp]
  simp only [Bool.false_eq_true, if_false]
  rw [if_neg (show ¬ x = tOpen from h.ne 40 (by decide)), if_pos (by rw [h.noOne, hs])]
  rfl
theorem MQ.boxAt {A n : Nat} {w : World} (hn : w.heap.size = n) (hA : A < w.heap.size) (k : Int) (vw : Value) (pa pb : Option Addr) (ws : List ByteArray) (a b : Qy) (hw : RowW A w vw ws) (ha : MQ A w pa a) (hb : MQ A w pb b) (F : Int) (hF : farOf k = F) :
    MQ A (w.alloc (.cells #[.int .i64 k, vw, .int .i64 F, .pointer pa, .pointer pb] 38)) (some ⟨n, 0, none⟩) (.node k ws a b) := by
  subst hn
  exact MQ.box hA k vw pa pb ws a b hw ha hb F hF
theorem RunP.fine {t : ByteArray} (ht : RunP t) {s : Rst} (hp : s.peek = t) : ¬ (s.peek = tNone ∨ isSign (firstB s.peek) = true) := by
  rw [hp, ht.first]
  intro k
  rcases k with k | k
  · exact ht.some k
  · cases k
theorem near0 {x : ByteArray} {r : List ByteArray} (h : (wordsL x.data.toList).length ≠ 1) : (nearM x ⟨r, 0⟩).2.bad = 3 := by
  have e : (⟨r, 0⟩ : Rst).plain x = (⟨#[]⟩, ⟨r, 3⟩) := plain_other rfl h
  have hp : (⟨r, 3⟩ : Rst).peek = tNone := peek_badQ (by show (3 : Int) ≠ 0; decide)
  rw [near_no (by rw [e]; show (⟨r, 3⟩ : Rst).peek ≠ tNear; rw [hp]; decide), e]
theorem near1 {x y : ByteArray} {r : List ByteArray} (h : wordsL x.data.toList = [y]) (hn : (⟨r, 0⟩ : Rst).peek ≠ tNear) : nearM x ⟨r, 0⟩ = (.node 1 [y] .nil .nil, ⟨r, 0⟩) := by
  have e : (⟨r, 0⟩ : Rst).plain x = (y, ⟨r, 0⟩) := plain_one h
  rw [near_no (by rw [e]; exact hn), e]
theorem near2 {x y : ByteArray} {r : List ByteArray} (h : wordsL x.data.toList = [y]) (hb : (⟨r, 0⟩ : Rst).peek = tNone ∨ isSign (firstB (⟨r, 0⟩ : Rst).peek) = true) : (nearM x ⟨tNear :: r, 0⟩).2.bad = 3 := by
  have e : (⟨tNear :: r, 0⟩ : Rst).plain x = (y, ⟨tNear :: r, 0⟩) := plain_one h
  rw [near_bad (s3 := ⟨r, 0⟩) (by rw [e]; rfl) (by rw [e]; rfl) hb]
  rfl
theorem near3 {x y t : ByteArray} {r : List ByteArray} (h : wordsL x.data.toList = [y]) (ht : RunP t) (hw : (wordsL t.data.toList).length ≠ 1) : (nearM x ⟨tNear :: t :: r, 0⟩).2.bad = 3 := by
  have e : (⟨tNear :: t :: r, 0⟩ : Rst).plain x = (y, ⟨tNear :: t :: r, 0⟩) := plain_one h
  have hp : (⟨t :: r, 0⟩ : Rst).peek = t := rfl
  rw [near_yes (s3 := ⟨t :: r, 0⟩) (by rw [e]; rfl) (by rw [e]; rfl) (ht.fine hp)]
  rw [hp, take_yes hp]
  have e2 : (⟨r, 0⟩ : Rst).plain t = (⟨#[]⟩, ⟨r, 3⟩) := plain_other rfl hw
  simp only [List.tail_cons]
  rw [e2]
theorem near4 {x y t z : ByteArray} {r : List ByteArray} (h : wordsL x.data.toList = [y]) (ht : RunP t) (hw : wordsL t.data.toList = [z]) : nearM x ⟨tNear :: t :: r, 0⟩ = (.node 3 [y, z] .nil .nil, ⟨r, 0⟩) := by
  have e : (⟨tNear :: t :: r, 0⟩ : Rst).plain x = (y, ⟨tNear :: t :: r, 0⟩) := plain_one h
  have hp : (⟨t :: r, 0⟩ : Rst).peek = t := rfl
  rw [near_yes (s3 := ⟨t :: r, 0⟩) (by rw [e]; rfl) (by rw [e]; rfl) (ht.fine hp)]
  rw [hp, take_yes hp, e]
  have e2 : (⟨r, 0⟩ : Rst).plain t = (z, ⟨r, 0⟩) := plain_one hw
  simp only [List.tail_cons]
  rw [e2]
end Go.Proofs.YtjgdnainhoipgaaGreatDoor
namespace Go.Proofs.YtjgdnainhoipgaaGreatDoor
open Go.RowKit

set_option maxRecDepth 100000 in
set_option maxHeartbeats 4000000 in
theorem pone_star (A : Nat) (d : Int) (x : ByteArray) (r : List ByteArray) (w : World) (R : Qy × Rst) (h : Rd A (x :: r) w) (hd : ¬ 12 < d) (hx : RunP x) (hs : signT x = false) (r2 : List ByteArray) (hr : r = tStar :: r2) (hR : R = (.node 2 [smallS x] .nil .nil, if begB x = true then ⟨r2, 0⟩ else ⟨r2, 3⟩)) : POne A d w R := by
  show Calls _ _ _ _ _
  have H : Hid (Rd A (x :: r) w ∧ RunP x ∧ signT x = false) := ⟨h, hx, hs⟩
  have HR : Hid (R = (.node 2 [smallS x] .nil .nil, if begB x = true then ⟨r2, 0⟩ else ⟨r2, 3⟩)) := hR
  have HRr : Hid (r = tStar :: r2) := hr
  clear hR hr
  clear h hx hs
  go_enter Tryz.func117, Tryz.ntmps117
  go_wp2_with fail
  refine (take_as A (x :: r) 5 x r w H.out.1 H.out.2.1.kind rfl).mono ?_
  rintro _ w1 ⟨rfl, hr1, hg1⟩
  obtain ⟨W1, hW1⟩ : ∃ W, w1.alloc (.cells #[.int .i64 5, .string x] 110) = W := ⟨_, rfl⟩
  have HG : Hid (w.grownBy W1 (some A) ∧ Rd A r W1) := by rw [← hW1]; exact ⟨grown_alloc hg1 _, hr1.alloc _⟩
  have hA1 := hr1.lt
  have hW : W1.heap.size = w1.heap.size + 1 := by rw [← hW1]; simp
  have c0 : W1.cell? ⟨w1.heap.size, 0, none⟩ = some (.int .i64 5) := by rw [← hW1]; simp [go_sem]
  have c1 : W1.cell? ⟨w1.heap.size, 1, none⟩ = some (.string x) := by rw [← hW1]; simp [go_sem]
  have c2 : W1.cell? ⟨A, 0, none⟩ = some (.int .i64 3) := by have := HG.out.2.1.1.1; rw [HRr.out] at this; exact this
  clear hr1 hg1
  go_wp2_with first | (go_at_call 42; refine (must_yes _).mono ?_; rintro _ w0 ⟨rfl, hw0⟩; obtain rfl := hw0.symm) | (go_at_call 156; refine (isSign_any x false H.out.2.2 _).mono ?_; rintro _ w0 ⟨rfl, hw0⟩; obtain rfl := hw0.symm) | fail
  refine (take_as A r 3 ⟨#[]⟩ r2 W1 HG.out.2 (by rw [HRr.out]; rfl) (by rw [HRr.out]; rfl)).mono ?_
  rintro _ w2 ⟨rfl, hr2, hg2⟩
  have HG2 : Hid (w.grownBy w2 (some A) ∧ Rd A r2 w2) := ⟨HG.out.1.trans hg2, hr2⟩
  have e1 : w2.cell? ⟨w1.heap.size, 1, none⟩ = some (.string x) := by rw [cell_grown hg2 (by omega) (by omega)]; exact c1
  clear hr2 hg2 c0 c1 c2 hW1
  go_wp2_with fail
  refine (beg_any x w2).mono ?_
  rintro e w3 ⟨hcase, hb3⟩
  have HG3 : Hid (w.grownBy w3 (some A) ∧ Rd A r2 w3) := ⟨HG2.out.1.trans (grown_of_belowA hb3 _), HG2.out.2.below hb3⟩
  clear hb3 e1
  rcases hcase with ⟨hb, rfl⟩ | ⟨hb, rfl⟩
  · have HT : Hid (R = (.node 2 [smallS x] .nil .nil, ⟨r2, 0⟩)) := by show _ = _; rw [HR.out, if_pos hb]
    clear hb HR
    go_wp2
    go_ret
    exact Out.made HT.out (grown_alloc (grown_alloc HG3.out.1 _) _) (MQ.boxAt (by simp) (by simp; have := HG3.out.2.lt; omega) 2 _ none none [smallS x] .nil .nil (row_one (smallS x) HG3.out.2.lt) rfl rfl 0 rfl) ((HG3.out.2.alloc _).alloc _)
  · have HT : Hid (R.2.bad = 3) := by show _ = _; rw [HR.out, hb, if_neg (by decide)]
    clear hb HR
    go_wp2
    exact ⟨rfl, Out.thrown HT.out (by decide) HG3.out.1⟩

set_option maxRecDepth 100000 in
set_option maxHeartbeats 4000000 in
theorem pone_noplain (A : Nat) (d : Int) (x : ByteArray) (r : List ByteArray) (w : World) (R : Qy × Rst) (h : Rd A (x :: r) w) (hd : ¬ 12 < d) (hx : RunP x) (hs : signT x = false) (hst : (⟨r, 0⟩ : Rst).peek ≠ tStar) (hw : (wordsL x.data.toList).length ≠ 1) (hR : R.2.bad = 3) : POne A d w R := by
  show Calls _ _ _ _ _
  have H : Hid (Rd A (x :: r) w ∧ RunP x ∧ signT x = false) := ⟨h, hx, hs⟩
  have HS : Hid ((⟨r, 0⟩ : Rst).peek ≠ tStar) := hst
  clear hst
  have HR : Hid (R.2.bad = 3 ∧ (wordsL x.data.toList).length ≠ 1) := ⟨hR, hw⟩
  clear hR hw
  clear h hx hs
  go_enter Tryz.func117, Tryz.ntmps117
  go_wp2_with fail
  refine (take_as A (x :: r) 5 x r w H.out.1 H.out.2.1.kind rfl).mono ?_
  rintro _ w1 ⟨rfl, hr1, hg1⟩
  obtain ⟨W1, hW1⟩ : ∃ W, w1.alloc (.cells #[.int .i64 5, .string x] 110) = W := ⟨_, rfl⟩
  have HG : Hid (w.grownBy W1 (some A) ∧ Rd A r W1) := by rw [← hW1]; exact ⟨grown_alloc hg1 _, hr1.alloc _⟩
  have hA1 := hr1.lt
  have hW : W1.heap.size = w1.heap.size + 1 := by rw [← hW1]; simp
  have c0 : W1.cell? ⟨w1.heap.size, 0, none⟩ = some (.int .i64 5) := by rw [← hW1]; simp [go_sem]
  have c1 : W1.cell? ⟨w1.heap.size, 1, none⟩ = some (.string x) := by rw [← hW1]; simp [go_sem]
  obtain ⟨k, xk, hk3, hk, hpk⟩ : ∃ k x, k ≠ 3 ∧ headP r = (k, x) ∧ (⟨r, 0⟩ : Rst).peek ≠ tStar := by
    rcases head_star HG.out.2.2 with ⟨_, r', e, _⟩ | h
    · exact absurd (show (⟨r, 0⟩ : Rst).peek = tStar by rw [e]; rfl) HS.out
    · exact h
  have c2 : W1.cell? ⟨A, 0, none⟩ = some (.int .i64 k) := by have := HG.out.2.1.1.1; rw [hk] at this; exact this
  have j3 : (k == 3) = false := by simpa using hk3
  clear hk hk3 hpk
  clear hr1 hg1
  go_wp2_with first | (go_at_call 42; refine (must_yes _).mono ?_; rintro _ w0 ⟨rfl, hw0⟩; obtain rfl := hw0.symm) | (go_at_call 156; refine (isSign_any x false H.out.2.2 _).mono ?_; rintro _ w0 ⟨rfl, hw0⟩; obtain rfl := hw0.symm) | fail
  refine (plainN_any x W1 (by have := H.out.2.1.size; omega) HG.out.2.ends HR.out.2).mono ?_
  rintro e w3 ⟨rfl, hb3⟩
  have HG3 : Hid (w.grownBy w3 (some A)) := HG.out.1.trans (grown_of_belowA hb3 _)
  clear hb3 c0 c1 c2 hW1
  go_wp2
  exact ⟨rfl, Out.thrown HR.out.1 (by decide) HG3.out⟩

set_option maxRecDepth 100000 in
set_option maxHeartbeats 4000000 in
theorem pone_word (A : Nat) (d : Int) (x : ByteArray) (r : List ByteArray) (w : World) (R : Qy × Rst) (h : Rd A (x :: r) w) (hd : ¬ 12 < d) (hx : RunP x) (hs : signT x = false) (hst : (⟨r, 0⟩ : Rst).peek ≠ tStar) (y : ByteArray) (hw : wordsL x.data.toList = [y]) (hn : (⟨r, 0⟩ : Rst).peek ≠ tNear) (hR : R = (.node 1 [y] .nil .nil, ⟨r, 0⟩)) : POne A d w R := by
  show Calls _ _ _ _ _
  have H : Hid (Rd A (x :: r) w ∧ RunP x ∧ signT x = false) := ⟨h, hx, hs⟩
  have HS : Hid ((⟨r, 0⟩ : Rst).peek ≠ tStar) := hst
  clear hst
  have HR : Hid (R = (.node 1 [y] .nil .nil, ⟨r, 0⟩) ∧ wordsL x.data.toList = [y] ∧ (⟨r, 0⟩ : Rst).peek ≠ tNear) := ⟨hR, hw, hn⟩
  clear hR hw hn
  clear h hx hs
  go_enter Tryz.func117, Tryz.ntmps117
  go_wp2_with fail
  refine (take_as A (x :: r) 5 x r w H.out.1 H.out.2.1.kind rfl).mono ?_
  rintro _ w1 ⟨rfl, hr1, hg1⟩
  obtain ⟨W1, hW1⟩ : ∃ W, w1.alloc (.cells #[.int .i64 5, .string x] 110) = W := ⟨_, rfl⟩
  have HG : Hid (w.grownBy W1 (some A) ∧ Rd A r W1) := by rw [← hW1]; exact ⟨grown_alloc hg1 _, hr1.alloc _⟩
  have hA1 := hr1.lt
  have hW : W1.heap.size = w1.heap.size + 1 := by rw [← hW1]; simp
  have c0 : W1.cell? ⟨w1.heap.size, 0, none⟩ = some (.int .i64 5) := by rw [← hW1]; simp [go_sem]
  have c1 : W1.cell? ⟨w1.heap.size, 1, none⟩ = some (.string x) := by rw [← hW1]; simp [go_sem]
  obtain ⟨k, xk, hk3, hk, hpk⟩ : ∃ k x, k ≠ 3 ∧ headP r = (k, x) ∧ (⟨r, 0⟩ : Rst).peek ≠ tStar := by
    rcases head_star HG.out.2.2 with ⟨_, r', e, _⟩ | h
    · exact absurd (show (⟨r, 0⟩ : Rst).peek = tStar by rw [e]; rfl) HS.out
    · exact h
  have c2 : W1.cell? ⟨A, 0, none⟩ = some (.int .i64 k) := by have := HG.out.2.1.1.1; rw [hk] at this; exact this
  have j3 : (k == 3) = false := by simpa using hk3
  clear hk hk3 hpk
  clear hr1 hg1
  go_wp2_with first | (go_at_call 42; refine (must_yes _).mono ?_; rintro _ w0 ⟨rfl, hw0⟩; obtain rfl := hw0.symm) | (go_at_call 156; refine (isSign_any x false H.out.2.2 _).mono ?_; rintro _ w0 ⟨rfl, hw0⟩; obtain rfl := hw0.symm) | fail
  refine (plainY_any x y W1 (by have := H.out.2.1.size; omega) HG.out.2.ends HR.out.2.1).mono ?_
  rintro e w3 ⟨rfl, hb3⟩
  have HG3 : Hid (w.grownBy w3 (some A) ∧ Rd A r w3) := ⟨HG.out.1.trans (grown_of_belowA hb3 _), HG.out.2.below hb3⟩
  clear hb3 c0 c1 c2 hW1
  go_wp2_with fail
  refine (signN_any A r tNear w3 HG3.out.2 kind_near (by decide) HR.out.2.2).mono ?_
  rintro e w4 ⟨rfl, hr4, hg4⟩
  have HG4 : Hid (w.grownBy w4 (some A) ∧ Rd A r w4) := ⟨HG3.out.1.trans hg4, hr4⟩
  clear hr4 hg4
  go_wp2
  go_ret
  exact Out.made HR.out.1 (grown_alloc (grown_alloc HG4.out.1 _) _) (MQ.boxAt (by simp) (by simp; have := HG4.out.2.lt; omega) 1 _ none none [y] .nil .nil (row_one y HG4.out.2.lt) rfl rfl 0 rfl) ((HG4.out.2.alloc _).alloc _)
end Go.Proofs.YtjgdnainhoipgaaGreatDoor
