/- Part 3 of 30. -/
import Derived.Test.YtmabfbffpedfnaaGreatDoorK02
namespace Go.Proofs.YtmabfbffpedfnaaGreatDoor
open Go.RowKit

/-- where a run of such bytes ends -/
def endW (p : UInt8 → Bool) (s : ByteArray) (k : Nat) : Nat := k + ((s.data.toList.drop k).takeWhile p).length
theorem endW_step {p : UInt8 → Bool} {s : ByteArray} {k : Nat} (h : k < s.size) (hp : p s[k] = true) : endW p s k = endW p s (k + 1) := by
  unfold endW
  rw [drop_at s k h, List.takeWhile_cons_of_pos hp, List.length_cons]
  omega
theorem endW_stop {p : UInt8 → Bool} {s : ByteArray} {k : Nat} (h : k < s.size) (hp : p s[k] = false) : endW p s k = k := by
  unfold endW
  rw [drop_at s k h, List.takeWhile_cons_of_neg (by rw [hp]; decide)]
  rfl
theorem endW_end {p : UInt8 → Bool} {s : ByteArray} {k : Nat} (h : s.size ≤ k) : endW p s k = k := by
  unfold endW
  rw [List.drop_eq_nil_of_le (by rw [ba_len]; exact h)]
  rfl
theorem endW_ge (p : UInt8 → Bool) (s : ByteArray) (k : Nat) : k ≤ endW p s k := by unfold endW; omega
theorem endW_le {p : UInt8 → Bool} {s : ByteArray} {k : Nat} (h : k ≤ s.size) : endW p s k ≤ s.size := by
  unfold endW
  have h1 := (List.takeWhile_sublist p (l := s.data.toList.drop k)).length_le
  rw [List.length_drop, ba_len] at h1
  omega
theorem take_while {α : Type} (p : α → Bool) (l : List α) : l.take (l.takeWhile p).length = l.takeWhile p := by
  have h := List.takeWhile_prefix p (l := l)
  exact (List.prefix_iff_eq_take.1 h).symm
theorem endW_at (p : UInt8 → Bool) (s : ByteArray) (k : Nat) : endW p s k = k + ((s.data.toList.drop k).takeWhile p).length := rfl
/-- what is read so far, and what follows -/
def Lx (s : ByteArray) (R : Except (Int × Nat) (List Tok)) (i f : Nat) (L : List Tok) : Prop := (lexL f i L.length (s.data.toList.drop i)).map (L ++ ·) = R ∧ s.size - i ≤ f
theorem map_tok (L : List Tok) (x : Tok) (o : Except (Int × Nat) (List Tok)) : (o.map (x :: ·)).map (L ++ ·) = o.map ((L ++ [x]) ++ ·) := by
  cases o with
  | error e => rfl
  | ok M => show Except.ok _ = Except.ok _; simp
theorem lx_start (s : ByteArray) : Lx s (lexS s) 0 s.size [] := by
  refine ⟨?_, by omega⟩
  unfold lexS
  rw [List.drop_zero]
  show Except.map _ (lexL s.size 0 0 s.data.toList) = _
  cases lexL s.size 0 0 s.data.toList <;> rfl
theorem lx_end {s : ByteArray} {R : Except (Int × Nat) (List Tok)} {f : Nat} {L : List Tok} (h : Lx s R s.size f L) : R = .ok (L ++ [⟨5, ⟨#[]⟩, s.size⟩]) := by
  rw [← h.1, List.drop_eq_nil_of_le (by rw [ba_len]; omega)]
  cases f <;> rfl
theorem lx_more {s : ByteArray} {R : Except (Int × Nat) (List Tok)} {i f : Nat} {L : List Tok} (h : Lx s R i f L) (hi : i < s.size) : ∃ f', f = f' + 1 := by
  cases f with
  | zero => have := h.2; omega
  | succ f => exact ⟨f, rfl⟩
theorem lx_blank {s : ByteArray} {R : Except (Int × Nat) (List Tok)} {i f : Nat} {L : List Tok} (h : Lx s R i (f + 1) L) (hi : i < s.size) (hb : blankC s[i] = true) : Lx s R (i + 1) f L := by
  refine ⟨?_, by have := h.2; omega⟩
  have h1 := h.1
  rw [drop_at s i hi, lexL, if_pos hb] at h1
  exact h1
theorem lx_none {s : ByteArray} {R : Except (Int × Nat) (List Tok)} {i f : Nat} {L : List Tok} (h : Lx s R i (f + 1) L) (hi : i < s.size) (hb : blankC s[i] = false) (hn : nextT (s[i] :: s.data.toList.drop (i + 1)) = none) : R = .error (3, i) := by
  have h1 := h.1
  rw [drop_at s i hi, lexL, if_neg (by rw [hb]; decide), hn] at h1
  exact h1.symm
theorem lx_lim {s : ByteArray} {R : Except (Int × Nat) (List Tok)} {i f : Nat} {L : List Tok} (h : Lx s R i (f + 1) L) (hi : i < s.size) (hb : blankC s[i] = false) {k : Int} {t : List UInt8} {m : Nat} (hn : nextT (s[i] :: s.data.toList.drop (i + 1)) = some (k, t, m)) (hl : (k = 2 ∧ 19 < m) ∨ L.length = 200) : R = .error (4, i) := by
  have h1 := h.1
  rw [drop_at s i hi, lexL, if_neg (by rw [hb]; decide), hn] at h1
  simp only at h1
  rw [if_pos hl] at h1
  exact h1.symm
theorem lx_tok {s : ByteArray} {R : Except (Int × Nat) (List Tok)} {i f : Nat} {L : List Tok} (h : Lx s R i (f + 1) L) (hi : i < s.size) (hb : blankC s[i] = false) {k : Int} {t : List UInt8} {m : Nat} (hn : nextT (s[i] :: s.data.toList.drop (i + 1)) = some (k, t, m)) (hl : ¬ ((k = 2 ∧ 19 < m) ∨ L.length = 200)) : Lx s R (i + m) f (L ++ [⟨k, ⟨t.toArray⟩, i⟩]) ∧ i + m ≤ s.size ∧ 0 < m := by
  have hp := nextT_pos hn
  rw [List.length_cons, List.length_drop, ba_len] at hp
  refine ⟨⟨?_, by have := h.2; omega⟩, by omega, hp.1⟩
  have h1 := h.1
  rw [drop_at s i hi, lexL, if_neg (by rw [hb]; decide), hn] at h1
  simp only at h1
  rw [if_neg hl, map_tok, ← drop_at s i hi, List.drop_drop] at h1
  rw [List.length_append]
  exact h1
theorem str_s1 {s : ByteArray} {k : Nat} (h : k < s.size) (hy : s[k].toNat = 39) (hk : k + 1 = s.size) : strL (s.data.toList.drop k) = some ([], 1) := by
  rw [drop_at s k h, List.drop_eq_nil_of_le (by rw [ba_len]; omega), strL, if_pos hy]
theorem str_s2 {s : ByteArray} {k : Nat} (h : k < s.size) (hy : s[k].toNat = 39) (hk : k + 1 < s.size) (hz : s[k + 1].toNat ≠ 39) : strL (s.data.toList.drop k) = some ([], 1) := by
  rw [drop_at s k h, drop_at s (k + 1) hk, strL, if_pos hy, if_neg hz]
theorem str_s3 {s : ByteArray} {k : Nat} (h : k < s.size) (hy : s[k].toNat = 39) (hk : k + 1 < s.size) (hz : s[k + 1].toNat = 39) : strL (s.data.toList.drop k) = (strL (s.data.toList.drop (k + 1 + 1))).map (fun x => (s[k + 1] :: x.1, x.2 + 2)) := by
  rw [drop_at s k h, drop_at s (k + 1) hk, strL, if_pos hy, if_pos hz]
/-- a token's cells, between quotes -/
def TokAt (wo : World) (i : Nat) (tx : ByteArray) (wx : World) : Prop := Below wo.heap.size wo wx ∧ (wx.cell? ⟨wo.heap.size, 0, none⟩ = some (.int .i64 3) ∧ wx.cell? ⟨wo.heap.size, 1, none⟩ = some (.string tx) ∧ wx.cell? ⟨wo.heap.size, 2, none⟩ = some (.int .i64 (i : Int))) ∧ wx.frozen? ⟨wo.heap.size, 1, none⟩ = false
theorem TokAt.set {wo : World} {i : Nat} {tx : ByteArray} {wx : World} (h : TokAt wo i tx wx) (ty : ByteArray) : TokAt wo i ty (wx.setCell ⟨wo.heap.size, 1, none⟩ (.string ty)) := by
  obtain ⟨h1, ⟨c0, c1, c2⟩, f⟩ := h
  refine ⟨h1.setCell (Nat.le_refl _) _, ⟨?_, World.cell?_setCell_same _ _ _ c1, ?_⟩, by rw [World.frozen?_setCell]; exact f⟩
  · rw [World.cell?_setCell_other _ _ _ _ (fun e => by cases e)]; exact c0
  · rw [World.cell?_setCell_other _ _ _ _ (fun e => by cases e)]; exact c2
theorem TokAt.drew {wo : World} {i : Nat} {tx : ByteArray} {wx : World} (h : TokAt wo i tx wx) : TokAt wo i tx wx.drew := ⟨h.1.drew, h.2⟩
theorem one_tok (x : Tok) : ∀ u ∈ tc [x], u.oneCell' = true := by
  intro u hu
  simp [tc] at hu
  rcases hu with rfl | rfl | rfl <;> rfl
theorem news_tok (w : World) (x : Tok) (t : TypeId) : ∀ j u, (tc [x])[j]? = some u → (w.alloc (.cells #[.int .i64 x.k, .string x.t, .int .i64 x.p] t)).cell? ((⟨w.heap.size, 0, none⟩ : Addr).add j) = some u := by
  intro j u hj
  rw [Go.WideShapes.add_plain]
  have hj3 : j = 0 ∨ j = 1 ∨ j = 2 := by
    have := (List.getElem?_eq_some_iff.1 hj).1
    simp [tc] at this
    omega
  rcases hj3 with rfl | rfl | rfl <;> (simp [tc] at hj; subst hj; simp)
end Go.Proofs.YtmabfbffpedfnaaGreatDoor
namespace Go.Proofs.YtmabfbffpedfnaaGreatDoor
open Go.RowKit

def notZ (c : UInt8) : Bool := decide (c.toNat ≠ 0)
set_option maxHeartbeats 2000000 in
theorem letters_any (s : ByteArray) (E : Nat) (hE : endW notZ s 0 = E) (w : World) (hs : s.size ≤ 100000) : Calls Tryz.prog 35 #[.string s] w fun e w' => e = .returned (.int .i64 (E : Int)) ∧ w' = w := by
  have HE : Hid (endW notZ s 0 = E) := hE
  clear hE
  go_enter Tryz.func35, Tryz.ntmps35
  go_wp2
  go_loopw [6] (fun i wr => ∃ j : Nat, j ≤ s.size ∧ i = .int .i64 j ∧ Hid (endW notZ s j = E) ∧ wr = w) (fun i _ => s.size - (intOf i).toNat)
  case atStart => exact ⟨0, Nat.zero_le _, rfl, HE, rfl⟩
  case round =>
    clear HE
    obtain ⟨j, hj, rfl, hej, rfl⟩ := hrel
    by_cases hjs : j < s.size
    · have hjs' : (j : Int) < (s.size : Int) := by omega
      obtain ⟨y, hy⟩ : ∃ y, s[j].toNat = y := ⟨_, rfl⟩
      by_cases hz : y = 0
      · have e : j = E := by rw [← hej.out, endW_stop hjs (show notZ s[j] = false by unfold notZ; rw [hy, hz]; rfl)]
        subst e
        subst hz
        clear hej
        go_wp2
        go_ret
        exact ⟨rfl, rfl⟩
      · have HE2 : Hid (endW notZ s (j + 1) = E) := by show _ = _; rw [← endW_step hjs (show notZ s[j] = true by unfold notZ; rw [hy]; simpa using hz)]; exact hej.out
        have d1 : ((y : Int) == 0) = false := by rw [beq_eq_false_iff_ne]; omega
        clear hej hz
        go_wp2
        go_roundw
        case rel => exact ⟨j + 1, by omega, by go_num, HE2, trivial⟩
        case measure => simp [intOf]; omega
    · have hjs' : ¬ (j : Int) < (s.size : Int) := by omega
      obtain rfl : j = s.size := by omega
      have e : s.size = E := by rw [← hej.out, endW_end (Nat.le_refl _)]
      subst e
      clear hej
      go_wp2
      go_ret
      exact ⟨rfl, rfl⟩
theorem all_while {p : UInt8 → Bool} (l : List UInt8) : l.all p = decide ((l.takeWhile p).length = l.length) := by
  induction l with
  | nil => rfl
  | cons c l ih =>
    rw [List.all_cons]
    cases hc : p c
    · rw [List.takeWhile_cons_of_neg (by rw [hc]; decide)]
      simp
    · rw [List.takeWhile_cons_of_pos hc, ih]
      simp
theorem rightText_any (s : ByteArray) (b : Bool) (hb : rightT s = b) (w : World) (hs : s.size ≤ 4000) : Calls Tryz.prog 17 #[.string s] w fun e w' => e = .returned (.bool b) ∧ w' = w := by
  obtain ⟨E, hE⟩ : ∃ E, endW notZ s 0 = E := ⟨_, rfl⟩
  have HE : Hid (endW notZ s 0 = E) := hE
  have hr : rightT s = (decide (s.size ≤ 40) && decide (E = s.size)) := by
    rw [← hE, endW, List.drop_zero, Nat.zero_add]
    unfold rightT
    rw [show (fun c : UInt8 => decide (c.toNat ≠ 0)) = notZ from rfl, all_while, ba_len]
  have HB : Hid (b = (decide (s.size ≤ 40) && decide (E = s.size))) := by show _ = _; rw [← hb, hr]
  clear hr hb hE
  by_cases h40 : s.size ≤ 40
  · have d1 : decide ((s.size : Int) ≤ 40) = true := decide_eq_true (by omega)
    obtain ⟨b2, h2⟩ : ∃ b2, ((E : Int) == (s.size : Int)) = b2 := ⟨_, rfl⟩
    have HB2 : Hid (b = b2) := by
      show _ = _
      rw [HB.out, decide_eq_true h40, Bool.true_and, ← h2, Bool.eq_iff_iff]
      simp
      omega
    clear HB
    go_enter Tryz.func17, Tryz.ntmps17
    go_wp2_with (go_at_call 35; refine (letters_any s E HE.out _ (by omega)).mono ?_; rintro _ _ ⟨rfl, rfl⟩)
    go_ret
    exact ⟨ret_bool (by rw [HB2.out]), rfl⟩
  · have d1 : decide ((s.size : Int) ≤ 40) = false := decide_eq_false (by omega)
    have HB2 : Hid (b = false) := by show _ = _; rw [HB.out, decide_eq_false h40]; rfl
    clear HB h40
    go_enter Tryz.func17, Tryz.ntmps17
    go_wp2
    go_ret
    exact ⟨ret_bool (by rw [HB2.out]), rfl⟩
set_option maxHeartbeats 2000000 in
theorem vRight_any (s : ByteArray) (b : Bool) (hb : rightT s = b) (w : World) (hs : s.size ≤ 4000) : Calls Tryz.prog 5 #[.agg #[.int .i64 2, .int .i64 0, .string s]] w fun e w' => e = .returned (.bool b) ∧ Below w.heap.size w w' := by
  have HB : Hid (rightT s = b) := hb
  clear hb
  go_enter Tryz.func5, Tryz.ntmps5
  go_wp2_with (go_at_call 17; refine (rightText_any s b HB.out _ hs).mono ?_; rintro _ _ ⟨rfl, rfl⟩)
  go_ret
  exact ⟨rfl, (Below.refl _ _).alloc (Nat.le_refl _) _⟩
set_option maxHeartbeats 2000000 in
theorem pRight_any (s : ByteArray) (b : Bool) (hb : rightT s = b) (w : World) (hs : s.size ≤ 4000) : Calls Tryz.prog 161 #[.agg #[.int .i64 2, .int .i64 0, .string s]] w fun e w' => e = .returned (.bool b) ∧ Below w.heap.size w w' := by
  have HB : Hid (rightT s = b) := hb
  clear hb
  go_enter Tryz.func161, Tryz.ntmps161
  go_wp2_with fail
  refine (vRight_any s b HB.out _ hs).mono ?_
  rintro _ w1 ⟨rfl, hb1⟩
  have H1 : Hid (Below w.heap.size w w1) := ((Below.refl _ _).alloc (Nat.le_refl _) _).trans (hb1.mono (by simp))
  clear hb1
  go_wp2
  go_ret
  exact ⟨rfl, H1.out⟩
/-- what text and number tell -/
def ToldV (A : Nat) (R : Option (Vl × List KT)) (w : World) (e : Ending) (w' : World) : Prop :=
  w.grownBy w' (some A) ∧ ((∃ v l, R = some (v, l) ∧ e = .returned (.agg #[.int .i64 v.k, .int .i64 v.n, .string v.t]) ∧ RdIs A l w') ∨ (R = none ∧ Thr e))
def PIntSpec : Prop := ∀ (s : ByteArray) (w : World), s.size ≤ 4000 → VrAt w → Calls Tryz.prog 181 #[.string s, .int .i64 10, .int .i64 64] w fun e w' => ∃ n E, e = .returned (.tuple #[.int .i64 n, E]) ∧ ((Lib.parseIntB 64 s.data.toList = .ok n ∧ E = .nilIface) ∨ ((∀ m, Lib.parseIntB 64 s.data.toList ≠ .ok m) ∧ ∃ t v, E = .iface t v)) ∧ Below w.heap.size w w'
theorem grown_new {A b : Nat} {w u : World} (h : w.grownBy u (some A)) (hb : w.heap.size ≤ b) (o : Nat) (v : Value) : w.grownBy (u.setCell ⟨b, o, none⟩ v) (some A) :=
  ⟨h.os, h.tape, h.output, by simpa [World.setCell] using h.size, fun k hk hne => by rw [Below.heap_setCell u ⟨b, o, none⟩ v k (fun e => by simp only at e; omega)]; exact h.block k hk hne⟩
set_option maxRecDepth 100000 in
set_option maxHeartbeats 4000000 in
theorem number_any (hPI : PIntSpec) (A : Nat) (l : List KT) (hk2 : (hdT l).1 = 2) (w : World) (h : RdIs A l w) : Calls Tryz.prog 173 #[.pointer (some ⟨A, 0, none⟩)] w fun e w' => ToldV A (numF l) w e w' := by
  have HPI : Hid PIntSpec := hPI
  obtain ⟨W, hW⟩ : ∃ W, w.alloc (.cells #[.int .i64 0, .int .i64 0, .string ⟨#[]⟩] 23) = W := ⟨_, rfl⟩
  have hbW : Below w.heap.size w W := by rw [← hW]; exact (Below.refl _ _).alloc (Nat.le_refl _) _
  have hzW : W.heap.size = w.heap.size + 1 := by rw [← hW]; simp
  have hnW : W.heap[w.heap.size]? = some (.cells #[.int .i64 0, .int .i64 0, .string ⟨#[]⟩] 23 (0, 0)) := by rw [← hW]; exact heap_alloc_new _ _
  have HW : Hid (RdIs A l W ∧ Below w.heap.size w W) := ⟨h.below hbW, hbW⟩
  have hA := h.lt
  generalize ht : (hdT l).2 = t at *
  have HE : Hid ((hdT l).1 = 2 ∧ (hdT l).2 = t) := ⟨hk2, ht⟩
  have hts := h.ok.size
  rw [ht] at hts
  have HN : Hid ((∀ n, Lib.parseIntB 64 t.data.toList = .ok n → numF l = some (⟨1, n, ⟨#[]⟩⟩, l.tail)) ∧ ((∀ n, Lib.parseIntB 64 t.data.toList ≠ .ok n) → numF l = none)) := by
    constructor
    · intro n hn; unfold numF; rw [ht, hn]
    · intro hn
      unfold numF
      rw [ht]
      split
      · rename_i m hm; exact absurd hm (hn m)
      · rfl
  have HKeep : Hid (∀ wx, W.grownBy wx (some A) → wx.heap[w.heap.size]? = some (.cells #[.int .i64 0, .int .i64 0, .string ⟨#[]⟩] 23 (0, 0))) := fun wx hg => by
    rw [hg.block w.heap.size (by omega) (fun e => by cases e; omega)]; exact hnW
  clear h hbW hk2 ht hPI hnW
  have hf := field1 2
  have hf2 := field2 2
  go_enter Tryz.func173, Tryz.ntmps173
  go_wp2_with fail
  refine (now_any A l W HW.out.1).mono ?_
  rintro _ w1 ⟨⟨p, rfl⟩, hb1⟩
  rw [HE.out.1, HE.out.2]
  have H1 : Hid (RdIs A l w1 ∧ Below W.heap.size W w1) := ⟨HW.out.1.below hb1, hb1⟩
  clear hb1
  go_wp2_with fail
  refine (HPI.out t w1 (by omega) H1.out.1.vr).mono ?_
  rintro _ w2 ⟨n, E, rfl, hE, hb2⟩
  have H2 : Hid (RdIs A l w2 ∧ W.grownBy w2 (some A)) := ⟨H1.out.1.below hb2, (grown_of_belowA H1.out.2 _).trans (grown_of_belowA hb2 _)⟩
  clear hb2 hW
  rcases hE with ⟨hn, rfl⟩ | ⟨hn, te, ve, rfl⟩
  · have HR : Hid (numF l = some (⟨1, n, ⟨#[]⟩⟩, l.tail)) := HN.out.1 n hn
    clear hn
    go_wp2_with fail
    refine (take_any A l w2 H2.out.1 (by rw [HE.out.1]; decide)).mono ?_
    rintro _ w3 ⟨rfl, hr3, hg3⟩
    have hk3 := HKeep.out w3 (H2.out.2.trans hg3)
    have c0 : w3.cell? ⟨w.heap.size, 0, none⟩ = some (.int .i64 0) := by simp [World.cell?, hk3]
    have c1 : w3.cell? ⟨w.heap.size, 1, none⟩ = some (.int .i64 0) := by simp [World.cell?, hk3]
    have c2 : w3.cell? ⟨w.heap.size, 2, none⟩ = some (.string ⟨#[]⟩) := by simp [World.cell?, hk3]
    have f0 : ∀ i, w3.frozen? ⟨w.heap.size, i, none⟩ = false := fun i => by simp [World.frozen?, hk3]
    have H3 : Hid (RdIs A l.tail w3 ∧ w.grownBy w3 (some A)) := ⟨hr3, (grown_of_belowA HW.out.2 _).trans (H2.out.2.trans hg3)⟩
    clear hr3 hg3 hk3
    go_wp2
    refine bodyPost_ret (v := .agg #[.int .i64 1, .int .i64 n, .string ⟨#[]⟩]) (results_c Tryz.results173 _ _ _ rfl ?_) rfl ?_
    · simp [go_sem, c0, c1, c2]
    · exact ⟨grown_new (grown_new (grown_new H3.out.2 (Nat.le_refl _) _ _) (Nat.le_refl _) _ _) (Nat.le_refl _) _ _, .inl ⟨_, _, HR.out, rfl, ((H3.out.1.set hA _ _).set hA _ _).set hA _ _⟩⟩
  · have HR : Hid (numF l = none) := HN.out.2 hn
    clear hn
    go_wp2_with fail
    refine (now_any A l w2 H2.out.1).mono ?_
    rintro _ w3 ⟨⟨p3, rfl⟩, hb3⟩
    rw [HE.out.1, HE.out.2]
    have H3 : Hid (w.grownBy w3 (some A)) := (grown_of_belowA HW.out.2 _).trans (H2.out.2.trans (grown_of_belowA hb3 _))
    clear hb3
    go_wp2
    exact ⟨by first | rfl | trivial, H3.out, .inr ⟨HR.out, 4, p3, rfl⟩⟩
end Go.Proofs.YtmabfbffpedfnaaGreatDoor
namespace Go.Proofs.YtmabfbffpedfnaaGreatDoor
open Go.RowKit

theorem str_add (x y : ByteArray) (h : x.size + y.size ≤ 1000000) : Op.stringOp .add x y = pure (.string (x ++ y)) := by
  have hn : ¬ (((x.size + y.size : Nat) : Int) > IntKind.i64.max) := by
    have : IntKind.i64.max = 9223372036854775807 := by decide
    omega
  simp only [Op.stringOp, if_neg hn]
/-- a block -/
def Blk (b : Nat) (cs : Array Value) (T : Nat) (w : World) : Prop := w.heap[b]? = some (.cells cs T (0, 0))
theorem Blk.cell {b : Nat} {cs : Array Value} {T : Nat} {w : World} (h : Blk b cs T w) (i : Nat) : w.cell? ⟨b, i, none⟩ = cs[i]? := by
  have h' : w.heap[b]? = some (.cells cs T (0, 0)) := h
  simp [World.cell?, h']
theorem Blk.free {b : Nat} {cs : Array Value} {T : Nat} {w : World} (h : Blk b cs T w) (i : Nat) : w.frozen? ⟨b, i, none⟩ = false := by
  have h' : w.heap[b]? = some (.cells cs T (0, 0)) := h
  simp [World.frozen?, h']
theorem Blk.lt {b : Nat} {cs : Array Value} {T : Nat} {w : World} (h : Blk b cs T w) : b < w.heap.size := (Array.getElem?_eq_some_iff.1 h).1
theorem Blk.set {b : Nat} {cs : Array Value} {T : Nat} {w : World} (h : Blk b cs T w) (i : Nat) (v : Value) : Blk b (cs.setIfInBounds i v) T (w.setCell ⟨b, i, none⟩ v) := by
  have h' : w.heap[b]? = some (.cells cs T (0, 0)) := h
  simp [Blk, World.setCell, Array.getElem?_modify, h']
theorem Blk.other {b c : Nat} {cs : Array Value} {T : Nat} {w : World} (h : Blk b cs T w) (hc : c ≠ b) (i : Nat) (v : Value) : Blk b cs T (w.setCell ⟨c, i, none⟩ v) := by
  show (w.setCell ⟨c, i, none⟩ v).heap[b]? = _
  rw [Below.heap_setCell w ⟨c, i, none⟩ v b (fun e => hc (by simpa using e.symm))]; exact h
theorem Blk.keep {b A : Nat} {cs : Array Value} {T : Nat} {w w' : World} (h : Blk b cs T w) (hb : b ≠ A) (hg : w.grownBy w' (some A)) : Blk b cs T w' := by
  show w'.heap[b]? = _
  rw [hg.block b h.lt (fun e => by cases e; exact hb rfl)]; exact h
theorem Blk.below {b : Nat} {cs : Array Value} {T : Nat} {w w' : World} (h : Blk b cs T w) (hg : Below w.heap.size w w') : Blk b cs T w' := by
  show w'.heap[b]? = _
  rw [hg.block b h.lt]; exact h
theorem Blk.new (w : World) (cs : Array Value) (T : Nat) : Blk w.heap.size cs T (w.alloc (.cells cs T)) := heap_alloc_new _ _
set_option maxRecDepth 100000 in
set_option maxHeartbeats 8000000 in
theorem text_any (A : Nat) (l : List KT) (w : World) (h : RdIs A l w) : Calls Tryz.prog 155 #[.pointer (some ⟨A, 0, none⟩)] w fun e w' => ToldV A (textF l) w e w' := by
  obtain ⟨W, hW⟩ : ∃ W, w.alloc (.cells #[.int .i64 0, .int .i64 0, .string ⟨#[]⟩] 23) = W := ⟨_, rfl⟩
  have hbW : Below w.heap.size w W := by rw [← hW]; exact (Below.refl _ _).alloc (Nat.le_refl _) _
  have hzW : W.heap.size = w.heap.size + 1 := by rw [← hW]; simp
  have hnW : Blk w.heap.size #[.int .i64 0, .int .i64 0, .string ⟨#[]⟩] 23 W := by rw [← hW]; exact Blk.new _ _ _
  have HW : Hid (RdIs A l W ∧ Below w.heap.size w W ∧ Blk w.heap.size #[.int .i64 0, .int .i64 0, .string ⟨#[]⟩] 23 W) := ⟨h.below hbW, hbW, hnW⟩
  have hA := h.lt
  generalize hk : (hdT l).1 = k at *
  generalize ht : (hdT l).2 = t at *
  have HE : Hid ((hdT l).1 = k ∧ (hdT l).2 = t) := ⟨hk, ht⟩
  have hts := h.ok.size
  rw [ht] at hts
  obtain ⟨b, hb⟩ : ∃ b, rightT t = b := ⟨_, rfl⟩
  have HB : Hid (rightT t = b) := hb
  have HN : Hid (textF l = if k = 3 ∧ b = true then some (⟨2, 0, t⟩, l.tail) else none) := by show textF l = _; unfold textF; rw [hk, ht, hb]
  clear h hbW hk ht hnW hb
  go_enter Tryz.func155, Tryz.ntmps155
  go_wp2_with fail
  refine (now_any A l W HW.out.1).mono ?_
  rintro _ w1 ⟨⟨p, rfl⟩, hb1⟩
  rw [HE.out.1, HE.out.2]
  obtain ⟨V, hV⟩ : ∃ V, w1.alloc (.cells #[.int .i64 k, .string t, .int .i64 p] 113) = V := ⟨_, rfl⟩
  have hbV : Below w1.heap.size w1 V := by rw [← hV]; exact (Below.refl _ _).alloc (Nat.le_refl _) _
  have hs1 := hb1.size
  have z0 : V.cell? ⟨w1.heap.size, 0, none⟩ = some (.int .i64 k) := by rw [← hV]; simp [go_sem]
  have z1 : V.cell? ⟨w1.heap.size, 1, none⟩ = some (.string t) := by rw [← hV]; simp [go_sem]
  have z2 : V.cell? ⟨w1.heap.size, 2, none⟩ = some (.int .i64 p) := by rw [← hV]; simp [go_sem]
  have hzV : w1.heap.size < V.heap.size := by rw [← hV]; simp
  have HV : Hid (RdIs A l V ∧ Below W.heap.size W V) := ⟨(HW.out.1.below hb1).below hbV, hb1.trans (hbV.mono hs1)⟩
  clear hb1 hbV hW
  by_cases hk3 : k = 3
  · subst hk3
    go_wp2_with fail
    refine (must_yes A V).mono ?_
    rintro _ w2 ⟨rfl, rfl⟩
    obtain ⟨U, hU⟩ : ∃ U, w2.alloc (.cells #[.int .i64 2, .int .i64 0, .string t] 23) = U := ⟨_, rfl⟩
    have hbU : Below w2.heap.size w2 U := by rw [← hU]; exact (Below.refl _ _).alloc (Nat.le_refl _) _
    have hnU : Blk w2.heap.size #[.int .i64 2, .int .i64 0, .string t] 23 U := by rw [← hU]; exact Blk.new _ _ _
    have HU : Hid (RdIs A l U ∧ Below W.heap.size W U ∧ Blk w2.heap.size #[.int .i64 2, .int .i64 0, .string t] 23 U) := ⟨HV.out.1.below hbU, HV.out.2.trans (hbU.mono HV.out.2.size), hnU⟩
    have y0 : U.cell? ⟨w2.heap.size, 0, none⟩ = some (.int .i64 2) := by rw [hnU.cell 0]; rfl
    have y1 : U.cell? ⟨w2.heap.size, 1, none⟩ = some (.int .i64 0) := by rw [hnU.cell 1]; rfl
    have y2 : U.cell? ⟨w2.heap.size, 2, none⟩ = some (.string t) := by rw [hnU.cell 2]; rfl
    have HZ2 : Hid (∀ wx, Below U.heap.size U wx → wx.cell? ⟨w1.heap.size, 2, none⟩ = some (.int .i64 p)) := fun wx hb => by
      rw [hb.cell (p := ⟨w1.heap.size, 2, none⟩) (by have := hbU.size; simp only; omega), hbU.cell (p := ⟨w1.heap.size, 2, none⟩) (by simp only; omega)]; exact z2
    clear hbU hnU
    go_wp2_with fail
    refine (pRight_any t b HB.out U (by omega)).mono ?_
    rintro _ w3 ⟨rfl, hb3⟩
    have x2 := HZ2.out w3 hb3
    have H3 : Hid (RdIs A l w3 ∧ W.grownBy w3 (some A) ∧ Blk w2.heap.size #[.int .i64 2, .int .i64 0, .string t] 23 w3) := ⟨HU.out.1.below hb3, (grown_of_belowA HU.out.2.1 _).trans (grown_of_belowA hb3 _), HU.out.2.2.below hb3⟩
    clear hb3 y0 y1 y2 z0 z1 z2 hU hV
    cases b
    · have HR : Hid (textF l = none) := by show _ = _; rw [HN.out]; simp
      have HG : Hid (w.grownBy w3 (some A)) := (grown_of_belowA HW.out.2.1 _).trans H3.out.2.1
      go_wp2
      exact ⟨by first | rfl | trivial, HG.out, .inr ⟨HR.out, 4, p, rfl⟩⟩
    · have HR : Hid (textF l = some (⟨2, 0, t⟩, l.tail)) := by show _ = _; rw [HN.out]; simp
      have hw2A : w2.heap.size ≠ A := by have := HV.out.1.lt; omega
      clear x2
      go_wp2_with fail
      refine (take_any A l w3 H3.out.1 (by rw [HE.out.1]; decide)).mono ?_
      rintro _ w4 ⟨rfl, hr4, hg4⟩
      have hk4 := HW.out.2.2.keep (by omega) (H3.out.2.1.trans hg4)
      have hk5 := H3.out.2.2.keep hw2A hg4
      have c0 : w4.cell? ⟨w.heap.size, 0, none⟩ = some (.int .i64 0) := by rw [hk4.cell 0]; rfl
      have c1 : w4.cell? ⟨w.heap.size, 1, none⟩ = some (.int .i64 0) := by rw [hk4.cell 1]; rfl
      have c2 : w4.cell? ⟨w.heap.size, 2, none⟩ = some (.string ⟨#[]⟩) := by rw [hk4.cell 2]; rfl
      have d0 : w4.cell? ⟨w2.heap.size, 0, none⟩ = some (.int .i64 2) := by rw [hk5.cell 0]; rfl
      have d1 : w4.cell? ⟨w2.heap.size, 1, none⟩ = some (.int .i64 0) := by rw [hk5.cell 1]; rfl
      have d2 : w4.cell? ⟨w2.heap.size, 2, none⟩ = some (.string t) := by rw [hk5.cell 2]; rfl
      have f0 : ∀ i, w4.frozen? ⟨w.heap.size, i, none⟩ = false := fun i => hk4.free i
      have H4 : Hid (RdIs A l.tail w4 ∧ w.grownBy w4 (some A)) := ⟨hr4, (grown_of_belowA HW.out.2.1 _).trans (H3.out.2.1.trans hg4)⟩
      clear hr4 hg4 hk4 hk5
      go_wp2
      refine bodyPost_ret (v := .agg #[.int .i64 2, .int .i64 0, .string t]) (results_c Tryz.results155 _ _ _ rfl ?_) rfl ?_
      · simp [go_sem, c0, c1, c2]
      · exact ⟨grown_new (grown_new (grown_new H4.out.2 (Nat.le_refl _) _ _) (Nat.le_refl _) _ _) (Nat.le_refl _) _ _, .inl ⟨_, _, HR.out, rfl, ((H4.out.1.set hA _ _).set hA _ _).set hA _ _⟩⟩
  · have d3 : (k == 3) = false := by rw [beq_eq_false_iff_ne]; exact hk3
    have HR : Hid (textF l = none) := by show _ = _; rw [HN.out, if_neg (fun h => hk3 h.1)]
    clear hk3
    go_wp2_with fail
    refine (must_no A l V HV.out.1).mono ?_
    rintro _ w2 ⟨⟨n1, m1, rfl⟩, hb2⟩
    have HG : Hid (w.grownBy w2 (some A)) := (grown_of_belowA HW.out.2.1 _).trans ((grown_of_belowA HV.out.2 _).trans (grown_of_belowA hb2 _))
    clear hb2
    go_wp2
    exact ⟨by first | rfl | trivial, HG.out, .inr ⟨HR.out, n1, m1, rfl⟩⟩
set_option maxRecDepth 100000 in
set_option maxHeartbeats 4000000 in
theorem col_any (A : Nat) (l : List KT) (w : World) (h : RdIs A l w) : Calls Tryz.prog 175 #[.pointer (some ⟨A, 0, none⟩)] w fun e w' => Told A (colF l) w e w' := by
  have H : Hid (RdIs A l w) := h
  obtain ⟨q0, hq0⟩ : ∃ q0, w.heap.size - 1 = q0 := ⟨_, rfl⟩
  have HQ : Hid (q0 < w.heap.size) := by have := h.lt; show _ < _; omega
  obtain ⟨R, hR⟩ : ∃ R, colF l = R := ⟨_, rfl⟩
  have HR : Hid (colF l = R) := hR
  unfold Told
  rw [hR, hq0]
  clear h hR hq0
  go_enter Tryz.func175, Tryz.ntmps175
  go_wp2_with fail
  refine (name_any A l w H.out).mono ?_
  rintro _ w1 ⟨hg1, ⟨x, l1, hn1, rfl, hr1, hx⟩ | ⟨hn1, n1, m1, rfl⟩⟩
  · have H1 : Hid (RdIs A l1 w1 ∧ w.grownBy w1 (some A)) := ⟨hr1, hg1⟩
    obtain ⟨b, hb⟩ : ∃ b, isT ⟨#[46]⟩ l1 = b := ⟨_, rfl⟩
    have HB : Hid (isT ⟨#[46]⟩ l1 = b) := hb
    have HR1 : Hid (R = if b then (nameF l1.tail).map (fun y => (.node 2 .none (x ++ (⟨#[46]⟩ ++ y.1)) .nil .nil, y.2)) else some (.node 2 .none x .nil .nil, l1)) := by
      show _ = _
      rw [← HR.out]
      unfold colF
      rw [hn1]
      simp only [Option.bind_some]
      rw [hb]
    clear hg1 hn1 hr1 hb HR
    go_wp2_with fail
    refine (has_any A l1 ⟨#[46]⟩ b HB.out w1 H1.out.1).mono ?_
    rintro _ w2 ⟨rfl, hr2, hg2⟩
    have H2 : Hid (RdIs A (if b then l1.tail else l1) w2 ∧ w.grownBy w2 (some A)) := ⟨hr2, H1.out.2.trans hg2⟩
    clear hr2 hg2
    cases b
    · have HB2 : Hid _ := box_told (w0 := w) HQ.out 2 .none x none none .nil .nil H2.out.1 (exNil _ _) (exNil _ _) H2.out.2
      go_wp2
      go_ret
      exact ⟨HB2.out.1, .inl ⟨_, _, _, HR1.out, rfl, HB2.out.2.1, HB2.out.2.2⟩⟩
    · go_wp2_with fail
      refine (name_any A l1.tail w2 H2.out.1).mono ?_
      rintro _ w3 ⟨hg3, ⟨y, l3, hn3, rfl, hr3, hy⟩ | ⟨hn3, n1, m1, rfl⟩⟩
      · have HR3 : Hid (R = some (.node 2 .none (x ++ (⟨#[46]⟩ ++ y)) .nil .nil, l3)) := by show _ = _; rw [HR1.out, hn3]; rfl
        have HB3 : Hid _ := box_told (w0 := w) HQ.out 2 .none (x ++ (⟨#[46]⟩ ++ y)) none none .nil .nil hr3 (exNil _ _) (exNil _ _) (H2.out.2.trans hg3)
        have hp : (⟨#[46]⟩ : ByteArray).size = 1 := rfl
        have e1 := str_add ⟨#[46]⟩ y (by rw [hp]; omega)
        have e2 := str_add x (⟨#[46]⟩ ++ y) (by rw [ByteArray.size_append, hp]; omega)
        clear hn3 hg3 hr3 hp
        go_wp2
        go_ret
        exact ⟨HB3.out.1, .inl ⟨_, _, _, HR3.out, rfl, HB3.out.2.1, HB3.out.2.2⟩⟩
      · have HG : Hid (w.grownBy w3 (some A)) := H2.out.2.trans hg3
        clear hg3
        go_wp2
        exact ⟨by first | rfl | trivial, HG.out, .inr ⟨by rw [HR1.out, hn3]; rfl, n1, m1, rfl⟩⟩
  · go_wp2
    exact ⟨by first | rfl | trivial, hg1, .inr ⟨by rw [← HR.out]; unfold colF; rw [hn1]; rfl, n1, m1, rfl⟩⟩
set_option maxRecDepth 100000 in
set_option maxHeartbeats 4000000 in
theorem null_any (A q0 : Nat) (e : Ex) (p : Option Addr) (l : List KT) (w : World) (hq : A ≤ q0 ∧ q0 < w.heap.size) (h : RdIs A l w) (hx : ExIs q0 w p e) : Calls Tryz.prog 154 #[.pointer (some ⟨A, 0, none⟩), .pointer p] w fun en w' =>
    w.grownBy w' (some A) ∧ ((∃ x l2 p2, nullF e l = some (x, l2) ∧ en = .returned (.pointer p2) ∧ ExIs q0 w' p2 x ∧ RdIs A l2 w') ∨ (nullF e l = none ∧ Thr en)) := by
  have HQ : Hid (A ≤ q0 ∧ q0 < w.heap.size) := hq
  have HB1 : Hid _ := box_told (w0 := w) hq.2 5 .none ⟨#[]⟩ p none e .nil h hx (exNil _ _) (grownA_refl _ _)
  obtain ⟨R, hR⟩ : ∃ R, nullF e l = R := ⟨_, rfl⟩
  rw [hR]
  obtain ⟨b, hb⟩ : ∃ b, isT ⟨#[110, 111, 116]⟩ l = b := ⟨_, rfl⟩
  have HB : Hid (isT ⟨#[110, 111, 116]⟩ l = b) := hb
  have HR : Hid (R = if b then (needF ⟨#[110, 117, 108, 108]⟩ l.tail).map (fun l2 => (.two 4 (.two 5 e .nil) .nil, l2)) else (needF ⟨#[110, 117, 108, 108]⟩ l).map (fun l2 => (.two 5 e .nil, l2))) := by
    show _ = _
    rw [← hR]; unfold nullF; rw [hb]
  clear hq h hx hR hb
  go_enter Tryz.func154, Tryz.ntmps154
  go_wp2_with fail
  refine (has_any A l ⟨#[110, 111, 116]⟩ b HB.out _ HB1.out.2.2).mono ?_
  rintro _ w2 ⟨rfl, hr2, hg2⟩
  have H2 : Hid (RdIs A (if b then l.tail else l) w2 ∧ w.grownBy w2 (some A) ∧ ExIs q0 w2 (some ⟨w.heap.size, 0, none⟩) (.two 5 e .nil)) := ⟨hr2, HB1.out.1.trans hg2, ExIs.grownN HQ.out.1 hg2 HB1.out.2.1⟩
  clear hr2 hg2
  cases b
  · go_wp2_with fail
    refine (need_any A l ⟨#[110, 117, 108, 108]⟩ w2 H2.out.1).mono ?_
    rintro _ w3 ⟨hg3, ⟨l3, hn3, rfl, hr3⟩ | ⟨hn3, n1, m1, rfl⟩⟩
    · have H3 : Hid (w.grownBy w3 (some A) ∧ R = some (.two 5 e .nil, l3) ∧ ExIs q0 w3 (some ⟨w.heap.size, 0, none⟩) (.two 5 e .nil) ∧ RdIs A l3 w3) := ⟨H2.out.2.1.trans hg3, by rw [HR.out, hn3]; rfl, ExIs.grownN HQ.out.1 hg3 H2.out.2.2, hr3⟩
      clear hg3 hn3 hr3
      go_wp2
      go_ret
      exact ⟨H3.out.1, .inl ⟨_, _, _, H3.out.2.1, rfl, H3.out.2.2⟩⟩
    · have H3 : Hid (w.grownBy w3 (some A) ∧ R = none) := ⟨H2.out.2.1.trans hg3, by rw [HR.out, hn3]; rfl⟩
      clear hg3 hn3
      go_wp2
      exact ⟨by first | rfl | trivial, H3.out.1, .inr ⟨H3.out.2, n1, m1, rfl⟩⟩
  · have HB4 : Hid _ := box_told (w0 := w) HQ.out.2 4 .none ⟨#[]⟩ _ none (.two 5 e .nil) .nil H2.out.1 H2.out.2.2 (exNil _ _) H2.out.2.1
    go_wp2_with fail
    refine (need_any A l.tail ⟨#[110, 117, 108, 108]⟩ _ HB4.out.2.2).mono ?_
    rintro _ w3 ⟨hg3, ⟨l3, hn3, rfl, hr3⟩ | ⟨hn3, n1, m1, rfl⟩⟩
    · have H3 : Hid (w.grownBy w3 (some A) ∧ R = some (.two 4 (.two 5 e .nil) .nil, l3) ∧ ExIs q0 w3 (some ⟨w2.heap.size, 0, none⟩) (.two 4 (.two 5 e .nil) .nil) ∧ RdIs A l3 w3) := ⟨HB4.out.1.trans hg3, by rw [HR.out, hn3]; rfl, ExIs.grownN HQ.out.1 hg3 HB4.out.2.1, hr3⟩
      clear hg3 hn3 hr3
      go_wp2
      go_ret
      exact ⟨H3.out.1, .inl ⟨_, _, _, H3.out.2.1, rfl, H3.out.2.2⟩⟩
    · have H3 : Hid (w.grownBy w3 (some A) ∧ R = none) := ⟨HB4.out.1.trans hg3, by rw [HR.out, hn3]; rfl⟩
      clear hg3 hn3
      go_wp2
      exact ⟨by first | rfl | trivial, H3.out.1, .inr ⟨H3.out.2, n1, m1, rfl⟩⟩
end Go.Proofs.YtmabfbffpedfnaaGreatDoor
namespace Go.Proofs.YtmabfbffpedfnaaGreatDoor
open Go.RowKit

/-- what reads makes something -/
def NN (F : Rf Ex) : Prop := ∀ l x, F l = some x → x.1 ≠ .nil
theorem chainL_nn (F : Rf Ex) (sg : List (ByteArray × Int)) (f : Nat) : ∀ e l x, e ≠ .nil → chainL F sg f e l = some x → x.1 ≠ .nil := by
  induction f with
  | zero => intro e l x he h; cases h; exact he
  | succ f ih =>
    intro e l x he h
    rw [chainL] at h
    split at h
    · cases h; exact he
    · obtain ⟨y, _, h⟩ := Option.bind_eq_some_iff.1 h
      exact ih _ _ x (fun e => by cases e) h
theorem chainF_nn {F : Rf Ex} (hF : NN F) (sg : List (ByteArray × Int)) : NN (chainF F sg) := fun l x h => by
  obtain ⟨y, hy, h⟩ := Option.bind_eq_some_iff.1 h
  exact chainL_nn F sg _ _ _ x (hF _ _ hy) h
theorem sumF_nn {M : Rf Ex} (h : NN M) : NN (sumF M) := chainF_nn (chainF_nn h _) _
theorem exprF_nn {N : Rf Ex} (h : NN N) : NN (exprF N) := chainF_nn (chainF_nn h _) _
theorem askF_nn {S : Rf Ex} (hS : NN S) : NN (askF S) := fun l x h => by
  obtain ⟨y, hy, h⟩ := Option.bind_eq_some_iff.1 h
  have h1 := hS _ _ hy
  unfold askR at h
  split at h
  · obtain ⟨z, _, rfl⟩ := Option.map_eq_some_iff.1 h
    exact fun e => by cases e
  · split at h
    · unfold nullF at h
      split at h
      · obtain ⟨z, _, rfl⟩ := Option.map_eq_some_iff.1 h
        exact fun e => by cases e
      · obtain ⟨z, _, rfl⟩ := Option.map_eq_some_iff.1 h
        exact fun e => by cases e
    · split at h
      · obtain ⟨z, _, rfl⟩ := Option.map_eq_some_iff.1 h
        exact fun e => by cases e
      · cases h; exact h1
theorem notF_nn {N A : Rf Ex} (hA : NN A) : NN (notF N A) := fun l x h => by
  unfold notF at h
  split at h
  · obtain ⟨z, _, rfl⟩ := Option.map_eq_some_iff.1 h
    exact fun e => by cases e
  · exact hA l x h
theorem minusF_nn {N A : Rf Ex} (hA : NN A) : NN (minusF N A) := fun l x h => by
  unfold minusF at h
  split at h
  · obtain ⟨z, _, rfl⟩ := Option.map_eq_some_iff.1 h
    exact fun e => by cases e
  · exact hA l x h
theorem oneF_nn {E : Rf Ex} (hE : NN E) : NN (oneF E) := fun l x h => by
  unfold oneF at h
  split at h
  · obtain ⟨z, _, rfl⟩ := Option.map_eq_some_iff.1 h
    exact fun e => by cases e
  · split at h
    · obtain ⟨z, _, rfl⟩ := Option.map_eq_some_iff.1 h
      exact fun e => by cases e
    · split at h
      · cases h; exact fun e => by cases e
      · split at h
        · obtain ⟨y, hy, h⟩ := Option.bind_eq_some_iff.1 h
          obtain ⟨z, _, rfl⟩ := Option.map_eq_some_iff.1 h
          show y.1 ≠ _
          exact hE _ y hy
        · obtain ⟨y, hy, h⟩ := Option.bind_eq_some_iff.1 h
          split at h
          · obtain ⟨z, _, rfl⟩ := Option.map_eq_some_iff.1 h
            exact fun e => by cases e
          · cases h; exact fun e => by cases e
theorem lev_nn (d : Nat) : NN (lev d).E ∧ NN (lev d).N ∧ NN (lev d).M := by
  induction d with
  | zero => exact ⟨(fun _ _ h => by cases h), (fun _ _ h => by cases h), (fun _ _ h => by cases h)⟩
  | succ d ih =>
    have hM : NN (minusF (lev d).M (oneF (lev d).E)) := minusF_nn (oneF_nn ih.1)
    have hN : NN (notF (lev d).N (askF (sumF (minusF (lev d).M (oneF (lev d).E))))) := notF_nn (askF_nn (sumF_nn hM))
    exact ⟨exprF_nn hN, hN, hM⟩
theorem ask_cmp {S : Rf Ex} {e : Ex} {l : List KT} {s : ByteArray × Int} (h : cmpS.find? (fun s => isT s.1 l) = some s) : askR S e l = (S l.tail).map fun x => (.two s.2 e x.1, x.2) := by unfold askR; rw [h]
theorem ask_is {S : Rf Ex} {e : Ex} {l : List KT} (h : cmpS.find? (fun s => isT s.1 l) = none) (h1 : isT ⟨#[105, 115]⟩ l = true) : askR S e l = nullF e l.tail := by unfold askR; rw [h]; simp only; rw [if_pos h1]
theorem ask_match {S : Rf Ex} {e : Ex} {l : List KT} (h : cmpS.find? (fun s => isT s.1 l) = none) (h1 : isT ⟨#[105, 115]⟩ l = false) (h2 : e.code = 2) (h3 : isT ⟨#[109, 97, 116, 99, 104]⟩ l = true) : askR S e l = (textF l.tail).map fun x => (.node 17 x.1 ⟨#[]⟩ e .nil, x.2) := by unfold askR; rw [h]; simp only; rw [if_neg (by rw [h1]; decide), if_pos ⟨h2, h3⟩]
theorem ask_not {S : Rf Ex} {e : Ex} {l : List KT} (h : cmpS.find? (fun s => isT s.1 l) = none) (h1 : isT ⟨#[105, 115]⟩ l = false) (h2 : ¬ (e.code = 2 ∧ isT ⟨#[109, 97, 116, 99, 104]⟩ l = true)) : askR S e l = some (e, l) := by unfold askR; rw [h]; simp only; rw [if_neg (by rw [h1]; decide), if_neg h2]
set_option maxRecDepth 100000 in
set_option maxHeartbeats 16000000 in
theorem ask_of {S : Rf Ex} {n : Nat} (hS : SSpec S n) (hN : NN S) : ASpec (askF S) n := by
  intro A l w h
  have HS : Hid (SSpec S n ∧ NN S) := ⟨hS, hN⟩
  have H : Hid (RdIs A l w) := h
  obtain ⟨q0, hq0⟩ : ∃ q0, w.heap.size - 1 = q0 := ⟨_, rfl⟩
  have HQ : Hid (A ≤ q0 ∧ q0 < w.heap.size) := by have := h.lt; exact ⟨by omega, by omega⟩
  have HQe : Hid (w.heap.size - 1 = q0) := hq0
  obtain ⟨R, hR⟩ : ∃ R, askF S l = R := ⟨_, rfl⟩
  have HR : Hid (askF S l = R) := hR
  unfold Told
  rw [hR, hq0]
  clear h hS hN hR hq0
  go_enter Tryz.func146, Tryz.ntmps146
  go_wp2_with fail
  refine (HS.out.1 A l w H.out).mono ?_
  rintro _ w1 ⟨hg1, ⟨e, l1, p, hs1, rfl, hx1, hr1⟩ | ⟨hs1, n1, m1, rfl⟩⟩
  · rw [HQe.out] at hx1
    have hnn := HS.out.2 _ _ hs1
    have HR1 : Hid (askR S e l1 = R) := by
      show _ = _
      rw [← HR.out]; unfold askF; rw [hs1]; rfl
    have H1 : Hid (RdIs A l1 w1 ∧ w.grownBy w1 (some A) ∧ ExIs q0 w1 p e) := ⟨hr1, hg1, hx1⟩
    clear hs1 hg1 hr1 HR hx1
    go_wp2_with fail
    refine (bet_any sg_cmp A l1 w1 H1.out.1).mono ?_
    rintro _ w2 ⟨hg2, ⟨s, hf2, hs2, rfl, hr2⟩ | ⟨hf2, rfl, hr2⟩⟩
    · have HR2 : Hid (R = (S l1.tail).map fun x => (.two s.2 e x.1, x.2)) := by show _ = _; rw [← HR1.out]; exact ask_cmp hf2
      have H2 : Hid (RdIs A l1.tail w2 ∧ w.grownBy w2 (some A) ∧ ExIs q0 w2 p e) := ⟨hr2, H1.out.2.1.trans hg2, ExIs.grownN HQ.out.1 hg2 H1.out.2.2⟩
      obtain ⟨c, hc⟩ : ∃ c, s.2 = c := ⟨_, rfl⟩
      rw [hc] at hs2 HR2 ⊢
      have d0 : (c != 0) = true := by simpa using hs2
      clear hf2 hs2 hr2 hg2 hc HR1 H1 hnn
      go_wp2_with fail
      refine (HS.out.1 A l1.tail w2 H2.out.1).mono ?_
      rintro _ w3 ⟨hg3, ⟨e3, l3, p3, hs3, rfl, hx3, hr3⟩ | ⟨hs3, n1, m1, rfl⟩⟩
      · have HB3 : Hid _ := box_told (w0 := w) HQ.out.2 c .none ⟨#[]⟩ p p3 e e3 hr3 (ExIs.grownN HQ.out.1 hg3 H2.out.2.2) (hx3.mono (by have h1 := H2.out.2.1.size; have h2 := HQe.out; omega)) (H2.out.2.1.trans hg3)
        have HR3 : Hid (R = some (.two c e e3, l3)) := by show _ = _; rw [HR2.out, hs3]; rfl
        clear hs3 hx3 hr3 hg3
        go_wp2
        go_ret
        exact ⟨HB3.out.1, .inl ⟨_, _, _, HR3.out, rfl, HB3.out.2.1, HB3.out.2.2⟩⟩
      · have HG : Hid (w.grownBy w3 (some A) ∧ R = none) := ⟨H2.out.2.1.trans hg3, by rw [HR2.out, hs3]; rfl⟩
        clear hg3 hs3
        go_wp2
        exact ⟨by first | rfl | trivial, HG.out.1, .inr ⟨HG.out.2, n1, m1, rfl⟩⟩
    · have HF2 : Hid (cmpS.find? (fun s => isT s.1 l1) = none) := hf2
      have H2 : Hid (RdIs A l1 w2 ∧ w.grownBy w2 (some A) ∧ ExIs q0 w2 p e) := ⟨hr2, H1.out.2.1.trans hg2, ExIs.grownN HQ.out.1 hg2 H1.out.2.2⟩
      obtain ⟨b, hb⟩ : ∃ b, isT ⟨#[105, 115]⟩ l1 = b := ⟨_, rfl⟩
      have HB : Hid (isT ⟨#[105, 115]⟩ l1 = b) := hb
      clear hf2 hr2 hg2 hb H1
      go_wp2_with fail
      refine (has_any A l1 ⟨#[105, 115]⟩ b HB.out w2 H2.out.1).mono ?_
      rintro _ w3 ⟨rfl, hr3, hg3⟩
      have H3 : Hid (RdIs A (if b then l1.tail else l1) w3 ∧ w.grownBy w3 (some A) ∧ ExIs q0 w3 p e) := ⟨hr3, H2.out.2.1.trans hg3, ExIs.grownN HQ.out.1 hg3 H2.out.2.2⟩
      clear hr3 hg3
      cases b
      · cases e with
        | nil => exact absurd rfl hnn
        | node c v nm ea eb =>
          obtain ⟨B, pa, pb, rfl, hB1, hB2, _, _⟩ := H3.out.2.2
          have hc : w3.cell? ⟨B, 0, none⟩ = some (.int .i64 c) := by simp [World.cell?, hB2]
          clear hB1 hB2 hnn
          by_cases hc2 : c = 2
          · subst hc2
            obtain ⟨b2, hb2⟩ : ∃ b, isT ⟨#[109, 97, 116, 99, 104]⟩ l1 = b := ⟨_, rfl⟩
            have HB2 : Hid (isT ⟨#[109, 97, 116, 99, 104]⟩ l1 = b2) := hb2
            clear hb2
            go_wp2_with fail
            refine (has_any A l1 ⟨#[109, 97, 116, 99, 104]⟩ b2 HB2.out w3 H3.out.1).mono ?_
            rintro _ w4 ⟨rfl, hr4, hg4⟩
            have H4 : Hid (RdIs A (if b2 then l1.tail else l1) w4 ∧ w.grownBy w4 (some A) ∧ ExIs q0 w4 (some ⟨B, 0, none⟩) (.node 2 v nm ea eb)) := ⟨hr4, H3.out.2.1.trans hg4, ExIs.grownN HQ.out.1 hg4 H3.out.2.2⟩
            clear hr4 hg4 hc
            cases b2
            · have HR4 : Hid (R = some (.node 2 v nm ea eb, l1)) := by show _ = _; rw [← HR1.out]; exact ask_not HF2.out HB.out (by rw [HB2.out]; simp)
              go_wp2
              go_ret
              exact ⟨H4.out.2.1, .inl ⟨_, _, _, HR4.out, rfl, H4.out.2.2, H4.out.1⟩⟩
            · have HR4 : Hid (R = (textF l1.tail).map fun x => (.node 17 x.1 ⟨#[]⟩ (.node 2 v nm ea eb) .nil, x.2)) := by show _ = _; rw [← HR1.out]; exact ask_match HF2.out HB.out rfl HB2.out
              go_wp2_with fail
              refine (text_any A l1.tail w4 H4.out.1).mono ?_
              rintro _ w5 ⟨hg5, ⟨v5, l5, hs5, rfl, hr5⟩ | ⟨hs5, n1, m1, rfl⟩⟩
              · have HB5 : Hid _ := box_told (w0 := w) HQ.out.2 17 v5 ⟨#[]⟩ _ none (.node 2 v nm ea eb) .nil hr5 (ExIs.grownN HQ.out.1 hg5 H4.out.2.2) (exNil _ _) (H4.out.2.1.trans hg5)
                have HR5 : Hid (R = some (.node 17 v5 ⟨#[]⟩ (.node 2 v nm ea eb) .nil, l5)) := by show _ = _; rw [HR4.out, hs5]; rfl
                clear hs5 hr5 hg5
                go_wp2
                go_ret
                exact ⟨HB5.out.1, .inl ⟨_, _, _, HR5.out, rfl, HB5.out.2.1, HB5.out.2.2⟩⟩
              · have HG : Hid (w.grownBy w5 (some A) ∧ R = none) := ⟨H4.out.2.1.trans hg5, by rw [HR4.out, hs5]; rfl⟩
                clear hg5 hs5
                go_wp2
                exact ⟨by first | rfl | trivial, HG.out.1, .inr ⟨HG.out.2, n1, m1, rfl⟩⟩
          · have d2 : (c == 2) = false := by rw [beq_eq_false_iff_ne]; exact hc2
            have HR4 : Hid (R = some (.node c v nm ea eb, l1)) := by show _ = _; rw [← HR1.out]; exact ask_not HF2.out HB.out (fun h => hc2 h.1)
            clear hc2
            go_wp2
            go_ret
            exact ⟨H3.out.2.1, .inl ⟨_, _, _, HR4.out, rfl, H3.out.2.2, H3.out.1⟩⟩
      · have HR3 : Hid (nullF e l1.tail = R) := by show _ = _; rw [← HR1.out]; exact (ask_is HF2.out HB.out).symm
        clear hnn
        go_wp2_with fail
        refine (null_any A q0 e p l1.tail w3 ⟨HQ.out.1, by have := H3.out.2.1.size; have := HQ.out.2; omega⟩ H3.out.1 H3.out.2.2).mono ?_
        rintro _ w4 ⟨hg4, hc⟩
        rw [HR3.out] at hc
        have HG4 : Hid (w.grownBy w4 (some A)) := H3.out.2.1.trans hg4
        clear hg4
        rcases hc with ⟨x4, l4, p4, h1, rfl, h3, h4⟩ | ⟨h1, n1, m1, rfl⟩
        · go_wp2
          go_ret
          exact ⟨HG4.out, .inl ⟨_, _, _, h1, rfl, h3, h4⟩⟩
        · go_wp2
          exact ⟨by first | rfl | trivial, HG4.out, .inr ⟨h1, n1, m1, rfl⟩⟩
  · go_wp2
    exact ⟨by first | rfl | trivial, hg1, .inr ⟨by rw [← HR.out]; unfold askF; rw [hs1]; rfl, n1, m1, rfl⟩⟩
end Go.Proofs.YtmabfbffpedfnaaGreatDoor
namespace Go.Proofs.YtmabfbffpedfnaaGreatDoor
open Go.RowKit

/-- a column -/
structure Colm where
  nm : ByteArray
  k : Int
  mu : Bool
  wo : Bool
/-- a statement -/
structure Stm where
  kind : Int
  table : ByteArray
  other : ByteArray
  cols : List Colm
  name : ByteArray
  rows : List (List Ex)
  sets : List Ex
  on : Ex
  wh : Ex
  items : List (Int × Ex)
  grp : Ex
  ord : List (Ex × Bool)
  lim : Int
def ofS (k : Int) (t : ByteArray) : Stm := ⟨k, t, ⟨#[]⟩, [], ⟨#[]⟩, [], [], .nil, .nil, [], .nil, [], -1⟩
/-- what stands between ( and ) -/
def insideF {α : Type} (F : Rf α) : Rf α := fun l => (needF ⟨#[40]⟩ l).bind fun l1 => (F l1).bind fun x => (needF ⟨#[41]⟩ x.2).map fun l2 => (x.1, l2)
/-- things with commas between -/
def eachL {σ : Type} (one : σ → Rf σ) : Nat → σ → Rf σ
  | 0, s, l => some (s, l)
  | f + 1, s, l => if isT ⟨#[44]⟩ l then (one s l.tail).bind fun x => eachL one f x.1 x.2 else some (s, l)
def listS {σ : Type} (one : σ → Rf σ) (s : σ) : Rf σ := fun l => (one s l).bind fun x => eachL one x.2.length x.1 x.2
/-- one more of such -/
def oneOf {α : Type} (F : Rf α) (L : List α) : Rf (List α) := fun l => (F l).map fun x => (L ++ [x.1], x.2)
def listF {α : Type} (F : Rf α) : Rf (List α) := listS (oneOf F) []
def whereF (s : ByteArray) : Rf Ex := fun l => if isT s l then Ef l.tail else some (.nil, l)
def colm1 : Rf Int := fun l => if isT ⟨#[105, 110, 116]⟩ l then some (1, l.tail) else (needF ⟨#[116, 101, 120, 116]⟩ l).map fun l2 => (2, l2)
def colm2 : Rf Bool := fun l => if isT ⟨#[110, 111, 116]⟩ l then (needF ⟨#[110, 117, 108, 108]⟩ l.tail).map fun l2 => (true, l2) else some (false, l)
def colm3 (k : Int) (l : List KT) : Bool × List KT := if k = 2 ∧ isT ⟨#[119, 111, 114, 100, 115]⟩ l = true then (true, l.tail) else (false, l)
def colmF : Rf Colm := fun l => (nameF l).bind fun a => (colm1 a.2).bind fun b => (colm2 b.2).map fun c => (⟨a.1, b.1, c.1, (colm3 b.1 c.2).1⟩, (colm3 b.1 c.2).2)
def rowF : Rf (List Ex) := insideF (listF Ef)
def setF : Rf Ex := fun l => (nameF l).bind fun a => (needF ⟨#[61]⟩ a.2).bind fun l2 => (Ef l2).map fun b => (.node 2 .none a.1 b.1 .nil, b.2)
def aggL : List (ByteArray × Int) := [(⟨#[99, 111, 117, 110, 116]⟩, 1), (⟨#[115, 117, 109]⟩, 2), (⟨#[109, 105, 110]⟩, 3), (⟨#[109, 97, 120]⟩, 4)]
def itemI (k : Int) : Rf Ex := fun l => if k = 1 ∧ isT ⟨#[42]⟩ l = true then some (.nil, l.tail) else Ef l
def itemF : Rf (Int × Ex) := fun l => match aggL.find? (fun s => isT s.1 l) with
  | some s => (insideF (itemI s.2) l.tail).map fun x => ((s.2, x.1), x.2)
  | none => (Ef l).map fun x => ((0, x.1), x.2)
def rank1 : Rf Ex := fun l => if isT ⟨#[114, 97, 110, 107]⟩ l then some (.nil, l.tail) else Ef l
def rank2 (l : List KT) : Bool × List KT := if isT ⟨#[97, 115, 99]⟩ l then (false, l.tail) else if isT ⟨#[100, 101, 115, 99]⟩ l then (true, l.tail) else (false, l)
def rankF : Rf (Ex × Bool) := fun l => (rank1 l).map fun x => ((x.1, (rank2 x.2).1), (rank2 x.2).2)
def digV (s : ByteArray) : Int := match Lib.parseIntB 64 s.data.toList with | .ok n => n | _ => 0
def limitF : Rf Int := fun l => if (hdT l).1 = 2 ∧ (hdT l).2.size ≤ 9 then some (digV (hdT l).2, l.tail) else none
/-- a select, step by step -/
def selItems : Rf (List (Int × Ex)) := fun l => if isT ⟨#[42]⟩ l then some ([], l.tail) else listF itemF l
def selTable : Rf ByteArray := fun l => (needF ⟨#[102, 114, 111, 109]⟩ l).bind nameF
def selJoin : Rf (ByteArray × Ex) := fun l => if isT ⟨#[106, 111, 105, 110]⟩ l then (nameF l.tail).bind fun a => (needF ⟨#[111, 110]⟩ a.2).bind fun l2 => (Ef l2).map fun b => ((a.1, b.1), b.2) else some ((⟨#[]⟩, .nil), l)
def selGroup : Rf Ex := fun l => if isT ⟨#[103, 114, 111, 117, 112]⟩ l then (needF ⟨#[98, 121]⟩ l.tail).bind Ef else some (.nil, l)
def selOrder : Rf (List (Ex × Bool)) := fun l => if isT ⟨#[111, 114, 100, 101, 114]⟩ l then (needF ⟨#[98, 121]⟩ l.tail).bind (listF rankF) else some ([], l)
def selLimit : Rf Int := fun l => if isT ⟨#[108, 105, 109, 105, 116]⟩ l then limitF l.tail else some (-1, l)
def choiceF : Rf Stm := fun l => (selItems l).bind fun a => (selTable a.2).bind fun b => (selJoin b.2).bind fun c => (whereF ⟨#[119, 104, 101, 114, 101]⟩ c.2).bind fun d => (selGroup d.2).bind fun e => (selOrder e.2).bind fun f => (selLimit f.2).map fun g =>
  (⟨7, b.1, c.1.1, [], ⟨#[]⟩, [], [], c.1.2, d.1, a.1, e.1, f.1, g.1⟩, g.2)
def createF : Rf Stm := fun l =>
  if isT ⟨#[105, 110, 100, 101, 120]⟩ l then (needF ⟨#[111, 110]⟩ l.tail).bind fun l1 => (nameF l1).bind fun a => (insideF nameF a.2).map fun b => ({ ofS 2 a.1 with name := b.1 }, b.2)
  else (needF ⟨#[116, 97, 98, 108, 101]⟩ l).bind fun l1 => (nameF l1).bind fun a => (insideF (listF colmF) a.2).map fun b => ({ ofS 1 a.1 with cols := b.1 }, b.2)
def dropF : Rf Stm := fun l => (needF ⟨#[116, 97, 98, 108, 101]⟩ l).bind fun l1 => (nameF l1).map fun a => (ofS 3 a.1, a.2)
def insertF : Rf Stm := fun l => (needF ⟨#[105, 110, 116, 111]⟩ l).bind fun l1 => (nameF l1).bind fun a => (needF ⟨#[118, 97, 108, 117, 101, 115]⟩ a.2).bind fun l2 => (listF rowF l2).map fun b => ({ ofS 4 a.1 with rows := b.1 }, b.2)
def deleteF : Rf Stm := fun l => (needF ⟨#[102, 114, 111, 109]⟩ l).bind fun l1 => (nameF l1).bind fun a => (whereF ⟨#[119, 104, 101, 114, 101]⟩ a.2).map fun b => ({ ofS 5 a.1 with wh := b.1 }, b.2)
def updateF : Rf Stm := fun l => (nameF l).bind fun a => (needF ⟨#[115, 101, 116]⟩ a.2).bind fun l2 => (listF setF l2).bind fun b => (whereF ⟨#[119, 104, 101, 114, 101]⟩ b.2).map fun c => ({ ofS 6 a.1 with sets := b.1, wh := c.1 }, c.2)
def stmF : Rf Stm := fun l =>
  if isT ⟨#[98, 101, 103, 105, 110]⟩ l then some (ofS 8 ⟨#[]⟩, l.tail)
  else if isT ⟨#[99, 111, 109, 109, 105, 116]⟩ l then some (ofS 9 ⟨#[]⟩, l.tail)
  else if isT ⟨#[114, 111, 108, 108, 98, 97, 99, 107]⟩ l then some (ofS 10 ⟨#[]⟩, l.tail)
  else if isT ⟨#[99, 114, 101, 97, 116, 101]⟩ l then createF l.tail
  else if isT ⟨#[100, 114, 111, 112]⟩ l then dropF l.tail
  else if isT ⟨#[105, 110, 115, 101, 114, 116]⟩ l then insertF l.tail
  else if isT ⟨#[100, 101, 108, 101, 116, 101]⟩ l then deleteF l.tail
  else if isT ⟨#[117, 112, 100, 97, 116, 101]⟩ l then updateF l.tail
  else (needF ⟨#[115, 101, 108, 101, 99, 116]⟩ l).bind choiceF
def semiF (l : List KT) : List KT := if isT ⟨#[59]⟩ l then l.tail else l
def readF (l : List KT) : Option Stm := (stmF l).bind fun x => if (hdT (semiF x.2)).1 = 5 then some x.1 else none
/-- the statement that a text is -/
def parseS (s : ByteArray) : Option Stm := match lexS s with
  | .ok L => readF (L.map Tok.kt)
  | .error _ => none

theorem inside_reads {α : Type} {F : Rf α} (hF : Reads F) : Reads (insideF F) := fun l h x he => by
  obtain ⟨l1, h1, he⟩ := Option.bind_eq_some_iff.1 he
  obtain ⟨y, h2, he⟩ := Option.bind_eq_some_iff.1 he
  obtain ⟨z, h3, rfl⟩ := Option.map_eq_some_iff.1 he
  have k1 := need_reads h h1
  have k2 := hF _ k1.1 y h2
  have k3 := need_reads k2.1 h3
  exact ⟨k3.1, Nat.le_trans k3.2 (Nat.le_trans k2.2 k1.2)⟩
theorem each_stop {σ : Type} {one : σ → Rf σ} {l : List KT} (h : isT ⟨#[44]⟩ l = false) (f : Nat) (s : σ) : eachL one f s l = some (s, l) := by
  cases f with
  | zero => rfl
  | succ f => rw [eachL, h]; rfl
theorem eachL_reads {σ : Type} {one : σ → Rf σ} (hO : ∀ s, Reads (one s)) (f : Nat) : ∀ s, Reads (eachL one f s) := by
  induction f with
  | zero => intro s l h x he; cases he; exact ⟨h, Nat.le_refl _⟩
  | succ f ih =>
    intro s l h x he
    rw [eachL] at he
    split at he
    · rename_i hs
      obtain ⟨y, hy, he⟩ := Option.bind_eq_some_iff.1 he
      have h2 := hO s _ (h.seen hs) y hy
      have h3 := ih _ _ h2.1 x he
      exact ⟨h3.1, Nat.le_trans h3.2 (Nat.le_trans h2.2 (tail_le l))⟩
    · cases he; exact ⟨h, Nat.le_refl _⟩
theorem eachL_fuel {σ : Type} {one : σ → Rf σ} (hO : ∀ s, Reads (one s)) (f : Nat) : ∀ g s l, OkT l → l.length ≤ f → l.length ≤ g → eachL one f s l = eachL one g s l := by
  induction f with
  | zero => intro g s l h h1 _; have := h.cons; rw [this] at h1; simp at h1
  | succ f ih =>
    intro g s l h h1 h2
    cases g with
    | zero => have := h.cons; rw [this] at h2; simp at h2
    | succ g =>
      rw [eachL, eachL]
      split
      · rename_i hs
        cases hb : one s l.tail with
        | none => rfl
        | some y =>
          have h3 := hO s _ (h.seen hs) y hb
          have h4 : l.tail.length + 1 = l.length := by rw [h.cons]; rfl
          exact ih g _ _ h3.1 (by omega) (by omega)
      · rfl
theorem each_step {σ : Type} {one : σ → Rf σ} (hO : ∀ s, Reads (one s)) {l : List KT} (hl : OkT l) (h : isT ⟨#[44]⟩ l = true) (s : σ) : eachL one l.length s l = (one s l.tail).bind fun x => eachL one x.2.length x.1 x.2 := by
  have h1 : l.length = l.tail.length + 1 := by rw [hl.cons]; rfl
  rw [h1, eachL, if_pos h]
  cases hb : one s l.tail with
  | none => rfl
  | some y =>
    have h3 := hO s _ (hl.seen h) y hb
    exact eachL_fuel hO _ _ _ _ h3.1 h3.2 (Nat.le_refl _)
theorem listS_reads {σ : Type} {one : σ → Rf σ} (hO : ∀ s, Reads (one s)) (s : σ) : Reads (listS one s) := fun l h x he => by
  obtain ⟨y, hy, he⟩ := Option.bind_eq_some_iff.1 he
  have h1 := hO s l h y hy
  have h2 := eachL_reads hO _ _ _ h1.1 x he
  exact ⟨h2.1, Nat.le_trans h2.2 h1.2⟩
theorem oneOf_reads {α : Type} {F : Rf α} (hF : Reads F) (L : List α) : Reads (oneOf F L) := fun l h x he => by
  obtain ⟨y, hy, rfl⟩ := Option.map_eq_some_iff.1 he
  exact hF l h y hy
theorem listF_reads {α : Type} {F : Rf α} (hF : Reads F) : Reads (listF F) := listS_reads (oneOf_reads hF) _
theorem whereF_reads (s : ByteArray) : Reads (whereF s) := fun l h x he => by
  unfold whereF at he
  split at he
  · rename_i hs
    have := Ef_reads _ (h.seen hs) x he
    exact ⟨this.1, Nat.le_trans this.2 (tail_le l)⟩
  · cases he; exact ⟨h, Nat.le_refl _⟩
theorem colm1_reads : Reads colm1 := fun l h x he => by
  unfold colm1 at he
  split at he
  · rename_i hs; cases he; exact ⟨h.seen hs, tail_le l⟩
  · obtain ⟨y, hy, rfl⟩ := Option.map_eq_some_iff.1 he; exact need_reads h hy
theorem colm2_reads : Reads colm2 := fun l h x he => by
  unfold colm2 at he
  split at he
  · rename_i hs
    obtain ⟨y, hy, rfl⟩ := Option.map_eq_some_iff.1 he
    have := need_reads (h.seen hs) hy
    exact ⟨this.1, Nat.le_trans this.2 (tail_le l)⟩
  · cases he; exact ⟨h, Nat.le_refl _⟩
theorem colm3_reads (k : Int) (l : List KT) (h : OkT l) : OkT (colm3 k l).2 ∧ (colm3 k l).2.length ≤ l.length := by
  unfold colm3
  split
  · rename_i hs; exact ⟨h.seen hs.2, tail_le l⟩
  · exact ⟨h, Nat.le_refl _⟩
theorem colmF_reads : Reads colmF := fun l h x he => by
  obtain ⟨a, h1, he⟩ := Option.bind_eq_some_iff.1 he
  obtain ⟨b, h2, he⟩ := Option.bind_eq_some_iff.1 he
  obtain ⟨c, h3, rfl⟩ := Option.map_eq_some_iff.1 he
  have k1 := name_reads l h a h1
  have k2 := colm1_reads _ k1.1 b h2
  have k3 := colm2_reads _ k2.1 c h3
  have k4 := colm3_reads b.1 c.2 k3.1
  exact ⟨k4.1, Nat.le_trans k4.2 (Nat.le_trans k3.2 (Nat.le_trans k2.2 k1.2))⟩
theorem rowF_reads : Reads rowF := inside_reads (listF_reads Ef_reads)
theorem setF_reads : Reads setF := fun l h x he => by
  obtain ⟨a, h1, he⟩ := Option.bind_eq_some_iff.1 he
  obtain ⟨b, h2, he⟩ := Option.bind_eq_some_iff.1 he
  obtain ⟨c, h3, rfl⟩ := Option.map_eq_some_iff.1 he
  have k1 := name_reads l h a h1
  have k2 := need_reads k1.1 h2
  have k3 := Ef_reads _ k2.1 c h3
  exact ⟨k3.1, Nat.le_trans k3.2 (Nat.le_trans k2.2 k1.2)⟩
theorem itemI_reads (k : Int) : Reads (itemI k) := fun l h x he => by
  unfold itemI at he
  split at he
  · rename_i hs; cases he; exact ⟨h.seen hs.2, tail_le l⟩
  · exact Ef_reads l h x he
theorem itemF_reads : Reads itemF := fun l h x he => by
  unfold itemF at he
  split at he
  · rename_i s hs
    obtain ⟨y, hy, rfl⟩ := Option.map_eq_some_iff.1 he
    have := inside_reads (itemI_reads s.2) _ (h.seen (find_is hs)) y hy
    exact ⟨this.1, Nat.le_trans this.2 (tail_le l)⟩
  · obtain ⟨y, hy, rfl⟩ := Option.map_eq_some_iff.1 he
    exact Ef_reads l h y hy
theorem rank1_reads : Reads rank1 := fun l h x he => by
  unfold rank1 at he
  split at he
  · rename_i hs; cases he; exact ⟨h.seen hs, tail_le l⟩
  · exact Ef_reads l h x he
theorem rank2_reads (l : List KT) (h : OkT l) : OkT (rank2 l).2 ∧ (rank2 l).2.length ≤ l.length := by
  unfold rank2
  split
  · rename_i hs; exact ⟨h.seen hs, tail_le l⟩
  · split
    · rename_i hs; exact ⟨h.seen hs, tail_le l⟩
    · exact ⟨h, Nat.le_refl _⟩
theorem rankF_reads : Reads rankF := fun l h x he => by
  obtain ⟨y, hy, rfl⟩ := Option.map_eq_some_iff.1 he
  have k1 := rank1_reads l h y hy
  have k2 := rank2_reads _ k1.1
  exact ⟨k2.1, Nat.le_trans k2.2 k1.2⟩
end Go.Proofs.YtmabfbffpedfnaaGreatDoor
