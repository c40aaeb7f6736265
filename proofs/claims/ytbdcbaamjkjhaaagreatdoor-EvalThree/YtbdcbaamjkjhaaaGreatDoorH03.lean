/- Part 3 of 35. -/
import Derived.Test.YtbdcbaamjkjhaaaGreatDoorH02
import Derived.Lib.Bytealg
namespace Go.Proofs.YtbdcbaamjkjhaaaGreatDoor
open Go.RowKit

theorem ixW (k : Nat) (hk : k < 39) (W : World) : (Instr.index 187 (.agg nameCells.toArray) (.int .i64 (k : Int))).run Tryz.prog W = .ok (.string (keepL.getD k ⟨#[]⟩)) W :=
  match k, hk with
  | 0, _ => by kernel_rfl
  | 1, _ => by kernel_rfl
  | 2, _ => by kernel_rfl
  | 3, _ => by kernel_rfl
  | 4, _ => by kernel_rfl
  | 5, _ => by kernel_rfl
  | 6, _ => by kernel_rfl
  | 7, _ => by kernel_rfl
  | 8, _ => by kernel_rfl
  | 9, _ => by kernel_rfl
  | 10, _ => by kernel_rfl
  | 11, _ => by kernel_rfl
  | 12, _ => by kernel_rfl
  | 13, _ => by kernel_rfl
  | 14, _ => by kernel_rfl
  | 15, _ => by kernel_rfl
  | 16, _ => by kernel_rfl
  | 17, _ => by kernel_rfl
  | 18, _ => by kernel_rfl
  | 19, _ => by kernel_rfl
  | 20, _ => by kernel_rfl
  | 21, _ => by kernel_rfl
  | 22, _ => by kernel_rfl
  | 23, _ => by kernel_rfl
  | 24, _ => by kernel_rfl
  | 25, _ => by kernel_rfl
  | 26, _ => by kernel_rfl
  | 27, _ => by kernel_rfl
  | 28, _ => by kernel_rfl
  | 29, _ => by kernel_rfl
  | 30, _ => by kernel_rfl
  | 31, _ => by kernel_rfl
  | 32, _ => by kernel_rfl
  | 33, _ => by kernel_rfl
  | 34, _ => by kernel_rfl
  | 35, _ => by kernel_rfl
  | 36, _ => by kernel_rfl
  | 37, _ => by kernel_rfl
  | 38, _ => by kernel_rfl
  | n + 39, h => absurd h (by omega)
theorem keep_step (k : Nat) (hk : k < 39) (s : ByteArray) : ((keepL.drop k).any fun x => decide (x = s)) = (decide (keepL.getD k ⟨#[]⟩ = s) || (keepL.drop (k + 1)).any fun x => decide (x = s)) := by
  have e : keepL.getD k ⟨#[]⟩ = keepL[k]'hk := by simp [List.getD, show k < keepL.length from hk]; rfl
  rw [List.drop_eq_getElem_cons (show k < keepL.length from hk), List.any_cons, e]; rfl
set_option maxRecDepth 100000 in
set_option maxHeartbeats 8000000 in
theorem isName_any (A : Nat) (l : List KT) (b : Bool) (hb : nameB l = b) (w : World) (h : RdIs A l w) : Calls Tryz.prog 122 #[.pointer (some ⟨A, 0, none⟩)] w fun e w' => e = .returned (.bool b) ∧ Below w.heap.size w w' := by
  have H : Hid (RdIs A l w) := h
  generalize hk : (hdT l).1 = k at *
  generalize ht : (hdT l).2 = t at *
  have HE : Hid ((hdT l).1 = k ∧ (hdT l).2 = t) := ⟨hk, ht⟩
  have HN : Hid (nameB l = (decide (k = 1) && !((keepL.drop 0).any fun x => decide (x = t)))) := by show nameB l = _; unfold nameB; rw [hk, ht]; rfl
  have HB : Hid (nameB l = b) := hb
  clear h hb hk ht
  go_enter Tryz.func122, Tryz.ntmps122
  go_wp2_with fail
  refine (now_any A l w H.out).mono ?_
  rintro _ w1 ⟨⟨p, rfl⟩, hb1⟩
  rw [HE.out.1, HE.out.2]
  have HB1 : Hid (Below w.heap.size w w1) := hb1
  have HS1 : Hid (w.heap.size ≤ w1.heap.size) := hb1.size
  obtain ⟨W, hW⟩ : ∃ W, w1.alloc (.cells #[.int .i64 k, .string t, .int .i64 p] 100) = W := ⟨_, rfl⟩
  have hbW : Below w1.heap.size w1 W := by rw [← hW]; exact (Below.refl _ _).alloc (Nat.le_refl _) _
  have HV : Hid (VrAt W) := ((H.out.below hb1).below hbW).vr
  have HBW : Hid (Below w.heap.size w W) := hb1.trans (hbW.mono hb1.size)
  have z0 : W.cell? ⟨w1.heap.size, 0, none⟩ = some (.int .i64 k) := by rw [← hW]; simp [go_sem]
  have z1 : W.cell? ⟨w1.heap.size, 1, none⟩ = some (.string t) := by rw [← hW]; simp [go_sem]
  have hsz : (Tryz.prog.info? 187).map (·.size) = some nameCells.length := by kernel_rfl
  clear hb1 hbW
  by_cases hk1 : k = 1
  · subst hk1
    have HN' : Hid (((keepL.drop 0).any fun x => decide (x = t)) = !b) := by
      show _ = _
      have h1 := HN.out
      rw [HB.out, decide_eq_true rfl, Bool.true_and] at h1
      rw [h1]; simp
    clear HN HB
    go_wp2_with (refine wpList_load_mid rfl 187 _ rfl _ 0 rfl nameCells _ HV.out.nm Tryz.underlying187 rfl hsz ?_)
    clear hsz
    go_loopw [12] (fun i wr => ∃ k : Nat, k ≤ 39 ∧ i = .int .i64 k ∧ Hid (((keepL.drop k).any fun x => decide (x = t)) = !b) ∧ wr = W) (fun i _ => 39 - (intOf i).toNat)
    case atStart => exact ⟨0, Nat.zero_le _, rfl, HN', rfl⟩
    case round =>
      clear HN'
      obtain ⟨k, hk, rfl, he, rfl⟩ := hrel
      by_cases hlt : k < 39
      · have hix := ixW k hlt wr
        have hst := he.out
        rw [keep_step k hlt] at hst
        generalize keepL.getD k ⟨#[]⟩ = m at *
        have hk' : (k : Int) < 39 := by omega
        by_cases hm : m = t
        · subst hm
          rw [decide_eq_true rfl, Bool.true_or] at hst
          have hbf : b = false := by cases b; rfl; cases hst
          subst hbf
          clear he hst
          have d1 : (m.toList == m.toList) = true := by simp
          go_wp2
          go_ret
          exact ⟨rfl, HBW.out⟩
        · rw [decide_eq_false hm, Bool.false_or] at hst
          have HS : Hid (((keepL.drop (k + 1)).any fun x => decide (x = t)) = !b) := hst
          have d1 : (t.toList == m.toList) = false := by rw [ba_beq]; exact decide_eq_false (fun e => hm e.symm)
          clear he hst hm
          go_wp2
          go_roundw
          case rel => exact ⟨k + 1, by omega, by go_num, HS, trivial⟩
          case measure => simp [intOf]; omega
      · obtain rfl : k = 39 := by omega
        have e : true = b := by have := he.out; cases b; cases this; rfl
        subst e
        clear he
        go_wp2
        go_ret
        exact ⟨rfl, HBW.out⟩
  · have d1 : (k != 1) = true := by simpa using hk1
    have e : false = b := by rw [← HB.out, HN.out, decide_eq_false hk1]; rfl
    subst e
    clear HN HB hk1 hsz
    go_wp2
    go_ret
    exact ⟨rfl, HBW.out⟩
/-- what name tells -/
def ToldN (A : Nat) (R : Option (ByteArray × List KT)) (w : World) (e : Ending) (w' : World) : Prop :=
  w.grownBy w' (some A) ∧ ((∃ x l, R = some (x, l) ∧ e = .returned (.string x) ∧ RdIs A l w' ∧ x.size ≤ 16) ∨ (R = none ∧ Thr e))
set_option maxHeartbeats 2000000 in
theorem name_any (A : Nat) (l : List KT) (w : World) (h : RdIs A l w) : Calls Tryz.prog 91 #[.pointer (some ⟨A, 0, none⟩)] w fun e w' => ToldN A (nameF l) w e w' := by
  have H : Hid (RdIs A l w) := h
  obtain ⟨b, hb⟩ : ∃ b, nameB l = b := ⟨_, rfl⟩
  have HB : Hid (nameB l = b) := hb
  generalize hk : (hdT l).1 = k at *
  generalize ht : (hdT l).2 = t at *
  have HE : Hid ((hdT l).1 = k ∧ (hdT l).2 = t) := ⟨hk, ht⟩
  have HN : Hid (nameF l = if b = true ∧ t.size ≤ 16 then some (t, l.tail) else none) := by show nameF l = _; unfold nameF; rw [ht, hb]
  have hts := h.ok.size
  rw [ht] at hts
  clear h hb hk ht
  have hf := field1 k
  go_enter Tryz.func91, Tryz.ntmps91
  go_wp2_with fail
  refine (isName_any A l b HB.out w H.out).mono ?_
  rintro _ w1 ⟨rfl, hb1⟩
  have H1 : Hid (RdIs A l w1 ∧ w.grownBy w1 (some A)) := ⟨H.out.below hb1, grown_of_belowA hb1 _⟩
  clear hb1
  cases b
  · go_wp2_with fail
    refine (must_no A l w1 H1.out.1).mono ?_
    rintro _ w2 ⟨⟨n, p, rfl⟩, hb2⟩
    have HG : Hid (w.grownBy w2 (some A)) := H1.out.2.trans (grown_of_belowA hb2 _)
    clear hb2
    go_wp2
    exact ⟨by first | rfl | trivial, HG.out, .inr ⟨by rw [HN.out]; rfl, n, p, rfl⟩⟩
  · have HK : Hid ((hdT l).1 ≠ 5) := by
      show (hdT l).1 ≠ 5
      have := HB.out
      simp only [nameB, Bool.and_eq_true, decide_eq_true_eq] at this
      omega
    go_wp2_with fail
    refine (must_yes A w1).mono ?_
    rintro _ w2 ⟨rfl, rfl⟩
    go_wp2_with fail
    refine (now_any A l w2 H1.out.1).mono ?_
    rintro _ w3 ⟨⟨p, rfl⟩, hb3⟩
    rw [HE.out.1, HE.out.2]
    have H3 : Hid (RdIs A l w3 ∧ w.grownBy w3 (some A)) := ⟨H1.out.1.below hb3, H1.out.2.trans (grown_of_belowA hb3 _)⟩
    clear hb3
    by_cases h16 : t.size ≤ 16
    · have HN' : Hid (nameF l = some (t, l.tail)) := by show _ = _; rw [HN.out]; simp [h16]
      go_wp2_with fail
      refine (most_yes A (t.size : Int) 16 (by omega) w3).mono ?_
      rintro _ w4 ⟨rfl, rfl⟩
      go_wp2_with fail
      refine (take_any A l w4 H3.out.1 HK.out).mono ?_
      rintro _ w5 ⟨rfl, hr5, hg5⟩
      have H5 : Hid (RdIs A l.tail w5 ∧ w.grownBy w5 (some A)) := ⟨hr5, H3.out.2.trans hg5⟩
      clear hr5 hg5
      go_wp2
      go_ret
      exact ⟨H5.out.2, .inl ⟨t, _, HN'.out, rfl, H5.out.1, h16⟩⟩
    · have HN' : Hid (nameF l = none) := by show _ = _; rw [HN.out, if_neg (fun h => h16 h.2)]
      go_wp2_with fail
      refine (most_no A l (t.size : Int) 16 (by omega) w3 H3.out.1).mono ?_
      rintro _ w4 ⟨⟨n, p, rfl⟩, hb4⟩
      have HG : Hid (w.grownBy w4 (some A)) := H3.out.2.trans (grown_of_belowA hb4 _)
      clear hb4
      go_wp2
      exact ⟨by first | rfl | trivial, HG.out, .inr ⟨HN'.out, n, p, rfl⟩⟩
end Go.Proofs.YtbdcbaamjkjhaaaGreatDoor
namespace Go.Proofs.YtbdcbaamjkjhaaaGreatDoor
open Go.RowKit

def lexF (i n : Nat) (l : List UInt8) : Except (Int × Nat) (List Tok) := lexL l.length i n l
theorem lexF_blank {c : UInt8} (h : blankC c = true) (i n : Nat) (l : List UInt8) : lexF i n (c :: l) = lexF (i + 1) n l := by
  unfold lexF
  rw [List.length_cons, lexL, if_pos h]
theorem lexF_gap (g : List UInt8) : ∀ i n l, (∀ c ∈ g, blankC c = true) → lexF i n (g ++ l) = lexF (i + g.length) n l := by
  induction g with
  | nil => intro i n l _; rfl
  | cons c g ih =>
    intro i n l h
    rw [List.cons_append, lexF_blank (h c (by simp)), ih _ _ _ (fun d hd => h d (by simp [hd])), List.length_cons, show i + 1 + g.length = i + (g.length + 1) by omega]
theorem lexF_tok {c : UInt8} {l : List UInt8} {k : Int} {t : List UInt8} {m : Nat} (hb : blankC c = false) (h : nextT (c :: l) = some (k, t, m)) {n : Nat} (hn : ¬ ((k = 2 ∧ 19 < m) ∨ n = 200)) (i : Nat) :
    lexF i n (c :: l) = (lexF (i + m) (n + 1) ((c :: l).drop m)).map (⟨k, ⟨t.toArray⟩, i⟩ :: ·) := by
  have hp := nextT_pos h
  unfold lexF
  rw [List.length_cons, lexL, if_neg (by rw [hb]; decide), h]
  simp only
  rw [if_neg hn, lexL_fuel l.length ((c :: l).drop m).length (i + m) (n + 1) ((c :: l).drop m) (by rw [List.length_drop, List.length_cons]; omega) (Nat.le_refl _)]
/-- a byte in the other size -/
def upN (x : Nat) : Nat := if 97 ≤ x ∧ x ≤ 122 then x - 32 else x
def upC (c : UInt8) : UInt8 := UInt8.ofNat (upN c.toNat)
def upL (l : List UInt8) : List UInt8 := l.map upC
/-- a quote is written as two -/
def esc : List UInt8 → List UInt8
  | [] => []
  | c :: l => if c.toNat = 39 then c :: c :: esc l else c :: esc l
/-- what a token is written as -/
def wr (up : Bool) (x : Tok) : List UInt8 :=
  if x.k = 3 then 39 :: (esc x.t.data.toList ++ [39]) else if x.k = 1 ∧ up = true then upL x.t.data.toList else x.t.data.toList
/-- a token that is cut so wherever a blank stands behind it -/
def Canon (x : Tok) : Prop := (x.k = 2 → x.t.size ≤ 19) ∧ ∀ (up : Bool) (r : List UInt8), (∀ c ∈ r.head?, blankC c = true) →
  ∃ c l, wr up x = c :: l ∧ blankC c = false ∧ nextT (wr up x ++ r) = some (x.k, x.t.data.toList, (wr up x).length)

theorem byte_facts : ∀ n : Fin 256, (blankC n.val.toUInt8 = true → wordC n.val.toUInt8 = false ∧ isDg n.val.toUInt8 = false ∧ n.val.toUInt8.toNat ≠ 39 ∧ n.val.toUInt8.toNat ≠ 62 ∧ n.val.toUInt8.toNat ≠ 61) ∧
    (wordC n.val.toUInt8 = true → blankC n.val.toUInt8 = false ∧ wordC (low n.val.toUInt8) = true ∧ wordC (upC (low n.val.toUInt8)) = true ∧ low (low n.val.toUInt8) = low n.val.toUInt8 ∧ low (upC (low n.val.toUInt8)) = low n.val.toUInt8) ∧
    (isAl n.val.toUInt8 = true → isAl (low n.val.toUInt8) = true ∧ isAl (upC (low n.val.toUInt8)) = true) ∧ (markC n.val.toUInt8 = true → blankC n.val.toUInt8 = false) := by decide +kernel
theorem byte_at (c : UInt8) : (blankC c = true → wordC c = false ∧ isDg c = false ∧ c.toNat ≠ 39 ∧ c.toNat ≠ 62 ∧ c.toNat ≠ 61) ∧
    (wordC c = true → blankC c = false ∧ wordC (low c) = true ∧ wordC (upC (low c)) = true ∧ low (low c) = low c ∧ low (upC (low c)) = low c) ∧
    (isAl c = true → isAl (low c) = true ∧ isAl (upC (low c)) = true) ∧ (markC c = true → blankC c = false) := by
  have h := byte_facts ⟨c.toNat, UInt8.toNat_lt c⟩
  rw [show c.toNat.toUInt8 = c by simp] at h
  exact h
theorem while_all {p : UInt8 → Bool} (l r : List UInt8) (hl : ∀ c ∈ l, p c = true) (hr : ∀ c ∈ r.head?, p c = false) : (l ++ r).takeWhile p = l := by
  induction l with
  | nil =>
    cases r with
    | nil => rfl
    | cons c r => rw [List.nil_append, List.takeWhile_cons_of_neg (by rw [hr c rfl]; decide)]
  | cons c l ih => rw [List.cons_append, List.takeWhile_cons_of_pos (hl c (by simp)), ih (fun d hd => hl d (by simp [hd]))]
theorem strL_esc (t : List UInt8) (r : List UInt8) (hr : ∀ c ∈ r.head?, blankC c = true) : strL (esc t ++ 39 :: r) = some (t, (esc t).length + 1) := by
  induction t with
  | nil =>
    cases r with
    | nil => rfl
    | cons d r =>
      have h := ((byte_at d).1 (hr d rfl)).2.2.1
      show strL (39 :: d :: r) = _
      rw [strL, if_pos (show UInt8.toNat 39 = 39 from rfl), if_neg h]; rfl
  | cons c t ih =>
    rw [esc]
    by_cases hc : c.toNat = 39
    · rw [if_pos hc, List.cons_append, List.cons_append, strL, if_pos hc, if_pos hc, ih]
      rfl
    · rw [if_neg hc, List.cons_append]
      have key : ∀ l : List UInt8, l ≠ [] → strL (c :: l) = (strL l).map (fun x => (c :: x.1, x.2 + 1)) := by
        intro l hl
        cases l with
        | nil => exact absurd rfl hl
        | cons d l => rw [strL, if_neg hc]
      rw [key _ (by simp), ih]
      rfl
theorem canon_of {l : List UInt8} {k : Int} {t : List UInt8} {m p : Nat} (h : nextT l = some (k, t, m)) (hk : k = 2 → m ≤ 19) : Canon ⟨k, ⟨t.toArray⟩, p⟩ := by
  cases l with
  | nil => cases h
  | cons c l =>
    rw [nextT] at h
    split at h
    · rename_i hc
      cases h
      refine ⟨fun e => by simp at e, fun up r hr => ?_⟩
      have hw : ∀ d ∈ l.takeWhile wordC, wordC d = true := by
        have := List.all_takeWhile (p := wordC) (l := l)
        rw [List.all_eq_true] at this
        exact this
      have hcw : wordC c = true := by rw [wordC, hc]; rfl
      have hrw : ∀ d ∈ r.head?, wordC d = false := fun d hd => ((byte_at d).1 (hr d hd)).1
      generalize l.takeWhile wordC = tw at *
      have key : ∀ f : UInt8 → UInt8, (∀ d, wordC d = true → wordC (f d) = true ∧ low (f d) = low d) → isAl (f c) = true →
          nextT ((c :: tw).map f ++ r) = some (1, smallL (c :: tw), ((c :: tw).map f).length) := by
        intro f hf hfc
        rw [List.map_cons, List.cons_append, nextT, if_pos hfc, while_all _ _ (fun d hd => by
          obtain ⟨e, he, rfl⟩ := List.mem_map.1 hd
          exact (hf e (hw e he)).1) hrw]
        have e : smallL (f c :: tw.map f) = smallL (c :: tw) := by
          unfold smallL
          rw [List.map_cons, List.map_cons, (hf c hcw).2, List.map_map]
          congr 1
          exact List.map_congr_left fun d hd => (hf d (hw d hd)).2
        rw [e, List.length_cons]
      cases up with
      | false =>
        refine ⟨low c, tw.map low, ?_, ?_, ?_⟩
        · simp [wr, smallL]
        · exact ((byte_at (low c)).2.1 ((byte_at c).2.1 hcw).2.1).1
        · have := key low (fun d hd => ⟨((byte_at d).2.1 hd).2.1, ((byte_at d).2.1 hd).2.2.2.1⟩) ((byte_at c).2.2.1 hc).1
          simpa [wr, smallL] using this
      | true =>
        refine ⟨upC (low c), (tw.map low).map upC, ?_, ?_, ?_⟩
        · simp [wr, smallL, upL]
        · exact ((byte_at (upC (low c))).2.1 ((byte_at c).2.1 hcw).2.2.1).1
        · have := key (fun d => upC (low d)) (fun d hd => ⟨((byte_at d).2.1 hd).2.2.1, ((byte_at d).2.1 hd).2.2.2.2⟩) ((byte_at c).2.2.1 hc).2
          simpa [wr, smallL, upL, Function.comp_def] using this
    · rename_i hc
      split at h
      · rename_i hd
        cases h
        have hm := hk rfl
        have hw : ∀ d ∈ l.takeWhile isDg, isDg d = true := by
          have := List.all_takeWhile (p := isDg) (l := l)
          rw [List.all_eq_true] at this
          exact this
        generalize l.takeWhile isDg = tw at *
        refine ⟨fun _ => ?_, fun up r hr => ?_⟩
        · show (⟨(c :: tw).toArray⟩ : ByteArray).size ≤ 19
          rw [← ba_len]; simpa using hm
        · have hrw : ∀ d ∈ r.head?, isDg d = false := fun d hd => ((byte_at d).1 (hr d hd)).2.1
          have e : wr up ⟨2, ⟨(c :: tw).toArray⟩, p⟩ = c :: tw := by simp [wr]
          rw [e]
          refine ⟨c, tw, rfl, ((byte_at c).2.1 (by rw [wordC, hd]; simp)).1, ?_⟩
          rw [List.cons_append, nextT, if_neg hc, if_pos hd, while_all _ _ hw hrw]
          rfl
      · rename_i hd
        split at h
        · rename_i hq
          rw [Option.map_eq_some_iff] at h
          obtain ⟨x, _, e⟩ := h
          cases e
          obtain rfl : c = 39 := UInt8.toNat_inj.1 hq
          refine ⟨fun e => by simp at e, fun up r hr => ?_⟩
          have e : wr up ⟨3, ⟨x.1.toArray⟩, p⟩ = 39 :: (esc x.1 ++ [39]) := by simp [wr]
          rw [e]
          refine ⟨39, _, rfl, by decide, ?_⟩
          rw [List.cons_append, nextT, if_neg (by decide), if_neg (by decide), if_pos (show UInt8.toNat 39 = 39 from rfl), List.append_assoc, List.singleton_append, strL_esc _ _ hr]
          simp
        · rename_i hq
          split at h
          · rename_i hmk
            have e := Option.some.inj h
            have hcb := (byte_at c).2.2.2 hmk
            have one : ∀ (up : Bool) (r : List UInt8), (∀ d ∈ r.head?, blankC d = true) → ∃ c' l', wr up ⟨4, ⟨#[c]⟩, p⟩ = c' :: l' ∧ blankC c' = false ∧ nextT (wr up ⟨4, ⟨#[c]⟩, p⟩ ++ r) = some (4, [c], (wr up ⟨4, ⟨#[c]⟩, p⟩).length) := by
              intro up r hr
              have e : wr up ⟨4, ⟨#[c]⟩, p⟩ = [c] := by simp [wr]
              rw [e]
              refine ⟨c, [], rfl, hcb, ?_⟩
              rw [List.singleton_append, nextT, if_neg hc, if_neg hd, if_neg hq, if_pos hmk]
              cases r with
              | nil => rfl
              | cons d r =>
                have hb := (byte_at d).1 (hr d rfl)
                rw [markT, if_neg (by simp [twoC, hb.2.2.2.1, hb.2.2.2.2])]; rfl
            cases l with
            | nil => rw [markT] at e; cases e; exact ⟨fun e => by simp at e, one⟩
            | cons d l =>
              rw [markT] at e
              split at e
              · rename_i h2
                cases e
                refine ⟨fun e => by simp at e, fun up r hr => ?_⟩
                have e : wr up ⟨4, ⟨[c, d].toArray⟩, p⟩ = [c, d] := by simp [wr]
                rw [e]
                refine ⟨c, [d], rfl, hcb, ?_⟩
                rw [List.cons_append, nextT, if_neg hc, if_neg hd, if_neg hq, if_pos hmk, List.singleton_append, markT, if_pos h2]
                rfl
              · cases e; exact ⟨fun e => by simp at e, one⟩
          · cases h
end Go.Proofs.YtbdcbaamjkjhaaaGreatDoor
namespace Go.Proofs.YtbdcbaamjkjhaaaGreatDoor
open Go.RowKit

set_option maxRecDepth 100000 in
set_option maxHeartbeats 1000000 in
theorem ix_lite (s : ByteArray) (c : Int) (w : World) : Calls Tryz.prog 139 #[.string s, .int .u8 c] w fun e w' => e = .returned (.int .i64 (Lib.indexByte s.data.toList c.toNat.toUInt8)) ∧ w' = w := by
  go_enter Tryz.func139, Tryz.ntmps139
  go_wp2
  rw [run_callFunc_extern Tryz.func158 (by kernel_rfl) (by kernel_rfl) (by kernel_rfl) (e := Extern.BytealgIndexByte.indexByte) (by kernel_rfl), Lib.run_indexByteString]
  simp only [Result.andThen]
  rw [Oper.upon_value]
  go_wp2
  go_ret
  exact ⟨rfl, rfl⟩
set_option maxRecDepth 100000 in
set_option maxHeartbeats 1000000 in
theorem strings_ix (s : ByteArray) (c : Int) (w : World) : Calls Tryz.prog 113 #[.string s, .int .u8 c] w fun e w' => e = .returned (.int .i64 (Lib.indexByte s.data.toList c.toNat.toUInt8)) ∧ w' = w := by
  go_enter Tryz.func113, Tryz.ntmps113
  go_wp2_with (go_at_call 139; refine (ix_lite _ _ _).mono ?_; rintro e w' ⟨rfl, rfl⟩)
  go_ret
  exact ⟨rfl, rfl⟩
end Go.Proofs.YtbdcbaamjkjhaaaGreatDoor
namespace Go.Proofs.YtbdcbaamjkjhaaaGreatDoor
open Go.RowKit

/-- where a run of such bytes ends -/
def endW (p : UInt8 → Bool) (s : ByteArray) (k : Nat) : Nat := k + ((s.data.toList.drop k).takeWhile p).length
theorem endW_step {p : UInt8 → Bool} {s : ByteArray} {k : Nat} (h : k < s.size) (hp : p s[k] = true) : endW p s k = endW p s (k + 1) := by
  unfold endW
  rw [drop_at s k h, List.takeWhile_cons_of_pos hp, List.length_cons]
  omega
theorem endW_stop {p : UInt8 → Bool} {s : ByteArray} {k : Nat} (h : k < s.size) (hp : p s[k] = false) : endW p s k = k := by
  unfold endW
  rw [drop_at s k h, List.takeWhile_cons_of_neg (by rw [hp]; decide)]
  rfl
theorem endW_end {p : UInt8 → Bool} {s : ByteArray} {k : Nat} (h : s.size ≤ k) : endW p s k = k := by
  unfold endW
  rw [List.drop_eq_nil_of_le (by rw [ba_len]; exact h)]
  rfl
theorem endW_ge (p : UInt8 → Bool) (s : ByteArray) (k : Nat) : k ≤ endW p s k := by unfold endW; omega
theorem endW_le {p : UInt8 → Bool} {s : ByteArray} {k : Nat} (h : k ≤ s.size) : endW p s k ≤ s.size := by
  unfold endW
  have h1 := (List.takeWhile_sublist p (l := s.data.toList.drop k)).length_le
  rw [List.length_drop, ba_len] at h1
  omega
theorem take_while {α : Type} (p : α → Bool) (l : List α) : l.take (l.takeWhile p).length = l.takeWhile p := by
  have h := List.takeWhile_prefix p (l := l)
  exact (List.prefix_iff_eq_take.1 h).symm
theorem ext_take (s : ByteArray) (i n : Nat) (h : i < s.size) (L : List UInt8) (hL : (s.data.toList.drop (i + 1)).take n = L) : s.extract i (i + 1 + n) = ⟨(s[i] :: L).toArray⟩ := by
  apply ba_ext
  rw [ba_extract, List.drop_take, drop_at s i h, show i + 1 + n - i = n + 1 by omega, List.take_succ_cons, hL]
theorem endW_at (p : UInt8 → Bool) (s : ByteArray) (k : Nat) : endW p s k = k + ((s.data.toList.drop k).takeWhile p).length := rfl
theorem ext_end (p : UInt8 → Bool) (s : ByteArray) (i : Nat) (h : i < s.size) : s.extract i (endW p s (i + 1)) = ⟨(s[i] :: (s.data.toList.drop (i + 1)).takeWhile p).toArray⟩ := by
  rw [endW_at]
  exact ext_take s i _ h _ (take_while _ _)
theorem ext_two (s : ByteArray) (i : Nat) (h : i + 1 < s.size) : s.extract i (i + 1 + 1) = ⟨#[s[i], s[i + 1]]⟩ := by
  have e : (s.data.toList.drop (i + 1)).take 1 = [s[i + 1]] := by rw [drop_at s (i + 1) h]; rfl
  have := ext_take s i 1 (by omega) _ e
  rw [this]
theorem ext_one (s : ByteArray) (i : Nat) (h : i < s.size) : s.extract i (i + 1) = ⟨#[s[i]]⟩ := by
  have := ext_take s i 0 h [] List.take_zero
  exact this
/-- what is read so far, and what follows -/
def Lx (s : ByteArray) (R : Except (Int × Nat) (List Tok)) (i f : Nat) (L : List Tok) : Prop := (lexL f i L.length (s.data.toList.drop i)).map (L ++ ·) = R ∧ s.size - i ≤ f
theorem map_tok (L : List Tok) (x : Tok) (o : Except (Int × Nat) (List Tok)) : (o.map (x :: ·)).map (L ++ ·) = o.map ((L ++ [x]) ++ ·) := by
  cases o with
  | error e => rfl
  | ok M => show Except.ok _ = Except.ok _; simp
theorem lx_start (s : ByteArray) : Lx s (lexS s) 0 s.size [] := by
  refine ⟨?_, by omega⟩
  unfold lexS
  rw [List.drop_zero]
  show Except.map _ (lexL s.size 0 0 s.data.toList) = _
  cases lexL s.size 0 0 s.data.toList <;> rfl
theorem lx_end {s : ByteArray} {R : Except (Int × Nat) (List Tok)} {f : Nat} {L : List Tok} (h : Lx s R s.size f L) : R = .ok (L ++ [⟨5, ⟨#[]⟩, s.size⟩]) := by
  rw [← h.1, List.drop_eq_nil_of_le (by rw [ba_len]; omega)]
  cases f <;> rfl
theorem lx_more {s : ByteArray} {R : Except (Int × Nat) (List Tok)} {i f : Nat} {L : List Tok} (h : Lx s R i f L) (hi : i < s.size) : ∃ f', f = f' + 1 := by
  cases f with
  | zero => have := h.2; omega
  | succ f => exact ⟨f, rfl⟩
theorem lx_blank {s : ByteArray} {R : Except (Int × Nat) (List Tok)} {i f : Nat} {L : List Tok} (h : Lx s R i (f + 1) L) (hi : i < s.size) (hb : blankC s[i] = true) : Lx s R (i + 1) f L := by
  refine ⟨?_, by have := h.2; omega⟩
  have h1 := h.1
  rw [drop_at s i hi, lexL, if_pos hb] at h1
  exact h1
theorem lx_none {s : ByteArray} {R : Except (Int × Nat) (List Tok)} {i f : Nat} {L : List Tok} (h : Lx s R i (f + 1) L) (hi : i < s.size) (hb : blankC s[i] = false) (hn : nextT (s[i] :: s.data.toList.drop (i + 1)) = none) : R = .error (3, i) := by
  have h1 := h.1
  rw [drop_at s i hi, lexL, if_neg (by rw [hb]; decide), hn] at h1
  exact h1.symm
theorem lx_lim {s : ByteArray} {R : Except (Int × Nat) (List Tok)} {i f : Nat} {L : List Tok} (h : Lx s R i (f + 1) L) (hi : i < s.size) (hb : blankC s[i] = false) {k : Int} {t : List UInt8} {m : Nat} (hn : nextT (s[i] :: s.data.toList.drop (i + 1)) = some (k, t, m)) (hl : (k = 2 ∧ 19 < m) ∨ L.length = 200) : R = .error (4, i) := by
  have h1 := h.1
  rw [drop_at s i hi, lexL, if_neg (by rw [hb]; decide), hn] at h1
  simp only at h1
  rw [if_pos hl] at h1
  exact h1.symm
theorem lx_tok {s : ByteArray} {R : Except (Int × Nat) (List Tok)} {i f : Nat} {L : List Tok} (h : Lx s R i (f + 1) L) (hi : i < s.size) (hb : blankC s[i] = false) {k : Int} {t : List UInt8} {m : Nat} (hn : nextT (s[i] :: s.data.toList.drop (i + 1)) = some (k, t, m)) (hl : ¬ ((k = 2 ∧ 19 < m) ∨ L.length = 200)) : Lx s R (i + m) f (L ++ [⟨k, ⟨t.toArray⟩, i⟩]) ∧ i + m ≤ s.size ∧ 0 < m := by
  have hp := nextT_pos hn
  rw [List.length_cons, List.length_drop, ba_len] at hp
  refine ⟨⟨?_, by have := h.2; omega⟩, by omega, hp.1⟩
  have h1 := h.1
  rw [drop_at s i hi, lexL, if_neg (by rw [hb]; decide), hn] at h1
  simp only at h1
  rw [if_neg hl, map_tok, ← drop_at s i hi, List.drop_drop] at h1
  rw [List.length_append]
  exact h1
theorem ba_mk (t : ByteArray) : (⟨t.data.toList.toArray⟩ : ByteArray) = t := ba_ext (by simp)
theorem lx_tokB {s : ByteArray} {R : Except (Int × Nat) (List Tok)} {i f : Nat} {L : List Tok} (h : Lx s R i (f + 1) L) (hi : i < s.size) (hb : blankC s[i] = false) {k : Int} {tb : ByteArray} {m : Nat} (hn : nextT (s[i] :: s.data.toList.drop (i + 1)) = some (k, tb.data.toList, m)) (hl : ¬ ((k = 2 ∧ 19 < m) ∨ L.length = 200)) : Lx s R (i + m) f (L ++ [⟨k, tb, i⟩]) ∧ i + m ≤ s.size ∧ 0 < m := by
  have := lx_tok h hi hb hn hl
  rw [ba_mk] at this
  exact this
theorem str_s1 {s : ByteArray} {k : Nat} (h : k < s.size) (hy : s[k].toNat = 39) (hk : k + 1 = s.size) : strL (s.data.toList.drop k) = some ([], 1) := by
  rw [drop_at s k h, List.drop_eq_nil_of_le (by rw [ba_len]; omega), strL, if_pos hy]
theorem str_s2 {s : ByteArray} {k : Nat} (h : k < s.size) (hy : s[k].toNat = 39) (hk : k + 1 < s.size) (hz : s[k + 1].toNat ≠ 39) : strL (s.data.toList.drop k) = some ([], 1) := by
  rw [drop_at s k h, drop_at s (k + 1) hk, strL, if_pos hy, if_neg hz]
theorem str_s3 {s : ByteArray} {k : Nat} (h : k < s.size) (hy : s[k].toNat = 39) (hk : k + 1 < s.size) (hz : s[k + 1].toNat = 39) : strL (s.data.toList.drop k) = (strL (s.data.toList.drop (k + 1 + 1))).map (fun x => (s[k + 1] :: x.1, x.2 + 2)) := by
  rw [drop_at s k h, drop_at s (k + 1) hk, strL, if_pos hy, if_pos hz]
theorem str_s4 {s : ByteArray} {k : Nat} (h : k < s.size) (hy : s[k].toNat ≠ 39) : strL (s.data.toList.drop k) = (strL (s.data.toList.drop (k + 1))).map (fun x => (s[k] :: x.1, x.2 + 1)) := by
  rw [drop_at s k h]
  cases s.data.toList.drop (k + 1) with
  | nil =>
    show strL [s[k]] = none
    simp only [strL, if_neg hy]
  | cons d r => rw [strL, if_neg hy]
/-- what is read so far between quotes, and what follows -/
def Sx (s : ByteArray) (S : Option (List UInt8 × Nat)) (i k : Nat) (tx : ByteArray) : Prop := (strL (s.data.toList.drop k)).map (fun y => (tx.data.toList ++ y.1, k - (i + 1) + y.2)) = S
theorem ba_app (a b : ByteArray) : (a ++ b).data.toList = a.data.toList ++ b.data.toList := by simp
theorem sx_start (s : ByteArray) (i : Nat) : Sx s (strL (s.data.toList.drop (i + 1))) i (i + 1) ⟨#[]⟩ := by
  unfold Sx
  cases strL (s.data.toList.drop (i + 1)) with
  | none => rfl
  | some y => simp
theorem sx_end {s : ByteArray} {S : Option (List UInt8 × Nat)} {i : Nat} {tx : ByteArray} (h : Sx s S i s.size tx) : S = none := by
  rw [← h, List.drop_eq_nil_of_le (by rw [ba_len]; omega)]; rfl
theorem sx_stop {s : ByteArray} {S : Option (List UInt8 × Nat)} {i k : Nat} {tx : ByteArray} (h : Sx s S i k tx) (h1 : strL (s.data.toList.drop k) = some ([], 1)) : S = some (tx.data.toList, k - (i + 1) + 1) := by
  rw [← h, h1]; simp
theorem sx_one {s : ByteArray} {S : Option (List UInt8 × Nat)} {i k : Nat} {tx : ByteArray} (h : Sx s S i k tx) (hi : i + 1 ≤ k) (hk : k < s.size) (hy : s[k].toNat ≠ 39) : Sx s S i (k + 1) (tx ++ s.extract k (k + 1)) := by
  unfold Sx at *
  rw [str_s4 hk hy, Option.map_map] at h
  rw [← h]
  congr 1
  funext y
  rw [ba_app, ext_one s k hk]
  simp
  omega
theorem sx_two {s : ByteArray} {S : Option (List UInt8 × Nat)} {i k : Nat} {tx : ByteArray} (h : Sx s S i k tx) (hi : i + 1 ≤ k) (hk : k < s.size) (hy : s[k].toNat = 39) (hk1 : k + 1 < s.size) (hz : s[k + 1].toNat = 39) : Sx s S i (k + 1 + 1) (tx ++ s.extract (k + 1) (k + 1 + 1)) := by
  unfold Sx at *
  rw [str_s3 hk hy hk1 hz, Option.map_map] at h
  rw [← h]
  congr 1
  funext y
  rw [ba_app, ext_one s (k + 1) hk1]
  simp
  omega
/-- a token's cells, between quotes -/
def TokAt (wo : World) (i : Nat) (tx : ByteArray) (wx : World) : Prop := Below wo.heap.size wo wx ∧ (wx.cell? ⟨wo.heap.size, 0, none⟩ = some (.int .i64 3) ∧ wx.cell? ⟨wo.heap.size, 1, none⟩ = some (.string tx) ∧ wx.cell? ⟨wo.heap.size, 2, none⟩ = some (.int .i64 (i : Int))) ∧ wx.frozen? ⟨wo.heap.size, 1, none⟩ = false
theorem TokAt.set {wo : World} {i : Nat} {tx : ByteArray} {wx : World} (h : TokAt wo i tx wx) (ty : ByteArray) : TokAt wo i ty (wx.setCell ⟨wo.heap.size, 1, none⟩ (.string ty)) := by
  obtain ⟨h1, ⟨c0, c1, c2⟩, f⟩ := h
  refine ⟨h1.setCell (Nat.le_refl _) _, ⟨?_, World.cell?_setCell_same _ _ _ c1, ?_⟩, by rw [World.frozen?_setCell]; exact f⟩
  · rw [World.cell?_setCell_other _ _ _ _ (fun e => by cases e)]; exact c0
  · rw [World.cell?_setCell_other _ _ _ _ (fun e => by cases e)]; exact c2
theorem TokAt.drew {wo : World} {i : Nat} {tx : ByteArray} {wx : World} (h : TokAt wo i tx wx) : TokAt wo i tx wx.drew := ⟨h.1.drew, h.2⟩
theorem tok_quote {wo wt : World} {i : Nat} (hb : Below wo.heap.size wo wt) (t0 : wt.cell? ⟨wo.heap.size, 0, none⟩ = some (.int .i64 0)) (t1 : wt.cell? ⟨wo.heap.size, 1, none⟩ = some (.string ⟨#[]⟩)) (t2 : wt.cell? ⟨wo.heap.size, 2, none⟩ = some (.int .i64 (i : Int))) (z1 : wt.frozen? ⟨wo.heap.size, 1, none⟩ = false) : TokAt wo i ⟨#[]⟩ (wt.setCell ⟨wo.heap.size, 0, none⟩ (.int .i64 3)) := by
  refine ⟨hb.setCell (Nat.le_refl _) _, ⟨World.cell?_setCell_same _ _ _ t0, ?_, ?_⟩, by rw [World.frozen?_setCell]; exact z1⟩
  · rw [World.cell?_setCell_other _ _ _ _ (fun e => by cases e)]; exact t1
  · rw [World.cell?_setCell_other _ _ _ _ (fun e => by cases e)]; exact t2
/-- a token's first two cells, laid anew -/
theorem tok_set {T : Nat} {w : World} {a0 a1 a2 : Value} (c0 : w.cell? ⟨T, 0, none⟩ = some a0) (c1 : w.cell? ⟨T, 1, none⟩ = some a1) (c2 : w.cell? ⟨T, 2, none⟩ = some a2) (v0 v1 : Value) :
    ((w.setCell ⟨T, 0, none⟩ v0).setCell ⟨T, 1, none⟩ v1).cell? ⟨T, 0, none⟩ = some v0 ∧ ((w.setCell ⟨T, 0, none⟩ v0).setCell ⟨T, 1, none⟩ v1).cell? ⟨T, 1, none⟩ = some v1 ∧ ((w.setCell ⟨T, 0, none⟩ v0).setCell ⟨T, 1, none⟩ v1).cell? ⟨T, 2, none⟩ = some a2 := by
  refine ⟨?_, ?_, ?_⟩
  · rw [World.cell?_setCell_other _ _ _ _ (fun e => by cases e)]
    exact World.cell?_setCell_same _ _ _ c0
  · exact World.cell?_setCell_same _ _ _ (by rw [World.cell?_setCell_other _ _ _ _ (fun e => by cases e)]; exact c1)
  · rw [World.cell?_setCell_other _ _ _ _ (fun e => by cases e), World.cell?_setCell_other _ _ _ _ (fun e => by cases e)]; exact c2
theorem own_keep {w w' : World} {B B' : Nat} {t : TypeId} {z : Nat} {v : Value} {n : Nat} {xs : List Value} (h : w.ownsRow B t z v n xs) (hB : B' ≤ B) (hk : ∀ g, B ≤ g → w'.heap[g]? = w.heap[g]?) : w'.ownsRow B' t z v n xs := by
  refine ⟨h.1, ?_⟩
  rcases h.2 with h2 | ⟨g, cap, cur, h1, h2, h3, h4⟩
  · exact .inl h2
  · exact .inr ⟨g, cap, cur, h1, Nat.le_trans hB h2, by rw [hk g h2]; exact h3, h4⟩
theorem one_tok (x : Tok) : ∀ u ∈ tc [x], u.oneCell' = true := by
  intro u hu
  simp [tc] at hu
  rcases hu with rfl | rfl | rfl <;> rfl
theorem news_tok (w : World) (x : Tok) (t : TypeId) : ∀ j u, (tc [x])[j]? = some u → (w.alloc (.cells #[.int .i64 x.k, .string x.t, .int .i64 x.p] t)).cell? ((⟨w.heap.size, 0, none⟩ : Addr).add j) = some u := by
  intro j u hj
  rw [Go.WideShapes.add_plain]
  have hj3 : j = 0 ∨ j = 1 ∨ j = 2 := by
    have := (List.getElem?_eq_some_iff.1 hj).1
    simp [tc] at this
    omega
  rcases hj3 with rfl | rfl | rfl <;> (simp [tc] at hj; subst hj; simp)
theorem results_tc {P : Program} {fn : Func} {p t : Tmp} {ty : TypeId} {v : Value} (h : fn.results = #[.tmp t, .cell p ty]) (tmps : Array Value) (w : World) (a : Addr) (hp : tmps.getD p undef = .pointer (some a)) (hl : (loadVar ty a).run P w = .ok v w) :
    (results fn tmps).run P w = .ok (.tuple #[tmps.getD t undef, v]) w := by
  have hp' : tmps[p]?.getD undef = .pointer (some a) := by simpa [Array.getD_eq_getD_getElem?] using hp
  simp [results, h, hp', asAddr, hl]

end Go.Proofs.YtbdcbaamjkjhaaaGreatDoor
namespace Go.Proofs.YtbdcbaamjkjhaaaGreatDoor
open Go.RowKit

def notZ (c : UInt8) : Bool := decide (c.toNat ≠ 0)
set_option maxHeartbeats 2000000 in
theorem letters_any (s : ByteArray) (E : Nat) (hE : endW notZ s 0 = E) (w : World) (hs : s.size ≤ 100000) : Calls Tryz.prog 63 #[.string s] w fun e w' => e = .returned (.int .i64 (E : Int)) ∧ w' = w := by
  have HE : Hid (endW notZ s 0 = E) := hE
  clear hE
  go_enter Tryz.func63, Tryz.ntmps63
  go_wp2
  go_loopw [6] (fun i wr => ∃ j : Nat, j ≤ s.size ∧ i = .int .i64 j ∧ Hid (endW notZ s j = E) ∧ wr = w) (fun i _ => s.size - (intOf i).toNat)
  case atStart => exact ⟨0, Nat.zero_le _, rfl, HE, rfl⟩
  case round =>
    clear HE
    obtain ⟨j, hj, rfl, hej, rfl⟩ := hrel
    by_cases hjs : j < s.size
    · have hjs' : (j : Int) < (s.size : Int) := by omega
      obtain ⟨y, hy⟩ : ∃ y, s[j].toNat = y := ⟨_, rfl⟩
      by_cases hz : y = 0
      · have e : j = E := by rw [← hej.out, endW_stop hjs (show notZ s[j] = false by unfold notZ; rw [hy, hz]; rfl)]
        subst e
        subst hz
        clear hej
        go_wp2
        go_ret
        exact ⟨rfl, rfl⟩
      · have HE2 : Hid (endW notZ s (j + 1) = E) := by show _ = _; rw [← endW_step hjs (show notZ s[j] = true by unfold notZ; rw [hy]; simpa using hz)]; exact hej.out
        have d1 : ((y : Int) == 0) = false := by rw [beq_eq_false_iff_ne]; omega
        clear hej hz
        go_wp2
        go_roundw
        case rel => exact ⟨j + 1, by omega, by go_num, HE2, trivial⟩
        case measure => simp [intOf]; omega
    · have hjs' : ¬ (j : Int) < (s.size : Int) := by omega
      obtain rfl : j = s.size := by omega
      have e : s.size = E := by rw [← hej.out, endW_end (Nat.le_refl _)]
      subst e
      clear hej
      go_wp2
      go_ret
      exact ⟨rfl, rfl⟩
theorem all_while {p : UInt8 → Bool} (l : List UInt8) : l.all p = decide ((l.takeWhile p).length = l.length) := by
  induction l with
  | nil => rfl
  | cons c l ih =>
    rw [List.all_cons]
    cases hc : p c
    · rw [List.takeWhile_cons_of_neg (by rw [hc]; decide)]
      simp
    · rw [List.takeWhile_cons_of_pos hc, ih]
      simp
theorem rightText_any (s : ByteArray) (b : Bool) (hb : rightT s = b) (w : World) (hs : s.size ≤ 4000) : Calls Tryz.prog 32 #[.string s] w fun e w' => e = .returned (.bool b) ∧ w' = w := by
  obtain ⟨E, hE⟩ : ∃ E, endW notZ s 0 = E := ⟨_, rfl⟩
  have HE : Hid (endW notZ s 0 = E) := hE
  have hr : rightT s = (decide (s.size ≤ 40) && decide (E = s.size)) := by
    rw [← hE, endW, List.drop_zero, Nat.zero_add]
    unfold rightT
    rw [show (fun c : UInt8 => decide (c.toNat ≠ 0)) = notZ from rfl, all_while, ba_len]
  have HB : Hid (b = (decide (s.size ≤ 40) && decide (E = s.size))) := by show _ = _; rw [← hb, hr]
  clear hr hb hE
  by_cases h40 : s.size ≤ 40
  · have d1 : decide ((s.size : Int) ≤ 40) = true := decide_eq_true (by omega)
    obtain ⟨b2, h2⟩ : ∃ b2, ((E : Int) == (s.size : Int)) = b2 := ⟨_, rfl⟩
    have HB2 : Hid (b = b2) := by
      show _ = _
      rw [HB.out, decide_eq_true h40, Bool.true_and, ← h2, Bool.eq_iff_iff]
      simp
      omega
    clear HB
    go_enter Tryz.func32, Tryz.ntmps32
    go_wp2_with (go_at_call 63; refine (letters_any s E HE.out _ (by omega)).mono ?_; rintro _ _ ⟨rfl, rfl⟩)
    go_ret
    exact ⟨ret_bool (by rw [HB2.out]), rfl⟩
  · have d1 : decide ((s.size : Int) ≤ 40) = false := decide_eq_false (by omega)
    have HB2 : Hid (b = false) := by show _ = _; rw [HB.out, decide_eq_false h40]; rfl
    clear HB h40
    go_enter Tryz.func32, Tryz.ntmps32
    go_wp2
    go_ret
    exact ⟨ret_bool (by rw [HB2.out]), rfl⟩
set_option maxHeartbeats 2000000 in
theorem vRight_any (s : ByteArray) (b : Bool) (hb : rightT s = b) (w : World) (hs : s.size ≤ 4000) : Calls Tryz.prog 11 #[.agg #[.int .i64 2, .int .i64 0, .string s]] w fun e w' => e = .returned (.bool b) ∧ Below w.heap.size w w' := by
  have HB : Hid (rightT s = b) := hb
  clear hb
  go_enter Tryz.func11, Tryz.ntmps11
  go_wp2_with (go_at_call 32; refine (rightText_any s b HB.out _ hs).mono ?_; rintro _ _ ⟨rfl, rfl⟩)
  go_ret
  exact ⟨rfl, (Below.refl _ _).alloc (Nat.le_refl _) _⟩
set_option maxHeartbeats 2000000 in
theorem pRight_any (s : ByteArray) (b : Bool) (hb : rightT s = b) (w : World) (hs : s.size ≤ 4000) : Calls Tryz.prog 199 #[.agg #[.int .i64 2, .int .i64 0, .string s]] w fun e w' => e = .returned (.bool b) ∧ Below w.heap.size w w' := by
  have HB : Hid (rightT s = b) := hb
  clear hb
  go_enter Tryz.func199, Tryz.ntmps199
  go_wp2_with fail
  refine (vRight_any s b HB.out _ hs).mono ?_
  rintro _ w1 ⟨rfl, hb1⟩
  have H1 : Hid (Below w.heap.size w w1) := ((Below.refl _ _).alloc (Nat.le_refl _) _).trans (hb1.mono (by simp))
  clear hb1
  go_wp2
  go_ret
  exact ⟨rfl, H1.out⟩
/-- what text and number tell -/
def ToldV (A : Nat) (R : Option (Vl × List KT)) (w : World) (e : Ending) (w' : World) : Prop :=
  w.grownBy w' (some A) ∧ ((∃ v l, R = some (v, l) ∧ e = .returned (.agg #[.int .i64 v.k, .int .i64 v.n, .string v.t]) ∧ RdIs A l w') ∨ (R = none ∧ Thr e))
def PIntSpec : Prop := ∀ (s : ByteArray) (w : World), s.size ≤ 4000 → VrAt w → Calls Tryz.prog 208 #[.string s, .int .i64 10, .int .i64 64] w fun e w' => ∃ n E, e = .returned (.tuple #[.int .i64 n, E]) ∧ ((Lib.parseIntB 64 s.data.toList = .ok n ∧ E = .nilIface) ∨ ((∀ m, Lib.parseIntB 64 s.data.toList ≠ .ok m) ∧ ∃ t v, E = .iface t v)) ∧ Below w.heap.size w w'
theorem grown_new {A b : Nat} {w u : World} (h : w.grownBy u (some A)) (hb : w.heap.size ≤ b) (o : Nat) (v : Value) : w.grownBy (u.setCell ⟨b, o, none⟩ v) (some A) :=
  ⟨h.os, h.tape, h.output, by simpa [World.setCell] using h.size, fun k hk hne => by rw [Below.heap_setCell u ⟨b, o, none⟩ v k (fun e => by simp only at e; omega)]; exact h.block k hk hne⟩
set_option maxRecDepth 100000 in
set_option maxHeartbeats 4000000 in
theorem number_any (hPI : PIntSpec) (A : Nat) (l : List KT) (hk2 : (hdT l).1 = 2) (w : World) (h : RdIs A l w) : Calls Tryz.prog 205 #[.pointer (some ⟨A, 0, none⟩)] w fun e w' => ToldV A (numF l) w e w' := by
  have HPI : Hid PIntSpec := hPI
  obtain ⟨W, hW⟩ : ∃ W, w.alloc (.cells #[.int .i64 0, .int .i64 0, .string ⟨#[]⟩] 39) = W := ⟨_, rfl⟩
  have hbW : Below w.heap.size w W := by rw [← hW]; exact (Below.refl _ _).alloc (Nat.le_refl _) _
  have hzW : W.heap.size = w.heap.size + 1 := by rw [← hW]; simp
  have hnW : W.heap[w.heap.size]? = some (.cells #[.int .i64 0, .int .i64 0, .string ⟨#[]⟩] 39 (0, 0)) := by rw [← hW]; exact heap_alloc_new _ _
  have HW : Hid (RdIs A l W ∧ Below w.heap.size w W) := ⟨h.below hbW, hbW⟩
  have hA := h.lt
  generalize ht : (hdT l).2 = t at *
  have HE : Hid ((hdT l).1 = 2 ∧ (hdT l).2 = t) := ⟨hk2, ht⟩
  have hts := h.ok.size
  rw [ht] at hts
  have HN : Hid ((∀ n, Lib.parseIntB 64 t.data.toList = .ok n → numF l = some (⟨1, n, ⟨#[]⟩⟩, l.tail)) ∧ ((∀ n, Lib.parseIntB 64 t.data.toList ≠ .ok n) → numF l = none)) := by
    constructor
    · intro n hn; unfold numF; rw [ht, hn]
    · intro hn
      unfold numF
      rw [ht]
      split
      · rename_i m hm; exact absurd hm (hn m)
      · rfl
  have HKeep : Hid (∀ wx, W.grownBy wx (some A) → wx.heap[w.heap.size]? = some (.cells #[.int .i64 0, .int .i64 0, .string ⟨#[]⟩] 39 (0, 0))) := fun wx hg => by
    rw [hg.block w.heap.size (by omega) (fun e => by cases e; omega)]; exact hnW
  clear h hbW hk2 ht hPI hnW
  have hf := field1 2
  have hf2 := field2 2
  go_enter Tryz.func205, Tryz.ntmps205
  go_wp2_with fail
  refine (now_any A l W HW.out.1).mono ?_
  rintro _ w1 ⟨⟨p, rfl⟩, hb1⟩
  rw [HE.out.1, HE.out.2]
  have H1 : Hid (RdIs A l w1 ∧ Below W.heap.size W w1) := ⟨HW.out.1.below hb1, hb1⟩
  clear hb1
  go_wp2_with fail
  refine (HPI.out t w1 (by omega) H1.out.1.vr).mono ?_
  rintro _ w2 ⟨n, E, rfl, hE, hb2⟩
  have H2 : Hid (RdIs A l w2 ∧ W.grownBy w2 (some A)) := ⟨H1.out.1.below hb2, (grown_of_belowA H1.out.2 _).trans (grown_of_belowA hb2 _)⟩
  clear hb2 hW
  rcases hE with ⟨hn, rfl⟩ | ⟨hn, te, ve, rfl⟩
  · have HR : Hid (numF l = some (⟨1, n, ⟨#[]⟩⟩, l.tail)) := HN.out.1 n hn
    clear hn
    go_wp2_with fail
    refine (take_any A l w2 H2.out.1 (by rw [HE.out.1]; decide)).mono ?_
    rintro _ w3 ⟨rfl, hr3, hg3⟩
    have hk3 := HKeep.out w3 (H2.out.2.trans hg3)
    have c0 : w3.cell? ⟨w.heap.size, 0, none⟩ = some (.int .i64 0) := by simp [World.cell?, hk3]
    have c1 : w3.cell? ⟨w.heap.size, 1, none⟩ = some (.int .i64 0) := by simp [World.cell?, hk3]
    have c2 : w3.cell? ⟨w.heap.size, 2, none⟩ = some (.string ⟨#[]⟩) := by simp [World.cell?, hk3]
    have f0 : ∀ i, w3.frozen? ⟨w.heap.size, i, none⟩ = false := fun i => by simp [World.frozen?, hk3]
    have H3 : Hid (RdIs A l.tail w3 ∧ w.grownBy w3 (some A)) := ⟨hr3, (grown_of_belowA HW.out.2 _).trans (H2.out.2.trans hg3)⟩
    clear hr3 hg3 hk3
    go_wp2
    refine bodyPost_ret (v := .agg #[.int .i64 1, .int .i64 n, .string ⟨#[]⟩]) (results_c Tryz.results205 _ _ _ rfl ?_) rfl ?_
    · simp [go_sem, c0, c1, c2]
    · exact ⟨grown_new (grown_new (grown_new H3.out.2 (Nat.le_refl _) _ _) (Nat.le_refl _) _ _) (Nat.le_refl _) _ _, .inl ⟨_, _, HR.out, rfl, ((H3.out.1.set hA _ _).set hA _ _).set hA _ _⟩⟩
  · have HR : Hid (numF l = none) := HN.out.2 hn
    clear hn
    go_wp2_with fail
    refine (now_any A l w2 H2.out.1).mono ?_
    rintro _ w3 ⟨⟨p3, rfl⟩, hb3⟩
    rw [HE.out.1, HE.out.2]
    have H3 : Hid (w.grownBy w3 (some A)) := (grown_of_belowA HW.out.2 _).trans (H2.out.2.trans (grown_of_belowA hb3 _))
    clear hb3
    go_wp2
    exact ⟨by first | rfl | trivial, H3.out, .inr ⟨HR.out, 4, p3, rfl⟩⟩
end Go.Proofs.YtbdcbaamjkjhaaaGreatDoor
namespace Go.Proofs.YtbdcbaamjkjhaaaGreatDoor
open Go.RowKit

theorem str_add (x y : ByteArray) (h : x.size + y.size ≤ 1000000) : Op.stringOp .add x y = pure (.string (x ++ y)) := by
  have hn : ¬ (((x.size + y.size : Nat) : Int) > IntKind.i64.max) := by
    have : IntKind.i64.max = 9223372036854775807 := by decide
    omega
  simp only [Op.stringOp, if_neg hn]
/-- a block -/
def Blk (b : Nat) (cs : Array Value) (T : Nat) (w : World) : Prop := w.heap[b]? = some (.cells cs T (0, 0))
theorem Blk.cell {b : Nat} {cs : Array Value} {T : Nat} {w : World} (h : Blk b cs T w) (i : Nat) : w.cell? ⟨b, i, none⟩ = cs[i]? := by
  have h' : w.heap[b]? = some (.cells cs T (0, 0)) := h
  simp [World.cell?, h']
theorem Blk.free {b : Nat} {cs : Array Value} {T : Nat} {w : World} (h : Blk b cs T w) (i : Nat) : w.frozen? ⟨b, i, none⟩ = false := by
  have h' : w.heap[b]? = some (.cells cs T (0, 0)) := h
  simp [World.frozen?, h']
theorem Blk.lt {b : Nat} {cs : Array Value} {T : Nat} {w : World} (h : Blk b cs T w) : b < w.heap.size := (Array.getElem?_eq_some_iff.1 h).1
theorem Blk.set {b : Nat} {cs : Array Value} {T : Nat} {w : World} (h : Blk b cs T w) (i : Nat) (v : Value) : Blk b (cs.setIfInBounds i v) T (w.setCell ⟨b, i, none⟩ v) := by
  have h' : w.heap[b]? = some (.cells cs T (0, 0)) := h
  simp [Blk, World.setCell, Array.getElem?_modify, h']
theorem Blk.other {b c : Nat} {cs : Array Value} {T : Nat} {w : World} (h : Blk b cs T w) (hc : c ≠ b) (i : Nat) (v : Value) : Blk b cs T (w.setCell ⟨c, i, none⟩ v) := by
  show (w.setCell ⟨c, i, none⟩ v).heap[b]? = _
  rw [Below.heap_setCell w ⟨c, i, none⟩ v b (fun e => hc (by simpa using e.symm))]; exact h
theorem Blk.keep {b A : Nat} {cs : Array Value} {T : Nat} {w w' : World} (h : Blk b cs T w) (hb : b ≠ A) (hg : w.grownBy w' (some A)) : Blk b cs T w' := by
  show w'.heap[b]? = _
  rw [hg.block b h.lt (fun e => by cases e; exact hb rfl)]; exact h
theorem Blk.below {b : Nat} {cs : Array Value} {T : Nat} {w w' : World} (h : Blk b cs T w) (hg : Below w.heap.size w w') : Blk b cs T w' := by
  show w'.heap[b]? = _
  rw [hg.block b h.lt]; exact h
theorem Blk.new (w : World) (cs : Array Value) (T : Nat) : Blk w.heap.size cs T (w.alloc (.cells cs T)) := heap_alloc_new _ _
set_option maxRecDepth 100000 in
set_option maxHeartbeats 8000000 in
theorem text_any (A : Nat) (l : List KT) (w : World) (h : RdIs A l w) : Calls Tryz.prog 192 #[.pointer (some ⟨A, 0, none⟩)] w fun e w' => ToldV A (textF l) w e w' := by
  obtain ⟨W, hW⟩ : ∃ W, w.alloc (.cells #[.int .i64 0, .int .i64 0, .string ⟨#[]⟩] 39) = W := ⟨_, rfl⟩
  have hbW : Below w.heap.size w W := by rw [← hW]; exact (Below.refl _ _).alloc (Nat.le_refl _) _
  have hzW : W.heap.size = w.heap.size + 1 := by rw [← hW]; simp
  have hnW : Blk w.heap.size #[.int .i64 0, .int .i64 0, .string ⟨#[]⟩] 39 W := by rw [← hW]; exact Blk.new _ _ _
  have HW : Hid (RdIs A l W ∧ Below w.heap.size w W ∧ Blk w.heap.size #[.int .i64 0, .int .i64 0, .string ⟨#[]⟩] 39 W) := ⟨h.below hbW, hbW, hnW⟩
  have hA := h.lt
  generalize hk : (hdT l).1 = k at *
  generalize ht : (hdT l).2 = t at *
  have HE : Hid ((hdT l).1 = k ∧ (hdT l).2 = t) := ⟨hk, ht⟩
  have hts := h.ok.size
  rw [ht] at hts
  obtain ⟨b, hb⟩ : ∃ b, rightT t = b := ⟨_, rfl⟩
  have HB : Hid (rightT t = b) := hb
  have HN : Hid (textF l = if k = 3 ∧ b = true then some (⟨2, 0, t⟩, l.tail) else none) := by show textF l = _; unfold textF; rw [hk, ht, hb]
  clear h hbW hk ht hnW hb
  go_enter Tryz.func192, Tryz.ntmps192
  go_wp2_with fail
  refine (now_any A l W HW.out.1).mono ?_
  rintro _ w1 ⟨⟨p, rfl⟩, hb1⟩
  rw [HE.out.1, HE.out.2]
  obtain ⟨V, hV⟩ : ∃ V, w1.alloc (.cells #[.int .i64 k, .string t, .int .i64 p] 100) = V := ⟨_, rfl⟩
  have hbV : Below w1.heap.size w1 V := by rw [← hV]; exact (Below.refl _ _).alloc (Nat.le_refl _) _
  have hs1 := hb1.size
  have z0 : V.cell? ⟨w1.heap.size, 0, none⟩ = some (.int .i64 k) := by rw [← hV]; simp [go_sem]
  have z1 : V.cell? ⟨w1.heap.size, 1, none⟩ = some (.string t) := by rw [← hV]; simp [go_sem]
  have z2 : V.cell? ⟨w1.heap.size, 2, none⟩ = some (.int .i64 p) := by rw [← hV]; simp [go_sem]
  have hzV : w1.heap.size < V.heap.size := by rw [← hV]; simp
  have HV : Hid (RdIs A l V ∧ Below W.heap.size W V) := ⟨(HW.out.1.below hb1).below hbV, hb1.trans (hbV.mono hs1)⟩
  clear hb1 hbV hW
  by_cases hk3 : k = 3
  · subst hk3
    go_wp2_with fail
    refine (must_yes A V).mono ?_
    rintro _ w2 ⟨rfl, rfl⟩
    obtain ⟨U, hU⟩ : ∃ U, w2.alloc (.cells #[.int .i64 2, .int .i64 0, .string t] 39) = U := ⟨_, rfl⟩
    have hbU : Below w2.heap.size w2 U := by rw [← hU]; exact (Below.refl _ _).alloc (Nat.le_refl _) _
    have hnU : Blk w2.heap.size #[.int .i64 2, .int .i64 0, .string t] 39 U := by rw [← hU]; exact Blk.new _ _ _
    have HU : Hid (RdIs A l U ∧ Below W.heap.size W U ∧ Blk w2.heap.size #[.int .i64 2, .int .i64 0, .string t] 39 U) := ⟨HV.out.1.below hbU, HV.out.2.trans (hbU.mono HV.out.2.size), hnU⟩
    have y0 : U.cell? ⟨w2.heap.size, 0, none⟩ = some (.int .i64 2) := by rw [hnU.cell 0]; rfl
    have y1 : U.cell? ⟨w2.heap.size, 1, none⟩ = some (.int .i64 0) := by rw [hnU.cell 1]; rfl
    have y2 : U.cell? ⟨w2.heap.size, 2, none⟩ = some (.string t) := by rw [hnU.cell 2]; rfl
    have HZ2 : Hid (∀ wx, Below U.heap.size U wx → wx.cell? ⟨w1.heap.size, 2, none⟩ = some (.int .i64 p)) := fun wx hb => by
      rw [hb.cell (p := ⟨w1.heap.size, 2, none⟩) (by have := hbU.size; simp only; omega), hbU.cell (p := ⟨w1.heap.size, 2, none⟩) (by simp only; omega)]; exact z2
    clear hbU hnU
    go_wp2_with fail
    refine (pRight_any t b HB.out U (by omega)).mono ?_
    rintro _ w3 ⟨rfl, hb3⟩
    have x2 := HZ2.out w3 hb3
    have H3 : Hid (RdIs A l w3 ∧ W.grownBy w3 (some A) ∧ Blk w2.heap.size #[.int .i64 2, .int .i64 0, .string t] 39 w3) := ⟨HU.out.1.below hb3, (grown_of_belowA HU.out.2.1 _).trans (grown_of_belowA hb3 _), HU.out.2.2.below hb3⟩
    clear hb3 y0 y1 y2 z0 z1 z2 hU hV
    cases b
    · have HR : Hid (textF l = none) := by show _ = _; rw [HN.out]; simp
      have HG : Hid (w.grownBy w3 (some A)) := (grown_of_belowA HW.out.2.1 _).trans H3.out.2.1
      go_wp2
      exact ⟨by first | rfl | trivial, HG.out, .inr ⟨HR.out, 4, p, rfl⟩⟩
    · have HR : Hid (textF l = some (⟨2, 0, t⟩, l.tail)) := by show _ = _; rw [HN.out]; simp
      have hw2A : w2.heap.size ≠ A := by have := HV.out.1.lt; omega
      clear x2
      go_wp2_with fail
      refine (take_any A l w3 H3.out.1 (by rw [HE.out.1]; decide)).mono ?_
      rintro _ w4 ⟨rfl, hr4, hg4⟩
      have hk4 := HW.out.2.2.keep (by omega) (H3.out.2.1.trans hg4)
      have hk5 := H3.out.2.2.keep hw2A hg4
      have c0 : w4.cell? ⟨w.heap.size, 0, none⟩ = some (.int .i64 0) := by rw [hk4.cell 0]; rfl
      have c1 : w4.cell? ⟨w.heap.size, 1, none⟩ = some (.int .i64 0) := by rw [hk4.cell 1]; rfl
      have c2 : w4.cell? ⟨w.heap.size, 2, none⟩ = some (.string ⟨#[]⟩) := by rw [hk4.cell 2]; rfl
      have d0 : w4.cell? ⟨w2.heap.size, 0, none⟩ = some (.int .i64 2) := by rw [hk5.cell 0]; rfl
      have d1 : w4.cell? ⟨w2.heap.size, 1, none⟩ = some (.int .i64 0) := by rw [hk5.cell 1]; rfl
      have d2 : w4.cell? ⟨w2.heap.size, 2, none⟩ = some (.string t) := by rw [hk5.cell 2]; rfl
      have f0 : ∀ i, w4.frozen? ⟨w.heap.size, i, none⟩ = false := fun i => hk4.free i
      have H4 : Hid (RdIs A l.tail w4 ∧ w.grownBy w4 (some A)) := ⟨hr4, (grown_of_belowA HW.out.2.1 _).trans (H3.out.2.1.trans hg4)⟩
      clear hr4 hg4 hk4 hk5
      go_wp2
      refine bodyPost_ret (v := .agg #[.int .i64 2, .int .i64 0, .string t]) (results_c Tryz.results192 _ _ _ rfl ?_) rfl ?_
      · simp [go_sem, c0, c1, c2]
      · exact ⟨grown_new (grown_new (grown_new H4.out.2 (Nat.le_refl _) _ _) (Nat.le_refl _) _ _) (Nat.le_refl _) _ _, .inl ⟨_, _, HR.out, rfl, ((H4.out.1.set hA _ _).set hA _ _).set hA _ _⟩⟩
  · have d3 : (k == 3) = false := by rw [beq_eq_false_iff_ne]; exact hk3
    have HR : Hid (textF l = none) := by show _ = _; rw [HN.out, if_neg (fun h => hk3 h.1)]
    clear hk3
    go_wp2_with fail
    refine (must_no A l V HV.out.1).mono ?_
    rintro _ w2 ⟨⟨n1, m1, rfl⟩, hb2⟩
    have HG : Hid (w.grownBy w2 (some A)) := (grown_of_belowA HW.out.2.1 _).trans ((grown_of_belowA HV.out.2 _).trans (grown_of_belowA hb2 _))
    clear hb2
    go_wp2
    exact ⟨by first | rfl | trivial, HG.out, .inr ⟨HR.out, n1, m1, rfl⟩⟩
set_option maxRecDepth 100000 in
set_option maxHeartbeats 4000000 in
theorem col_any (A : Nat) (l : List KT) (w : World) (h : RdIs A l w) : Calls Tryz.prog 207 #[.pointer (some ⟨A, 0, none⟩)] w fun e w' => Told A (colF l) w e w' := by
  have H : Hid (RdIs A l w) := h
  obtain ⟨q0, hq0⟩ : ∃ q0, w.heap.size - 1 = q0 := ⟨_, rfl⟩
  have HQ : Hid (q0 < w.heap.size) := by have := h.lt; show _ < _; omega
  obtain ⟨R, hR⟩ : ∃ R, colF l = R := ⟨_, rfl⟩
  have HR : Hid (colF l = R) := hR
  unfold Told
  rw [hR, hq0]
  clear h hR hq0
  go_enter Tryz.func207, Tryz.ntmps207
  go_wp2_with fail
  refine (name_any A l w H.out).mono ?_
  rintro _ w1 ⟨hg1, ⟨x, l1, hn1, rfl, hr1, hx⟩ | ⟨hn1, n1, m1, rfl⟩⟩
  · have H1 : Hid (RdIs A l1 w1 ∧ w.grownBy w1 (some A)) := ⟨hr1, hg1⟩
    obtain ⟨b, hb⟩ : ∃ b, isT ⟨#[46]⟩ l1 = b := ⟨_, rfl⟩
    have HB : Hid (isT ⟨#[46]⟩ l1 = b) := hb
    have HR1 : Hid (R = if b then (nameF l1.tail).map (fun y => (.node 2 .none (x ++ (⟨#[46]⟩ ++ y.1)) .nil .nil, y.2)) else some (.node 2 .none x .nil .nil, l1)) := by
      show _ = _
      rw [← HR.out]
      unfold colF
      rw [hn1]
      simp only [Option.bind_some]
      rw [hb]
    clear hg1 hn1 hr1 hb HR
    go_wp2_with fail
    refine (has_any A l1 ⟨#[46]⟩ b HB.out w1 H1.out.1).mono ?_
    rintro _ w2 ⟨rfl, hr2, hg2⟩
    have H2 : Hid (RdIs A (if b then l1.tail else l1) w2 ∧ w.grownBy w2 (some A)) := ⟨hr2, H1.out.2.trans hg2⟩
    clear hr2 hg2
    cases b
    · have HB2 : Hid _ := box_told (w0 := w) HQ.out 2 .none x none none .nil .nil H2.out.1 (exNil _ _) (exNil _ _) H2.out.2
      go_wp2
      go_ret
      exact ⟨HB2.out.1, .inl ⟨_, _, _, HR1.out, rfl, HB2.out.2.1, HB2.out.2.2⟩⟩
    · go_wp2_with fail
      refine (name_any A l1.tail w2 H2.out.1).mono ?_
      rintro _ w3 ⟨hg3, ⟨y, l3, hn3, rfl, hr3, hy⟩ | ⟨hn3, n1, m1, rfl⟩⟩
      · have HR3 : Hid (R = some (.node 2 .none (x ++ (⟨#[46]⟩ ++ y)) .nil .nil, l3)) := by show _ = _; rw [HR1.out, hn3]; rfl
        have HB3 : Hid _ := box_told (w0 := w) HQ.out 2 .none (x ++ (⟨#[46]⟩ ++ y)) none none .nil .nil hr3 (exNil _ _) (exNil _ _) (H2.out.2.trans hg3)
        have hp : (⟨#[46]⟩ : ByteArray).size = 1 := rfl
        have e1 := str_add ⟨#[46]⟩ y (by rw [hp]; omega)
        have e2 := str_add x (⟨#[46]⟩ ++ y) (by rw [ByteArray.size_append, hp]; omega)
        clear hn3 hg3 hr3 hp
        go_wp2
        go_ret
        exact ⟨HB3.out.1, .inl ⟨_, _, _, HR3.out, rfl, HB3.out.2.1, HB3.out.2.2⟩⟩
      · have HG : Hid (w.grownBy w3 (some A)) := H2.out.2.trans hg3
        clear hg3
        go_wp2
        exact ⟨by first | rfl | trivial, HG.out, .inr ⟨by rw [HR1.out, hn3]; rfl, n1, m1, rfl⟩⟩
  · go_wp2
    exact ⟨by first | rfl | trivial, hg1, .inr ⟨by rw [← HR.out]; unfold colF; rw [hn1]; rfl, n1, m1, rfl⟩⟩
set_option maxRecDepth 100000 in
set_option maxHeartbeats 4000000 in
theorem null_any (A q0 : Nat) (e : Ex) (p : Option Addr) (l : List KT) (w : World) (hq : A ≤ q0 ∧ q0 < w.heap.size) (h : RdIs A l w) (hx : ExIs q0 w p e) : Calls Tryz.prog 191 #[.pointer (some ⟨A, 0, none⟩), .pointer p] w fun en w' =>
    w.grownBy w' (some A) ∧ ((∃ x l2 p2, nullF e l = some (x, l2) ∧ en = .returned (.pointer p2) ∧ ExIs q0 w' p2 x ∧ RdIs A l2 w') ∨ (nullF e l = none ∧ Thr en)) := by
  have HQ : Hid (A ≤ q0 ∧ q0 < w.heap.size) := hq
  have HB1 : Hid _ := box_told (w0 := w) hq.2 5 .none ⟨#[]⟩ p none e .nil h hx (exNil _ _) (grownA_refl _ _)
  obtain ⟨R, hR⟩ : ∃ R, nullF e l = R := ⟨_, rfl⟩
  rw [hR]
  obtain ⟨b, hb⟩ : ∃ b, isT ⟨#[110, 111, 116]⟩ l = b := ⟨_, rfl⟩
  have HB : Hid (isT ⟨#[110, 111, 116]⟩ l = b) := hb
  have HR : Hid (R = if b then (needF ⟨#[110, 117, 108, 108]⟩ l.tail).map (fun l2 => (.two 4 (.two 5 e .nil) .nil, l2)) else (needF ⟨#[110, 117, 108, 108]⟩ l).map (fun l2 => (.two 5 e .nil, l2))) := by
    show _ = _
    rw [← hR]; unfold nullF; rw [hb]
  clear hq h hx hR hb
  go_enter Tryz.func191, Tryz.ntmps191
  go_wp2_with fail
  refine (has_any A l ⟨#[110, 111, 116]⟩ b HB.out _ HB1.out.2.2).mono ?_
  rintro _ w2 ⟨rfl, hr2, hg2⟩
  have H2 : Hid (RdIs A (if b then l.tail else l) w2 ∧ w.grownBy w2 (some A) ∧ ExIs q0 w2 (some ⟨w.heap.size, 0, none⟩) (.two 5 e .nil)) := ⟨hr2, HB1.out.1.trans hg2, ExIs.grownN HQ.out.1 hg2 HB1.out.2.1⟩
  clear hr2 hg2
  cases b
  · go_wp2_with fail
    refine (need_any A l ⟨#[110, 117, 108, 108]⟩ w2 H2.out.1).mono ?_
    rintro _ w3 ⟨hg3, ⟨l3, hn3, rfl, hr3⟩ | ⟨hn3, n1, m1, rfl⟩⟩
    · have H3 : Hid (w.grownBy w3 (some A) ∧ R = some (.two 5 e .nil, l3) ∧ ExIs q0 w3 (some ⟨w.heap.size, 0, none⟩) (.two 5 e .nil) ∧ RdIs A l3 w3) := ⟨H2.out.2.1.trans hg3, by rw [HR.out, hn3]; rfl, ExIs.grownN HQ.out.1 hg3 H2.out.2.2, hr3⟩
      clear hg3 hn3 hr3
      go_wp2
      go_ret
      exact ⟨H3.out.1, .inl ⟨_, _, _, H3.out.2.1, rfl, H3.out.2.2⟩⟩
    · have H3 : Hid (w.grownBy w3 (some A) ∧ R = none) := ⟨H2.out.2.1.trans hg3, by rw [HR.out, hn3]; rfl⟩
      clear hg3 hn3
      go_wp2
      exact ⟨by first | rfl | trivial, H3.out.1, .inr ⟨H3.out.2, n1, m1, rfl⟩⟩
  · have HB4 : Hid _ := box_told (w0 := w) HQ.out.2 4 .none ⟨#[]⟩ _ none (.two 5 e .nil) .nil H2.out.1 H2.out.2.2 (exNil _ _) H2.out.2.1
    go_wp2_with fail
    refine (need_any A l.tail ⟨#[110, 117, 108, 108]⟩ _ HB4.out.2.2).mono ?_
    rintro _ w3 ⟨hg3, ⟨l3, hn3, rfl, hr3⟩ | ⟨hn3, n1, m1, rfl⟩⟩
    · have H3 : Hid (w.grownBy w3 (some A) ∧ R = some (.two 4 (.two 5 e .nil) .nil, l3) ∧ ExIs q0 w3 (some ⟨w2.heap.size, 0, none⟩) (.two 4 (.two 5 e .nil) .nil) ∧ RdIs A l3 w3) := ⟨HB4.out.1.trans hg3, by rw [HR.out, hn3]; rfl, ExIs.grownN HQ.out.1 hg3 HB4.out.2.1, hr3⟩
      clear hg3 hn3 hr3
      go_wp2
      go_ret
      exact ⟨H3.out.1, .inl ⟨_, _, _, H3.out.2.1, rfl, H3.out.2.2⟩⟩
    · have H3 : Hid (w.grownBy w3 (some A) ∧ R = none) := ⟨HB4.out.1.trans hg3, by rw [HR.out, hn3]; rfl⟩
      clear hg3 hn3
      go_wp2
      exact ⟨by first | rfl | trivial, H3.out.1, .inr ⟨H3.out.2, n1, m1, rfl⟩⟩
end Go.Proofs.YtbdcbaamjkjhaaaGreatDoor
