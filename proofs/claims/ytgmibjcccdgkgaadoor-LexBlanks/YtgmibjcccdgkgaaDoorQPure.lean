/- The program's way of cutting, as plain data: the first token's kind and size, and what it says. -/
import Derived.Test.YtgmibjcccdgkgaaDoorLTok0
import Derived.Lib.Replace
namespace Go.Proofs.YtgmibjcccdgkgaaDoor
open Go.RowKit

/-- replacing: what is not there is passed over -/
theorem rep_skip {old new : List UInt8} (h1 : old ≠ []) (c : UInt8) (l : List UInt8) (h : old.isPrefixOf (c :: l) = false) : Lib.replaceAll (c :: l) old new = c :: Lib.replaceAll l old new := by
  unfold Lib.replaceAll Lib.replace
  split
  · rfl
  · have hn : ∀ s : List UInt8, Lib.replaceNum s old (-1) = Lib.count s old := fun s => by unfold Lib.replaceNum; rw [if_pos (Or.inl (by decide))]
    rw [hn, hn]
    have hix : Lib.index (c :: l) old = if Lib.index l old == -1 then -1 else Lib.index l old + 1 := by
      rw [Lib.index, if_neg (by rw [h]; decide)]
    have hge := Lib.index_ge l old
    by_cases hm : Lib.index l old = -1
    · rw [hm] at hix
      rw [Lib.count_miss hm, Lib.count_miss (by rw [hix]; rfl)]
      rfl
    · obtain ⟨i, hi⟩ : ∃ i : Nat, Lib.index l old = i := ⟨(Lib.index l old).toNat, by omega⟩
      have hi' : Lib.index (c :: l) old = ((i + 1 : Nat) : Int) := by
        rw [hix, hi, if_neg (by rw [beq_iff_eq]; omega)]; omega
      rw [Lib.count_hit h1 hi, Lib.count_hit h1 hi', show i + 1 + old.length = (i + old.length) + 1 by omega, List.drop_succ_cons, Nat.add_comm 1, Lib.replaceK_hit _ _ _ _ _ hi, Lib.replaceK_hit _ _ _ _ _ hi', List.take_succ_cons, show i + 1 + old.length = (i + old.length) + 1 by omega, List.drop_succ_cons]
      rfl
/-- .. what is there is replaced -/
theorem rep_hit {old new : List UInt8} (h1 : old ≠ []) (hne : (old == new) = false) (l : List UInt8) : Lib.replaceAll (old ++ l) old new = new ++ Lib.replaceAll l old new := by
  unfold Lib.replaceAll Lib.replace
  rw [if_neg (by rw [hne]; decide), if_neg (by rw [hne]; decide)]
  have hn : ∀ s : List UInt8, Lib.replaceNum s old (-1) = Lib.count s old := fun s => by unfold Lib.replaceNum; rw [if_pos (Or.inl (by decide))]
  rw [hn, hn]
  have hi : Lib.index (old ++ l) old = ((0 : Nat) : Int) := Lib.index_first (Nat.zero_le _) (by simp [Lib.occAt]) (fun _ h => absurd h (Nat.not_lt_zero _))
  rw [Lib.count_hit h1 hi, Nat.add_comm 1, Lib.replaceK_hit _ _ _ _ _ hi]
  simp
theorem rep_nil (old new : List UInt8) (h1 : old ≠ []) : Lib.replaceAll [] old new = [] := by
  unfold Lib.replaceAll Lib.replace
  split
  · rfl
  · have : Lib.index [] old = -1 := by
      cases old with
      | nil => exact absurd rfl h1
      | cons c l => rfl
    have hn : Lib.replaceNum [] old (-1) = 0 := by unfold Lib.replaceNum; rw [if_pos (Or.inl (by decide)), Lib.count_miss this]
    rw [hn]; rfl
/-- a quote is written as two -/
theorem rep_esc (t : List UInt8) : Lib.replaceAll t [39] [39, 39] = esc t := by
  induction t with
  | nil => exact rep_nil _ _ (by decide)
  | cons c t ih =>
    rw [esc]
    by_cases hc : c.toNat = 39
    · obtain rfl : c = 39 := UInt8.toNat_inj.1 hc
      rw [if_pos hc, ← ih]
      exact rep_hit (old := [39]) (new := [39, 39]) (by decide) (by decide) t
    · rw [if_neg hc, ← ih]
      refine rep_skip (by decide) c t ?_
      have : ((39 : UInt8) == c) = false := by rw [beq_eq_false_iff_ne]; intro e; exact hc (by rw [← e]; rfl)
      simp only [List.isPrefixOf, this, Bool.false_and]
/-- what stands between two quotes, two of which are one -/
theorem rep_str (l : List UInt8) : ∀ x, strL l = some x → Lib.replaceAll (l.take (x.2 - 1)) [39, 39] [39] = x.1 := by
  induction l using strL.induct with
  | case1 => intro x h; cases h
  | case2 c h => intro x hx; rw [strL, if_pos h] at hx; cases hx; exact rep_nil _ _ (by decide)
  | case3 c h => intro x hx; rw [strL, if_neg h] at hx; cases hx
  | case4 c d r h1 h2 ih =>
    intro x hx
    rw [strL, if_pos h1, if_pos h2, Option.map_eq_some_iff] at hx
    obtain ⟨y, hy, rfl⟩ := hx
    have hp := strL_pos r y hy
    obtain rfl : c = 39 := UInt8.toNat_inj.1 h1
    obtain rfl : d = 39 := UInt8.toNat_inj.1 h2
    show Lib.replaceAll (List.take (y.2 + 2 - 1) (39 :: 39 :: r)) [39, 39] [39] = 39 :: y.1
    rw [show y.2 + 2 - 1 = (y.2 - 1) + 1 + 1 by omega, List.take_succ_cons, List.take_succ_cons, ← ih y hy]
    exact rep_hit (old := [39, 39]) (new := [39]) (by decide) (by decide) _
  | case5 c d r h1 h2 => intro x hx; rw [strL, if_pos h1, if_neg h2] at hx; cases hx; exact rep_nil _ _ (by decide)
  | case6 c d r h1 ih =>
    intro x hx
    rw [strL, if_neg h1, Option.map_eq_some_iff] at hx
    obtain ⟨y, hy, rfl⟩ := hx
    have hp := strL_pos _ y hy
    show Lib.replaceAll (List.take (y.2 + 1 - 1) (c :: d :: r)) [39, 39] [39] = c :: y.1
    rw [show y.2 + 1 - 1 = (y.2 - 1) + 1 by omega, List.take_succ_cons, ← ih y hy]
    refine rep_skip (by decide) c _ ?_
    have : ((39 : UInt8) == c) = false := by rw [beq_eq_false_iff_ne]; intro e; exact h1 (by rw [← e]; rfl)
    simp only [List.isPrefixOf, this, Bool.false_and]
/-- how long what stands behind a quote is, with the quote that ends it -/
def szL (l : List UInt8) : Option Nat := (strL l).map (·.2)
theorem sz_skip (c : UInt8) (l : List UInt8) (h : c.toNat ≠ 39) : szL (c :: l) = (szL l).map (· + 1) := by
  unfold szL
  cases l with
  | nil =>
    show Option.map _ (strL [c]) = none
    simp only [strL, if_neg h]
    rfl
  | cons d r => rw [strL, if_neg h, Option.map_map, Option.map_map]; rfl
/-- where the next quote is, if there is one -/
theorem sz_index (l : List UInt8) : (Lib.indexByte l 39 = -1 ∧ szL l = none) ∨ ∃ n : Nat, Lib.indexByte l 39 = n ∧ n < l.length ∧ (∃ r, l.drop n = 39 :: r) ∧ szL l = (szL (l.drop n)).map (· + n) := by
  induction l with
  | nil => exact .inl ⟨rfl, rfl⟩
  | cons c l ih =>
    by_cases hc : c.toNat = 39
    · obtain rfl : c = 39 := UInt8.toNat_inj.1 hc
      refine .inr ⟨0, rfl, by simp, ⟨l, rfl⟩, ?_⟩
      rw [List.drop_zero]
      cases szL (39 :: l) <;> rfl
    · have hb : (c == (39 : UInt8)) = false := by rw [beq_eq_false_iff_ne]; intro e; exact hc (by rw [e]; rfl)
      rcases ih with ⟨h1, h2⟩ | ⟨n, h1, h2, ⟨r, h3⟩, h4⟩
      · refine .inl ⟨?_, ?_⟩
        · rw [Lib.indexByte, hb, h1]; rfl
        · rw [sz_skip c l hc, h2]; rfl
      · refine .inr ⟨n + 1, ?_, by simpa using h2, ⟨r, by rw [List.drop_succ_cons]; exact h3⟩, ?_⟩
        · rw [Lib.indexByte, hb, h1]
          rw [if_neg (by decide), if_neg (by rw [beq_iff_eq]; omega)]
          omega
        · rw [sz_skip c l hc, h4, List.drop_succ_cons, Option.map_map]
          congr 1
/-- the marks, as they are looked for -/
def marksL : List (List UInt8) := [[60, 62], [60, 61], [62, 61], [60], [62], [61], [43], [45], [42], [40], [41], [44], [46], [59]]
def markAt : List (List UInt8) → List UInt8 → Nat
  | [], _ => 0
  | m :: ms, s => if m.isPrefixOf s then m.length else markAt ms s
theorem mark_one : ∀ n : Fin 256, (∀ l ∈ [[], [0], [61], [62]], markAt marksL (n.val.toUInt8 :: l) = if markC n.val.toUInt8 then (markT n.val.toUInt8 l).2.2 else 0) := by decide +kernel
theorem mark_any (c : UInt8) (l : List UInt8) : markAt marksL (c :: l) = if markC c then (markT c l).2.2 else 0 := by
  have h := mark_one ⟨c.toNat, UInt8.toNat_lt c⟩
  rw [show c.toNat.toUInt8 = c by simp] at h
  cases l with
  | nil => exact h [] (by simp)
  | cons d r =>
    have e1 : markAt marksL (c :: d :: r) = markAt marksL [c, d] := rfl
    have e2 : markT c (d :: r) = markT c [d] := rfl
    rw [e1, e2]
    by_cases h1 : d.toNat = 61
    · obtain rfl : d = 61 := UInt8.toNat_inj.1 h1
      exact h [61] (by simp)
    · by_cases h2 : d.toNat = 62
      · obtain rfl : d = 62 := UInt8.toNat_inj.1 h2
        exact h [62] (by simp)
      · have h0 := h [0] (by simp)
        have f1 : ((61 : UInt8) == d) = false := by rw [beq_eq_false_iff_ne]; intro e; exact h1 (by rw [← e]; rfl)
        have f2 : ((62 : UInt8) == d) = false := by rw [beq_eq_false_iff_ne]; intro e; exact h2 (by rw [← e]; rfl)
        have g1 : ((61 : UInt8) == 0) = false := by decide
        have g2 : ((62 : UInt8) == 0) = false := by decide
        have e3 : markAt marksL [c, d] = markAt marksL [c, 0] := by
          simp only [markAt, marksL, List.isPrefixOf, f1, f2, g1, g2, Bool.false_and]
          rfl
        have t1 : twoC c d = false := by simp [twoC, h1, h2]
        have t2 : twoC c 0 = false := by simp [twoC]
        have e4 : markT c [d] = markT c [0] := by
          rw [markT, markT, t1, t2]; rfl
        rw [e3, e4]
        exact h0
/-- the kind and the size of the token that stands there; 0: none does -/
def firstT : List UInt8 → Int × Nat
  | [] => (4, 0)
  | c :: l =>
    if c.toNat = 39 then (3, match szL l with | none => 0 | some m => m + 1)
    else if isDg c then (2, (l.takeWhile isDg).length + 1)
    else if wordC c then (1, (l.takeWhile wordC).length + 1)
    else (4, markAt marksL (c :: l))
/-- what it says -/
def textT (k : Int) (b : List UInt8) : List UInt8 :=
  if k = 1 then smallL b else if k = 3 then Lib.replaceAll ((b.take (b.length - 1)).drop 1) [39, 39] [39] else b
theorem al_facts : ∀ n : Fin 256, (isAl n.val.toUInt8 = true → isDg n.val.toUInt8 = false ∧ n.val.toUInt8.toNat ≠ 39) ∧ (isDg n.val.toUInt8 = true → n.val.toUInt8.toNat ≠ 39) ∧ (markC n.val.toUInt8 = true → wordC n.val.toUInt8 = false ∧ n.val.toUInt8.toNat ≠ 39) := by decide +kernel
theorem al_at (c : UInt8) : (isAl c = true → isDg c = false ∧ c.toNat ≠ 39) ∧ (isDg c = true → c.toNat ≠ 39) ∧ (markC c = true → wordC c = false ∧ c.toNat ≠ 39) := by
  have h := al_facts ⟨c.toNat, UInt8.toNat_lt c⟩
  rw [show c.toNat.toUInt8 = c by simp] at h
  exact h
theorem first_none {c : UInt8} {l : List UInt8} (h : nextT (c :: l) = none) : (firstT (c :: l)).2 = 0 := by
  rw [nextT] at h
  split at h
  · cases h
  · rename_i h1
    split at h
    · cases h
    · rename_i h2
      split at h
      · rename_i h3
        rw [firstT, if_pos h3]
        have e : strL l = none := by simpa using h
        simp [szL, e]
      · rename_i h3
        split at h
        · cases h
        · rename_i h4
          have hw : wordC c = false := by
            rw [wordC]; simp [h1, h2]
          rw [firstT, if_neg h3, if_neg h2, if_neg (by rw [hw]; decide), mark_any, if_neg h4]
theorem first_some {c : UInt8} {l : List UInt8} {k : Int} {t : List UInt8} {m : Nat} (h : nextT (c :: l) = some (k, t, m)) : firstT (c :: l) = (k, m) ∧ textT k ((c :: l).take m) = t ∧ (k = 3 → 2 ≤ m) ∧ (k = 1 ∨ k = 2 ∨ k = 3 ∨ k = 4) := by
  rw [nextT] at h
  split at h
  · rename_i h1
    have hd := (al_at c).1 h1
    cases h
    have hw : wordC c = true := by rw [wordC, h1]; rfl
    refine ⟨by rw [firstT, if_neg hd.2, if_neg (by rw [hd.1]; decide), if_pos hw], ?_, fun e => absurd e (by decide), by decide⟩
    rw [textT, if_pos rfl, List.take_succ_cons, take_while]
  · rename_i h1
    split at h
    · rename_i h2
      have hd := (al_at c).2.1 h2
      cases h
      refine ⟨by rw [firstT, if_neg hd, if_pos h2], ?_, fun e => absurd e (by decide), by decide⟩
      rw [textT, if_neg (by decide), if_neg (by decide), List.take_succ_cons, take_while]
    · rename_i h2
      split at h
      · rename_i h3
        rw [Option.map_eq_some_iff] at h
        obtain ⟨x, hx, e⟩ := h
        cases e
        have hp := strL_pos l x hx
        refine ⟨?_, ?_, fun _ => by omega, by decide⟩
        · rw [firstT, if_pos h3]; simp [szL, hx]
        · have hl : ((c :: l).take (x.2 + 1)).length = x.2 + 1 := by rw [List.length_take, List.length_cons]; omega
          rw [textT, if_neg (by decide), if_pos rfl, hl, List.take_take, show min (x.2 + 1 - 1) (x.2 + 1) = x.2 by omega]
          have := rep_str l x hx
          rw [show x.2 = (x.2 - 1) + 1 by omega, List.take_succ_cons, List.drop_succ_cons, List.drop_zero]
          exact this
      · rename_i h3
        split at h
        · rename_i h4
          have hw := ((al_at c).2.2 h4).1
          have e := Option.some.inj h
          have hf : firstT (c :: l) = (4, (markT c l).2.2) := by rw [firstT, if_neg h3, if_neg h2, if_neg (by rw [hw]; decide), mark_any, if_pos h4]
          cases l with
          | nil =>
            rw [markT] at e hf; cases e
            exact ⟨hf, rfl, by decide, by decide⟩
          | cons d r =>
            rw [markT] at e hf
            split at e
            · rename_i h5
              rw [if_pos h5] at hf
              cases e; exact ⟨hf, rfl, by decide, by decide⟩
            · rename_i h5
              rw [if_neg h5] at hf
              cases e; exact ⟨hf, rfl, by decide, by decide⟩
        · cases h
/-- blanks are passed over -/
theorem lx_skip {s : ByteArray} {R : Except (Int × Nat) (List Tok)} {L : List Tok} (n : Nat) : ∀ {i f : Nat}, s.size - i = n → Lx s R i f L → ∃ f', Lx s R (endW blankC s i) f' L := by
  induction n with
  | zero => intro i f hn h; exact ⟨f, by rw [endW_end (by omega)]; exact h⟩
  | succ n ih =>
    intro i f hn h
    have hi : i < s.size := by omega
    obtain ⟨g, rfl⟩ := lx_more h hi
    cases hb : blankC s[i]
    · exact ⟨g + 1, by rw [endW_stop hi hb]; exact h⟩
    · rw [endW_step hi hb]
      exact ih (by omega) (lx_blank h hi hb)
theorem endW_not {p : UInt8 → Bool} {s : ByteArray} (n : Nat) : ∀ {i : Nat}, s.size - i = n → (h : endW p s i < s.size) → p s[endW p s i] = false := by
  induction n with
  | zero => intro i hn h; rw [endW_end (by omega)] at h; omega
  | succ n ih =>
    intro i hn h
    have hi : i < s.size := by omega
    cases hb : p s[i]
    · have e := endW_stop hi hb
      simp only [e]
      exact hb
    · have e := endW_step hi hb
      simp only [e]
      exact ih (by omega) (by rw [← e]; exact h)
theorem endW_zero (p : UInt8 → Bool) (s : ByteArray) : endW p s 0 = (s.data.toList.takeWhile p).length := by unfold endW; rw [List.drop_zero]; omega
theorem endW_tail (p : UInt8 → Bool) (s : ByteArray) (i : Nat) : i + endW p (s.extract i s.size) 0 = endW p s i := by
  rw [endW_zero, ba_extract, ← ba_len, List.take_length]; rfl
end Go.Proofs.YtgmibjcccdgkgaaDoor
