/- Part 7 of 30. -/
import Derived.Test.YtmabfbffpedfnaaGreatDoorK06
import Derived.Lib.Replace
import Derived.Lib.AppendIntMem
import Derived.WalkSmall
namespace Go.Proofs.YtmabfbffpedfnaaGreatDoor
open Go.RowKit

/-- replacing: what is not there is passed over -/
theorem rep_skip {old new : List UInt8} (h1 : old ≠ []) (c : UInt8) (l : List UInt8) (h : old.isPrefixOf (c :: l) = false) : Lib.replaceAll (c :: l) old new = c :: Lib.replaceAll l old new := by
  unfold Lib.replaceAll Lib.replace
  split
  · rfl
  · have hn : ∀ s : List UInt8, Lib.replaceNum s old (-1) = Lib.count s old := fun s => by unfold Lib.replaceNum; rw [if_pos (Or.inl (by decide))]
    rw [hn, hn]
    have hix : Lib.index (c :: l) old = if Lib.index l old == -1 then -1 else Lib.index l old + 1 := by
      rw [Lib.index, if_neg (by rw [h]; decide)]
    have hge := Lib.index_ge l old
    by_cases hm : Lib.index l old = -1
    · rw [hm] at hix
      rw [Lib.count_miss hm, Lib.count_miss (by rw [hix]; rfl)]
      rfl
    · obtain ⟨i, hi⟩ : ∃ i : Nat, Lib.index l old = i := ⟨(Lib.index l old).toNat, by omega⟩
      have hi' : Lib.index (c :: l) old = ((i + 1 : Nat) : Int) := by
        rw [hix, hi, if_neg (by rw [beq_iff_eq]; omega)]; omega
      rw [Lib.count_hit h1 hi, Lib.count_hit h1 hi', show i + 1 + old.length = (i + old.length) + 1 by omega, List.drop_succ_cons, Nat.add_comm 1, Lib.replaceK_hit _ _ _ _ _ hi, Lib.replaceK_hit _ _ _ _ _ hi', List.take_succ_cons, show i + 1 + old.length = (i + old.length) + 1 by omega, List.drop_succ_cons]
      rfl
/-- .. what is there is replaced -/
theorem rep_hit {old new : List UInt8} (h1 : old ≠ []) (hne : (old == new) = false) (l : List UInt8) : Lib.replaceAll (old ++ l) old new = new ++ Lib.replaceAll l old new := by
  unfold Lib.replaceAll Lib.replace
  rw [if_neg (by rw [hne]; decide), if_neg (by rw [hne]; decide)]
  have hn : ∀ s : List UInt8, Lib.replaceNum s old (-1) = Lib.count s old := fun s => by unfold Lib.replaceNum; rw [if_pos (Or.inl (by decide))]
  rw [hn, hn]
  have hi : Lib.index (old ++ l) old = ((0 : Nat) : Int) := Lib.index_first (Nat.zero_le _) (by simp [Lib.occAt]) (fun _ h => absurd h (Nat.not_lt_zero _))
  rw [Lib.count_hit h1 hi, Nat.add_comm 1, Lib.replaceK_hit _ _ _ _ _ hi]
  simp
theorem rep_nil (old new : List UInt8) (h1 : old ≠ []) : Lib.replaceAll [] old new = [] := by
  unfold Lib.replaceAll Lib.replace
  split
  · rfl
  · have : Lib.index [] old = -1 := by
      cases old with
      | nil => exact absurd rfl h1
      | cons c l => rfl
    have hn : Lib.replaceNum [] old (-1) = 0 := by unfold Lib.replaceNum; rw [if_pos (Or.inl (by decide)), Lib.count_miss this]
    rw [hn]; rfl
/-- what stands between two quotes, two of which are one -/
theorem rep_str (l : List UInt8) : ∀ x, strL l = some x → Lib.replaceAll (l.take (x.2 - 1)) [39, 39] [39] = x.1 := by
  induction l using strL.induct with
  | case1 => intro x h; cases h
  | case2 c h => intro x hx; rw [strL, if_pos h] at hx; cases hx; exact rep_nil _ _ (by decide)
  | case3 c h => intro x hx; rw [strL, if_neg h] at hx; cases hx
  | case4 c d r h1 h2 ih =>
    intro x hx
    rw [strL, if_pos h1, if_pos h2, Option.map_eq_some_iff] at hx
    obtain ⟨y, hy, rfl⟩ := hx
    have hp := strL_pos r y hy
    obtain rfl : c = 39 := UInt8.toNat_inj.1 h1
    obtain rfl : d = 39 := UInt8.toNat_inj.1 h2
    show Lib.replaceAll (List.take (y.2 + 2 - 1) (39 :: 39 :: r)) [39, 39] [39] = 39 :: y.1
    rw [show y.2 + 2 - 1 = (y.2 - 1) + 1 + 1 by omega, List.take_succ_cons, List.take_succ_cons, ← ih y hy]
    exact rep_hit (old := [39, 39]) (new := [39]) (by decide) (by decide) _
  | case5 c d r h1 h2 => intro x hx; rw [strL, if_pos h1, if_neg h2] at hx; cases hx; exact rep_nil _ _ (by decide)
  | case6 c d r h1 ih =>
    intro x hx
    rw [strL, if_neg h1, Option.map_eq_some_iff] at hx
    obtain ⟨y, hy, rfl⟩ := hx
    have hp := strL_pos _ y hy
    show Lib.replaceAll (List.take (y.2 + 1 - 1) (c :: d :: r)) [39, 39] [39] = c :: y.1
    rw [show y.2 + 1 - 1 = (y.2 - 1) + 1 by omega, List.take_succ_cons, ← ih y hy]
    refine rep_skip (by decide) c _ ?_
    have : ((39 : UInt8) == c) = false := by rw [beq_eq_false_iff_ne]; intro e; exact h1 (by rw [← e]; rfl)
    simp only [List.isPrefixOf, this, Bool.false_and]
/-- how long what stands behind a quote is, with the quote that ends it -/
def szL (l : List UInt8) : Option Nat := (strL l).map (·.2)
theorem sz_skip (c : UInt8) (l : List UInt8) (h : c.toNat ≠ 39) : szL (c :: l) = (szL l).map (· + 1) := by
  unfold szL
  cases l with
  | nil =>
    show Option.map _ (strL [c]) = none
    simp only [strL, if_neg h]
    rfl
  | cons d r => rw [strL, if_neg h, Option.map_map, Option.map_map]; rfl
/-- where the next quote is, if there is one -/
theorem sz_index (l : List UInt8) : (Lib.indexByte l 39 = -1 ∧ szL l = none) ∨ ∃ n : Nat, Lib.indexByte l 39 = n ∧ n < l.length ∧ (∃ r, l.drop n = 39 :: r) ∧ szL l = (szL (l.drop n)).map (· + n) := by
  induction l with
  | nil => exact .inl ⟨rfl, rfl⟩
  | cons c l ih =>
    by_cases hc : c.toNat = 39
    · obtain rfl : c = 39 := UInt8.toNat_inj.1 hc
      refine .inr ⟨0, rfl, by simp, ⟨l, rfl⟩, ?_⟩
      rw [List.drop_zero]
      cases szL (39 :: l) <;> rfl
    · have hb : (c == (39 : UInt8)) = false := by rw [beq_eq_false_iff_ne]; intro e; exact hc (by rw [e]; rfl)
      rcases ih with ⟨h1, h2⟩ | ⟨n, h1, h2, ⟨r, h3⟩, h4⟩
      · refine .inl ⟨?_, ?_⟩
        · rw [Lib.indexByte, hb, h1]; rfl
        · rw [sz_skip c l hc, h2]; rfl
      · refine .inr ⟨n + 1, ?_, by simpa using h2, ⟨r, by rw [List.drop_succ_cons]; exact h3⟩, ?_⟩
        · rw [Lib.indexByte, hb, h1]
          rw [if_neg (by decide), if_neg (by rw [beq_iff_eq]; omega)]
          omega
        · rw [sz_skip c l hc, h4, List.drop_succ_cons, Option.map_map]
          congr 1
/-- the marks, as they are looked for -/
def marksL : List (List UInt8) := [[60, 62], [60, 61], [62, 61], [60], [62], [61], [43], [45], [42], [40], [41], [44], [46], [59]]
def markAt : List (List UInt8) → List UInt8 → Nat
  | [], _ => 0
  | m :: ms, s => if m.isPrefixOf s then m.length else markAt ms s
theorem mark_one : ∀ n : Fin 256, (∀ l ∈ [[], [0], [61], [62]], markAt marksL (n.val.toUInt8 :: l) = if markC n.val.toUInt8 then (markT n.val.toUInt8 l).2.2 else 0) := by decide +kernel
theorem mark_any (c : UInt8) (l : List UInt8) : markAt marksL (c :: l) = if markC c then (markT c l).2.2 else 0 := by
  have h := mark_one ⟨c.toNat, UInt8.toNat_lt c⟩
  rw [show c.toNat.toUInt8 = c by simp] at h
  cases l with
  | nil => exact h [] (by simp)
  | cons d r =>
    have e1 : markAt marksL (c :: d :: r) = markAt marksL [c, d] := rfl
    have e2 : markT c (d :: r) = markT c [d] := rfl
    rw [e1, e2]
    by_cases h1 : d.toNat = 61
    · obtain rfl : d = 61 := UInt8.toNat_inj.1 h1
      exact h [61] (by simp)
    · by_cases h2 : d.toNat = 62
      · obtain rfl : d = 62 := UInt8.toNat_inj.1 h2
        exact h [62] (by simp)
      · have h0 := h [0] (by simp)
        have f1 : ((61 : UInt8) == d) = false := by rw [beq_eq_false_iff_ne]; intro e; exact h1 (by rw [← e]; rfl)
        have f2 : ((62 : UInt8) == d) = false := by rw [beq_eq_false_iff_ne]; intro e; exact h2 (by rw [← e]; rfl)
        have g1 : ((61 : UInt8) == 0) = false := by decide
        have g2 : ((62 : UInt8) == 0) = false := by decide
        have e3 : markAt marksL [c, d] = markAt marksL [c, 0] := by
          simp only [markAt, marksL, List.isPrefixOf, f1, f2, g1, g2, Bool.false_and]
          rfl
        have t1 : twoC c d = false := by simp [twoC, h1, h2]
        have t2 : twoC c 0 = false := by simp [twoC]
        have e4 : markT c [d] = markT c [0] := by
          rw [markT, markT, t1, t2]; rfl
        rw [e3, e4]
        exact h0
/-- the kind and the size of the token that stands there; 0: none does -/
def firstT : List UInt8 → Int × Nat
  | [] => (4, 0)
  | c :: l =>
    if c.toNat = 39 then (3, match szL l with | none => 0 | some m => m + 1)
    else if isDg c then (2, (l.takeWhile isDg).length + 1)
    else if wordC c then (1, (l.takeWhile wordC).length + 1)
    else (4, markAt marksL (c :: l))
/-- what it says -/
def textT (k : Int) (b : List UInt8) : List UInt8 :=
  if k = 1 then smallL b else if k = 3 then Lib.replaceAll ((b.take (b.length - 1)).drop 1) [39, 39] [39] else b
theorem al_facts : ∀ n : Fin 256, (isAl n.val.toUInt8 = true → isDg n.val.toUInt8 = false ∧ n.val.toUInt8.toNat ≠ 39) ∧ (isDg n.val.toUInt8 = true → n.val.toUInt8.toNat ≠ 39) ∧ (markC n.val.toUInt8 = true → wordC n.val.toUInt8 = false ∧ n.val.toUInt8.toNat ≠ 39) := by decide +kernel
theorem al_at (c : UInt8) : (isAl c = true → isDg c = false ∧ c.toNat ≠ 39) ∧ (isDg c = true → c.toNat ≠ 39) ∧ (markC c = true → wordC c = false ∧ c.toNat ≠ 39) := by
  have h := al_facts ⟨c.toNat, UInt8.toNat_lt c⟩
  rw [show c.toNat.toUInt8 = c by simp] at h
  exact h
theorem first_none {c : UInt8} {l : List UInt8} (h : nextT (c :: l) = none) : (firstT (c :: l)).2 = 0 := by
  rw [nextT] at h
  split at h
  · cases h
  · rename_i h1
    split at h
    · cases h
    · rename_i h2
      split at h
      · rename_i h3
        rw [firstT, if_pos h3]
        have e : strL l = none := by simpa using h
        simp [szL, e]
      · rename_i h3
        split at h
        · cases h
        · rename_i h4
          have hw : wordC c = false := by
            rw [wordC]; simp [h1, h2]
          rw [firstT, if_neg h3, if_neg h2, if_neg (by rw [hw]; decide), mark_any, if_neg h4]
theorem first_some {c : UInt8} {l : List UInt8} {k : Int} {t : List UInt8} {m : Nat} (h : nextT (c :: l) = some (k, t, m)) : firstT (c :: l) = (k, m) ∧ textT k ((c :: l).take m) = t ∧ (k = 3 → 2 ≤ m) ∧ (k = 1 ∨ k = 2 ∨ k = 3 ∨ k = 4) := by
  rw [nextT] at h
  split at h
  · rename_i h1
    have hd := (al_at c).1 h1
    cases h
    have hw : wordC c = true := by rw [wordC, h1]; rfl
    refine ⟨by rw [firstT, if_neg hd.2, if_neg (by rw [hd.1]; decide), if_pos hw], ?_, fun e => absurd e (by decide), by decide⟩
    rw [textT, if_pos rfl, List.take_succ_cons, take_while]
  · rename_i h1
    split at h
    · rename_i h2
      have hd := (al_at c).2.1 h2
      cases h
      refine ⟨by rw [firstT, if_neg hd, if_pos h2], ?_, fun e => absurd e (by decide), by decide⟩
      rw [textT, if_neg (by decide), if_neg (by decide), List.take_succ_cons, take_while]
    · rename_i h2
      split at h
      · rename_i h3
        rw [Option.map_eq_some_iff] at h
        obtain ⟨x, hx, e⟩ := h
        cases e
        have hp := strL_pos l x hx
        refine ⟨?_, ?_, fun _ => by omega, by decide⟩
        · rw [firstT, if_pos h3]; simp [szL, hx]
        · have hl : ((c :: l).take (x.2 + 1)).length = x.2 + 1 := by rw [List.length_take, List.length_cons]; omega
          rw [textT, if_neg (by decide), if_pos rfl, hl, List.take_take, show min (x.2 + 1 - 1) (x.2 + 1) = x.2 by omega]
          have := rep_str l x hx
          rw [show x.2 = (x.2 - 1) + 1 by omega, List.take_succ_cons, List.drop_succ_cons, List.drop_zero]
          exact this
      · rename_i h3
        split at h
        · rename_i h4
          have hw := ((al_at c).2.2 h4).1
          have e := Option.some.inj h
          have hf : firstT (c :: l) = (4, (markT c l).2.2) := by rw [firstT, if_neg h3, if_neg h2, if_neg (by rw [hw]; decide), mark_any, if_pos h4]
          cases l with
          | nil =>
            rw [markT] at e hf; cases e
            exact ⟨hf, rfl, by decide, by decide⟩
          | cons d r =>
            rw [markT] at e hf
            split at e
            · rename_i h5
              rw [if_pos h5] at hf
              cases e; exact ⟨hf, rfl, by decide, by decide⟩
            · rename_i h5
              rw [if_neg h5] at hf
              cases e; exact ⟨hf, rfl, by decide, by decide⟩
        · cases h
/-- blanks are passed over -/
theorem lx_skip {s : ByteArray} {R : Except (Int × Nat) (List Tok)} {L : List Tok} (n : Nat) : ∀ {i f : Nat}, s.size - i = n → Lx s R i f L → ∃ f', Lx s R (endW blankC s i) f' L := by
  induction n with
  | zero => intro i f hn h; exact ⟨f, by rw [endW_end (by omega)]; exact h⟩
  | succ n ih =>
    intro i f hn h
    have hi : i < s.size := by omega
    obtain ⟨g, rfl⟩ := lx_more h hi
    cases hb : blankC s[i]
    · exact ⟨g + 1, by rw [endW_stop hi hb]; exact h⟩
    · rw [endW_step hi hb]
      exact ih (by omega) (lx_blank h hi hb)
theorem endW_not {p : UInt8 → Bool} {s : ByteArray} (n : Nat) : ∀ {i : Nat}, s.size - i = n → (h : endW p s i < s.size) → p s[endW p s i] = false := by
  induction n with
  | zero => intro i hn h; rw [endW_end (by omega)] at h; omega
  | succ n ih =>
    intro i hn h
    have hi : i < s.size := by omega
    cases hb : p s[i]
    · have e := endW_stop hi hb
      simp only [e]
      exact hb
    · have e := endW_step hi hb
      simp only [e]
      exact ih (by omega) (by rw [← e]; exact h)
theorem endW_zero (p : UInt8 → Bool) (s : ByteArray) : endW p s 0 = (s.data.toList.takeWhile p).length := by unfold endW; rw [List.drop_zero]; omega
theorem endW_tail (p : UInt8 → Bool) (s : ByteArray) (i : Nat) : i + endW p (s.extract i s.size) 0 = endW p s i := by
  rw [endW_zero, ba_extract, ← ba_len, List.take_length]; rfl
end Go.Proofs.YtmabfbffpedfnaaGreatDoor
namespace Go.Proofs.YtmabfbffpedfnaaGreatDoor
open Go.RowKit

def blankN (x : Nat) : Bool := decide (x = 32) || decide (x = 9) || decide (x = 13) || decide (x = 10)
def nameN (x : Nat) : Bool := alphaN x || digN x
set_option maxHeartbeats 2000000 in
theorem pblank_any (x : Nat) (w : World) : Calls Tryz.prog 76 #[.int .u8 (x : Int)] w fun e w' => e = .returned (.bool (blankN x)) ∧ w' = w := by
  obtain ⟨a1, e1⟩ : ∃ b, ((x : Int) == 32) = b := ⟨_, rfl⟩
  obtain ⟨a2, e2⟩ : ∃ b, ((x : Int) == 9) = b := ⟨_, rfl⟩
  obtain ⟨a3, e3⟩ : ∃ b, ((x : Int) == 13) = b := ⟨_, rfl⟩
  obtain ⟨a4, e4⟩ : ∃ b, ((x : Int) == 10) = b := ⟨_, rfl⟩
  have HR : Hid (blankN x = (a1 || a2 || a3 || a4)) := by
    show _ = _
    rw [← e1, ← e2, ← e3, ← e4, Bool.eq_iff_iff]
    simp [blankN]
    omega
  cases a1 <;> cases a2 <;> cases a3 <;> cases a4 <;> first
    | (exfalso; simp only [beq_iff_eq, beq_eq_false_iff_ne] at e1 e2 e3 e4; clear HR; omega)
    | (go_enter Tryz.func76, Tryz.ntmps76
       go_wp2
       go_ret
       exact ⟨ret_bool (by rw [HR.out]; simp), rfl⟩)
set_option maxHeartbeats 2000000 in
theorem pdigit_any (x : Nat) (w : World) : Calls Tryz.prog 78 #[.int .u8 (x : Int)] w fun e w' => e = .returned (.bool (digN x)) ∧ w' = w := by
  obtain ⟨a1, e1⟩ : ∃ b, decide ((48 : Int) ≤ (x : Int)) = b := ⟨_, rfl⟩
  obtain ⟨a2, e2⟩ : ∃ b, decide ((x : Int) ≤ 57) = b := ⟨_, rfl⟩
  have HR : Hid (digN x = (a1 && a2)) := by
    show _ = _
    rw [← e1, ← e2, Bool.eq_iff_iff]
    simp [digN]
    omega
  cases a1 <;> cases a2 <;> first
    | (exfalso; simp only [decide_eq_true_eq, decide_eq_false_iff_not] at e1 e2; clear HR; omega)
    | (go_enter Tryz.func78, Tryz.ntmps78
       go_wp2
       go_ret
       exact ⟨ret_bool (by rw [HR.out]; simp), rfl⟩)
set_option maxHeartbeats 4000000 in
theorem pname_any (x : Nat) (w : World) : Calls Tryz.prog 79 #[.int .u8 (x : Int)] w fun e w' => e = .returned (.bool (nameN x)) ∧ w' = w := by
  obtain ⟨a1, e1⟩ : ∃ b, decide ((97 : Int) ≤ (x : Int)) = b := ⟨_, rfl⟩
  obtain ⟨a2, e2⟩ : ∃ b, decide ((x : Int) ≤ 122) = b := ⟨_, rfl⟩
  obtain ⟨a3, e3⟩ : ∃ b, decide ((65 : Int) ≤ (x : Int)) = b := ⟨_, rfl⟩
  obtain ⟨a4, e4⟩ : ∃ b, decide ((x : Int) ≤ 90) = b := ⟨_, rfl⟩
  obtain ⟨a5, e5⟩ : ∃ b, ((x : Int) == 95) = b := ⟨_, rfl⟩
  obtain ⟨a6, e6⟩ : ∃ b, digN x = b := ⟨_, rfl⟩
  have HD : Hid (digN x = a6) := e6
  have HR : Hid (nameN x = (a1 && a2 || a3 && a4 || a5 || a6)) := by
    show _ = _
    rw [← e1, ← e2, ← e3, ← e4, ← e5, ← e6, Bool.eq_iff_iff]
    simp [nameN, alphaN, digN]
    omega
  clear e6
  cases a1 <;> cases a2 <;> cases a3 <;> cases a4 <;> cases a5 <;> first
    | (exfalso; simp only [decide_eq_true_eq, decide_eq_false_iff_not, beq_iff_eq, beq_eq_false_iff_ne] at e1 e2 e3 e4 e5; clear HR; omega)
    | (go_enter Tryz.func79, Tryz.ntmps79
       go_wp2_with (go_at_call 78; refine (pdigit_any x _).mono ?_; rw [HD.out]; rintro e w' ⟨rfl, rfl⟩)
       go_ret
       exact ⟨ret_bool (by rw [HR.out]; simp), rfl⟩)
set_option maxRecDepth 100000 in
set_option maxHeartbeats 2000000 in
theorem run_blank (s : ByteArray) (E : Nat) (hE : endW blankC s 0 = E) (w : World) (hs : s.size ≤ 100000) : Calls Tryz.prog 75 #[.string s, .func (.func 76) #[] #[]] w fun e w' => e = .returned (.int .i64 (E : Int)) ∧ w' = w := by
  have HE : Hid (endW blankC s 0 = E) := hE
  clear hE
  go_enter Tryz.func75, Tryz.ntmps75
  go_wp2
  go_loopw [8] (fun i wr => ∃ j : Nat, j ≤ s.size ∧ i = .int .i64 j ∧ Hid (endW blankC s j = E) ∧ wr = w) (fun i _ => s.size - (intOf i).toNat)
  case atStart => exact ⟨0, Nat.zero_le _, rfl, HE, rfl⟩
  case round =>
    clear HE
    obtain ⟨j, hj, rfl, hej, rfl⟩ := hrel
    by_cases hjs : j < s.size
    · have hjs' : (j : Int) < (s.size : Int) := by omega
      obtain ⟨y, hy⟩ : ∃ y, s[j].toNat = y := ⟨_, rfl⟩
      obtain ⟨b, hb⟩ : ∃ b, blankN y = b := ⟨_, rfl⟩
      have HB : Hid (blankN y = b) := hb
      have hpb : blankC s[j] = b := by rw [← hb, ← hy]; rfl
      cases b
      · have e : j = E := by rw [← hej.out, endW_stop hjs hpb]
        subst e
        clear hej hb hpb
        go_wp2_with (go_at_call 76; refine (pblank_any y _).mono ?_; rw [HB.out]; rintro e w' ⟨rfl, rfl⟩)
        go_ret
        exact ⟨rfl, rfl⟩
      · have HE2 : Hid (endW blankC s (j + 1) = E) := by show _ = _; rw [← endW_step hjs hpb]; exact hej.out
        clear hej hb hpb
        go_wp2_with (go_at_call 76; refine (pblank_any y _).mono ?_; rw [HB.out]; rintro e w' ⟨rfl, rfl⟩)
        go_roundw
        case rel => exact ⟨j + 1, by omega, by go_num, HE2, trivial⟩
        case measure => simp [intOf]; omega
    · have hjs' : ¬ (j : Int) < (s.size : Int) := by omega
      obtain rfl : j = s.size := by omega
      have e : s.size = E := by rw [← hej.out, endW_end (Nat.le_refl _)]
      subst e
      clear hej
      go_wp2
      go_ret
      exact ⟨rfl, rfl⟩
set_option maxRecDepth 100000 in
set_option maxHeartbeats 2000000 in
theorem run_digit (s : ByteArray) (E : Nat) (hE : endW isDg s 0 = E) (w : World) (hs : s.size ≤ 100000) : Calls Tryz.prog 75 #[.string s, .func (.func 78) #[] #[]] w fun e w' => e = .returned (.int .i64 (E : Int)) ∧ w' = w := by
  have HE : Hid (endW isDg s 0 = E) := hE
  clear hE
  go_enter Tryz.func75, Tryz.ntmps75
  go_wp2
  go_loopw [8] (fun i wr => ∃ j : Nat, j ≤ s.size ∧ i = .int .i64 j ∧ Hid (endW isDg s j = E) ∧ wr = w) (fun i _ => s.size - (intOf i).toNat)
  case atStart => exact ⟨0, Nat.zero_le _, rfl, HE, rfl⟩
  case round =>
    clear HE
    obtain ⟨j, hj, rfl, hej, rfl⟩ := hrel
    by_cases hjs : j < s.size
    · have hjs' : (j : Int) < (s.size : Int) := by omega
      obtain ⟨y, hy⟩ : ∃ y, s[j].toNat = y := ⟨_, rfl⟩
      obtain ⟨b, hb⟩ : ∃ b, digN y = b := ⟨_, rfl⟩
      have HB : Hid (digN y = b) := hb
      have hpb : isDg s[j] = b := by rw [← hb, ← hy]; rfl
      cases b
      · have e : j = E := by rw [← hej.out, endW_stop hjs hpb]
        subst e
        clear hej hb hpb
        go_wp2_with (go_at_call 78; refine (pdigit_any y _).mono ?_; rw [HB.out]; rintro e w' ⟨rfl, rfl⟩)
        go_ret
        exact ⟨rfl, rfl⟩
      · have HE2 : Hid (endW isDg s (j + 1) = E) := by show _ = _; rw [← endW_step hjs hpb]; exact hej.out
        clear hej hb hpb
        go_wp2_with (go_at_call 78; refine (pdigit_any y _).mono ?_; rw [HB.out]; rintro e w' ⟨rfl, rfl⟩)
        go_roundw
        case rel => exact ⟨j + 1, by omega, by go_num, HE2, trivial⟩
        case measure => simp [intOf]; omega
    · have hjs' : ¬ (j : Int) < (s.size : Int) := by omega
      obtain rfl : j = s.size := by omega
      have e : s.size = E := by rw [← hej.out, endW_end (Nat.le_refl _)]
      subst e
      clear hej
      go_wp2
      go_ret
      exact ⟨rfl, rfl⟩
set_option maxRecDepth 100000 in
set_option maxHeartbeats 2000000 in
theorem run_name (s : ByteArray) (E : Nat) (hE : endW wordC s 0 = E) (w : World) (hs : s.size ≤ 100000) : Calls Tryz.prog 75 #[.string s, .func (.func 79) #[] #[]] w fun e w' => e = .returned (.int .i64 (E : Int)) ∧ w' = w := by
  have HE : Hid (endW wordC s 0 = E) := hE
  clear hE
  go_enter Tryz.func75, Tryz.ntmps75
  go_wp2
  go_loopw [8] (fun i wr => ∃ j : Nat, j ≤ s.size ∧ i = .int .i64 j ∧ Hid (endW wordC s j = E) ∧ wr = w) (fun i _ => s.size - (intOf i).toNat)
  case atStart => exact ⟨0, Nat.zero_le _, rfl, HE, rfl⟩
  case round =>
    clear HE
    obtain ⟨j, hj, rfl, hej, rfl⟩ := hrel
    by_cases hjs : j < s.size
    · have hjs' : (j : Int) < (s.size : Int) := by omega
      obtain ⟨y, hy⟩ : ∃ y, s[j].toNat = y := ⟨_, rfl⟩
      obtain ⟨b, hb⟩ : ∃ b, nameN y = b := ⟨_, rfl⟩
      have HB : Hid (nameN y = b) := hb
      have hpb : wordC s[j] = b := by rw [← hb, ← hy]; rfl
      cases b
      · have e : j = E := by rw [← hej.out, endW_stop hjs hpb]
        subst e
        clear hej hb hpb
        go_wp2_with (go_at_call 79; refine (pname_any y _).mono ?_; rw [HB.out]; rintro e w' ⟨rfl, rfl⟩)
        go_ret
        exact ⟨rfl, rfl⟩
      · have HE2 : Hid (endW wordC s (j + 1) = E) := by show _ = _; rw [← endW_step hjs hpb]; exact hej.out
        clear hej hb hpb
        go_wp2_with (go_at_call 79; refine (pname_any y _).mono ?_; rw [HB.out]; rintro e w' ⟨rfl, rfl⟩)
        go_roundw
        case rel => exact ⟨j + 1, by omega, by go_num, HE2, trivial⟩
        case measure => simp [intOf]; omega
    · have hjs' : ¬ (j : Int) < (s.size : Int) := by omega
      obtain rfl : j = s.size := by omega
      have e : s.size = E := by rw [← hej.out, endW_end (Nat.le_refl _)]
      subst e
      clear hej
      go_wp2
      go_ret
      exact ⟨rfl, rfl⟩
set_option maxHeartbeats 1000000 in
theorem blanks_any (s : ByteArray) (E : Nat) (hE : endW blankC s 0 = E) (w : World) (hs : s.size ≤ 100000) : Calls Tryz.prog 62 #[.string s] w fun e w' => e = .returned (.int .i64 (E : Int)) ∧ w' = w := by
  have HE : Hid (endW blankC s 0 = E) := hE
  clear hE
  go_enter Tryz.func62, Tryz.ntmps62
  go_wp2_with (go_at_call 75; refine (run_blank s E HE.out _ hs).mono ?_; rintro e w' ⟨rfl, rfl⟩)
  go_ret
  exact ⟨rfl, rfl⟩
end Go.Proofs.YtmabfbffpedfnaaGreatDoor
namespace Go.Proofs.YtmabfbffpedfnaaGreatDoor
open Go.RowKit

theorem drop_all (s : ByteArray) (k : Nat) : (s.extract k s.size).data.toList = s.data.toList.drop k := by
  rw [ba_extract, ← ba_len, List.take_length]
/-- where a String ends that goes on at k -/
def Qx (s : ByteArray) (S : Option Nat) (k : Nat) : Prop := (szL (s.data.toList.drop k)).map (· + k) = S
theorem qx_none {s : ByteArray} {S : Option Nat} {k : Nat} (h : Qx s S k) (h1 : szL (s.data.toList.drop k) = none) : S = none := by
  rw [← h, h1]; rfl
theorem qx_at {s : ByteArray} {S : Option Nat} {k n : Nat} (h : Qx s S k) (h4 : szL (s.data.toList.drop k) = (szL ((s.data.toList.drop k).drop n)).map (· + n)) : (szL (s.data.toList.drop (k + n))).map (· + (k + n)) = S := by
  rw [← h, h4, List.drop_drop, Option.map_map]
  congr 1
  funext x
  show x + (k + n) = x + n + k
  omega
theorem byte_drop {s : ByteArray} {k : Nat} {r : List UInt8} (h : s.data.toList.drop k = 39 :: r) : ∃ hk : k < s.size, s[k].toNat = 39 := by
  have hk : k < s.size := by
    have := congrArg List.length h
    rw [List.length_drop, ba_len, List.length_cons] at this
    omega
  rw [drop_at s k hk] at h
  refine ⟨hk, ?_⟩
  rw [(List.cons.inj h).1]; rfl
theorem qx_end {s : ByteArray} {S : Option Nat} {j : Nat} (h : (szL (s.data.toList.drop j)).map (· + j) = S) (hj : j < s.size) (hy : s[j].toNat = 39) (he : j + 1 = s.size ∨ ∃ hk : j + 1 < s.size, s[j + 1].toNat ≠ 39) : S = some (j + 1) := by
  have e : strL (s.data.toList.drop j) = some ([], 1) := by
    rcases he with he | ⟨hk, he⟩
    · exact str_s1 hj hy he
    · exact str_s2 hj hy hk he
  rw [← h, szL, e]
  show some (1 + j) = _
  rw [Nat.add_comm]
theorem qx_two {s : ByteArray} {S : Option Nat} {j : Nat} (h : (szL (s.data.toList.drop j)).map (· + j) = S) (hj : j < s.size) (hy : s[j].toNat = 39) (hk : j + 1 < s.size) (hz : s[j + 1].toNat = 39) : Qx s S (j + 1 + 1) := by
  unfold Qx
  rw [← h]
  unfold szL
  rw [str_s3 hj hy hk hz, Option.map_map, Option.map_map, Option.map_map]
  congr 1
  funext x
  show x.2 + (j + 1 + 1) = x.2 + 2 + j
  omega
def sizeO : Option Nat → Nat
  | none => 0
  | some m => m

set_option maxRecDepth 100000 in
set_option maxHeartbeats 4000000 in
theorem quoted_any (s : ByteArray) (S : Option Nat) (hS : (szL (s.data.toList.drop 1)).map (· + 1) = S) (w : World) (h1 : 0 < s.size) (hs : s.size ≤ 100000) : Calls Tryz.prog 77 #[.string s] w fun e w' => e = .returned (.int .i64 (sizeO S : Int)) ∧ w' = w := by
  have HS : Hid (Qx s S 1) := hS
  clear hS
  go_enter Tryz.func77, Tryz.ntmps77
  go_wp2
  go_loopw [3] (fun i wr => ∃ k : Nat, k ≤ s.size ∧ i = .int .i64 k ∧ Hid (Qx s S k) ∧ wr = w) (fun i _ => s.size - (intOf i).toNat)
  case atStart => exact ⟨1, by omega, rfl, HS, rfl⟩
  case round =>
    clear HS
    obtain ⟨k, hk, rfl, hq, rfl⟩ := hrel
    rcases sz_index (s.data.toList.drop k) with ⟨hi, hn⟩ | ⟨n, hi, hlt, ⟨r, hr⟩, hn⟩
    · have e := qx_none hq.out hn
      subst e
      have HI : Hid (Lib.indexByte (s.extract k s.size).data.toList (39 : Int).toNat.toUInt8 = -1) := by show _ = _; rw [drop_all]; exact hi
      clear hq hi hn
      go_wp2_with (go_at_call 94; refine (strings_ix _ _ _).mono ?_; rw [HI.out]; rintro e w' ⟨rfl, rfl⟩)
      go_ret
      exact ⟨rfl, rfl⟩
    · have HI : Hid (Lib.indexByte (s.extract k s.size).data.toList (39 : Int).toNat.toUInt8 = (n : Int)) := by show _ = _; rw [drop_all]; exact hi
      have hx := qx_at hq.out hn
      rw [List.drop_drop] at hr
      obtain ⟨hj, hy⟩ := byte_drop hr
      rw [List.length_drop, ba_len] at hlt
      have HX : Hid ((szL (s.data.toList.drop (k + n))).map (· + (k + n)) = S) := hx
      have HY : Hid (s[k + n].toNat = 39) := hy
      clear hq hi hn hx hr hy
      have hnn : ¬ ((n : Int) < 0) := by omega
      by_cases he : k + n + 1 = s.size
      · have e := qx_end HX.out hj HY.out (.inl he)
        subst e
        clear HX HY
        have d1 : ((k : Int) + ((n : Int) + 1) == (s.size : Int)) = true := by rw [beq_iff_eq]; omega
        go_wp2_with (go_at_call 94; refine (strings_ix _ _ _).mono ?_; rw [HI.out]; rintro e w' ⟨rfl, rfl⟩)
        go_ret
        exact ⟨ret_int (by show (k : Int) + ((n : Int) + 1) = ((k + n + 1 : Nat) : Int); omega), rfl⟩
      · have hj1 : k + n + 1 < s.size := by omega
        have d1 : ((k : Int) + ((n : Int) + 1) == (s.size : Int)) = false := by rw [beq_eq_false_iff_ne]; omega
        have hix : ((k : Int) + ((n : Int) + 1)).toNat = k + n + 1 := by omega
        obtain ⟨y, hy⟩ : ∃ y, s[k + n + 1].toNat = y := ⟨_, rfl⟩
        by_cases hz : y = 39
        · have HQ : Hid (Qx s S (k + n + 1 + 1)) := qx_two HX.out hj HY.out hj1 (by rw [hy, hz])
          clear HX HY
          have d2 : ((y : Int) != 39) = false := by simp; omega
          clear hz
          go_wp2_with (go_at_call 94; refine (strings_ix _ _ _).mono ?_; rw [HI.out]; rintro e w' ⟨rfl, rfl⟩)
          go_roundw
          case rel => exact ⟨k + n + 1 + 1, by omega, by go_num, HQ, trivial⟩
          case measure => simp [intOf]; omega
        · have e := qx_end HX.out hj HY.out (.inr ⟨hj1, by rw [hy]; exact hz⟩)
          subst e
          clear HX HY
          have d2 : ((y : Int) != 39) = true := by simp; omega
          clear hz
          go_wp2_with (go_at_call 94; refine (strings_ix _ _ _).mono ?_; rw [HI.out]; rintro e w' ⟨rfl, rfl⟩)
          go_ret
          exact ⟨ret_int (by show (k : Int) + ((n : Int) + 1) = ((k + n + 1 : Nat) : Int); omega), rfl⟩
end Go.Proofs.YtmabfbffpedfnaaGreatDoor
namespace Go.Proofs.YtmabfbffpedfnaaGreatDoor
open Go.RowKit

/-- the package's variable holds the marks -/
def MarksAt (w : World) : Prop := w.cell? ⟨1, 0, none⟩ = some (.string ⟨#[60, 62]⟩) ∧ w.cell? ⟨1, 1, none⟩ = some (.string ⟨#[60, 61]⟩) ∧ w.cell? ⟨1, 2, none⟩ = some (.string ⟨#[62, 61]⟩) ∧ w.cell? ⟨1, 3, none⟩ = some (.string ⟨#[60]⟩) ∧ w.cell? ⟨1, 4, none⟩ = some (.string ⟨#[62]⟩) ∧ w.cell? ⟨1, 5, none⟩ = some (.string ⟨#[61]⟩) ∧ w.cell? ⟨1, 6, none⟩ = some (.string ⟨#[43]⟩) ∧ w.cell? ⟨1, 7, none⟩ = some (.string ⟨#[45]⟩) ∧ w.cell? ⟨1, 8, none⟩ = some (.string ⟨#[42]⟩) ∧ w.cell? ⟨1, 9, none⟩ = some (.string ⟨#[40]⟩) ∧ w.cell? ⟨1, 10, none⟩ = some (.string ⟨#[41]⟩) ∧ w.cell? ⟨1, 11, none⟩ = some (.string ⟨#[44]⟩) ∧ w.cell? ⟨1, 12, none⟩ = some (.string ⟨#[46]⟩) ∧ w.cell? ⟨1, 13, none⟩ = some (.string ⟨#[59]⟩)
theorem MarksAt.below {w w' : World} (h : MarksAt w) (hb : Below w.heap.size w w') : MarksAt w' := by
  have h0 : 1 < w.heap.size := World.block_lt_of_cell? w _ h.1
  unfold MarksAt at h ⊢
  have e : ∀ o, w'.cell? ⟨1, o, none⟩ = w.cell? ⟨1, o, none⟩ := fun o => hb.cell (p := ⟨1, o, none⟩) h0
  simp only [e]
  exact h
theorem ixM (k : Nat) (hk : k < 14) (W : World) : (Instr.index 138 (.agg #[.string ⟨#[60, 62]⟩, .string ⟨#[60, 61]⟩, .string ⟨#[62, 61]⟩, .string ⟨#[60]⟩, .string ⟨#[62]⟩, .string ⟨#[61]⟩, .string ⟨#[43]⟩, .string ⟨#[45]⟩, .string ⟨#[42]⟩, .string ⟨#[40]⟩, .string ⟨#[41]⟩, .string ⟨#[44]⟩, .string ⟨#[46]⟩, .string ⟨#[59]⟩]) (.int .i64 (k : Int))).run Tryz.prog W = .ok (.string ⟨(marksL.getD k []).toArray⟩) W :=
  match k, hk with
  | 0, _ => by kernel_rfl
  | 1, _ => by kernel_rfl
  | 2, _ => by kernel_rfl
  | 3, _ => by kernel_rfl
  | 4, _ => by kernel_rfl
  | 5, _ => by kernel_rfl
  | 6, _ => by kernel_rfl
  | 7, _ => by kernel_rfl
  | 8, _ => by kernel_rfl
  | 9, _ => by kernel_rfl
  | 10, _ => by kernel_rfl
  | 11, _ => by kernel_rfl
  | 12, _ => by kernel_rfl
  | 13, _ => by kernel_rfl
theorem marks_len (k : Nat) (hk : k < 14) : (marksL.getD k []).length ≤ 2 ∧ 1 ≤ (marksL.getD k []).length := by
  have h : k = 0 ∨ k = 1 ∨ k = 2 ∨ k = 3 ∨ k = 4 ∨ k = 5 ∨ k = 6 ∨ k = 7 ∨ k = 8 ∨ k = 9 ∨ k = 10 ∨ k = 11 ∨ k = 12 ∨ k = 13 := by omega
  clear hk
  rcases h with rfl | rfl | rfl | rfl | rfl | rfl | rfl | rfl | rfl | rfl | rfl | rfl | rfl | rfl <;> decide
theorem pre_len {a b : List UInt8} (h : a.isPrefixOf b = true) : a = b.take a.length := List.prefix_iff_eq_take.1 (List.isPrefixOf_iff_prefix.1 h)
set_option maxHeartbeats 1000000 in
theorem prefix_lite (s m : ByteArray) (b : Bool) (hb : m.data.toList.isPrefixOf s.data.toList = b) (w : World) :
    Calls Tryz.prog 50 #[.string s, .string m] w fun x w' => x = .returned (.bool b) ∧ w' = w := by
  by_cases h : m.size ≤ s.size
  · have hd : decide ((m.size : Int) ≤ (s.size : Int)) = true := by simpa using h
    have HR : Hid (((s.extract 0 m.size).toList == m.toList) = b) := by
      show _ = _
      rw [← hb, ByteArray.toList_eq, ByteArray.toList_eq, ba_extract, List.drop_zero, Bool.eq_iff_iff, beq_iff_eq, List.isPrefixOf_iff_prefix, List.prefix_iff_eq_take, ba_len]
      exact ⟨fun e => e.symm, fun e => e.symm⟩
    clear hb
    go_enter Tryz.func50, Tryz.ntmps50
    go_wp2
    go_ret
    refine ⟨ret_bool ?_, rfl⟩
    rw [HR.out]
  · have hd : decide ((m.size : Int) ≤ (s.size : Int)) = false := by simp; omega
    have e : b = false := by
      rw [← hb, Bool.eq_false_iff]
      intro hp
      have := congrArg List.length (pre_len hp)
      rw [List.length_take, ba_len, ba_len] at this
      omega
    subst e
    clear hb
    go_enter Tryz.func50, Tryz.ntmps50
    go_wp2
    go_ret
    exact ⟨rfl, rfl⟩
theorem prefix_any (s m : ByteArray) (b : Bool) (hb : m.data.toList.isPrefixOf s.data.toList = b) (w : World) :
    Calls Tryz.prog 95 #[.string s, .string m] w fun x w' => x = .returned (.bool b) ∧ w' = w := by
  have HB : Hid (m.data.toList.isPrefixOf s.data.toList = b) := hb
  clear hb
  go_enter Tryz.func95, Tryz.ntmps95
  go_wp2_with (go_at_call 50; refine (prefix_lite _ _ b HB.out _).mono ?_; rintro e w' ⟨rfl, rfl⟩)
  go_ret
  exact ⟨rfl, rfl⟩
theorem markAt_step (k : Nat) (hk : k < 14) (s : List UInt8) : markAt (marksL.drop k) s = if (marksL.getD k []).isPrefixOf s then (marksL.getD k []).length else markAt (marksL.drop (k + 1)) s := by
  have e : marksL.getD k [] = marksL[k]'hk := by simp [List.getD, show k < marksL.length from hk]; rfl
  rw [List.drop_eq_getElem_cons (show k < marksL.length from hk), markAt, e]; rfl
set_option maxRecDepth 100000 in
set_option maxHeartbeats 4000000 in
theorem marked_any (s : ByteArray) (E : Nat) (hE : markAt marksL s.data.toList = E) (w : World) (hm : MarksAt w) : Calls Tryz.prog 80 #[.string s] w fun e w' => e = .returned (.int .i64 (E : Int)) ∧ w' = w := by
  obtain ⟨q0, q1, q2, q3, q4, q5, q6, q7, q8, q9, q10, q11, q12, q13⟩ := hm
  have HE : Hid (markAt (marksL.drop 0) s.data.toList = E) := hE
  clear hE
  go_enter Tryz.func80, Tryz.ntmps80
  go_wp2
  clear q0 q1 q2 q3 q4 q5 q6 q7 q8 q9 q10 q11 q12 q13
  go_loopw [6] (fun i wr => ∃ k : Nat, k ≤ 14 ∧ i = .int .i64 k ∧ Hid (markAt (marksL.drop k) s.data.toList = E) ∧ wr = w) (fun i _ => 14 - (intOf i).toNat)
  case atStart => exact ⟨0, Nat.zero_le _, rfl, HE, rfl⟩
  case round =>
    clear HE
    obtain ⟨k, hk, rfl, he, rfl⟩ := hrel
    by_cases hlt : k < 14
    · have hix := ixM k hlt wr
      have hl := marks_len k hlt
      have hst := he.out
      rw [markAt_step k hlt] at hst
      generalize marksL.getD k [] = m at *
      have HM : Hid (m.length ≤ 2) := hl.1
      have hml : (⟨m.toArray⟩ : ByteArray).size = m.length := by rw [← ba_len]
      cases hb : m.isPrefixOf s.data.toList
      · rw [if_neg (by rw [hb]; decide)] at hst
        have HB : Hid ((⟨m.toArray⟩ : ByteArray).data.toList.isPrefixOf s.data.toList = false) := hb
        have HS : Hid (markAt (marksL.drop (k + 1)) s.data.toList = E) := hst
        have HL : Hid ((⟨m.toArray⟩ : ByteArray).size ≤ 1000000) := by show _ ≤ _; rw [hml]; omega
        clear hst he hb hl hml HM
        generalize (⟨m.toArray⟩ : ByteArray) = mb at *
        have hk' : (k : Int) < 14 := by omega
        go_wp2_with (go_at_call 95; refine (prefix_any s mb false HB.out _).mono ?_; rintro e w' ⟨rfl, rfl⟩)
        go_roundw
        case rel => exact ⟨k + 1, by omega, by go_num, HS, trivial⟩
        case measure => simp [intOf]; omega
      · rw [if_pos hb] at hst
        have HB : Hid ((⟨m.toArray⟩ : ByteArray).data.toList.isPrefixOf s.data.toList = true) := hb
        have HL : Hid ((⟨m.toArray⟩ : ByteArray).size = E) := by show _ = _; rw [hml, hst]
        have HL2 : Hid ((⟨m.toArray⟩ : ByteArray).size ≤ 1000000) := by show _ ≤ _; rw [hml]; omega
        clear hst he hb hl hml HM
        generalize (⟨m.toArray⟩ : ByteArray) = mb at *
        have hk' : (k : Int) < 14 := by omega
        go_wp2_with (go_at_call 95; refine (prefix_any s mb true HB.out _).mono ?_; rintro e w' ⟨rfl, rfl⟩)
        go_ret
        exact ⟨ret_int (by rw [HL.out]), rfl⟩
    · obtain rfl : k = 14 := by omega
      have e : 0 = E := by rw [← he.out]; rfl
      subst e
      clear he
      go_wp2
      go_ret
      exact ⟨rfl, rfl⟩
set_option maxHeartbeats 2000000 in
theorem wrong_any (k : Int) (m n : Nat) (w : World) : Calls Tryz.prog 64 #[.int .i64 k, .int .i64 (m : Int), .int .i64 (n : Int)] w fun e w' => e = .returned (.int .i64 (if m = 0 then 3 else if (k = 2 ∧ 19 < m) ∨ 200 ≤ n then 4 else 0)) ∧ w' = w := by
  by_cases h0 : m = 0
  · subst h0
    rw [if_pos rfl]
    go_enter Tryz.func64, Tryz.ntmps64
    go_wp2
    go_ret
    exact ⟨rfl, rfl⟩
  · rw [if_neg h0]
    have d0 : ((m : Int) == 0) = false := by rw [beq_eq_false_iff_ne]; omega
    by_cases h1 : k = 2 ∧ 19 < m
    · rw [if_pos (.inl h1)]
      obtain ⟨rfl, h2⟩ := h1
      have d1 : decide ((19 : Int) < (m : Int)) = true := decide_eq_true (by omega)
      clear h0 h2
      go_enter Tryz.func64, Tryz.ntmps64
      go_wp2
      go_ret
      exact ⟨rfl, rfl⟩
    · by_cases h3 : 200 ≤ n
      · rw [if_pos (.inr h3)]
        have d3 : (200 : Int) ≤ (n : Int) := by omega
        by_cases h4 : k = 2
        · subst h4
          have d1 : decide ((19 : Int) < (m : Int)) = false := decide_eq_false (by omega)
          clear h0 h1 h3
          go_enter Tryz.func64, Tryz.ntmps64
          go_wp2
          go_ret
          exact ⟨rfl, rfl⟩
        · have d2 : (k == 2) = false := by rw [beq_eq_false_iff_ne]; exact h4
          clear h0 h1 h3 h4
          go_enter Tryz.func64, Tryz.ntmps64
          go_wp2
          go_ret
          exact ⟨rfl, rfl⟩
      · rw [if_neg (by omega)]
        have d3 : ¬ (200 : Int) ≤ (n : Int) := by omega
        by_cases h4 : k = 2
        · subst h4
          have d1 : decide ((19 : Int) < (m : Int)) = false := decide_eq_false (by omega)
          clear h0 h1 h3
          go_enter Tryz.func64, Tryz.ntmps64
          go_wp2
          go_ret
          exact ⟨rfl, rfl⟩
        · have d2 : (k == 2) = false := by rw [beq_eq_false_iff_ne]; exact h4
          clear h0 h1 h3 h4
          go_enter Tryz.func64, Tryz.ntmps64
          go_wp2
          go_ret
          exact ⟨rfl, rfl⟩
set_option maxRecDepth 100000 in
set_option maxHeartbeats 4000000 in
theorem first_any (s : ByteArray) (k : Int) (m : Nat) (hF : firstT s.data.toList = (k, m)) (w : World) (h1 : 0 < s.size) (hs : s.size ≤ 100000) (hm : MarksAt w) : Calls Tryz.prog 63 #[.string s] w fun e w' => e = .returned (.tuple #[.int .i64 k, .int .i64 (m : Int)]) ∧ w' = w := by
  have HM : Hid (MarksAt w) := hm
  have hd := drop_at s 0 h1
  rw [List.drop_zero] at hd
  obtain ⟨x, hx⟩ : ∃ x, s[0].toNat = x := ⟨_, rfl⟩
  have hxd : isDg s[0] = digN x := by rw [← hx]; rfl
  have hxw : wordC s[0] = nameN x := by rw [← hx]; rfl
  have hF2 := hF
  rw [hd, firstT, hx, hxd, hxw, ← hd] at hF2
  have hdig : (s.data.toList.drop 1).takeWhile isDg = (s.data.toList.drop 1).takeWhile isDg := rfl
  clear hm hF
  by_cases h2 : x = 39
  · rw [if_pos h2] at hF2
    have HQ : Hid ((szL (s.data.toList.drop 1)).map (· + 1) = (szL (s.data.toList.drop (0 + 1))).map (· + 1)) := rfl
    obtain ⟨S, hS⟩ : ∃ S, (szL (s.data.toList.drop (0 + 1))).map (· + 1) = S := ⟨_, rfl⟩
    have HS : Hid ((szL (s.data.toList.drop 1)).map (· + 1) = S) := hS
    have e := Prod.mk.inj hF2
    obtain ⟨rfl, e2⟩ := e
    have e3 : sizeO S = m := by
      rw [← e2, ← hS]
      cases szL (s.data.toList.drop (0 + 1)) <;> rfl
    subst e3
    clear hF2 hd hxd hxw e2 hS HQ hdig
    subst h2
    go_enter Tryz.func63, Tryz.ntmps63
    go_wp2_with (go_at_call 77; refine (quoted_any s S HS.out _ h1 hs).mono ?_; rintro e w' ⟨rfl, rfl⟩)
    go_ret2
    exact ⟨rfl, rfl⟩
  · rw [if_neg h2] at hF2
    have d0 : ((x : Int) == 39) = false := by rw [beq_eq_false_iff_ne]; omega
    cases hb : digN x
    · rw [hb, if_neg (by decide)] at hF2
      have HB : Hid (digN x = false) := hb
      cases hc : nameN x
      · rw [hc, if_neg (by decide)] at hF2
        have HC : Hid (nameN x = false) := hc
        obtain ⟨rfl, e2⟩ := Prod.mk.inj hF2
        have HE : Hid (markAt marksL s.data.toList = m) := e2
        clear hF2 hd hxd hxw e2 hb hc h2 hdig
        go_enter Tryz.func63, Tryz.ntmps63
        go_wp2_with (first | (go_at_call 78; refine (pdigit_any x _).mono ?_; rw [HB.out]; rintro e w' ⟨rfl, rfl⟩) | (go_at_call 79; refine (pname_any x _).mono ?_; rw [HC.out]; rintro e w' ⟨rfl, rfl⟩) | (go_at_call 80; refine (marked_any s m HE.out _ HM.out).mono ?_; rintro e w' ⟨rfl, rfl⟩))
        go_ret2
        exact ⟨rfl, rfl⟩
      · rw [hc, if_pos rfl] at hF2
        have HC : Hid (nameN x = true) := hc
        obtain ⟨rfl, e2⟩ := Prod.mk.inj hF2
        have HE : Hid (endW wordC s 0 = m) := by
          show _ = _
          rw [endW_step h1 (by rw [hxw]; exact hc), endW_at, ← e2]; omega
        clear hF2 hd hxd hxw e2 hb hc h2 hdig
        go_enter Tryz.func63, Tryz.ntmps63
        go_wp2_with (first | (go_at_call 78; refine (pdigit_any x _).mono ?_; rw [HB.out]; rintro e w' ⟨rfl, rfl⟩) | (go_at_call 79; refine (pname_any x _).mono ?_; rw [HC.out]; rintro e w' ⟨rfl, rfl⟩) | (go_at_call 75; refine (run_name s m HE.out _ hs).mono ?_; rintro e w' ⟨rfl, rfl⟩))
        go_ret2
        exact ⟨rfl, rfl⟩
    · rw [hb, if_pos rfl] at hF2
      have HB : Hid (digN x = true) := hb
      obtain ⟨rfl, e2⟩ := Prod.mk.inj hF2
      have HE : Hid (endW isDg s 0 = m) := by
        show _ = _
        rw [endW_step h1 (by rw [hxd]; exact hb), endW_at, ← e2]; omega
      clear hF2 hd hxd hxw e2 hb h2 hdig
      go_enter Tryz.func63, Tryz.ntmps63
      go_wp2_with (first | (go_at_call 78; refine (pdigit_any x _).mono ?_; rw [HB.out]; rintro e w' ⟨rfl, rfl⟩) | (go_at_call 75; refine (run_digit s m HE.out _ hs).mono ?_; rintro e w' ⟨rfl, rfl⟩))
      go_ret2
      exact ⟨rfl, rfl⟩
end Go.Proofs.YtmabfbffpedfnaaGreatDoor
namespace Go.Proofs.YtmabfbffpedfnaaGreatDoor
open Go.RowKit

/-- the text of the bytes -/
theorem Half.text {B n : Nat} {l m : Nat → Nat} {w : World} {cap : Nat} (h : Half B n n l m w) (t : List UInt8) (ht : t.length = n) (hl : ∀ j (hj : j < t.length), (t[j]).toNat = l j) :
    (convert 124 9 (.slice (some ⟨B, 0, none⟩) n cap)).run Tryz.prog w = .ok (.string ⟨t.toArray⟩) w := by
  subst ht
  exact run_convert_bytes_back (P := Tryz.prog) w 124 9 5 ⟨B, 0, none⟩ cap t Tryz.underlying124 Tryz.underlying5 Tryz.underlying9 (fun j hj => by
    rw [Addr.add_lit, Nat.zero_add, h.cell j hj, if_pos hj, hl j hj])
end Go.Proofs.YtmabfbffpedfnaaGreatDoor
namespace Go.Proofs.YtmabfbffpedfnaaGreatDoor
open Go.RowKit

/-- bytes of a text in a new row -/
theorem bytes_of (s : ByteArray) (w : World) : ∃ cap w', (convert 9 124 (.string s)).run Tryz.prog w = .ok (.slice (some ⟨w.heap.size, 0, none⟩) s.size cap) w' ∧ Below w.heap.size w w' ∧ w'.heap.size = w.heap.size + 1 ∧
    (∀ j (hj : j < s.data.toList.length), w'.cell? ⟨w.heap.size, j, none⟩ = some (.int .u8 (s.data.toList[j].toNat : Int))) ∧ (∀ j, j < s.size → w'.frozen? ⟨w.heap.size, j, none⟩ = false) := by
  have h := run_bytes_of_string (P := Tryz.prog) w 9 124 5 s Tryz.underlying9 Tryz.underlying124 Tryz.underlying5
  refine ⟨_, _, h, (Below.refl _ w).drew.alloc (Nat.le_refl _) _, ?_, ?_, ?_⟩
  · simp
  · intro j hj
    have hn : (w.drew.alloc (.cells (bytesRow s (grownCap w s.size 0 5)) 5 ((bytesRow s (grownCap w s.size 0 5)).size, (bytesRow s (grownCap w s.size 0 5)).size + 1))).heap[w.heap.size]? = _ := heap_alloc_new w.drew _
    have hj' : j < s.data.size := by simpa using hj
    simp only [World.cell?, hn]
    have hj2 : j < s.size := hj'
    simp [bytesRow, Array.getElem?_append, hj2]
  · intro j hj
    have hn : (w.drew.alloc (.cells (bytesRow s (grownCap w s.size 0 5)) 5 ((bytesRow s (grownCap w s.size 0 5)).size, (bytesRow s (grownCap w s.size 0 5)).size + 1))).heap[w.heap.size]? = _ := heap_alloc_new w.drew _
    have hj' : j < (bytesRow s (grownCap w s.size 0 5)).size := by
      have e : s.data.size = s.size := rfl
      simp [bytesRow]; omega
    simp only [World.frozen?, hn]
    simp
    omega
set_option maxHeartbeats 1000000 in
theorem small_any (s : ByteArray) (w : World) (hs : s.size ≤ 1000000) :
    Calls Tryz.prog 81 #[.string s] w fun e w' => e = .returned (.string (smallS s)) ∧ Below w.heap.size w w' := by
  obtain ⟨cap, w1, hcv, hb1, hz1, hc1, hf1⟩ := bytes_of s w
  have h0 : Half w.heap.size s.size 0 (fun j => lown (bt s j)) (bt s) w1 := ⟨fun j hj => by rw [hc1 j (by simpa using hj)]; simp [bt_at s j hj]; rfl, hf1⟩
  clear hc1 hf1 hz1
  go_enter Tryz.func81, Tryz.ntmps81
  go_wp2
  go_loopw [10] (fun i wr => ∃ k : Nat, k ≤ s.size ∧ i = .int .i64 k ∧ Hid (Half w.heap.size s.size k (fun j => lown (bt s j)) (bt s) wr ∧ Below w.heap.size w wr)) (fun i _ => s.size - (intOf i).toNat)
  case atStart => exact ⟨0, Nat.zero_le _, rfl, h0, hb1⟩
  case round =>
    clear h0 hb1 hcv
    obtain ⟨k, hk, rfl, hz⟩ := hrel
    by_cases hlt : k < s.size
    · have hc := hz.out.1.cell k hlt
      have hf := hz.out.1.free k hlt
      simp only [Nat.lt_irrefl, if_false] at hc
      have hbt := bt_lt s k
      obtain ⟨x, hx⟩ : ∃ x, bt s k = x := ⟨_, rfl⟩
      rw [hx] at hc hbt
      have HX : Hid (bt s k = x) := hx
      clear hx
      obtain ⟨a1, e1⟩ : ∃ b, decide ((65 : Int) ≤ (x : Int)) = b := ⟨_, rfl⟩
      obtain ⟨a2, e2⟩ : ∃ b, decide ((x : Int) ≤ 90) = b := ⟨_, rfl⟩
      have hi : (k : Int) < (s.size : Int) := by omega
      cases a1
      · go_wp2
        go_roundw
        case rel =>
          refine ⟨k + 1, by omega, by go_num, hz.out.1.keep hlt ?_, hz.out.2⟩
          show lown (bt s k) = _
          simp only [decide_eq_false_iff_not] at e1
          rw [HX.out, lown, if_neg (by omega)]
        case measure => simp [intOf]; omega
      · cases a2
        · go_wp2
          go_roundw
          case rel =>
            refine ⟨k + 1, by omega, by go_num, hz.out.1.keep hlt ?_, hz.out.2⟩
            show lown (bt s k) = _
            simp only [decide_eq_false_iff_not] at e2
            rw [HX.out, lown, if_neg (by omega)]
          case measure => simp [intOf]; omega
        · simp only [decide_eq_true_eq] at e1 e2
          go_wp2
          go_roundw
          case rel =>
            refine ⟨k + 1, by omega, by go_num, hz.out.1.set hlt _ ?_, hz.out.2.setCell (p := ⟨_, k, none⟩) (Nat.le_refl _) _⟩
            show _ = ((lown (bt s k) : Nat) : Int)
            rw [HX.out, lown, if_pos (by omega)]
            omega
          case measure => simp [intOf]; omega
    · obtain rfl : k = s.size := by omega
      have ht := hz.out.1.text (cap := cap) (smallL s.data.toList) (small_len s) (small_text s)
      go_wp2
      go_ret
      exact ⟨rfl, hz.out.2⟩

/-- the library's variable holds a number -/
def MaxAt (w : World) : Prop := ∃ m : Int, w.cell? ⟨3, 0, none⟩ = some (.int .i64 m)
theorem MaxAt.below {w w' : World} (h : MaxAt w) (hb : Below w.heap.size w w') : MaxAt w' := by
  obtain ⟨m, h⟩ := h
  have h0 : 3 < w.heap.size := World.block_lt_of_cell? w _ h
  exact ⟨m, by rw [hb.cell (p := ⟨3, 0, none⟩) h0]; exact h⟩
def CloneSpec : Prop := ∀ (s : ByteArray) (w : World), s.size ≤ 100000 → Calls Tryz.prog 24 #[.string s] w fun e w' => e = .returned (.string s) ∧ Below w.heap.size w w'
def RepSpec : Prop := ∀ (s : ByteArray) (w : World), s.size ≤ 100000 → MaxAt w → Calls Tryz.prog 82 #[.string s, .string ⟨#[39, 39]⟩, .string ⟨#[39]⟩] w fun e w' => e = .returned (.string ⟨(Lib.replaceAll s.data.toList [39, 39] [39]).toArray⟩) ∧ Below w.heap.size w w'
theorem rep_le (k : Nat) : ∀ t : List UInt8, t.length ≤ k → (Lib.replaceAll t [39, 39] [39]).length ≤ t.length := by
  induction k with
  | zero => intro t h; obtain rfl : t = [] := List.length_eq_zero_iff.1 (by omega); rw [rep_nil _ _ (by decide)]; simp
  | succ k ih =>
    intro t h
    cases t with
    | nil => rw [rep_nil _ _ (by decide)]; simp
    | cons c t =>
      rw [List.length_cons] at h
      cases hp : List.isPrefixOf [39, 39] (c :: t)
      · rw [rep_skip (by decide) c t hp, List.length_cons, List.length_cons]
        have := ih t (by omega)
        omega
      · obtain ⟨r, hr⟩ := List.isPrefixOf_iff_prefix.1 hp
        have e := rep_hit (old := [39, 39]) (new := [39]) (by decide) (by decide) r
        rw [hr] at e
        have hl := congrArg List.length hr
        rw [List.length_append, List.length_cons] at hl
        simp only [List.length_cons, List.length_nil] at hl
        have := ih r (by omega)
        rw [e, List.length_append, List.length_cons]
        simp only [List.length_cons, List.length_nil]
        omega
set_option maxHeartbeats 4000000 in
theorem ltext_any (hC : CloneSpec) (hR : RepSpec) (k : Int) (b : ByteArray) (w : World) (h3 : k = 3 → 2 ≤ b.size) (hs : b.size ≤ 100000) (hm : MaxAt w) :
    Calls Tryz.prog 65 #[.int .i64 k, .string b] w fun e w' => e = .returned (.string ⟨(textT k b.data.toList).toArray⟩) ∧ Below w.heap.size w w' := by
  have HC : Hid CloneSpec := hC
  have HR : Hid RepSpec := hR
  have HM : Hid (MaxAt w) := hm
  clear hC hR hm
  by_cases h1 : k = 1
  · subst h1
    clear h3
    have HT : Hid ((⟨(textT 1 b.data.toList).toArray⟩ : ByteArray) = smallS b) := rfl
    go_enter Tryz.func65, Tryz.ntmps65
    go_wp2_with (go_at_call 81; refine (small_any b _ (by omega)).mono ?_; rintro e w' ⟨rfl, hb⟩)
    go_ret
    exact ⟨by rw [HT.out]; rfl, hb⟩
  · have d1 : (k == 1) = false := by rw [beq_eq_false_iff_ne]; exact h1
    by_cases h2 : k = 3
    · subst h2
      have h3 := h3 rfl
      have hn : ((b.size : Int) - 1).toNat = b.size - 1 := by omega
      obtain ⟨x, hx⟩ : ∃ x, b.extract 1 (b.size - 1) = x := ⟨_, rfl⟩
      have hxl : x.data.toList = (b.data.toList.take (b.size - 1)).drop 1 := by rw [← hx, ba_extract]
      have HX : Hid (b.extract 1 (b.size - 1) = x) := hx
      obtain ⟨t, ht⟩ : ∃ t, (⟨(textT 3 b.data.toList).toArray⟩ : ByteArray) = t := ⟨_, rfl⟩
      have HT : Hid ((⟨(textT 3 b.data.toList).toArray⟩ : ByteArray) = t) := ht
      have HE : Hid ((⟨(Lib.replaceAll x.data.toList [39, 39] [39]).toArray⟩ : ByteArray) = t) := by
        show _ = _
        rw [← ht, hxl, textT, if_neg (by decide), if_pos rfl, ba_len]
      have HXl : Hid (x.size ≤ 100000) := by
        show _ ≤ _
        rw [← hx]; simp; omega
      have HTl : Hid (t.size ≤ 100000) := by
        show _ ≤ _
        rw [← HE.out, ← ba_len]
        have := rep_le _ x.data.toList (Nat.le_refl _)
        rw [ba_len] at this
        exact Nat.le_trans this HXl.out
      clear hx ht hxl h1
      go_enter Tryz.func65, Tryz.ntmps65
      go_wp2_with fail
      rw [HX.out]
      refine (HR.out x w HXl.out HM.out).mono ?_
      rintro _ w1 ⟨rfl, hb1⟩
      rw [HE.out]
      have HB1 : Hid (Below w.heap.size w w1) := hb1
      clear hb1
      go_wp2_with fail
      refine (HC.out t w1 HTl.out).mono ?_
      rintro _ w2 ⟨rfl, hb2⟩
      have HB2 : Hid (Below w.heap.size w w2) := HB1.out.trans (hb2.mono HB1.out.size)
      clear hb2
      go_wp2
      go_ret
      exact ⟨by rw [HT.out]; rfl, HB2.out⟩
    · have d3 : (k == 3) = false := by rw [beq_eq_false_iff_ne]; exact h2
      have HT : Hid ((⟨(textT k b.data.toList).toArray⟩ : ByteArray) = b) := by
        show _ = _
        rw [textT, if_neg h1, if_neg h2]
      clear h1 h2 h3
      go_enter Tryz.func65, Tryz.ntmps65
      go_wp2_with (go_at_call 24; refine (HC.out b _ (by omega)).mono ?_; rintro e w' ⟨rfl, hb⟩)
      go_ret
      exact ⟨by rw [HT.out]; rfl, hb⟩
end Go.Proofs.YtmabfbffpedfnaaGreatDoor
namespace Go.Proofs.YtmabfbffpedfnaaGreatDoor
open Go.Shelf Go.RowKit

theorem bytes_or {w w' : World} (h : w' = w ∨ ∃ t, w' = Lib.bytesWorld w 5 t) : Below w.heap.size w w' := by
  rcases h with rfl | ⟨t, rfl⟩
  · exact Below.refl _ _
  · exact Lib.bytesWorld_below _ _ _
theorem pint_ok : PIntSpec := by
  intro s w hs hv
  cases h : Lib.parseIntB 64 s.data.toList with
  | ok n =>
    refine (Tryz.strconv_ParseInt_10_at64_ok s (by omega) n h w).mono ?_
    rintro e w' ⟨rfl, hw⟩
    exact ⟨n, _, rfl, .inl ⟨rfl, rfl⟩, bytes_or hw⟩
  | «syntax» =>
    obtain ⟨v, h1, h2⟩ := hv.sy
    refine (Tryz.strconv_ParseInt_10_at64_syntax s (by omega) h v w h1 h2).mono ?_
    rintro e w' ⟨N, rfl, _, _, hb⟩
    exact ⟨0, _, rfl, .inr ⟨(fun m e => by cases e), _, _, rfl⟩, hb⟩
  | range =>
    obtain ⟨v, h1, h2⟩ := hv.rg
    refine (Tryz.strconv_ParseInt_10_at64_range s (by omega) h v w h1 h2).mono ?_
    rintro e w' ⟨N, rfl, _, _, hb⟩
    exact ⟨_, _, rfl, .inr ⟨(fun m e => by cases e), _, _, rfl⟩, hb⟩
theorem atoi_any (s : ByteArray) (h : digsB s = true) (h9 : s.size ≤ 9) (w : World) : Calls Tryz.prog 128 #[.string s] w fun e w' => e = .returned (.tuple #[.int .i64 (digV s), .nilIface]) ∧ Below w.heap.size w w' := by
  refine (Tryz.strconv_Atoi_ok s (by omega) (digV s) (lim_digs h h9).1 w).mono ?_
  rintro e w' ⟨rfl, hw⟩
  exact ⟨rfl, bytes_or hw⟩
/-- the library's table of powers is there, and stays there -/
def PowAt (w : World) : Prop := Lib.TabIs Tryz.prog w "internal/strconv.uint64pow10" .u64 Lib.pow10Tab
theorem clone_ok : CloneSpec := by
  intro s w hs
  go_enter Tryz.func24, Tryz.ntmps24
  go_wp2_with (go_at_call 47; refine (Tryz.stringslite_Clone _ _ (by omega)).mono ?_; rintro e w' ⟨rfl, hb⟩)
  go_ret
  exact ⟨rfl, hb⟩
theorem rep_ok : RepSpec := by
  intro s w hs hm
  obtain ⟨m, hm⟩ := hm
  have h2 : (⟨#[39, 39]⟩ : ByteArray).size = 2 := rfl
  have h3 : (⟨#[39]⟩ : ByteArray).size = 1 := rfl
  have h1 := Lib.countB_mul_le ⟨#[39, 39]⟩ (by decide) _ s (Nat.le_refl _)
  exact Tryz.strings_ReplaceAll s ⟨#[39, 39]⟩ ⟨#[39]⟩ m w (by omega) hm (by decide) (by rw [h2] at h1; rw [h3]; omega)
end Go.Proofs.YtmabfbffpedfnaaGreatDoor
namespace Go.Proofs.YtmabfbffpedfnaaGreatDoor
open Go.RowKit

/-- what writing looks at, beside the tree -/
structure GAt (w : World) : Prop where
  pr : w.rangeAt 6 0 pairCells
  mx : MaxAt w
  pw : PowAt w
  lo : 12 ≤ w.heap.size
theorem pow_below {n : Nat} {w w' : World} (h : PowAt w) (hb : Below n w w') (hn : 12 ≤ n) : PowAt w' := var?_below (g := 9) hb (by kernel_rfl) (by omega) h
theorem GAt.below {n : Nat} {w w' : World} (h : GAt w) (hb : Below n w w') (hn : 12 ≤ n) : GAt w' := by
  refine ⟨range_keep h.pr (fun o => World.cell?_of_block (w := w) (a := ⟨6, o, none⟩) (hb.block 6 (by omega))), ?_, pow_below h.pw hb hn, by have := hb.size; have := h.lo; omega⟩
  obtain ⟨m, hm⟩ := h.mx
  exact ⟨m, (World.cell?_of_block (w := w) (a := ⟨3, 0, none⟩) (hb.block 3 (by omega))).trans hm⟩
theorem beq_f {a b : Int} (h : a ≠ b) : (a == b) = false := beq_eq_false_iff_ne.mpr h
/-- a value, as it is written -/
def litL (v : Vl) : List UInt8 := if v.k = 1 then Lib.decDigits v.n.toNat else if v.k = 2 then 39 :: (esc v.t.data.toList ++ [39]) else [110, 117, 108, 108]
structure VlOk (v : Vl) : Prop where
  num : v.k = 1 → 0 ≤ v.n ∧ v.n ≤ 9223372036854775807
  txt : v.k = 2 → v.t.size ≤ 1000
end Go.Proofs.YtmabfbffpedfnaaGreatDoor
namespace Go.Proofs.YtmabfbffpedfnaaGreatDoor
open Go.RowKit

def parW (n : Int) (e : Ex) (t : List UInt8) : List UInt8 := match e with
  | .nil => []
  | .node c _ _ _ _ => if lvlC c < n then 40 :: (t ++ [41]) else t
/-- what is printed of an expression, bare; and of what stands on its left, where a sum may stand -/
def prX : Ex → List UInt8 × List UInt8
  | .nil => ([], [])
  | .node c v nm l r =>
    (if c = 1 then litL v
     else if c = 2 then nm.data.toList
     else if c = 3 then [45, 32] ++ parW 7 l (prX l).1
     else if c = 4 then (if l.code = 5 then (prX l).2 ++ [32, 105, 115, 32, 110, 111, 116, 32, 110, 117, 108, 108] else [110, 111, 116, 32] ++ parW 3 l (prX l).1)
     else if c = 5 then parW 5 l (prX l).1 ++ [32, 105, 115, 32, 110, 117, 108, 108]
     else if c = 17 then parW 5 l (prX l).1 ++ ([32, 109, 97, 116, 99, 104, 32] ++ litL v)
     else if (pairR pairL c).2.2 then parW (if (pairR pairL c).2.1 = 4 then (pairR pairL c).2.1 + 1 else (pairR pairL c).2.1) l (prX l).1 ++ ([32] ++ ((pairR pairL c).1.data.toList ++ [32])) ++ parW ((pairR pairL c).2.1 + 1) r (prX r).1
     else [], parW 5 l (prX l).1)
def prN (n : Int) (e : Ex) : List UInt8 := parW n e (prX e).1
/-- the values of a tree can be written -/
def TreeOk : Ex → Prop
  | .nil => True
  | .node _ v _ l r => VlOk v ∧ TreeOk l ∧ TreeOk r
/-- a tree that lay there before the writer -/
def TrAt (b : Nat) (w : World) (p : Option Addr) (e : Ex) : Prop := ∃ w0 q, ExIs q w0 p e ∧ w0.heap.size ≤ b ∧ Below w0.heap.size w0 w
theorem TrAt.keep {b : Nat} {w w' : World} {p : Option Addr} {e : Ex} (h : TrAt b w p e) (k : Below b w w') : TrAt b w' p e := by
  obtain ⟨w0, q, h1, h2, h3⟩ := h
  exact ⟨w0, q, h1, h2, h3.trans (k.mono h2)⟩
theorem TrAt.node {b : Nat} {w : World} {p : Option Addr} {c : Int} {v : Vl} {nm : ByteArray} {l r : Ex} (h : TrAt b w p (.node c v nm l r)) : ∃ B pl pr, p = some ⟨B, 0, none⟩ ∧ Blk B #[.int .i64 c, .int .i64 v.k, .int .i64 v.n, .string v.t, .string nm, .pointer pl, .pointer pr] 75 w ∧ TrAt b w pl l ∧ TrAt b w pr r := by
  obtain ⟨w0, q, ⟨B, pl, pr, e, _, h1, h4, h5⟩, h2, h3⟩ := h
  exact ⟨B, pl, pr, e, (h3.block B (Array.getElem?_eq_some_iff.1 h1).1).trans h1, ⟨w0, q, h4, h2, h3⟩, ⟨w0, q, h5, h2, h3⟩⟩
theorem TrAt.nil {b : Nat} {w : World} {p : Option Addr} (h : TrAt b w p .nil) : p = none := by
  obtain ⟨w0, q, h1, _⟩ := h
  exact h1
/-- a writer at work -/
structure WS (b : Nat) (l : List UInt8) (w : World) : Prop where
  wr : Wr b l w
  g : GAt w
  lo : 12 ≤ b
def Puts (b : Nat) (l t : List UInt8) (w : World) (e : Ending) (w' : World) : Prop := e = .returned (.tuple #[]) ∧ WS b (l ++ t) w' ∧ WK b w w'
theorem WS.alloc {b : Nat} {l : List UInt8} {w : World} (h : WS b l w) (o : Obj) : WS b l (w.alloc o) := ⟨h.wr.alloc o, h.g.below (n := w.heap.size) ((Below.refl _ _).alloc (Nat.le_refl _) _) (by have := h.g.lo; omega), h.lo⟩
theorem WS.below {b : Nat} {l : List UInt8} {w w' : World} (h : WS b l w) (hb : Below w.heap.size w w') : WS b l w' := by
  refine ⟨?_, h.g.below hb h.g.lo, h.lo⟩
  have hlt := h.wr.lt
  rcases h.wr with ⟨h0, v, h1, h2, h3⟩ | ⟨h0, v, h1, h2, h3⟩
  · refine .inl ⟨h0, v, (hb.block b hlt).trans h1, ⟨h2.1, ?_⟩, h3⟩
    rcases h2.2 with h4 | ⟨g, cap, cur, fz, e1, e2, e3, e4⟩
    · exact .inl h4
    · exact .inr ⟨g, cap, cur, fz, e1, e2, (hb.block g (Array.getElem?_eq_some_iff.1 e3).1).trans e3, e4⟩
  · refine .inr ⟨h0, v, (hb.block b hlt).trans h1, ⟨h2.1, ?_⟩, h3⟩
    rcases h2.2 with h4 | ⟨g, cap, cur, fz, e1, e2, e3, e4⟩
    · exact .inl h4
    · exact .inr ⟨g, cap, cur, fz, e1, e2, (hb.block g (Array.getElem?_eq_some_iff.1 e3).1).trans e3, e4⟩
theorem WK.of_below {b : Nat} {w w' : World} (hb : Below w.heap.size w w') (h : b ≤ w.heap.size) : WK b w w' := ⟨hb.mono h, fun k _ hk _ _ => (hb.block k (Array.getElem?_eq_some_iff.1 hk).1).trans hk⟩
end Go.Proofs.YtmabfbffpedfnaaGreatDoor
