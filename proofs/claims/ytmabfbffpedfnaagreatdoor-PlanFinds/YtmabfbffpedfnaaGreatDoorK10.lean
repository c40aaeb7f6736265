/- Part 10 of 30. -/
import Derived.Test.YtmabfbffpedfnaaGreatDoorK09
namespace Go.Proofs.YtmabfbffpedfnaaGreatDoor
open Go.RowKit

/-- the tokens of bytes, without their places -/
def kts : Except (Int × Nat) (List Tok) → Option (List KT)
  | .ok L => some (L.map Tok.kt)
  | .error _ => none
theorem kts_at (f : Nat) : ∀ i j n l, kts (lexL f i n l) = kts (lexL f j n l) := by
  induction f with
  | zero => intro i j n l; rfl
  | succ f ih =>
    intro i j n l
    cases l with
    | nil => rfl
    | cons c l =>
      rw [lexL, lexL]
      split
      · exact ih _ _ _ _
      · split
        · rfl
        · rename_i k t m hm
          split
          · rfl
          · have := ih (i + m) (j + m) (n + 1) ((c :: l).drop m)
            generalize lexL f (i + m) (n + 1) ((c :: l).drop m) = a at *
            generalize lexL f (j + m) (n + 1) ((c :: l).drop m) = b at *
            cases a with
            | error a =>
              cases b with
              | error b => rfl
              | ok b => cases this
            | ok a =>
              cases b with
              | error b => cases this
              | ok b =>
                have := Option.some.inj this
                show some (_ :: _) = some (_ :: _)
                rw [this]
                rfl
def LK (n : Nat) (l : List UInt8) : Option (List KT) := kts (lexF 0 n l)
theorem LK_at (i n : Nat) (l : List UInt8) : kts (lexF i n l) = LK n l := kts_at _ _ _ _ _
theorem LK_blank {c : UInt8} (h : blankC c = true) (n : Nat) (l : List UInt8) : LK n (c :: l) = LK n l := by
  rw [LK, lexF_blank h, LK_at]
theorem LK_tok {c : UInt8} {l : List UInt8} {k : Int} {t : List UInt8} {m : Nat} (hb : blankC c = false) (h : nextT (c :: l) = some (k, t, m)) {n : Nat} (hn : ¬ ((k = 2 ∧ 19 < m) ∨ n = 200)) :
    LK n (c :: l) = (LK (n + 1) ((c :: l).drop m)).map ((k, ⟨t.toArray⟩) :: ·) := by
  rw [LK, lexF_tok hb h hn, ← LK_at (0 + m)]
  cases lexF (0 + m) (n + 1) ((c :: l).drop m) <;> rfl
/-- bytes behind which a word, a number, a text or a sign has ended -/
def cloC (c : UInt8) : Prop := wordC c = false ∧ c.toNat ≠ 39 ∧ c.toNat ≠ 62 ∧ c.toNat ≠ 61
def clo (r : List UInt8) : Prop := ∀ c ∈ r.head?, cloC c
def cloS (b : List UInt8) : Prop := ∃ c l, b = c :: l ∧ cloC c
theorem cloS.app {b : List UInt8} (h : cloS b) (r : List UInt8) : clo (b ++ r) := by
  obtain ⟨c, l, rfl, hc⟩ := h
  intro d hd
  simp only [List.cons_append, List.head?_cons, Option.mem_def, Option.some.injEq] at hd
  subst hd; exact hc
theorem cloS.more {b : List UInt8} (h : cloS b) (r : List UInt8) : cloS (b ++ r) := by
  obtain ⟨c, l, rfl, hc⟩ := h
  exact ⟨c, l ++ r, rfl, hc⟩
theorem clo_blank (l : List UInt8) : cloS (32 :: l) := ⟨32, l, rfl, by unfold cloC; decide⟩
theorem clo_close (l : List UInt8) : cloS (41 :: l) := ⟨41, l, rfl, by unfold cloC; decide⟩
theorem clo_open (l : List UInt8) : cloS (40 :: l) := ⟨40, l, rfl, by unfold cloC; decide⟩
theorem clo_comma (l : List UInt8) : cloS (44 :: l) := ⟨44, l, rfl, by unfold cloC; decide⟩
theorem clo_dot (l : List UInt8) : cloS (46 :: l) := ⟨46, l, rfl, by unfold cloC; decide⟩
/-- how long a token is, as it is written -/
def wr1 (x : KT) : Nat := if x.1 = 3 then (esc x.2.data.toList).length + 2 else x.2.size
/-- these bytes are cut into these tokens, whatever stands behind them (a: anything; else: what ends them) -/
structure LxP (a : Bool) (k : Nat) (bs : List UInt8) (ts : List KT) : Prop where
  run : ∀ r n, (a = false → clo r) → n + ts.length ≤ 200 → LK n (bs ++ r) = (LK (n + ts.length) r).map (ts ++ ·)
  len : bs.length ≤ wt wr1 ts + k
theorem LxP.weak {a : Bool} {k j : Nat} {bs : List UInt8} {ts : List KT} (h : LxP a k bs ts) (hj : k ≤ j) : LxP a j bs ts := ⟨h.run, by have := h.len; omega⟩
theorem LxP.less {a : Bool} {k : Nat} {bs : List UInt8} {ts : List KT} (h : LxP a k bs ts) : LxP false k bs ts := ⟨fun r n hr hn => h.run r n (fun _ => hr rfl) hn, h.len⟩
theorem LxP.join {a b : Bool} {k j : Nat} {ab bs : List UInt8} {ss ts : List KT} (h : LxP a k ab ss) (g : LxP b j bs ts) (hc : a = false → cloS bs) : LxP b (k + j) (ab ++ bs) (ss ++ ts) := by
  refine ⟨fun r n hr hn => ?_, ?_⟩
  · rw [List.length_append] at hn
    rw [List.append_assoc, h.run (bs ++ r) n (fun e => (hc e).app r) (by omega), g.run r (n + ss.length) hr (by omega), List.length_append, Option.map_map, show n + (ss.length + ts.length) = n + ss.length + ts.length by omega]
    congr 1
    funext x
    simp
  · rw [List.length_append, wt_append]
    have := h.len
    have := g.len
    omega
theorem LxP.app {b : Bool} {k j : Nat} {ab bs : List UInt8} {ss ts : List KT} (h : LxP true k ab ss) (g : LxP b j bs ts) : LxP b (k + j) (ab ++ bs) (ss ++ ts) := h.join g (fun e => by cases e)
theorem LxP.blank : LxP true 1 [32] [] := by
  refine ⟨fun r n _ _ => ?_, by decide⟩
  rw [List.singleton_append, LK_blank (by decide)]
  show LK n r = (LK (n + 0) r).map _
  simp
theorem LxP.none : LxP true 0 [] [] := ⟨fun r n _ _ => by simp, by decide⟩
theorem LxP.tok {a : Bool} {c : UInt8} {l : List UInt8} {k : Int} {t : ByteArray} (hb : blankC c = false) (hx : ∀ r, (a = false → clo r) → nextT (c :: l ++ r) = some (k, t.data.toList, l.length + 1)) (h2 : k = 2 → l.length + 1 ≤ 19) (hw : l.length + 1 ≤ wr1 (k, t)) : LxP a 0 (c :: l) [(k, t)] := by
  refine ⟨fun r n hr hn => ?_, by rw [wt_cons, wt_nil, List.length_cons]; omega⟩
  have h := hx r hr
  simp only [List.length_cons, List.length_nil] at hn
  rw [List.cons_append] at h ⊢
  rw [LK_tok hb h (by rintro (⟨e, h3⟩ | e); (have := h2 e; omega); omega)]
  have e : (c :: (l ++ r)).drop (l.length + 1) = r := by simp
  rw [e]
  simp
theorem LxP.word {t : ByteArray} (h : wordB t) : LxP false 0 t.data.toList [(1, t)] := by
  obtain ⟨c, l, e, hc, hl, hs⟩ := h
  rw [e]
  have hcw : wordC c = true := by rw [wordC, hc]; rfl
  refine LxP.tok ((byte_at c).2.1 hcw).1 (fun r hr => ?_) (fun h => absurd h (by decide)) ?_
  · have hrw : ∀ d ∈ r.head?, wordC d = false := fun d hd => (hr rfl d hd).1
    rw [List.cons_append, nextT, if_pos hc, while_all _ _ hl hrw, hs, e]
  · show _ ≤ t.size
    rw [← ba_len, e]; exact Nat.le_refl _
theorem wordC_dg {c : UInt8} (h : wordC c = false) : isDg c = false := by
  rw [wordC, Bool.or_eq_false_iff] at h
  exact h.2
theorem dg_not_al (c : UInt8) (h : isDg c = true) : isAl c = false := by
  simp only [isDg, digN, Bool.and_eq_true, decide_eq_true_eq] at h
  simp only [isAl, alphaN, Bool.or_eq_false_iff, Bool.and_eq_false_iff, decide_eq_false_iff_not]
  omega
theorem LxP.num {u : Nat} (h : Lib.nDigits u ≤ 19) : LxP false 0 (Lib.decDigits u) [(2, ⟨(Lib.decDigits u).toArray⟩)] := by
  obtain ⟨c, l, e⟩ := dec_cons u
  have hd := dec_all u
  have hn := Lib.decDigits_length u
  rw [e] at hd hn ⊢
  have hc := hd c (by simp)
  rw [List.length_cons] at hn
  refine LxP.tok ((byte_at c).2.1 (by rw [wordC, hc]; simp)).1 (fun r hr => ?_) (fun _ => by omega) ?_
  · rw [List.cons_append, nextT, if_neg (by rw [dg_not_al c hc]; decide), if_pos hc, while_all _ _ (fun d hm => hd d (by simp [hm])) (fun d hm => wordC_dg (hr rfl d hm).1)]
  · show _ ≤ ByteArray.size _
    rw [← ba_len]; simp
theorem strL_esc' (t : List UInt8) (r : List UInt8) (hr : ∀ c ∈ r.head?, c.toNat ≠ 39) : strL (esc t ++ 39 :: r) = some (t, (esc t).length + 1) := by
  induction t with
  | nil =>
    cases r with
    | nil => rfl
    | cons d r =>
      have h := hr d rfl
      show strL (39 :: d :: r) = _
      rw [strL, if_pos (show UInt8.toNat 39 = 39 from rfl), if_neg h]; rfl
  | cons c t ih =>
    rw [esc]
    by_cases hc : c.toNat = 39
    · rw [if_pos hc, List.cons_append, List.cons_append, strL, if_pos hc, if_pos hc, ih]
      rfl
    · rw [if_neg hc, List.cons_append]
      have key : ∀ l : List UInt8, l ≠ [] → strL (c :: l) = (strL l).map (fun x => (c :: x.1, x.2 + 1)) := by
        intro l hl
        cases l with
        | nil => exact absurd rfl hl
        | cons d l => rw [strL, if_neg hc]
      rw [key _ (by simp), ih]
      rfl
theorem LxP.str (t : ByteArray) : LxP false 0 (39 :: (esc t.data.toList ++ [39])) [(3, t)] := by
  refine LxP.tok (by decide) (fun r hr => ?_) (fun h => absurd h (by decide)) ?_
  · rw [List.cons_append, nextT, if_neg (by decide), if_neg (by decide), if_pos (show UInt8.toNat 39 = 39 from rfl), List.append_assoc, List.singleton_append, strL_esc' _ _ (fun c hc => (hr rfl c hc).2.1)]
    simp
  · show _ ≤ (esc t.data.toList).length + 2
    simp
theorem LxP.mark {c : UInt8} (h1 : isAl c = false) (h2 : isDg c = false) (h3 : ¬ c.toNat = 39) (h4 : markC c = true) (h5 : c.toNat ≠ 60 ∧ c.toNat ≠ 62) : LxP true 0 [c] [(4, ⟨#[c]⟩)] := by
  refine LxP.tok ((byte_at c).2.2.2 h4) (fun r _ => ?_) (fun h => absurd h (by decide)) (Nat.le_refl _)
  rw [List.singleton_append, nextT, if_neg (by rw [h1]; decide), if_neg (by rw [h2]; decide), if_neg h3, if_pos h4]
  cases r with
  | nil => rfl
  | cons d r => rw [markT, if_neg (by simp [twoC, h5.1, h5.2])]; rfl
theorem LxP.mark' {c : UInt8} (h1 : isAl c = false) (h2 : isDg c = false) (h3 : ¬ c.toNat = 39) (h4 : markC c = true) : LxP false 0 [c] [(4, ⟨#[c]⟩)] := by
  refine LxP.tok ((byte_at c).2.2.2 h4) (fun r hr => ?_) (fun h => absurd h (by decide)) (Nat.le_refl _)
  rw [List.singleton_append, nextT, if_neg (by rw [h1]; decide), if_neg (by rw [h2]; decide), if_neg h3, if_pos h4]
  cases r with
  | nil => rfl
  | cons d r =>
    have := (hr rfl d rfl).2
    rw [markT, if_neg (by simp [twoC, this.2.1, this.2.2])]; rfl
theorem LxP.mark2 {c d : UInt8} (h1 : isAl c = false) (h2 : isDg c = false) (h3 : ¬ c.toNat = 39) (h4 : markC c = true) (h5 : twoC c d = true) : LxP true 0 [c, d] [(4, ⟨#[c, d]⟩)] := by
  refine LxP.tok ((byte_at c).2.2.2 h4) (fun r _ => ?_) (fun h => absurd h (by decide)) (Nat.le_refl _)
  rw [List.cons_append, nextT, if_neg (by rw [h1]; decide), if_neg (by rw [h2]; decide), if_neg h3, if_pos h4, List.singleton_append, markT, if_pos h5]
  rfl
/-- a blank behind -/
theorem LxP.then {a : Bool} {k : Nat} {bs : List UInt8} {ts : List KT} (h : LxP a k bs ts) : LxP true (k + 1) (bs ++ [32]) ts := by
  have := h.join LxP.blank (fun _ => clo_blank [])
  rw [List.append_nil] at this
  exact this
/-- a blank ahead -/
theorem LxP.ahead {a : Bool} {k : Nat} {bs : List UInt8} {ts : List KT} (h : LxP a k bs ts) : LxP a (k + 1) (32 :: bs) ts := by
  have := LxP.blank.app h
  rw [List.nil_append] at this
  exact this.weak (by omega)
/-- a word, by its bytes -/
def wdB (l : List UInt8) : Bool := match l with
  | c :: r => isAl c && r.all wordC && decide (smallL (c :: r) = c :: r)
  | [] => false
theorem wordB_of {l : List UInt8} (h : wdB l = true) : wordB ⟨l.toArray⟩ := by
  cases l with
  | nil => cases h
  | cons c r =>
    simp only [wdB, Bool.and_eq_true, decide_eq_true_eq, List.all_eq_true] at h
    exact ⟨c, r, rfl, h.1.1, h.1.2, h.2⟩
theorem LxP.wd (l : List UInt8) (h : wdB l = true) : LxP false 0 l [(1, ⟨l.toArray⟩)] := LxP.word (wordB_of h)
end Go.Proofs.YtmabfbffpedfnaaGreatDoor
namespace Go.Proofs.YtmabfbffpedfnaaGreatDoor
open Go.RowKit

theorem Ft.node {d : Nat} {n : Int} {e : Ex} {ts : List KT} (h : Ft d n e ts) : ∃ c v nm l r, e = .node c v nm l r := by
  induction h with
  | par _ _ ih => exact ih
  | lit _ _ => exact ⟨_, _, _, _, _, rfl⟩
  | col _ _ => exact ⟨_, _, _, _, _, rfl⟩
  | neg _ _ _ => exact ⟨_, _, _, _, _, rfl⟩
  | not _ _ _ _ => exact ⟨_, _, _, _, _, rfl⟩
  | nnul _ _ _ => exact ⟨_, _, _, _, _, rfl⟩
  | nul _ _ _ => exact ⟨_, _, _, _, _, rfl⟩
  | mat _ _ _ => exact ⟨_, _, _, _, _, rfl⟩
  | ask _ _ _ _ _ _ => exact ⟨_, _, _, _, _, rfl⟩
  | sum _ _ _ _ _ _ => exact ⟨_, _, _, _, _, rfl⟩
  | mul _ _ _ _ _ _ => exact ⟨_, _, _, _, _, rfl⟩
  | and _ _ _ _ _ _ => exact ⟨_, _, _, _, _, rfl⟩
  | or _ _ _ _ _ _ => exact ⟨_, _, _, _, _, rfl⟩
theorem prN_bare {n c : Int} {v : Vl} {nm : ByteArray} {l r : Ex} (h : n ≤ lvlC c) : prN n (.node c v nm l r) = (prX (.node c v nm l r)).1 := by
  rw [prN, parW, if_neg (by omega)]
theorem prN_par {n c : Int} {v : Vl} {nm : ByteArray} {l r : Ex} (h : lvlC c < n) : prN n (.node c v nm l r) = 40 :: ((prX (.node c v nm l r)).1 ++ [41]) := by
  rw [prN, parW, if_pos h]
theorem LitV.lx {v : Vl} {t : KT} (h : LitV v t) : LxP false 0 (litL v) [t] := by
  cases h with
  | null => exact LxP.wd [110, 117, 108, 108] (by decide)
  | @num n h0 h1 =>
    have : Lib.nDigits n.toNat ≤ 19 := by
      rcases Nat.lt_or_ge (Lib.nDigits n.toNat) 20 with h | h
      · omega
      · exfalso
        have key : ∀ u, 10 ^ (Lib.nDigits u - 1) ≤ u ∨ Lib.nDigits u = 1 := by
          intro u
          induction u using Nat.strongRecOn with
          | _ u ih =>
            by_cases hu : u < 10
            · exact Or.inr (Lib.nDigits_small hu)
            · left
              rw [Lib.nDigits_big hu]
              rcases ih (u / 10) (by omega) with k | k
              · have hp := Lib.nDigits_pos (u / 10)
                rw [show Lib.nDigits (u / 10) + 1 - 1 = (Lib.nDigits (u / 10) - 1) + 1 by omega, Nat.pow_succ]
                omega
              · rw [k]; simp; omega
        rcases key n.toNat with k | k
        · have : 10 ^ 19 ≤ 10 ^ (Lib.nDigits n.toNat - 1) := Nat.pow_le_pow_right (by decide) (by omega)
          omega
        · omega
    exact LxP.num this
  | txt h => exact LxP.str _
theorem LxP.dot : LxP true 0 [46] [(4, ⟨#[46]⟩)] := LxP.mark (by decide) (by decide) (by decide) (by decide) (by decide)
theorem ColN.lx {nm : ByteArray} {ts : List KT} (h : ColN nm ts) : LxP false 0 nm.data.toList ts := by
  cases h with
  | one h => exact LxP.word h.word
  | @two a b h k =>
    have e : (a ++ ((⟨#[46]⟩ : ByteArray) ++ b)).data.toList = a.data.toList ++ ([46] ++ b.data.toList) := by simp
    rw [e]
    exact (LxP.word h.word).join (LxP.dot.app (LxP.word k.word)) (fun _ => clo_dot _)
theorem LxP.lpar : LxP true 0 [40] [(4, ⟨#[40]⟩)] := LxP.mark (by decide) (by decide) (by decide) (by decide) (by decide)
theorem LxP.rpar : LxP true 0 [41] [(4, ⟨#[41]⟩)] := LxP.mark (by decide) (by decide) (by decide) (by decide) (by decide)
theorem LxP.dash : LxP true 0 [45] [(4, ⟨#[45]⟩)] := LxP.mark (by decide) (by decide) (by decide) (by decide) (by decide)
/-- a sign of two, with its blanks -/
theorem cmp_lx : ∀ s ∈ cmpS, LxP true 2 ([32] ++ (s.1.data.toList ++ [32])) [(4, s.1)] := by
  intro s hs
  simp only [cmpS, List.mem_cons, List.not_mem_nil, or_false] at hs
  rcases hs with rfl | rfl | rfl | rfl | rfl | rfl
  · exact ((LxP.mark (c := 61) (by decide) (by decide) (by decide) (by decide) (by decide)).then).ahead
  · exact ((LxP.mark2 (c := 60) (d := 62) (by decide) (by decide) (by decide) (by decide) (by decide)).then).ahead
  · exact ((LxP.mark' (c := 60) (by decide) (by decide) (by decide) (by decide)).then).ahead
  · exact ((LxP.mark2 (c := 60) (d := 61) (by decide) (by decide) (by decide) (by decide) (by decide)).then).ahead
  · exact ((LxP.mark' (c := 62) (by decide) (by decide) (by decide) (by decide)).then).ahead
  · exact ((LxP.mark2 (c := 62) (d := 61) (by decide) (by decide) (by decide) (by decide) (by decide)).then).ahead
theorem sum_lx : ∀ s ∈ sumS, LxP true 2 ([32] ++ (s.1.data.toList ++ [32])) [(4, s.1)] := by
  intro s hs
  simp only [sumS, List.mem_cons, List.not_mem_nil, or_false] at hs
  rcases hs with rfl | rfl
  · exact ((LxP.mark (c := 43) (by decide) (by decide) (by decide) (by decide) (by decide)).then).ahead
  · exact ((LxP.mark (c := 45) (by decide) (by decide) (by decide) (by decide) (by decide)).then).ahead
theorem mul_lx : ∀ s ∈ mulS, LxP true 2 ([32] ++ (s.1.data.toList ++ [32])) [(4, s.1)] := by
  intro s hs
  simp only [mulS, List.mem_cons, List.not_mem_nil, or_false] at hs
  rcases hs with rfl
  exact ((LxP.mark (c := 42) (by decide) (by decide) (by decide) (by decide) (by decide)).then).ahead
theorem and_lx : ∀ s ∈ andS, LxP true 2 ([32] ++ (s.1.data.toList ++ [32])) [(1, s.1)] := by
  intro s hs
  simp only [andS, List.mem_cons, List.not_mem_nil, or_false] at hs
  rcases hs with rfl
  exact ((LxP.wd [97, 110, 100] (by decide)).then).ahead
theorem or_lx : ∀ s ∈ orS, LxP true 2 ([32] ++ (s.1.data.toList ++ [32])) [(1, s.1)] := by
  intro s hs
  simp only [orS, List.mem_cons, List.not_mem_nil, or_false] at hs
  rcases hs with rfl
  exact ((LxP.wd [111, 114] (by decide)).then).ahead
theorem null_lx : LxP false 2 [32, 105, 115, 32, 110, 117, 108, 108] [(1, ⟨#[105, 115]⟩), (1, ⟨#[110, 117, 108, 108]⟩)] :=
  ((LxP.wd [105, 115] (by decide)).ahead).join ((LxP.wd [110, 117, 108, 108] (by decide)).ahead) (fun _ => clo_blank _)
theorem nnull_lx : LxP false 3 [32, 105, 115, 32, 110, 111, 116, 32, 110, 117, 108, 108] [(1, ⟨#[105, 115]⟩), (1, ⟨#[110, 111, 116]⟩), (1, ⟨#[110, 117, 108, 108]⟩)] :=
  ((LxP.wd [105, 115] (by decide)).ahead).join (((LxP.wd [110, 111, 116] (by decide)).ahead).join ((LxP.wd [110, 117, 108, 108] (by decide)).ahead) (fun _ => clo_blank _)) (fun _ => clo_blank _)
theorem match_lx : LxP true 2 [32, 109, 97, 116, 99, 104, 32] [(1, ⟨#[109, 97, 116, 99, 104]⟩)] := ((LxP.wd [109, 97, 116, 99, 104] (by decide)).then).ahead
theorem not_lx : LxP true 1 [110, 111, 116, 32] [(1, ⟨#[110, 111, 116]⟩)] := (LxP.wd [110, 111, 116] (by decide)).then
theorem pX1 (v : Vl) (nm : ByteArray) (x y : Ex) : (prX (.node 1 v nm x y)).1 = litL v := by rw [prX]; simp only [↓reduceIte]
theorem pX2 (v : Vl) (nm : ByteArray) (x y : Ex) : (prX (.node 2 v nm x y)).1 = nm.data.toList := by rw [prX]; simp only [Int.reduceEq, ↓reduceIte]
theorem pX3 (v : Vl) (nm : ByteArray) (x y : Ex) : (prX (.node 3 v nm x y)).1 = [45, 32] ++ prN 7 x := by rw [prX]; simp only [Int.reduceEq, ↓reduceIte]; rfl
theorem pX4 (v : Vl) (nm : ByteArray) (x y : Ex) (h : x.code ≠ 5) : (prX (.node 4 v nm x y)).1 = [110, 111, 116, 32] ++ prN 3 x := by rw [prX]; simp only [Int.reduceEq, ↓reduceIte, if_neg h]; rfl
theorem pX4n (v u : Vl) (nm mm : ByteArray) (x y z : Ex) : (prX (.node 4 v nm (.node 5 u mm x z) y)).1 = prN 5 x ++ [32, 105, 115, 32, 110, 111, 116, 32, 110, 117, 108, 108] := by rw [prX]; simp only [Int.reduceEq, ↓reduceIte, Ex.code]; rw [prX]; rfl
theorem pX5 (v : Vl) (nm : ByteArray) (x y : Ex) : (prX (.node 5 v nm x y)).1 = prN 5 x ++ [32, 105, 115, 32, 110, 117, 108, 108] := by rw [prX]; simp only [Int.reduceEq, ↓reduceIte]; rfl
theorem pX17 (v : Vl) (nm : ByteArray) (x y : Ex) : (prX (.node 17 v nm x y)).1 = prN 5 x ++ ([32, 109, 97, 116, 99, 104, 32] ++ litL v) := by rw [prX]; simp only [Int.reduceEq, ↓reduceIte]; rfl
theorem pXp {c lv lf : Int} {s : ByteArray} (v : Vl) (nm : ByteArray) (x y : Ex) (h : c ≠ 1 ∧ c ≠ 2 ∧ c ≠ 3 ∧ c ≠ 4 ∧ c ≠ 5 ∧ c ≠ 17 ∧ pairR pairL c = (s, lv, true)) (hl : lf = if lv = 4 then lv + 1 else lv) : (prX (.node c v nm x y)).1 = prN lf x ++ ([32] ++ (s.data.toList ++ [32])) ++ prN (lv + 1) y := by
  obtain ⟨h1, h2, h3, h4, h5, h6, h7⟩ := h
  rw [prX, if_neg h1, if_neg h2, if_neg h3, if_neg h4, if_neg h5, if_neg h6, h7]
  subst hl
  rfl
theorem cmp_pr : ∀ s ∈ cmpS, s.2 ≠ 1 ∧ s.2 ≠ 2 ∧ s.2 ≠ 3 ∧ s.2 ≠ 4 ∧ s.2 ≠ 5 ∧ s.2 ≠ 17 ∧ pairR pairL s.2 = (s.1, 4, true) := by decide +kernel
theorem sum_pr : ∀ s ∈ sumS, s.2 ≠ 1 ∧ s.2 ≠ 2 ∧ s.2 ≠ 3 ∧ s.2 ≠ 4 ∧ s.2 ≠ 5 ∧ s.2 ≠ 17 ∧ pairR pairL s.2 = (s.1, 5, true) := by decide +kernel
theorem mul_pr : ∀ s ∈ mulS, s.2 ≠ 1 ∧ s.2 ≠ 2 ∧ s.2 ≠ 3 ∧ s.2 ≠ 4 ∧ s.2 ≠ 5 ∧ s.2 ≠ 17 ∧ pairR pairL s.2 = (s.1, 6, true) := by decide +kernel
theorem and_pr : ∀ s ∈ andS, s.2 ≠ 1 ∧ s.2 ≠ 2 ∧ s.2 ≠ 3 ∧ s.2 ≠ 4 ∧ s.2 ≠ 5 ∧ s.2 ≠ 17 ∧ pairR pairL s.2 = (s.1, 2, true) := by decide +kernel
theorem or_pr : ∀ s ∈ orS, s.2 ≠ 1 ∧ s.2 ≠ 2 ∧ s.2 ≠ 3 ∧ s.2 ≠ 4 ∧ s.2 ≠ 5 ∧ s.2 ≠ 17 ∧ pairR pairL s.2 = (s.1, 1, true) := by decide +kernel
theorem pair_lx {k : Int} {s : ByteArray × Int} {bx by_ : List UInt8} {ts us : List KT} (hs : LxP true 2 ([32] ++ (s.1.data.toList ++ [32])) [(k, s.1)]) (hx : LxP false (2 * ts.length) bx ts) (hy : LxP false (2 * us.length) by_ us) : LxP false (2 * (ts ++ ((k, s.1) :: us)).length) (bx ++ ([32] ++ (s.1.data.toList ++ [32])) ++ by_) (ts ++ ((k, s.1) :: us)) := by
  have h := (hx.join hs (fun _ => clo_blank _)).app hy
  rw [List.append_assoc ts, List.singleton_append (x := (k, s.1))] at h
  exact h.weak (by rw [List.length_append, List.length_cons]; omega)
theorem Ft.lx {d : Nat} {n : Int} {e : Ex} {ts : List KT} (h : Ft d n e ts) : LxP false (2 * ts.length) (prN n e) ts := by
  induction h with
  | @par d n e ts hl hf ih =>
    obtain ⟨c, v, nm, l, r, rfl⟩ := hf.node
    rw [prN_bare (lvl_pos c)] at ih
    rw [prN_par (show lvlC c < n from hl)]
    exact ((LxP.lpar.app (ih.join LxP.rpar (fun _ => clo_close _))).less).weak (by simp only [List.length_append, List.length_cons]; omega)
  | lit a b => rw [prN_bare a, pX1]; exact b.lx.weak (by omega)
  | col a b => rw [prN_bare a, pX2]; exact b.lx.weak (by omega)
  | neg a _ ih =>
    rw [Ex.two, prN_bare a, pX3]
    exact ((LxP.dash.then).app ih).weak (by rw [List.length_cons]; omega)
  | not a b _ ih =>
    rw [Ex.two, prN_bare a, pX4 _ _ _ _ b]
    exact (not_lx.app ih).weak (by rw [List.length_cons]; omega)
  | nnul a _ ih =>
    rw [Ex.two, Ex.two, prN_bare a, pX4n]
    exact (ih.join nnull_lx (fun _ => clo_blank _)).weak (by simp only [List.length_append, List.length_cons, List.length_nil]; omega)
  | nul a _ ih =>
    rw [Ex.two, prN_bare a, pX5]
    exact (ih.join null_lx (fun _ => clo_blank _)).weak (by simp only [List.length_append, List.length_cons, List.length_nil]; omega)
  | mat a b c =>
    rw [prN_bare a, pX17, prN_bare (show (5 : Int) ≤ lvlC 2 by decide +kernel), pX2]
    exact (b.lx.join (match_lx.app (LitV.lx (.txt c))) (fun _ => clo_blank _)).weak (by simp only [List.length_append, List.length_cons, List.length_nil]; omega)
  | @ask d n s x y ts us a b _ _ ihx ihy =>
    rw [Ex.two, prN_bare (by rw [lvl_cmp s b]; exact a), pXp _ _ _ _ (cmp_pr s b) (lf := 5) (by decide)]
    exact pair_lx (cmp_lx s b) ihx ihy
  | @sum d n s x y ts us a b _ _ ihx ihy =>
    rw [Ex.two, prN_bare (by rw [lvl_sum s b]; exact a), pXp _ _ _ _ (sum_pr s b) (lf := 5) (by decide)]
    exact pair_lx (sum_lx s b) ihx ihy
  | @mul d n s x y ts us a b _ _ ihx ihy =>
    rw [Ex.two, prN_bare (by rw [lvl_mul s b]; exact a), pXp _ _ _ _ (mul_pr s b) (lf := 6) (by decide)]
    exact pair_lx (mul_lx s b) ihx ihy
  | @and d n s x y ts us a b _ _ ihx ihy =>
    rw [Ex.two, prN_bare (by rw [lvl_and s b]; exact a), pXp _ _ _ _ (and_pr s b) (lf := 2) (by decide)]
    exact pair_lx (and_lx s b) ihx ihy
  | @or d n s x y ts us a b _ _ ihx ihy =>
    rw [Ex.two, prN_bare (by rw [lvl_or s b]; exact a), pXp _ _ _ _ (or_pr s b) (lf := 1) (by decide)]
    exact pair_lx (or_lx s b) ihx ihy
theorem LitV.ok {v : Vl} {t : KT} (h : LitV v t) : VlOk v := by
  cases h with
  | null => exact ⟨fun h => absurd h (by show ¬ (0 : Int) = 1; decide), fun h => absurd h (by show ¬ (0 : Int) = 2; decide)⟩
  | num h0 h1 => exact ⟨fun _ => ⟨h0, h1⟩, fun h => absurd h (by show ¬ (1 : Int) = 2; decide)⟩
  | txt h =>
    simp only [rightT, Bool.and_eq_true, decide_eq_true_eq] at h
    exact ⟨fun h => absurd h (by show ¬ (2 : Int) = 1; decide), fun _ => by simp only; omega⟩
theorem none_ok : VlOk .none := LitV.ok .null
theorem Ft.tree {d : Nat} {n : Int} {e : Ex} {ts : List KT} (h : Ft d n e ts) : TreeOk e := by
  induction h with
  | par _ _ ih => exact ih
  | lit _ b => exact ⟨b.ok, trivial, trivial⟩
  | col _ _ => exact ⟨none_ok, trivial, trivial⟩
  | neg _ _ ih => exact ⟨none_ok, ih, trivial⟩
  | not _ _ _ ih => exact ⟨none_ok, ih, trivial⟩
  | nnul _ _ ih => exact ⟨none_ok, ⟨none_ok, ih, trivial⟩, trivial⟩
  | nul _ _ ih => exact ⟨none_ok, ih, trivial⟩
  | mat _ _ c => exact ⟨LitV.ok (.txt c), ⟨none_ok, trivial, trivial⟩, trivial⟩
  | ask _ _ _ _ i j => exact ⟨none_ok, i, j⟩
  | sum _ _ _ _ i j => exact ⟨none_ok, i, j⟩
  | mul _ _ _ _ i j => exact ⟨none_ok, i, j⟩
  | and _ _ _ _ i j => exact ⟨none_ok, i, j⟩
  | or _ _ _ _ i j => exact ⟨none_ok, i, j⟩
end Go.Proofs.YtmabfbffpedfnaaGreatDoor
namespace Go.Proofs.YtmabfbffpedfnaaGreatDoor
open Go.RowKit

/-- things with commas between, token by token -/
inductive Ls {α : Type} (P : α → List KT → Prop) : List α → List KT → Prop
  | one {a : α} {ts : List KT} : P a ts → Ls P [a] ts
  | more {L : List α} {a : α} {ts us : List KT} : Ls P L ts → P a us → Ls P (L ++ [a]) (ts ++ ((4, ⟨#[44]⟩) :: us))
theorem Ls.pos {α : Type} {P : α → List KT → Prop} {L : List α} {ts : List KT} (h : Ls P L ts) : 0 < L.length := by
  cases h <;> simp
theorem Ls.all {α : Type} {P : α → List KT → Prop} {L : List α} {ts : List KT} (h : Ls P L ts) : ∀ a ∈ L, ∃ us, P a us := by
  induction h with
  | one h => intro a ha; rw [List.mem_singleton] at ha; subst ha; exact ⟨_, h⟩
  | more _ h ih =>
    intro a ha
    rw [List.mem_append, List.mem_singleton] at ha
    rcases ha with ha | rfl
    · exact ih a ha
    · exact ⟨_, h⟩
/-- read again -/
theorem Ls.go {α : Type} {P : α → List KT → Prop} {F : Rf α} {St : List KT → Prop} (hc : ∀ l, St ((4, ⟨#[44]⟩) :: l)) (hF : ∀ a us, P a us → ∀ l, St l → F (us ++ l) = some (a, l)) {L : List α} {ts : List KT} (h : Ls P L ts) :
    ∀ l, St l → ∃ L0 T k, oneOf F [] (ts ++ l) = some (L0, T) ∧ k + l.length ≤ T.length ∧ ∀ f, eachL (oneOf F) (f + k) L0 T = eachL (oneOf F) f L l := by
  induction h with
  | one h => intro l hl; exact ⟨_, l, 0, by rw [oneOf, hF _ _ h l hl]; rfl, by omega, fun f => rfl⟩
  | @more L a ts us _ h ih =>
    intro l hl
    obtain ⟨L0, T, k, h1, h2, h3⟩ := ih ((4, ⟨#[44]⟩) :: (us ++ l)) (hc _)
    refine ⟨L0, T, k + 1, by rw [List.append_assoc, List.cons_append]; exact h1, by simp only [List.length_cons, List.length_append] at h2; omega, fun f => ?_⟩
    rw [show f + (k + 1) = (f + 1) + k by omega, h3 (f + 1), eachL, isT_self (Or.inr rfl), if_pos rfl, List.tail_cons, oneOf, hF _ _ h l hl]
    rfl
theorem Ls.read {α : Type} {P : α → List KT → Prop} {F : Rf α} {St : List KT → Prop} (hc : ∀ l, St ((4, ⟨#[44]⟩) :: l)) (hF : ∀ a us, P a us → ∀ l, St l → F (us ++ l) = some (a, l)) {L : List α} {ts : List KT} (h : Ls P L ts) (l : List KT) (hl : St l) (hn : isT ⟨#[44]⟩ l = false) : listF F (ts ++ l) = some (L, l) := by
  obtain ⟨L0, T, k, h1, h2, h3⟩ := h.go hc hF l hl
  rw [listF, listS, h1]
  show eachL (oneOf F) T.length L0 T = _
  rw [show T.length = (T.length - k) + k by omega, h3]
  exact each_stop hn _ _
/-- what is read can be printed -/
def RdP {α : Type} (F : Rf α) (P : α → List KT → Prop) : Prop := ∀ l, Src l → ∀ a l', F l = some (a, l') → Src l' ∧ ∃ ts, P a ts ∧ ∀ μ, MuOk μ → wt μ ts + wt μ l' ≤ wt μ l
theorem rdp_each {α : Type} {F : Rf α} {P : α → List KT → Prop} (hF : RdP F P) (f : Nat) : ∀ L l L' l', Src l → eachL (oneOf F) f L l = some (L', l') → ∀ ts, Ls P L ts → Src l' ∧ ∃ us, Ls P L' us ∧ ∀ μ, MuOk μ → wt μ us + wt μ l' ≤ wt μ ts + wt μ l := by
  induction f with
  | zero => intro L l L' l' hs h ts ht; cases h; exact ⟨hs, ts, ht, fun μ _ => Nat.le_refl _⟩
  | succ f ih =>
    intro L l L' l' hs h ts ht
    rw [eachL] at h
    split at h
    · rename_i hcm
      obtain ⟨⟨L2, l2⟩, hy, h⟩ := Option.bind_eq_some_iff.1 h
      obtain ⟨⟨a, l3⟩, ha, hy⟩ := Option.map_eq_some_iff.1 hy
      cases hy
      obtain ⟨hs2, us, hu, hw⟩ := hF _ hs.tail a l3 ha
      obtain ⟨hs3, vs, hv, hw2⟩ := ih _ _ _ _ hs2 h _ (.more ht hu)
      refine ⟨hs3, vs, hv, fun μ hμ => ?_⟩
      have a := hw μ hμ
      have b := hw2 μ hμ
      have c := isT_wt4 hcm hμ
      rw [wt_append, wt_cons] at b
      omega
    · cases h; exact ⟨hs, ts, ht, fun μ _ => Nat.le_refl _⟩
theorem rdp_list {α : Type} {F : Rf α} {P : α → List KT → Prop} (hF : RdP F P) : RdP (listF F) (Ls P) := by
  intro l hs L l' h
  obtain ⟨⟨L2, l2⟩, hy, h⟩ := Option.bind_eq_some_iff.1 h
  obtain ⟨⟨a, l3⟩, ha, hy⟩ := Option.map_eq_some_iff.1 hy
  cases hy
  obtain ⟨hs2, us, hu, hw⟩ := hF _ hs a l3 ha
  obtain ⟨hs3, vs, hv, hw2⟩ := rdp_each hF _ _ _ _ _ hs2 h us (.one hu)
  refine ⟨hs3, vs, hv, fun μ hμ => ?_⟩
  have a := hw μ hμ
  have b := hw2 μ hμ
  omega
/-- the bytes -/
theorem lstT_congr {F G : Nat → List UInt8} (n : Nat) (h : ∀ i, i < n → F i = G i) : lstT F n = lstT G n := by
  induction n with
  | zero => rfl
  | succ n ih => rw [lstT, lstT, ih (fun i hi => h i (by omega)), h n (by omega)]
theorem comma_lx : LxP true 1 [44, 32] [(4, ⟨#[44]⟩)] := (LxP.mark (c := 44) (by decide) (by decide) (by decide) (by decide) (by decide)).then
theorem Ls.lx {α : Type} {P : α → List KT → Prop} {G : α → List UInt8} {z : α} (hG : ∀ a us, P a us → LxP false (2 * us.length) (G a) us) {L : List α} {ts : List KT} (h : Ls P L ts) : LxP false (2 * ts.length) (lstT (fun i => G (L.getD i z)) L.length) ts := by
  induction h with
  | @one a ts h => exact hG a ts h
  | @more L a ts us hL h ih =>
    have hp := hL.pos
    rw [show (L ++ [a]).length = L.length + 1 by simp, lstT, if_pos hp]
    have e1 : lstT (fun i => G ((L ++ [a]).getD i z)) L.length = lstT (fun i => G (L.getD i z)) L.length := lstT_congr _ (fun i hi => by simp [List.getD, List.getElem?_append_left hi])
    have e2 : G ((L ++ [a]).getD L.length z) = G a := by simp [List.getD]
    rw [e1, e2]
    have := ih.join (comma_lx.app (hG a us h)) (fun _ => clo_comma _)
    exact this.weak (by rw [List.length_append, List.length_cons]; omega)
/-- a column -/
inductive ClT : Colm → List KT → Prop
  | mk {a : ByteArray} {k : Int} {m u : Bool} : NameW a → (k = 1 ∧ u = false ∨ k = 2) → ClT ⟨a, k, m, u⟩ ((1, a) :: ((if k = 2 then [(1, ⟨#[116, 101, 120, 116]⟩)] else [(1, ⟨#[105, 110, 116]⟩)]) ++ ((if m then [(1, ⟨#[110, 111, 116]⟩), (1, ⟨#[110, 117, 108, 108]⟩)] else []) ++ (if u then [(1, ⟨#[119, 111, 114, 100, 115]⟩)] else []))))
/-- a row -/
def RwT (L : List Ex) (ts : List KT) : Prop := ∃ us, Ls (Ft 12 1) L us ∧ ts = (4, ⟨#[40]⟩) :: (us ++ [(4, ⟨#[41]⟩)])
/-- what is set -/
inductive SeT : Ex → List KT → Prop
  | mk {a : ByteArray} {x : Ex} {us : List KT} : NameW a → Ft 12 1 x us → SeT (.node 2 .none a x .nil) ((1, a) :: (4, ⟨#[61]⟩) :: us)
/-- one that is asked -/
inductive ItT : Int × Ex → List KT → Prop
  | plain {x : Ex} {us : List KT} : Ft 12 1 x us → ItT (0, x) us
  | star : ItT (1, .nil) [(1, ⟨#[99, 111, 117, 110, 116]⟩), (4, ⟨#[40]⟩), (4, ⟨#[42]⟩), (4, ⟨#[41]⟩)]
  | agg {s : ByteArray × Int} {x : Ex} {us : List KT} : s ∈ aggL → Ft 12 1 x us → ItT (s.2, x) ((1, s.1) :: (4, ⟨#[40]⟩) :: (us ++ [(4, ⟨#[41]⟩)]))
/-- a rank -/
inductive RkT : Ex × Bool → List KT → Prop
  | rank {d : Bool} : RkT (.nil, d) ((1, ⟨#[114, 97, 110, 107]⟩) :: (if d then [(1, ⟨#[100, 101, 115, 99]⟩)] else []))
  | expr {x : Ex} {d : Bool} {us : List KT} : Ft 12 1 x us → RkT (x, d) (us ++ (if d then [(1, ⟨#[100, 101, 115, 99]⟩)] else []))
/-- an expression behind words, if there is one -/
inductive BhT (w : List KT) : Ex → List KT → Prop
  | no : BhT w .nil []
  | yes {x : Ex} {us : List KT} : Ft 12 1 x us → BhT w x (w ++ us)
inductive ItsT : List (Int × Ex) → List KT → Prop
  | star : ItsT [] [(4, ⟨#[42]⟩)]
  | list {L : List (Int × Ex)} {us : List KT} : Ls ItT L us → ItsT L us
inductive JnT : ByteArray → Ex → List KT → Prop
  | no : JnT ⟨#[]⟩ .nil []
  | yes {a : ByteArray} {x : Ex} {us : List KT} : NameW a → Ft 12 1 x us → JnT a x ((1, ⟨#[106, 111, 105, 110]⟩) :: (1, a) :: (1, ⟨#[111, 110]⟩) :: us)
inductive OrT : List (Ex × Bool) → List KT → Prop
  | no : OrT [] []
  | yes {L : List (Ex × Bool)} {us : List KT} : Ls RkT L us → OrT L ((1, ⟨#[111, 114, 100, 101, 114]⟩) :: (1, ⟨#[98, 121]⟩) :: us)
inductive LmT : Int → List KT → Prop
  | no : LmT (-1) []
  | yes {n : Int} : 0 ≤ n → n ≤ 999999999 → LmT n [(1, ⟨#[108, 105, 109, 105, 116]⟩), (2, ⟨(Lib.decDigits n.toNat).toArray⟩)]
/-- a statement, token by token -/
inductive StT : Stm → List KT → Prop
  | begin : StT (ofS 8 ⟨#[]⟩) [(1, ⟨#[98, 101, 103, 105, 110]⟩)]
  | commit : StT (ofS 9 ⟨#[]⟩) [(1, ⟨#[99, 111, 109, 109, 105, 116]⟩)]
  | rollback : StT (ofS 10 ⟨#[]⟩) [(1, ⟨#[114, 111, 108, 108, 98, 97, 99, 107]⟩)]
  | index {a b : ByteArray} : NameW a → NameW b → StT { ofS 2 a with name := b } [(1, ⟨#[99, 114, 101, 97, 116, 101]⟩), (1, ⟨#[105, 110, 100, 101, 120]⟩), (1, ⟨#[111, 110]⟩), (1, a), (4, ⟨#[40]⟩), (1, b), (4, ⟨#[41]⟩)]
  | create {a : ByteArray} {L : List Colm} {us : List KT} : NameW a → Ls ClT L us → StT { ofS 1 a with cols := L } ((1, ⟨#[99, 114, 101, 97, 116, 101]⟩) :: (1, ⟨#[116, 97, 98, 108, 101]⟩) :: (1, a) :: (4, ⟨#[40]⟩) :: (us ++ [(4, ⟨#[41]⟩)]))
  | drop {a : ByteArray} : NameW a → StT (ofS 3 a) [(1, ⟨#[100, 114, 111, 112]⟩), (1, ⟨#[116, 97, 98, 108, 101]⟩), (1, a)]
  | insert {a : ByteArray} {L : List (List Ex)} {us : List KT} : NameW a → Ls RwT L us → StT { ofS 4 a with rows := L } ((1, ⟨#[105, 110, 115, 101, 114, 116]⟩) :: (1, ⟨#[105, 110, 116, 111]⟩) :: (1, a) :: (1, ⟨#[118, 97, 108, 117, 101, 115]⟩) :: us)
  | delete {a : ByteArray} {x : Ex} {us : List KT} : NameW a → BhT [(1, ⟨#[119, 104, 101, 114, 101]⟩)] x us → StT { ofS 5 a with wh := x } ((1, ⟨#[100, 101, 108, 101, 116, 101]⟩) :: (1, ⟨#[102, 114, 111, 109]⟩) :: (1, a) :: us)
  | update {a : ByteArray} {L : List Ex} {x : Ex} {us vs : List KT} : NameW a → Ls SeT L us → BhT [(1, ⟨#[119, 104, 101, 114, 101]⟩)] x vs → StT { ofS 6 a with sets := L, wh := x } ((1, ⟨#[117, 112, 100, 97, 116, 101]⟩) :: (1, a) :: (1, ⟨#[115, 101, 116]⟩) :: (us ++ vs))
  | select {I : List (Int × Ex)} {a b : ByteArray} {on wh gr : Ex} {O : List (Ex × Bool)} {n : Int} {t1 t2 t3 t4 t5 t6 : List KT} : ItsT I t1 → NameW a → JnT b on t2 → BhT [(1, ⟨#[119, 104, 101, 114, 101]⟩)] wh t3 → BhT [(1, ⟨#[103, 114, 111, 117, 112]⟩), (1, ⟨#[98, 121]⟩)] gr t4 → OrT O t5 → LmT n t6 →
      StT ⟨7, a, b, [], ⟨#[]⟩, [], [], on, wh, I, gr, O, n⟩ ((1, ⟨#[115, 101, 108, 101, 99, 116]⟩) :: (t1 ++ ((1, ⟨#[102, 114, 111, 109]⟩) :: (1, a) :: (t2 ++ (t3 ++ (t4 ++ (t5 ++ t6)))))))
end Go.Proofs.YtmabfbffpedfnaaGreatDoor
namespace Go.Proofs.YtmabfbffpedfnaaGreatDoor
open Go.RowKit

theorem sgn_comma (l : List KT) : sgn ((4, ⟨#[44]⟩) :: l) < 1 := by rw [sgn_mark]; decide +kernel
theorem sgn_close (l : List KT) : sgn ((4, ⟨#[41]⟩) :: l) < 1 := by rw [sgn_mark]; decide +kernel
theorem sgn_kw {s : ByteArray} (h : sgnT s < 1) (l : List KT) : sgn ((1, s) :: l) < 1 := by rw [sgn_word]; exact h
theorem Ft.noT {d : Nat} {e : Ex} {ts : List KT} (h : Ft d 1 e ts) {s : ByteArray} (hs : s ∈ keepL ∨ ∃ c l, s.data.toList = c :: l ∧ isAl c = false) (h1 : s ≠ ⟨#[40]⟩) (h2 : s ≠ ⟨#[110, 117, 108, 108]⟩) (h3 : s ≠ ⟨#[45]⟩) (h4 : s ≠ ⟨#[110, 111, 116]⟩) (l : List KT) : isT s (ts ++ l) = false := by
  obtain ⟨t, m, rfl, k⟩ := h.hd
  exact k.isT hs h1 h2 (fun _ => h3) (fun _ => h4) _
theorem inside_read {α : Type} {F : Rf α} {a : α} {us l : List KT} (h : F (us ++ ((4, ⟨#[41]⟩) :: l)) = some (a, (4, ⟨#[41]⟩) :: l)) : insideF F ((4, ⟨#[40]⟩) :: (us ++ ((4, ⟨#[41]⟩) :: l))) = some (a, l) := by
  rw [insideF, need_self (Or.inr rfl), Option.bind_some, h, Option.bind_some]
  show (needF _ ((4, _) :: _)).map _ = _
  rw [need_self (Or.inr rfl)]
  rfl
/-- a comma or a ) stands there -/
def Sep (l : List KT) : Prop := ∃ r, l = (4, ⟨#[44]⟩) :: r ∨ l = (4, ⟨#[41]⟩) :: r
theorem Sep.no {l : List KT} (h : Sep l) {s : ByteArray} (h1 : ⟨#[44]⟩ ≠ s) (h2 : ⟨#[41]⟩ ≠ s) : isT s l = false := by
  obtain ⟨r, rfl | rfl⟩ := h
  · exact ne_isT h1 _
  · exact ne_isT h2 _
theorem ClT.read {c : Colm} {ts : List KT} (h : ClT c ts) (l : List KT) (hl : Sep l) : colmF (ts ++ l) = some (c, l) := by
  cases h with
  | @mk a k m u h hk =>
    have e0 := hl.no (s := ⟨#[110, 111, 116]⟩) (by decide +kernel) (by decide +kernel)
    have e1 := hl.no (s := ⟨#[119, 111, 114, 100, 115]⟩) (by decide +kernel) (by decide +kernel)
    have q1 : ∀ x, isT ⟨#[105, 110, 116]⟩ ((1, ⟨#[116, 101, 120, 116]⟩) :: x) = false := fun x => ne_isT (by decide +kernel) _
    have q2 : ∀ x, isT ⟨#[110, 111, 116]⟩ ((1, ⟨#[119, 111, 114, 100, 115]⟩) :: x) = false := fun x => ne_isT (by decide +kernel) _
    rw [List.cons_append, colmF, h.read, Option.bind_some]
    simp only
    rcases hk with ⟨rfl, rfl⟩ | rfl
    · rw [if_neg (by decide)]
      simp only [Bool.false_eq_true, if_false, List.append_nil]
      rw [List.append_assoc, List.singleton_append, colm1, isT_self (Or.inl rfl), if_pos rfl, Option.bind_some, List.tail_cons]
      cases m with
      | false =>
        rw [if_neg (by decide), List.nil_append, colm2, e0]
        simp [colm3]
      | true =>
        rw [if_pos rfl, List.cons_append, List.singleton_append, colm2, isT_self (Or.inl rfl), if_pos rfl, List.tail_cons, need_self (Or.inl rfl)]
        simp [colm3]
    · rw [if_pos rfl, List.append_assoc, List.singleton_append, colm1, q1, if_neg (by decide), need_self (Or.inl rfl), Option.map_some, Option.bind_some]
      simp only
      cases m with
      | false =>
        cases u with
        | false =>
          simp only [Bool.false_eq_true, if_false, List.nil_append]
          rw [colm2, e0]
          simp [colm3, e1]
        | true =>
          simp only [Bool.false_eq_true, if_false, if_true, List.nil_append, List.singleton_append]
          rw [colm2, q2]
          simp [colm3, isT_self]
      | true =>
        cases u with
        | false =>
          simp only [Bool.false_eq_true, if_false, if_true, List.append_nil, List.cons_append, List.nil_append]
          rw [colm2, isT_self (Or.inl rfl), if_pos rfl, List.tail_cons, need_self (Or.inl rfl)]
          simp [colm3, e1]
        | true =>
          simp only [if_true, List.cons_append, List.nil_append]
          rw [colm2, isT_self (Or.inl rfl), if_pos rfl, List.tail_cons, need_self (Or.inl rfl)]
          simp [colm3, isT_self]
theorem exprs_read {L : List Ex} {ts : List KT} (h : Ls (Ft 12 1) L ts) (l : List KT) (hl : sgn l < 1) (hn : isT ⟨#[44]⟩ l = false) : listF Ef (ts ++ l) = some (L, l) :=
  h.read (St := fun l => sgn l < 1) sgn_comma (fun _ _ h l hl => h.back l hl) l hl hn
theorem no_comma_close (l : List KT) : isT ⟨#[44]⟩ ((4, ⟨#[41]⟩) :: l) = false := ne_isT (by decide +kernel) _
theorem RwT.read {L : List Ex} {ts : List KT} (h : RwT L ts) (l : List KT) : rowF (ts ++ l) = some (L, l) := by
  obtain ⟨us, h, rfl⟩ := h
  rw [List.cons_append, List.append_assoc, List.singleton_append, rowF]
  exact inside_read (exprs_read h _ (sgn_close l) (no_comma_close l))
theorem SeT.read {x : Ex} {ts : List KT} (h : SeT x ts) (l : List KT) (hl : sgn l < 1) : setF (ts ++ l) = some (x, l) := by
  cases h with
  | mk h k =>
    rw [List.cons_append, List.cons_append, setF, h.read, Option.bind_some]
    simp only
    rw [need_self (Or.inr rfl), Option.bind_some, k.back l hl]
    rfl
theorem agg_keep : ∀ s ∈ aggL, s.1 ∈ keepL := by
  intro s hs
  simp only [aggL, List.mem_cons, List.not_mem_nil, or_false] at hs
  rcases hs with rfl | rfl | rfl | rfl <;> simp [keepL]
theorem agg_ne : ∀ s ∈ aggL, s.1 ≠ ⟨#[40]⟩ ∧ s.1 ≠ ⟨#[110, 117, 108, 108]⟩ ∧ s.1 ≠ ⟨#[45]⟩ ∧ s.1 ≠ ⟨#[110, 111, 116]⟩ := by decide +kernel
theorem find_agg (s : ByteArray × Int) (h : s ∈ aggL) (l : List KT) : aggL.find? (fun q => isT q.1 ((1, s.1) :: l)) = some s := by
  simp only [isT_cons]
  revert s
  decide +kernel
theorem Ft.noAgg {d : Nat} {e : Ex} {ts : List KT} (h : Ft d 1 e ts) (l : List KT) : aggL.find? (fun q => isT q.1 (ts ++ l)) = none := by
  rw [List.find?_eq_none]
  intro s hs
  have n := agg_ne s hs
  rw [h.noT (Or.inl (agg_keep s hs)) n.1 n.2.1 n.2.2.1 n.2.2.2]
  decide
theorem Ft.noStar {d : Nat} {e : Ex} {ts : List KT} (h : Ft d 1 e ts) (l : List KT) : isT ⟨#[42]⟩ (ts ++ l) = false :=
  h.noT (Or.inr ⟨42, [], rfl, by decide⟩) (by decide +kernel) (by decide +kernel) (by decide +kernel) (by decide +kernel) l
theorem ItT.read {x : Int × Ex} {ts : List KT} (h : ItT x ts) (l : List KT) (hl : sgn l < 1) : itemF (ts ++ l) = some (x, l) := by
  cases h with
  | plain h => rw [itemF, h.noAgg]; simp only; rw [h.back l hl]; rfl
  | star =>
    rw [List.cons_append, itemF, find_agg (⟨#[99, 111, 117, 110, 116]⟩, 1) (by simp [aggL])]
    simp only [List.tail_cons]
    have := inside_read (F := itemI 1) (a := Ex.nil) (us := [(4, ⟨#[42]⟩)]) (l := l) (by rw [itemI, List.singleton_append, if_pos ⟨rfl, isT_self (Or.inr rfl) _ _⟩]; rfl)
    rw [List.singleton_append] at this
    show (insideF (itemI 1) ((4, _) :: (4, _) :: (4, _) :: l)).map _ = _
    rw [this]
    rfl
  | @agg s x us hs h =>
    rw [List.cons_append, itemF, find_agg s hs]
    simp only [List.tail_cons]
    rw [List.cons_append, List.append_assoc, List.singleton_append, inside_read (F := itemI s.2) (a := x) (by rw [itemI, if_neg (by rw [h.noStar]; simp)]; exact h.back _ (sgn_close l))]
    rfl
/-- what may stand behind a rank -/
def StR (l : List KT) : Prop := sgn l < 1 ∧ isT ⟨#[97, 115, 99]⟩ l = false ∧ isT ⟨#[100, 101, 115, 99]⟩ l = false
theorem rank2_no {l : List KT} (h : StR l) : rank2 l = (false, l) := by rw [rank2, h.2.1, h.2.2]; rfl
theorem rank2_desc (l : List KT) : rank2 ((1, ⟨#[100, 101, 115, 99]⟩) :: l) = (true, l) := by
  rw [rank2, ne_isT (by decide +kernel), isT_self (Or.inl rfl)]; rfl
theorem rank_keep : ⟨#[114, 97, 110, 107]⟩ ∈ keepL := by simp [keepL]
theorem RkT.read {x : Ex × Bool} {ts : List KT} (h : RkT x ts) (l : List KT) (hl : StR l) : rankF (ts ++ l) = some (x, l) := by
  cases h with
  | @rank d =>
    rw [List.cons_append, rankF, rank1, isT_self (Or.inl rfl), if_pos rfl, Option.map_some, List.tail_cons]
    cases d with
    | false => simp only [Bool.false_eq_true, if_false, List.nil_append]; rw [rank2_no hl]
    | true => simp only [if_true, List.singleton_append]; rw [rank2_desc]
  | @expr x d us h =>
    have hno : ∀ l, isT ⟨#[114, 97, 110, 107]⟩ (us ++ l) = false := fun l => h.noT (Or.inl rank_keep) (by decide +kernel) (by decide +kernel) (by decide +kernel) (by decide +kernel) l
    cases d with
    | false =>
      simp only [Bool.false_eq_true, if_false, List.append_nil]
      rw [rankF, rank1, hno, if_neg (by decide), h.back l hl.1, Option.map_some]
      simp only
      rw [rank2_no hl]
    | true =>
      simp only [if_true]
      rw [List.append_assoc, List.singleton_append, rankF, rank1, hno, if_neg (by decide), h.back _ (sgn_kw (by decide +kernel) l), Option.map_some]
      simp only
      rw [rank2_desc]
/-- what may stand behind the parts of a select -/
def folL : List (Nat × KT) := [(1, (1, ⟨#[106, 111, 105, 110]⟩)), (2, (1, ⟨#[119, 104, 101, 114, 101]⟩)), (3, (1, ⟨#[103, 114, 111, 117, 112]⟩)), (4, (1, ⟨#[111, 114, 100, 101, 114]⟩)), (5, (1, ⟨#[108, 105, 109, 105, 116]⟩)), (6, (5, ⟨#[]⟩))]
def Fol (k : Nat) (l : List KT) : Prop := ∃ q ∈ folL, k < q.1 ∧ ∃ r, l = q.2 :: r
theorem Fol.sgn {k : Nat} {l : List KT} (h : Fol k l) : sgn l < 1 := by
  obtain ⟨q, hq, hk, r, rfl⟩ := h
  rw [sgn_cons]
  clear hk
  revert q
  decide +kernel
theorem Fol.no {k : Nat} {l : List KT} (h : Fol k l) {s : ByteArray} (hs : ∀ q ∈ folL, k < q.1 → ((decide (q.2.1 = 1) || decide (q.2.1 = 4)) && decide (q.2.2 = s)) = false) : isT s l = false := by
  obtain ⟨q, hq, hk, r, rfl⟩ := h
  rw [isT_cons]
  exact hs q hq hk
theorem Fol.low {k j : Nat} {l : List KT} (h : Fol k l) (hj : j ≤ k) : Fol j l := by
  obtain ⟨q, hq, hk, hr⟩ := h
  exact ⟨q, hq, by omega, hr⟩
theorem Fol.str {k : Nat} {l : List KT} (h : Fol k l) : StR l := ⟨h.sgn, (h.low (Nat.zero_le k)).no (by decide +kernel), (h.low (Nat.zero_le k)).no (by decide +kernel)⟩
theorem Fol.comma {k : Nat} {l : List KT} (h : Fol k l) : isT ⟨#[44]⟩ l = false := (h.low (Nat.zero_le k)).no (by decide +kernel)
theorem where_read {x : Ex} {ts : List KT} (h : BhT [(1, ⟨#[119, 104, 101, 114, 101]⟩)] x ts) (l : List KT) (hl : Fol 2 l) : whereF ⟨#[119, 104, 101, 114, 101]⟩ (ts ++ l) = some (x, l) := by
  cases h with
  | no => rw [List.nil_append, whereF, hl.no (by decide +kernel)]; rfl
  | yes h => rw [List.append_assoc, List.singleton_append, whereF, isT_self (Or.inl rfl), if_pos rfl, List.tail_cons]; exact h.back l hl.sgn
theorem group_read {x : Ex} {ts : List KT} (h : BhT [(1, ⟨#[103, 114, 111, 117, 112]⟩), (1, ⟨#[98, 121]⟩)] x ts) (l : List KT) (hl : Fol 3 l) : selGroup (ts ++ l) = some (x, l) := by
  cases h with
  | no => rw [List.nil_append, selGroup, hl.no (by decide +kernel)]; rfl
  | yes h =>
    rw [List.append_assoc, List.cons_append, List.singleton_append, selGroup, isT_self (Or.inl rfl), if_pos rfl, List.tail_cons, need_self (Or.inl rfl), Option.bind_some]
    exact h.back l hl.sgn
theorem join_read {a : ByteArray} {x : Ex} {ts : List KT} (h : JnT a x ts) (l : List KT) (hl : Fol 1 l) : selJoin (ts ++ l) = some ((a, x), l) := by
  cases h with
  | no => rw [List.nil_append, selJoin, hl.no (by decide +kernel)]; rfl
  | yes h k =>
    rw [List.cons_append, List.cons_append, List.cons_append, selJoin, isT_self (Or.inl rfl), if_pos rfl, List.tail_cons, h.read, Option.bind_some]
    simp only
    rw [need_self (Or.inl rfl), Option.bind_some, k.back l hl.sgn]
    rfl
theorem StR_comma (l : List KT) : StR ((4, ⟨#[44]⟩) :: l) := ⟨sgn_comma l, ne_isT (by decide +kernel) _, ne_isT (by decide +kernel) _⟩
theorem order_read {L : List (Ex × Bool)} {ts : List KT} (h : OrT L ts) (l : List KT) (hl : Fol 4 l) : selOrder (ts ++ l) = some (L, l) := by
  cases h with
  | no => rw [List.nil_append, selOrder, hl.no (by decide +kernel)]; rfl
  | yes h =>
    rw [List.cons_append, List.cons_append, selOrder, isT_self (Or.inl rfl), if_pos rfl, List.tail_cons, need_self (Or.inl rfl), Option.bind_some]
    exact h.read (St := StR) StR_comma (fun _ _ h l hl => h.read l hl) l hl.str hl.comma
theorem nd_le (k : Nat) (hk : 1 ≤ k) : ∀ u, u < 10 ^ k → Lib.nDigits u ≤ k := by
  induction k with
  | zero => omega
  | succ k ih =>
    intro u hu
    by_cases h : u < 10
    · rw [Lib.nDigits_small h]; omega
    · rw [Lib.nDigits_big h]
      rcases Nat.eq_zero_or_pos k with rfl | hk
      · simp at hu; omega
      · have := ih hk (u / 10) (by rw [Nat.pow_succ] at hu; omega)
        omega
theorem limit_read {n : Int} {ts : List KT} (h : LmT n ts) (l : List KT) (hl : Fol 5 l) : selLimit (ts ++ l) = some (n, l) := by
  cases h with
  | no => rw [List.nil_append, selLimit, hl.no (by decide +kernel)]; rfl
  | yes h0 h1 =>
    rw [List.cons_append, List.singleton_append, selLimit, isT_self (Or.inl rfl), if_pos rfl, List.tail_cons, limitF, hdT_cons]
    have hd : (⟨(Lib.decDigits n.toNat).toArray⟩ : ByteArray).size ≤ 9 := by
      rw [← ba_len]
      simp only [Lib.decDigits_length]
      exact nd_le 9 (by decide) _ (by omega)
    rw [if_pos ⟨rfl, hd⟩, digV]
    simp only [parse_dec h0 (show n ≤ 9223372036854775807 by omega)]
    rfl
theorem items_read {I : List (Int × Ex)} {ts : List KT} (h : ItsT I ts) (l : List KT) : selItems (ts ++ ((1, ⟨#[102, 114, 111, 109]⟩) :: l)) = some (I, (1, ⟨#[102, 114, 111, 109]⟩) :: l) := by
  cases h with
  | star => rw [List.singleton_append, selItems, isT_self (Or.inr rfl)]; rfl
  | list h =>
    have hs : ∀ l, isT ⟨#[42]⟩ (ts ++ l) = false := by
      have key : ∀ {L : List (Int × Ex)} {ts : List KT}, Ls ItT L ts → ∀ l, isT ⟨#[42]⟩ (ts ++ l) = false := by
        intro L ts h
        induction h with
        | one h =>
          intro l
          cases h with
          | plain h => exact h.noStar l
          | star => exact ne_isT (by decide +kernel) _
          | @agg s _ _ hs _ => exact ne_isT (fun e => absurd (show s.1 = ⟨#[42]⟩ from e) (by revert s; decide +kernel)) _
        | more _ _ ih => intro l; rw [List.append_assoc]; exact ih _
      exact key h
    rw [selItems, hs, if_neg (by decide)]
    exact h.read (St := fun l => sgn l < 1) sgn_comma (fun _ _ h l hl => h.read l hl) _ (sgn_kw (by decide +kernel) l) (ne_isT (by decide +kernel) _)
theorem fol_limit {n : Int} {ts l : List KT} (h : LmT n ts) (hl : Fol 5 l) : Fol 4 (ts ++ l) := by
  cases h with
  | no => exact hl.low (by decide)
  | yes _ _ => exact ⟨(5, (1, ⟨#[108, 105, 109, 105, 116]⟩)), by simp [folL], by decide, _, rfl⟩
theorem fol_order {L : List (Ex × Bool)} {ts l : List KT} (h : OrT L ts) (hl : Fol 4 l) : Fol 3 (ts ++ l) := by
  cases h with
  | no => exact hl.low (by decide)
  | yes _ => exact ⟨(4, (1, ⟨#[111, 114, 100, 101, 114]⟩)), by simp [folL], by decide, _, rfl⟩
theorem fol_group {x : Ex} {ts l : List KT} (h : BhT [(1, ⟨#[103, 114, 111, 117, 112]⟩), (1, ⟨#[98, 121]⟩)] x ts) (hl : Fol 3 l) : Fol 2 (ts ++ l) := by
  cases h with
  | no => exact hl.low (by decide)
  | yes _ => exact ⟨(3, (1, ⟨#[103, 114, 111, 117, 112]⟩)), by simp [folL], by decide, _, rfl⟩
theorem fol_where {x : Ex} {ts l : List KT} (h : BhT [(1, ⟨#[119, 104, 101, 114, 101]⟩)] x ts) (hl : Fol 2 l) : Fol 1 (ts ++ l) := by
  cases h with
  | no => exact hl.low (by decide)
  | yes _ => exact ⟨(2, (1, ⟨#[119, 104, 101, 114, 101]⟩)), by simp [folL], by decide, _, rfl⟩
theorem fol_end : Fol 5 [(5, ⟨#[]⟩)] := ⟨(6, (5, ⟨#[]⟩)), by simp [folL], by decide, _, rfl⟩
/-- begins with this word, not with that -/
theorem kw_no {s t : ByteArray} (h : s ≠ t) (l : List KT) : isT t ((1, s) :: l) = false := ne_isT h _
theorem need_kw {s : ByteArray} (l : List KT) : needF s ((1, s) :: l) = some l := need_self (Or.inl rfl) _ _
theorem StT.read {x : Stm} {ts : List KT} (h : StT x ts) {l : List KT} (hl : Fol 5 l) : stmF (ts ++ l) = some (x, l) := by
  cases h with
  | begin => rw [List.singleton_append, stmF, isT_self (Or.inl rfl)]; rfl
  | commit => rw [List.singleton_append, stmF, kw_no (by decide +kernel), isT_self (Or.inl rfl)]; rfl
  | rollback => rw [List.singleton_append, stmF, kw_no (by decide +kernel), kw_no (by decide +kernel), isT_self (Or.inl rfl)]; rfl
  | @index a b ha hb =>
    rw [List.cons_append, stmF, kw_no (by decide +kernel), kw_no (by decide +kernel), kw_no (by decide +kernel), isT_self (Or.inl rfl)]
    simp only [Bool.false_eq_true, if_false, if_true, List.tail_cons]
    show createF ((1, _) :: (1, _) :: (1, a) :: (4, _) :: ([(1, b)] ++ ((4, _) :: l))) = _
    rw [createF, isT_self (Or.inl rfl), if_pos rfl, List.tail_cons, need_kw, Option.bind_some, ha.read, Option.bind_some]
    simp only
    rw [inside_read (F := nameF) (a := b) (by rw [List.singleton_append, hb.read])]
    rfl
  | @create a L us ha hL =>
    rw [List.cons_append, stmF, kw_no (by decide +kernel), kw_no (by decide +kernel), kw_no (by decide +kernel), isT_self (Or.inl rfl)]
    simp only [Bool.false_eq_true, if_false, if_true, List.tail_cons]
    rw [List.cons_append, List.cons_append, List.cons_append, List.append_assoc, List.singleton_append]
    rw [createF, kw_no (by decide +kernel), if_neg (by decide), need_kw, Option.bind_some, ha.read, Option.bind_some]
    simp only
    rw [inside_read (F := listF colmF) (a := L) (hL.read (St := Sep) (fun l => ⟨l, Or.inl rfl⟩) (fun _ _ h l hl => h.read l hl) _ ⟨l, Or.inr rfl⟩ (no_comma_close l))]
    rfl
  | @drop a ha =>
    rw [List.cons_append, stmF, kw_no (by decide +kernel), kw_no (by decide +kernel), kw_no (by decide +kernel), kw_no (by decide +kernel), isT_self (Or.inl rfl)]
    simp only [Bool.false_eq_true, if_false, if_true, List.tail_cons]
    show dropF ((1, _) :: (1, a) :: l) = _
    rw [dropF, need_kw, Option.bind_some, ha.read]
    rfl
  | @insert a L us ha hL =>
    rw [List.cons_append, stmF, kw_no (by decide +kernel), kw_no (by decide +kernel), kw_no (by decide +kernel), kw_no (by decide +kernel), kw_no (by decide +kernel), isT_self (Or.inl rfl)]
    simp only [Bool.false_eq_true, if_false, if_true, List.tail_cons, List.cons_append]
    rw [insertF, need_kw, Option.bind_some, ha.read, Option.bind_some]
    simp only
    rw [need_kw, Option.bind_some, hL.read (F := rowF) (St := fun _ => True) (fun _ => trivial) (fun _ _ h l _ => h.read l) l trivial hl.comma]
    rfl
  | @delete a x us ha hx =>
    rw [List.cons_append, stmF, kw_no (by decide +kernel), kw_no (by decide +kernel), kw_no (by decide +kernel), kw_no (by decide +kernel), kw_no (by decide +kernel), kw_no (by decide +kernel), isT_self (Or.inl rfl)]
    simp only [Bool.false_eq_true, if_false, if_true, List.tail_cons, List.cons_append]
    rw [deleteF, need_kw, Option.bind_some, ha.read, Option.bind_some]
    simp only
    rw [where_read hx l (hl.low (by decide))]
    rfl
  | @update a L x us vs ha hL hx =>
    rw [List.cons_append, stmF, kw_no (by decide +kernel), kw_no (by decide +kernel), kw_no (by decide +kernel), kw_no (by decide +kernel), kw_no (by decide +kernel), kw_no (by decide +kernel), kw_no (by decide +kernel), isT_self (Or.inl rfl)]
    simp only [Bool.false_eq_true, if_false, if_true, List.tail_cons, List.cons_append]
    have hf := fol_where hx (hl.low (show 2 ≤ 5 by decide))
    rw [updateF, ha.read, Option.bind_some]
    simp only
    rw [need_kw, Option.bind_some, List.append_assoc, hL.read (F := setF) (St := fun l => sgn l < 1) sgn_comma (fun _ _ h l hl => h.read l hl) _ hf.sgn hf.comma, Option.bind_some]
    simp only
    rw [where_read hx l (hl.low (by decide))]
    rfl
  | @select I a b on wh gr O n t1 t2 t3 t4 t5 t6 h1 ha h2 h3 h4 h5 h6 =>
    rw [List.cons_append, stmF, kw_no (by decide +kernel), kw_no (by decide +kernel), kw_no (by decide +kernel), kw_no (by decide +kernel), kw_no (by decide +kernel), kw_no (by decide +kernel), kw_no (by decide +kernel), kw_no (by decide +kernel)]
    simp only [Bool.false_eq_true, if_false]
    rw [need_kw, Option.bind_some]
    simp only [List.append_assoc, List.cons_append]
    have f5 := fol_limit h6 hl
    have f4 := fol_order h5 f5
    have f3 := fol_group h4 f4
    have f2 := fol_where h3 f3
    rw [choiceF, items_read h1, Option.bind_some]
    simp only
    rw [selTable, need_kw, Option.bind_some, ha.read, Option.bind_some]
    simp only
    rw [join_read h2 _ f2, Option.bind_some]
    simp only
    rw [where_read h3 _ f3, Option.bind_some]
    simp only
    rw [group_read h4 _ f4, Option.bind_some]
    simp only
    rw [order_read h5 _ f5, Option.bind_some]
    simp only
    rw [limit_read h6 _ hl]
    rfl
theorem StT.back {x : Stm} {ts : List KT} (h : StT x ts) : readF (ts ++ [(5, ⟨#[]⟩)]) = some x := by
  rw [readF, h.read fol_end, Option.bind_some]
  rfl
end Go.Proofs.YtmabfbffpedfnaaGreatDoor
