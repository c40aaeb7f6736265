/- Blanks between tokens are nothing, as plain data: what tokens are written as, with any blanks ahead of each, is cut into the same tokens. -/
import Derived.Test.YtgmibjcccdgkgaaDoorLPure
namespace Go.Proofs.YtgmibjcccdgkgaaDoor
open Go.RowKit

def lexF (i n : Nat) (l : List UInt8) : Except (Int × Nat) (List Tok) := lexL l.length i n l
theorem lexF_blank {c : UInt8} (h : blankC c = true) (i n : Nat) (l : List UInt8) : lexF i n (c :: l) = lexF (i + 1) n l := by
  unfold lexF
  rw [List.length_cons, lexL, if_pos h]
theorem lexF_gap (g : List UInt8) : ∀ i n l, (∀ c ∈ g, blankC c = true) → lexF i n (g ++ l) = lexF (i + g.length) n l := by
  induction g with
  | nil => intro i n l _; rfl
  | cons c g ih =>
    intro i n l h
    rw [List.cons_append, lexF_blank (h c (by simp)), ih _ _ _ (fun d hd => h d (by simp [hd])), List.length_cons, show i + 1 + g.length = i + (g.length + 1) by omega]
theorem lexF_tok {c : UInt8} {l : List UInt8} {k : Int} {t : List UInt8} {m : Nat} (hb : blankC c = false) (h : nextT (c :: l) = some (k, t, m)) {n : Nat} (hn : ¬ ((k = 2 ∧ 19 < m) ∨ n = 200)) (i : Nat) :
    lexF i n (c :: l) = (lexF (i + m) (n + 1) ((c :: l).drop m)).map (⟨k, ⟨t.toArray⟩, i⟩ :: ·) := by
  have hp := nextT_pos h
  unfold lexF
  rw [List.length_cons, lexL, if_neg (by rw [hb]; decide), h]
  simp only
  rw [if_neg hn, lexL_fuel l.length ((c :: l).drop m).length (i + m) (n + 1) ((c :: l).drop m) (by rw [List.length_drop, List.length_cons]; omega) (Nat.le_refl _)]
/-- a byte in the other size -/
def upN (x : Nat) : Nat := if 97 ≤ x ∧ x ≤ 122 then x - 32 else x
def upC (c : UInt8) : UInt8 := UInt8.ofNat (upN c.toNat)
def upL (l : List UInt8) : List UInt8 := l.map upC
/-- a quote is written as two -/
def esc : List UInt8 → List UInt8
  | [] => []
  | c :: l => if c.toNat = 39 then c :: c :: esc l else c :: esc l
/-- what a token is written as -/
def wr (up : Bool) (x : Tok) : List UInt8 :=
  if x.k = 3 then 39 :: (esc x.t.data.toList ++ [39]) else if x.k = 1 ∧ up = true then upL x.t.data.toList else x.t.data.toList
/-- a token that is cut so wherever a blank stands behind it -/
def Canon (x : Tok) : Prop := (x.k = 2 → x.t.size ≤ 19) ∧ ∀ (up : Bool) (r : List UInt8), (∀ c ∈ r.head?, blankC c = true) →
  ∃ c l, wr up x = c :: l ∧ blankC c = false ∧ nextT (wr up x ++ r) = some (x.k, x.t.data.toList, (wr up x).length)

theorem byte_facts : ∀ n : Fin 256, (blankC n.val.toUInt8 = true → wordC n.val.toUInt8 = false ∧ isDg n.val.toUInt8 = false ∧ n.val.toUInt8.toNat ≠ 39 ∧ n.val.toUInt8.toNat ≠ 62 ∧ n.val.toUInt8.toNat ≠ 61) ∧
    (wordC n.val.toUInt8 = true → blankC n.val.toUInt8 = false ∧ wordC (low n.val.toUInt8) = true ∧ wordC (upC (low n.val.toUInt8)) = true ∧ low (low n.val.toUInt8) = low n.val.toUInt8 ∧ low (upC (low n.val.toUInt8)) = low n.val.toUInt8) ∧
    (isAl n.val.toUInt8 = true → isAl (low n.val.toUInt8) = true ∧ isAl (upC (low n.val.toUInt8)) = true) ∧ (markC n.val.toUInt8 = true → blankC n.val.toUInt8 = false) := by decide +kernel
theorem byte_at (c : UInt8) : (blankC c = true → wordC c = false ∧ isDg c = false ∧ c.toNat ≠ 39 ∧ c.toNat ≠ 62 ∧ c.toNat ≠ 61) ∧
    (wordC c = true → blankC c = false ∧ wordC (low c) = true ∧ wordC (upC (low c)) = true ∧ low (low c) = low c ∧ low (upC (low c)) = low c) ∧
    (isAl c = true → isAl (low c) = true ∧ isAl (upC (low c)) = true) ∧ (markC c = true → blankC c = false) := by
  have h := byte_facts ⟨c.toNat, UInt8.toNat_lt c⟩
  rw [show c.toNat.toUInt8 = c by simp] at h
  exact h
theorem while_all {p : UInt8 → Bool} (l r : List UInt8) (hl : ∀ c ∈ l, p c = true) (hr : ∀ c ∈ r.head?, p c = false) : (l ++ r).takeWhile p = l := by
  induction l with
  | nil =>
    cases r with
    | nil => rfl
    | cons c r => rw [List.nil_append, List.takeWhile_cons_of_neg (by rw [hr c rfl]; decide)]
  | cons c l ih => rw [List.cons_append, List.takeWhile_cons_of_pos (hl c (by simp)), ih (fun d hd => hl d (by simp [hd]))]
theorem strL_esc (t : List UInt8) (r : List UInt8) (hr : ∀ c ∈ r.head?, blankC c = true) : strL (esc t ++ 39 :: r) = some (t, (esc t).length + 1) := by
  induction t with
  | nil =>
    cases r with
    | nil => rfl
    | cons d r =>
      have h := ((byte_at d).1 (hr d rfl)).2.2.1
      show strL (39 :: d :: r) = _
      rw [strL, if_pos (show UInt8.toNat 39 = 39 from rfl), if_neg h]; rfl
  | cons c t ih =>
    rw [esc]
    by_cases hc : c.toNat = 39
    · rw [if_pos hc, List.cons_append, List.cons_append, strL, if_pos hc, if_pos hc, ih]
      rfl
    · rw [if_neg hc, List.cons_append]
      have key : ∀ l : List UInt8, l ≠ [] → strL (c :: l) = (strL l).map (fun x => (c :: x.1, x.2 + 1)) := by
        intro l hl
        cases l with
        | nil => exact absurd rfl hl
        | cons d l => rw [strL, if_neg hc]
      rw [key _ (by simp), ih]
      rfl
theorem canon_of {l : List UInt8} {k : Int} {t : List UInt8} {m p : Nat} (h : nextT l = some (k, t, m)) (hk : k = 2 → m ≤ 19) : Canon ⟨k, ⟨t.toArray⟩, p⟩ := by
  cases l with
  | nil => cases h
  | cons c l =>
    rw [nextT] at h
    split at h
    · rename_i hc
      cases h
      refine ⟨fun e => by simp at e, fun up r hr => ?_⟩
      have hw : ∀ d ∈ l.takeWhile wordC, wordC d = true := by
        have := List.all_takeWhile (p := wordC) (l := l)
        rw [List.all_eq_true] at this
        exact this
      have hcw : wordC c = true := by rw [wordC, hc]; rfl
      have hrw : ∀ d ∈ r.head?, wordC d = false := fun d hd => ((byte_at d).1 (hr d hd)).1
      generalize l.takeWhile wordC = tw at *
      have key : ∀ f : UInt8 → UInt8, (∀ d, wordC d = true → wordC (f d) = true ∧ low (f d) = low d) → isAl (f c) = true →
          nextT ((c :: tw).map f ++ r) = some (1, smallL (c :: tw), ((c :: tw).map f).length) := by
        intro f hf hfc
        rw [List.map_cons, List.cons_append, nextT, if_pos hfc, while_all _ _ (fun d hd => by
          obtain ⟨e, he, rfl⟩ := List.mem_map.1 hd
          exact (hf e (hw e he)).1) hrw]
        have e : smallL (f c :: tw.map f) = smallL (c :: tw) := by
          unfold smallL
          rw [List.map_cons, List.map_cons, (hf c hcw).2, List.map_map]
          congr 1
          exact List.map_congr_left fun d hd => (hf d (hw d hd)).2
        rw [e, List.length_cons]
      cases up with
      | false =>
        refine ⟨low c, tw.map low, ?_, ?_, ?_⟩
        · simp [wr, smallL]
        · exact ((byte_at (low c)).2.1 ((byte_at c).2.1 hcw).2.1).1
        · have := key low (fun d hd => ⟨((byte_at d).2.1 hd).2.1, ((byte_at d).2.1 hd).2.2.2.1⟩) ((byte_at c).2.2.1 hc).1
          simpa [wr, smallL] using this
      | true =>
        refine ⟨upC (low c), (tw.map low).map upC, ?_, ?_, ?_⟩
        · simp [wr, smallL, upL]
        · exact ((byte_at (upC (low c))).2.1 ((byte_at c).2.1 hcw).2.2.1).1
        · have := key (fun d => upC (low d)) (fun d hd => ⟨((byte_at d).2.1 hd).2.2.1, ((byte_at d).2.1 hd).2.2.2.2⟩) ((byte_at c).2.2.1 hc).2
          simpa [wr, smallL, upL, Function.comp_def] using this
    · rename_i hc
      split at h
      · rename_i hd
        cases h
        have hm := hk rfl
        have hw : ∀ d ∈ l.takeWhile isDg, isDg d = true := by
          have := List.all_takeWhile (p := isDg) (l := l)
          rw [List.all_eq_true] at this
          exact this
        generalize l.takeWhile isDg = tw at *
        refine ⟨fun _ => ?_, fun up r hr => ?_⟩
        · show (⟨(c :: tw).toArray⟩ : ByteArray).size ≤ 19
          rw [← ba_len]; simpa using hm
        · have hrw : ∀ d ∈ r.head?, isDg d = false := fun d hd => ((byte_at d).1 (hr d hd)).2.1
          have e : wr up ⟨2, ⟨(c :: tw).toArray⟩, p⟩ = c :: tw := by simp [wr]
          rw [e]
          refine ⟨c, tw, rfl, ((byte_at c).2.1 (by rw [wordC, hd]; simp)).1, ?_⟩
          rw [List.cons_append, nextT, if_neg hc, if_pos hd, while_all _ _ hw hrw]
          rfl
      · rename_i hd
        split at h
        · rename_i hq
          rw [Option.map_eq_some_iff] at h
          obtain ⟨x, _, e⟩ := h
          cases e
          obtain rfl : c = 39 := UInt8.toNat_inj.1 hq
          refine ⟨fun e => by simp at e, fun up r hr => ?_⟩
          have e : wr up ⟨3, ⟨x.1.toArray⟩, p⟩ = 39 :: (esc x.1 ++ [39]) := by simp [wr]
          rw [e]
          refine ⟨39, _, rfl, by decide, ?_⟩
          rw [List.cons_append, nextT, if_neg (by decide), if_neg (by decide), if_pos (show UInt8.toNat 39 = 39 from rfl), List.append_assoc, List.singleton_append, strL_esc _ _ hr]
          simp
        · rename_i hq
          split at h
          · rename_i hmk
            have e := Option.some.inj h
            have hcb := (byte_at c).2.2.2 hmk
            have one : ∀ (up : Bool) (r : List UInt8), (∀ d ∈ r.head?, blankC d = true) → ∃ c' l', wr up ⟨4, ⟨#[c]⟩, p⟩ = c' :: l' ∧ blankC c' = false ∧ nextT (wr up ⟨4, ⟨#[c]⟩, p⟩ ++ r) = some (4, [c], (wr up ⟨4, ⟨#[c]⟩, p⟩).length) := by
              intro up r hr
              have e : wr up ⟨4, ⟨#[c]⟩, p⟩ = [c] := by simp [wr]
              rw [e]
              refine ⟨c, [], rfl, hcb, ?_⟩
              rw [List.singleton_append, nextT, if_neg hc, if_neg hd, if_neg hq, if_pos hmk]
              cases r with
              | nil => rfl
              | cons d r =>
                have hb := (byte_at d).1 (hr d rfl)
                rw [markT, if_neg (by simp [twoC, hb.2.2.2.1, hb.2.2.2.2])]; rfl
            cases l with
            | nil => rw [markT] at e; cases e; exact ⟨fun e => by simp at e, one⟩
            | cons d l =>
              rw [markT] at e
              split at e
              · rename_i h2
                cases e
                refine ⟨fun e => by simp at e, fun up r hr => ?_⟩
                have e : wr up ⟨4, ⟨[c, d].toArray⟩, p⟩ = [c, d] := by simp [wr]
                rw [e]
                refine ⟨c, [d], rfl, hcb, ?_⟩
                rw [List.cons_append, nextT, if_neg hc, if_neg hd, if_neg hq, if_pos hmk, List.singleton_append, markT, if_pos h2]
                rfl
              · cases e; exact ⟨fun e => by simp at e, one⟩
          · cases h
end Go.Proofs.YtgmibjcccdgkgaaDoor
