/- Part 1 of 39. -/
import Derived.Test.YtbdcbaamjkjhaaaGreatDoorRows
import Derived.WalkKit
import Derived.WalkSpells
import Derived.WalkLawsBesides
import Derived.BigQuiet
import Derived.Deep.DeepCutAuto
import Derived.Laws.AppendOwnNone
import Derived.Deep.RegionHeld3
import Derived.Laws.IdiomStrings
import Derived.Lib.Bytealg
import Derived.Lib.ParseIntB
namespace Go.Proofs.YtbdcbaamjkjhaaaGreatDoor
open Go.RowKit

theorem ret_int {k : IntKind} {a b : Int} (h : a = b) : Ending.returned (.int k a) = .returned (.int k b) := by rw [h]
theorem ret_bool {a b : Bool} (h : a = b) : Ending.returned (.bool a) = .returned (.bool b) := by rw [h]
theorem Tryz.own : ownKnob Tryz.prog.godebug = none := by kernel_rfl
theorem Tryz.laidOut : laidOutB Tryz.prog = true := by kernel_rfl
theorem cells3 : Tryz.prog.cellsOf 3 = 1 := by kernel_rfl
theorem cells9 : Tryz.prog.cellsOf 9 = 1 := by kernel_rfl
theorem info5 : (Tryz.prog.info? 5).map (fun i => (i.zero, i.size, i.bytes)) = some (some (.int .u8 0), 1, 1) := by kernel_rfl
theorem info9 : (Tryz.prog.info? 9).map (fun i => (i.zero, i.size, i.bytes)) = some (some (.string ⟨#[]⟩), 1, 16) := by kernel_rfl
theorem info_parts {P : Program} {t : TypeId} {z : Value} {n b : Nat} (h : (P.info? t).map (fun i => (i.zero, i.size, i.bytes)) = some (some z, n, b)) : ∃ i, P.info? t = some i ∧ i.zero = some z ∧ i.size = n ∧ i.bytes = b := by
  cases hi : P.info? t with
  | none => simp [hi] at h
  | some i => simp [hi] at h; exact ⟨i, rfl, h.1, h.2.1, h.2.2⟩

end Go.Proofs.YtbdcbaamjkjhaaaGreatDoor
namespace Go.Proofs.YtbdcbaamjkjhaaaGreatDoor
open Go.RowKit

/-- a byte of a word -/
def isLn (x : Nat) : Bool := decide (65 ≤ x) && decide (x ≤ 90) || decide (97 ≤ x) && decide (x ≤ 122) || decide (48 ≤ x) && decide (x ≤ 57) || decide (127 < x)
def isL (c : UInt8) : Bool := isLn c.toNat
/-- how many bytes stand ahead of the first one that is none of a word -/
def lead (l : List UInt8) : Nat := l.findIdx (fun c => !isL c)
theorem lead_none (s : ByteArray) (hz : ∀ j (h2 : j < s.size), isLn s[j].toNat = true) : lead s.data.toList = s.size := by
  unfold lead
  have : s.size = s.data.toList.length := by simp
  rw [this, List.findIdx_eq_length]
  intro x hx
  obtain ⟨j, hj, rfl⟩ := List.getElem_of_mem hx
  have : isLn (s.data[j]'(by simpa using hj)).toNat = true := hz j (by simpa using hj)
  simpa [isL] using this
/-- whether a text ends so -/
def hasB (s e : ByteArray) : Bool := decide (e.size ≤ s.size) && ((s.extract (s.size - e.size) s.size).toList == e.toList)
/-- a byte, in small -/
def lown (x : Nat) : Nat := if 65 ≤ x ∧ x ≤ 90 then x + 32 else x
theorem lown_lt (c : UInt8) : lown c.toNat < 256 := by
  have := c.toNat_lt
  unfold lown
  split <;> omega
def low (c : UInt8) : UInt8 := UInt8.ofNat (lown c.toNat)
theorem low_nat (c : UInt8) : (low c).toNat = lown c.toNat := by
  have := lown_lt c
  simp [low]
  omega
/-- a text, in small -/
def smallL (l : List UInt8) : List UInt8 := l.map low
def smallS (s : ByteArray) : ByteArray := ⟨(smallL s.data.toList).toArray⟩
/-- bytes in a block: those ahead of k as l has them, the others as m -/
structure Half (B n k : Nat) (l m : Nat → Nat) (w : World) : Prop where
  cell : ∀ j, j < n → w.cell? ⟨B, j, none⟩ = some (.int .u8 ((if j < k then l j else m j : Nat) : Int))
  free : ∀ j, j < n → w.frozen? ⟨B, j, none⟩ = false
theorem Half.set {B n k : Nat} {l m : Nat → Nat} {w : World} (h : Half B n k l m w) (hk : k < n) (x : Int) (hx : x = (l k : Int)) : Half B n (k + 1) l m (w.setCell ⟨B, k, none⟩ (.int .u8 x)) := by
  subst hx
  refine ⟨fun j hj => ?_, fun j hj => by rw [World.frozen?_setCell]; exact h.free j hj⟩
  by_cases e : j = k
  · subst e
    rw [World.cell?_setCell_same _ _ _ (h.cell j hj)]
    simp
  · rw [World.cell?_setCell_other _ _ _ _ (fun q => e (by cases q; rfl)), h.cell j hj]
    have : (j < k + 1) = (j < k) := by simp; omega
    simp only [this]
theorem Half.keep {B n k : Nat} {l m : Nat → Nat} {w : World} (h : Half B n k l m w) (hk : k < n) (hx : l k = m k) : Half B n (k + 1) l m w := by
  refine ⟨fun j hj => ?_, h.free⟩
  rw [h.cell j hj]
  by_cases e : j = k
  · subst e; simp [hx]
  · have : (j < k + 1) = (j < k) := by simp; omega
    simp only [this]
def bt (s : ByteArray) (j : Nat) : Nat := if h : j < s.size then s[j].toNat else 0
theorem bt_at (s : ByteArray) (j : Nat) (h : j < s.size) : bt s j = s[j].toNat := by simp [bt, h]
theorem bt_lt (s : ByteArray) (j : Nat) : bt s j < 256 := by
  unfold bt
  split
  · exact UInt8.toNat_lt _
  · omega
theorem small_text (s : ByteArray) (j : Nat) (hj : j < (smallL s.data.toList).length) : ((smallL s.data.toList)[j]).toNat = lown (bt s j) := by
  have hj' : j < s.data.size := by simpa [smallL] using hj
  rw [bt_at s j hj']
  simp [smallL, low_nat]
  rfl
theorem small_len (s : ByteArray) : (smallL s.data.toList).length = s.size := by simp [smallL]
theorem smallS_size (s : ByteArray) : (smallS s).size = s.size := by
  show (smallL s.data.toList).toArray.size = _
  simp [small_len]
/-- the ends of words, and what stands in their place -/
def endsT : List (ByteArray × ByteArray) := [(⟨#[115, 115, 101, 115]⟩, ⟨#[115, 115]⟩), (⟨#[105, 101, 115]⟩, ⟨#[121]⟩), (⟨#[115, 115]⟩, ⟨#[115, 115]⟩), (⟨#[105, 110, 103]⟩, ⟨#[]⟩), (⟨#[101, 100]⟩, ⟨#[]⟩), (⟨#[101, 115]⟩, ⟨#[101]⟩), (⟨#[115]⟩, ⟨#[]⟩)]
/-- a word without its end -/
def stemFrom : List (ByteArray × ByteArray) → ByteArray → ByteArray
  | [], s => s
  | (e, r) :: t, s => if hasB s e then (if e.size + 3 ≤ s.size then s.extract 0 (s.size - e.size) ++ r else s) else stemFrom t s
def stemS (s : ByteArray) : ByteArray := stemFrom endsT s
theorem stem_no {e r s : ByteArray} {t : List (ByteArray × ByteArray)} (h : hasB s e = false) : stemFrom ((e, r) :: t) s = stemFrom t s := by simp [stemFrom, h]
theorem stem_short {e r s : ByteArray} {t : List (ByteArray × ByteArray)} (h : hasB s e = true) (h3 : ¬ e.size + 3 ≤ s.size) : stemFrom ((e, r) :: t) s = s := by simp only [stemFrom, h, if_true, if_neg h3]
theorem stem_yes {e r s : ByteArray} {t : List (ByteArray × ByteArray)} (h : hasB s e = true) (h3 : e.size + 3 ≤ s.size) : stemFrom ((e, r) :: t) s = s.extract 0 (s.size - e.size) ++ r := by simp only [stemFrom, h, if_true, if_pos h3]
theorem hasB_small {s e : ByteArray} (h : s.size < e.size) : hasB s e = false := by simp [hasB]; omega
theorem hasB_eq {s e : ByteArray} {l : List UInt8} (h : e.size ≤ s.size) (hl : e.toList = l) : hasB s e = ((s.extract (s.size - e.size) s.size).toList == l) := by simp [hasB, h, hl]
/-- the longest runs of letters, with what was begun ahead -/
def runs : List UInt8 → List UInt8 → List (List UInt8)
  | cur, [] => if cur.isEmpty then [] else [cur]
  | cur, c :: l => if isL c then runs (cur ++ [c]) l else (if cur.isEmpty then [] else [cur]) ++ runs [] l
def wordOf (r : List UInt8) : ByteArray := stemS ⟨((smallL r).take 12).toArray⟩
def wordsL (l : List UInt8) : List ByteArray := (runs [] l).map wordOf
theorem lead_cons_yes (c : UInt8) (l : List UInt8) (h : isL c = true) : lead (c :: l) = lead l + 1 := by simp [lead, List.findIdx_cons, h]
theorem lead_cons_no (c : UInt8) (l : List UInt8) (h : isL c = false) : lead (c :: l) = 0 := by simp [lead, List.findIdx_cons, h]
theorem runs_lead (l : List UInt8) : ∀ cur, runs cur l = (if (cur ++ l.take (lead l)).isEmpty then [] else [cur ++ l.take (lead l)]) ++ runs [] (l.drop (lead l + 1)) := by
  induction l with
  | nil => intro cur; simp [runs]
  | cons c l ih =>
    intro cur
    cases h : isL c
    · rw [lead_cons_no c l h]
      simp [runs, h]
    · rw [lead_cons_yes c l h, runs, if_pos h, ih]
      simp
theorem words_step (l : List UInt8) : wordsL l = (if lead l = 0 then [] else [wordOf (l.take (lead l))]) ++ wordsL (l.drop (lead l + 1)) := by
  unfold wordsL
  rw [runs_lead l []]
  by_cases h : lead l = 0
  · simp [h]
  · have hl : l.take (lead l) ≠ [] := by
      intro e
      rcases List.take_eq_nil_iff.1 e with h' | h'
      · exact h h'
      · subst h'; exact h rfl
    simp [h, hl]
theorem lead_le (l : List UInt8) : lead l ≤ l.length := List.findIdx_le_length
theorem drop_min {α : Type} (l : List α) (n : Nat) : l.drop (min n l.length) = l.drop n := by
  by_cases h : n ≤ l.length
  · rw [Nat.min_eq_left h]
  · rw [Nat.min_eq_right (by omega), List.drop_length, List.drop_eq_nil_of_le (by omega)]
theorem ba_ext {a b : ByteArray} (h : a.data.toList = b.data.toList) : a = b := by
  cases a; cases b; simp at h; simp [h]
theorem ba_extract (s : ByteArray) (a b : Nat) : (s.extract a b).data.toList = (s.data.toList.take b).drop a := by
  rw [ByteArray.data_extract, Array.toList_extract, List.extract_eq_take_drop, List.drop_take]
theorem ba_len (s : ByteArray) : s.data.toList.length = s.size := by simp
/-- the word that the program makes of a run -/
theorem word_prog (t : ByteArray) (n : Nat) : stemS (smallS (t.extract 0 (min n 12))) = wordOf (t.data.toList.take n) := by
  unfold wordOf smallS
  rw [ba_extract]
  simp only [List.drop_zero, smallL, ← List.map_take, List.take_take, Nat.min_comm]
/-- the word that the document makes of a run -/
theorem word_doc_short (r : ByteArray) (h : r.size ≤ 12) : stemS (smallS r) = wordOf r.data.toList := by
  unfold wordOf smallS
  rw [List.take_of_length_le (by simp [smallL]; exact h)]
theorem word_doc_long (r : ByteArray) : stemS ((smallS r).extract 0 12) = wordOf r.data.toList := by
  unfold wordOf
  congr 1
  apply ba_ext
  rw [ba_extract]
  simp [smallS]
theorem stemFrom_le (t : List (ByteArray × ByteArray)) (s : ByteArray) (h : ∀ x ∈ t, x.2.size ≤ x.1.size) : (stemFrom t s).size ≤ s.size := by
  induction t with
  | nil => simp [stemFrom]
  | cons x t ih =>
    obtain ⟨e, r⟩ := x
    have hx := h (e, r) (by simp)
    simp only at hx
    unfold stemFrom
    split
    · split
      · simp only [ByteArray.size_append, ByteArray.size_extract]; omega
      · exact Nat.le_refl _
    · exact ih fun y hy => h y (by simp [hy])
theorem stem_le (s : ByteArray) : (stemS s).size ≤ s.size := stemFrom_le _ _ (by decide)
theorem wordOf_le (r : List UInt8) : (wordOf r).size ≤ 12 := by
  refine Nat.le_trans (stem_le _) ?_
  show ((smallL r).take 12).toArray.size ≤ 12
  simp
  omega
theorem words_le (l : List UInt8) : ∀ x ∈ wordsL l, x.size ≤ 12 := by
  intro x hx
  obtain ⟨r, _, rfl⟩ := List.mem_map.1 hx
  exact wordOf_le r
theorem runs_length (l : List UInt8) : ∀ cur, (runs cur l).length ≤ l.length + 1 := by
  induction l with
  | nil => intro cur; unfold runs; split <;> simp
  | cons c l ih =>
    intro cur
    unfold runs
    split
    · have := ih (cur ++ [c]); simp; omega
    · have := ih []
      simp
      split <;> simp <;> omega
theorem words_length (l : List UInt8) : (wordsL l).length ≤ l.length + 1 := by rw [wordsL, List.length_map]; exact runs_length l []
/-- texts, as cells -/
def sc (l : List ByteArray) : List Value := l.map Value.string
theorem sc_append (a b : List ByteArray) : sc (a ++ b) = sc a ++ sc b := by simp [sc]
theorem sc_length (a : List ByteArray) : (sc a).length = a.length := by simp [sc]
/-- texts in a row -/
def RowS (w : World) (a : Option Addr) (len : Nat) (xs : List ByteArray) : Prop :=
  len = xs.length ∧ xs.length ≤ 1000000 ∧ (xs = [] ∨ ∃ b off, a = some ⟨b, off, none⟩ ∧ b < w.heap.size ∧ ∀ i (h : i < xs.length), w.cell? ⟨b, off + i, none⟩ = some (.string xs[i]))
theorem row_of_own {w : World} {B : Nat} {v : Value} {xs : List ByteArray} (h : w.ownsRow B 9 1 v xs.length (sc xs)) (hl : xs.length ≤ 1000000) : ∃ a cap, v = .slice a xs.length cap ∧ RowS w a xs.length xs ∧ (a = none → cap = 0) := by
  rcases h.2 with ⟨rfl, h0⟩ | ⟨g, cap, cur, rfl, _, hg, _⟩
  · have : xs = [] := List.length_eq_zero_iff.1 h0
    subst this
    exact ⟨none, 0, rfl, ⟨rfl, hl, .inl rfl⟩, fun _ => rfl⟩
  · refine ⟨some ⟨g, 0, none⟩, cap, rfl, ⟨rfl, hl, .inr ⟨g, 0, rfl, (Array.getElem?_eq_some_iff.1 hg).1, fun i hi => ?_⟩⟩, fun e => by simp at e⟩
    have k0 := h.cells (g := g) rfl i (.string xs[i]) (by simp [sc])
    rw [Go.WideShapes.add_plain] at k0
    exact k0
theorem RowS.below {w w' : World} {a : Option Addr} {len : Nat} {xs : List ByteArray} (h : RowS w a len xs) (hb : Below w.heap.size w w') : RowS w' a len xs := by
  obtain ⟨h1, h2, h3⟩ := h
  refine ⟨h1, h2, ?_⟩
  rcases h3 with h3 | ⟨b, off, e, hlt, hc⟩
  · exact .inl h3
  · exact .inr ⟨b, off, e, Nat.lt_of_lt_of_le hlt hb.size, fun i hi => by rw [hb.cell (p := ⟨b, _, none⟩) hlt]; exact hc i hi⟩
theorem own_eq {w : World} {B : Nat} {t : TypeId} {z : Nat} {v : Value} {n n' : Nat} {xs xs' : List Value} (h : w.ownsRow B t z v n xs) (hn : n = n') (hx : xs = xs') : w.ownsRow B t z v n' xs' := by rw [← hn, ← hx]; exact h
theorem own_below {w w' : World} {B : Nat} {t : TypeId} {z : Nat} {v : Value} {n : Nat} {xs : List Value} (h : w.ownsRow B t z v n xs) (hb : Below w.heap.size w w') : w'.ownsRow B t z v n xs := by
  refine ⟨h.1, ?_⟩
  rcases h.2 with h2 | ⟨g, cap, cur, h1, h2, h3, h4⟩
  · exact .inl h2
  · exact .inr ⟨g, cap, cur, h1, h2, by rw [hb.block g (Array.getElem?_eq_some_iff.1 h3).1]; exact h3, h4⟩
/-- how long a text is -/
def strLen : Value → Nat
  | .string t => t.size
  | _ => 0
theorem isLn_128 (x : Nat) : isLn x = (decide (97 ≤ x) && decide (x ≤ 122) || decide (65 ≤ x) && decide (x ≤ 90) || decide (48 ≤ x) && decide (x ≤ 57) || decide (128 ≤ x)) := by
  rw [Bool.eq_iff_iff]
  simp [isLn]
  omega
theorem drop_at (s : ByteArray) (k : Nat) (h : k < s.size) : s.data.toList.drop k = s[k] :: s.data.toList.drop (k + 1) := by
  rw [List.drop_eq_getElem_cons (by simpa using h)]
  simp
  rfl

end Go.Proofs.YtbdcbaamjkjhaaaGreatDoor
namespace Go.Proofs.YtbdcbaamjkjhaaaGreatDoor
open Go.RowKit

/-- a token: its kind, what it says, where it stands -/
structure Tok where
  k : Int
  t : ByteArray
  p : Nat
def alphaN (x : Nat) : Bool := decide (97 ≤ x) && decide (x ≤ 122) || decide (65 ≤ x) && decide (x ≤ 90) || decide (x = 95)
def digN (x : Nat) : Bool := decide (48 ≤ x) && decide (x ≤ 57)
def isAl (c : UInt8) : Bool := alphaN c.toNat
def isDg (c : UInt8) : Bool := digN c.toNat
def wordC (c : UInt8) : Bool := isAl c || isDg c
def blankC (c : UInt8) : Bool := decide (c.toNat = 32) || decide (c.toNat = 9) || decide (c.toNat = 13) || decide (c.toNat = 10)
def markC (c : UInt8) : Bool := decide (0 ≤ Lib.indexByte [60, 62, 61, 43, 45, 42, 40, 41, 44, 46, 59] c)
/-- two marks that are one -/
def twoC (c d : UInt8) : Bool := decide (c.toNat = 60 ∧ d.toNat = 62) || decide (c.toNat = 60 ∧ d.toNat = 61) || decide (c.toNat = 62 ∧ d.toNat = 61)
/-- what stands behind a quote: what it says, and how long it is, with the quote that ends it -/
def strL : List UInt8 → Option (List UInt8 × Nat)
  | [] => none
  | [c] => if c.toNat = 39 then some ([], 1) else none
  | c :: d :: r => if c.toNat = 39 then (if d.toNat = 39 then (strL r).map (fun x => (d :: x.1, x.2 + 2)) else some ([], 1)) else (strL (d :: r)).map (fun x => (c :: x.1, x.2 + 1))
def markT (c : UInt8) : List UInt8 → Int × List UInt8 × Nat
  | d :: _ => if twoC c d then (4, [c, d], 2) else (4, [c], 1)
  | [] => (4, [c], 1)
/-- the token that stands there: its kind, what it says, how long it is -/
def nextT : List UInt8 → Option (Int × List UInt8 × Nat)
  | [] => none
  | c :: l =>
    if isAl c then some (1, smallL (c :: l.takeWhile wordC), (l.takeWhile wordC).length + 1)
    else if isDg c then some (2, c :: l.takeWhile isDg, (l.takeWhile isDg).length + 1)
    else if c.toNat = 39 then (strL l).map fun x => (3, x.1, x.2 + 1)
    else if markC c then some (markT c l)
    else none
def lexL : Nat → Nat → Nat → List UInt8 → Except (Int × Nat) (List Tok)
  | 0, i, _, _ => .ok [⟨5, ⟨#[]⟩, i⟩]
  | _ + 1, i, _, [] => .ok [⟨5, ⟨#[]⟩, i⟩]
  | f + 1, i, n, c :: l =>
    if blankC c then lexL f (i + 1) n l
    else match nextT (c :: l) with
      | none => .error (3, i)
      | some (k, t, m) => if (k = 2 ∧ 19 < m) ∨ n = 200 then .error (4, i) else (lexL f (i + m) (n + 1) ((c :: l).drop m)).map (⟨k, ⟨t.toArray⟩, i⟩ :: ·)

theorem strL_pos (l : List UInt8) : ∀ x, strL l = some x → 0 < x.2 ∧ x.2 ≤ l.length ∧ x.1.length ≤ l.length := by
  induction l using strL.induct with
  | case1 => intro x h; cases h
  | case2 c h => intro x hx; rw [strL, if_pos h] at hx; cases hx; exact ⟨by decide, by simp, by simp⟩
  | case3 c h => intro x hx; rw [strL, if_neg h] at hx; cases hx
  | case4 c d r h1 h2 ih =>
    intro x hx
    rw [strL, if_pos h1, if_pos h2, Option.map_eq_some_iff] at hx
    obtain ⟨y, hy, rfl⟩ := hx
    have := ih y hy
    simp only [List.length_cons]
    omega
  | case5 c d r h1 h2 => intro x hx; rw [strL, if_pos h1, if_neg h2] at hx; cases hx; exact ⟨by decide, by simp, by simp⟩
  | case6 c d r h1 ih =>
    intro x hx
    rw [strL, if_neg h1, Option.map_eq_some_iff] at hx
    obtain ⟨y, hy, rfl⟩ := hx
    have := ih y hy
    simp only [List.length_cons] at this ⊢
    omega
theorem nextT_pos {l : List UInt8} {k : Int} {t : List UInt8} {m : Nat} (h : nextT l = some (k, t, m)) : 0 < m ∧ m ≤ l.length ∧ t.length ≤ l.length := by
  cases l with
  | nil => cases h
  | cons c l =>
    rw [nextT] at h
    split at h
    · cases h
      have := (List.takeWhile_sublist wordC (l := l)).length_le
      refine ⟨by omega, by simp only [List.length_cons]; omega, ?_⟩
      simp only [smallL, List.length_map, List.length_cons]
      omega
    · split at h
      · cases h
        have := (List.takeWhile_sublist isDg (l := l)).length_le
        refine ⟨by omega, by simp only [List.length_cons]; omega, by simp only [List.length_cons]; omega⟩
      · split at h
        · rw [Option.map_eq_some_iff] at h
          obtain ⟨x, hx, e⟩ := h
          cases e
          have := strL_pos l x hx
          simp only [List.length_cons]
          omega
        · split at h
          · have e := Option.some.inj h
            cases l with
            | nil => rw [markT] at e; cases e; simp
            | cons d r =>
              rw [markT] at e
              split at e
              · cases e; simp
              · cases e; simp
          · cases h
theorem lexL_fuel (f : Nat) : ∀ g i n l, l.length ≤ f → l.length ≤ g → lexL f i n l = lexL g i n l := by
  induction f with
  | zero =>
    intro g i n l h1 h2
    obtain rfl : l = [] := List.length_eq_zero_iff.1 (by omega)
    cases g <;> rfl
  | succ f ih =>
    intro g i n l h1 h2
    cases l with
    | nil => cases g <;> rfl
    | cons c l =>
      cases g with
      | zero => simp at h2
      | succ g =>
        simp only [List.length_cons] at h1 h2
        rw [lexL, lexL]
        split
        · exact ih g _ _ _ (by omega) (by omega)
        · split
          · rfl
          · rename_i k t m hm
            have := nextT_pos hm
            rw [ih g (i + m) (n + 1) ((c :: l).drop m) (by rw [List.length_drop, List.length_cons]; omega) (by rw [List.length_drop, List.length_cons]; omega)]
/-- the tokens of a text -/
def lexS (s : ByteArray) : Except (Int × Nat) (List Tok) := lexL s.size 0 0 s.data.toList
/-- tokens, as cells -/
def tc (l : List Tok) : List Value := l.flatMap fun x => [.int .i64 x.k, .string x.t, .int .i64 x.p]
theorem tc_append (a b : List Tok) : tc (a ++ b) = tc a ++ tc b := by simp [tc]
theorem tc_length (l : List Tok) : (tc l).length = l.length * 3 := by
  induction l with
  | nil => rfl
  | cons x l ih => rw [tc, List.flatMap_cons, List.length_append]; rw [tc] at ih; rw [ih, List.length_cons]; simp; omega
end Go.Proofs.YtbdcbaamjkjhaaaGreatDoor
namespace Go.Proofs.YtbdcbaamjkjhaaaGreatDoor
open Go.RowKit

/-- a value -/
structure Vl where
  k : Int
  n : Int
  t : ByteArray
def Vl.none : Vl := ⟨0, 0, ⟨#[]⟩⟩
/-- an expression -/
inductive Ex where
  | nil : Ex
  | node (c : Int) (v : Vl) (nm : ByteArray) (l r : Ex) : Ex
def Ex.two (c : Int) (l r : Ex) : Ex := .node c .none ⟨#[]⟩ l r
def Ex.code : Ex → Int
  | .nil => 0
  | .node c _ _ _ _ => c
/-- a token: its kind, what it says -/
abbrev KT := Int × ByteArray
def Tok.kt (x : Tok) : KT := (x.k, x.t)
/-- what reads: what it makes of tokens, and what is left; or nothing -/
abbrev Rf (α : Type) := List KT → Option (α × List KT)
def hdT (l : List KT) : KT := l.headD (5, ⟨#[]⟩)
def isT (s : ByteArray) (l : List KT) : Bool := (decide ((hdT l).1 = 1) || decide ((hdT l).1 = 4)) && decide ((hdT l).2 = s)
def needF (s : ByteArray) (l : List KT) : Option (List KT) := if isT s l then some l.tail else none
def keepL : List ByteArray := [⟨#[97, 110, 100]⟩, ⟨#[97, 115, 99]⟩, ⟨#[98, 101, 103, 105, 110]⟩, ⟨#[98, 121]⟩, ⟨#[99, 111, 109, 109, 105, 116]⟩, ⟨#[99, 111, 117, 110, 116]⟩, ⟨#[99, 114, 101, 97, 116, 101]⟩, ⟨#[100, 101, 108, 101, 116, 101]⟩, ⟨#[100, 101, 115, 99]⟩, ⟨#[100, 114, 111, 112]⟩, ⟨#[102, 114, 111, 109]⟩, ⟨#[103, 114, 111, 117, 112]⟩, ⟨#[105, 110]⟩, ⟨#[105, 110, 100, 101, 120]⟩, ⟨#[105, 110, 115, 101, 114, 116]⟩, ⟨#[105, 110, 116]⟩, ⟨#[105, 110, 116, 111]⟩, ⟨#[105, 115]⟩, ⟨#[106, 111, 105, 110]⟩, ⟨#[108, 105, 109, 105, 116]⟩, ⟨#[109, 97, 116, 99, 104]⟩, ⟨#[109, 97, 120]⟩, ⟨#[109, 105, 110]⟩, ⟨#[110, 111, 116]⟩, ⟨#[110, 117, 108, 108]⟩, ⟨#[111, 110]⟩, ⟨#[111, 114]⟩, ⟨#[111, 114, 100, 101, 114]⟩, ⟨#[114, 97, 110, 107]⟩, ⟨#[114, 111, 108, 108, 98, 97, 99, 107]⟩, ⟨#[115, 101, 108, 101, 99, 116]⟩, ⟨#[115, 101, 116]⟩, ⟨#[115, 117, 109]⟩, ⟨#[116, 97, 98, 108, 101]⟩, ⟨#[116, 101, 120, 116]⟩, ⟨#[117, 112, 100, 97, 116, 101]⟩, ⟨#[118, 97, 108, 117, 101, 115]⟩, ⟨#[119, 104, 101, 114, 101]⟩, ⟨#[119, 111, 114, 100, 115]⟩]
def keepB (s : ByteArray) : Bool := keepL.any fun k => decide (k = s)
def nameB (l : List KT) : Bool := decide ((hdT l).1 = 1) && !keepB (hdT l).2
def nameF : Rf ByteArray := fun l => if nameB l = true ∧ (hdT l).2.size ≤ 16 then some ((hdT l).2, l.tail) else none
def numF : Rf Vl := fun l => match Lib.parseIntB 64 (hdT l).2.data.toList with | .ok n => some (⟨1, n, ⟨#[]⟩⟩, l.tail) | _ => none
def rightT (s : ByteArray) : Bool := decide (s.size ≤ 40) && s.data.toList.all (fun c => decide (c.toNat ≠ 0))
def textF : Rf Vl := fun l => if (hdT l).1 = 3 ∧ rightT (hdT l).2 = true then some (⟨2, 0, (hdT l).2⟩, l.tail) else none

def chainL (B : Rf Ex) (sg : List (ByteArray × Int)) : Nat → Ex → Rf Ex
  | 0, e, l => some (e, l)
  | f + 1, e, l => match sg.find? (fun s => isT s.1 l) with
    | none => some (e, l)
    | some s => (B l.tail).bind fun x => chainL B sg f (.two s.2 e x.1) x.2
def chainF (B : Rf Ex) (sg : List (ByteArray × Int)) : Rf Ex := fun l => (B l).bind fun x => chainL B sg x.2.length x.1 x.2
def orS : List (ByteArray × Int) := [(⟨#[111, 114]⟩, 16)]
def andS : List (ByteArray × Int) := [(⟨#[97, 110, 100]⟩, 15)]
def cmpS : List (ByteArray × Int) := [(⟨#[61]⟩, 9), (⟨#[60, 62]⟩, 10), (⟨#[60]⟩, 11), (⟨#[60, 61]⟩, 12), (⟨#[62]⟩, 13), (⟨#[62, 61]⟩, 14)]
def sumS : List (ByteArray × Int) := [(⟨#[43]⟩, 6), (⟨#[45]⟩, 7)]
def mulS : List (ByteArray × Int) := [(⟨#[42]⟩, 8)]
def prodF (M : Rf Ex) : Rf Ex := chainF M mulS
def sumF (M : Rf Ex) : Rf Ex := chainF (prodF M) sumS
def bothF (N : Rf Ex) : Rf Ex := chainF N andS
def exprF (N : Rf Ex) : Rf Ex := chainF (bothF N) orS
def nullF (e : Ex) : Rf Ex := fun l =>
  if isT ⟨#[110, 111, 116]⟩ l then (needF ⟨#[110, 117, 108, 108]⟩ l.tail).map fun l2 => (.two 4 (.two 5 e .nil) .nil, l2) else (needF ⟨#[110, 117, 108, 108]⟩ l).map fun l2 => (.two 5 e .nil, l2)
def askR (S : Rf Ex) (e : Ex) : Rf Ex := fun l =>
  match cmpS.find? (fun s => isT s.1 l) with
  | some s => (S l.tail).map fun x => (.two s.2 e x.1, x.2)
  | none => if isT ⟨#[105, 115]⟩ l then nullF e l.tail else if e.code = 2 ∧ isT ⟨#[109, 97, 116, 99, 104]⟩ l = true then (textF l.tail).map fun x => (.node 17 x.1 ⟨#[]⟩ e .nil, x.2) else some (e, l)
def askF (S : Rf Ex) : Rf Ex := fun l => (S l).bind fun x => askR S x.1 x.2
def notF (N A : Rf Ex) : Rf Ex := fun l => if isT ⟨#[110, 111, 116]⟩ l then (N l.tail).map fun x => (.two 4 x.1 .nil, x.2) else A l
def colF : Rf Ex := fun l => (nameF l).bind fun x =>
  if isT ⟨#[46]⟩ x.2 then (nameF x.2.tail).map fun y => (.node 2 .none (x.1 ++ (⟨#[46]⟩ ++ y.1)) .nil .nil, y.2) else some (.node 2 .none x.1 .nil .nil, x.2)
def oneF (E : Rf Ex) : Rf Ex := fun l =>
  if (hdT l).1 = 2 then (numF l).map fun x => (.node 1 x.1 ⟨#[]⟩ .nil .nil, x.2)
  else if (hdT l).1 = 3 then (textF l).map fun x => (.node 1 x.1 ⟨#[]⟩ .nil .nil, x.2)
  else if isT ⟨#[110, 117, 108, 108]⟩ l then some (.node 1 .none ⟨#[]⟩ .nil .nil, l.tail)
  else if isT ⟨#[40]⟩ l then (E l.tail).bind fun x => (needF ⟨#[41]⟩ x.2).map fun l2 => (x.1, l2)
  else colF l
def minusF (M O : Rf Ex) : Rf Ex := fun l => if isT ⟨#[45]⟩ l then (M l.tail).map fun x => (.two 3 x.1 .nil, x.2) else O l
/-- the three that know how deep they stand -/
structure Lv where
  E : Rf Ex
  N : Rf Ex
  M : Rf Ex
def lev : Nat → Lv
  | 0 => ⟨fun _ => none, fun _ => none, fun _ => none⟩
  | d + 1 =>
    let M := minusF (lev d).M (oneF (lev d).E)
    let N := notF (lev d).N (askF (sumF M))
    ⟨exprF N, N, M⟩
/-- an expression that stands in nothing -/
def Ef : Rf Ex := (lev 13).E

/-- digits, not too many -/
def digsB (s : ByteArray) : Bool := decide (0 < s.size) && decide (s.size ≤ 19) && s.data.toList.all isDg
/-- tokens that have their End -/
def OkT (l : List KT) : Prop := (∃ C, l = C ++ [(5, ⟨#[]⟩)] ∧ ∀ x ∈ C, x.1 ≠ 5 ∧ x.2.size ≤ 4000 ∧ (x.1 = 2 → digsB x.2 = true)) ∧ l.length ≤ 300
theorem OkT.cons {l : List KT} (h : OkT l) : l = hdT l :: l.tail := by
  obtain ⟨⟨C, h1, _⟩, _⟩ := h
  unfold hdT
  rw [h1]
  cases C <;> rfl
theorem OkT.size {l : List KT} (h : OkT l) : (hdT l).2.size ≤ 4000 := by
  obtain ⟨⟨C, h1, h2⟩, _⟩ := h
  unfold hdT
  rw [h1]
  cases C with
  | nil => exact Nat.zero_le _
  | cons x C => exact (h2 x (by simp)).2.1
theorem OkT.digs {l : List KT} (h : OkT l) (hk : (hdT l).1 = 2) : digsB (hdT l).2 = true := by
  obtain ⟨⟨C, h1, h2⟩, _⟩ := h
  unfold hdT at hk ⊢
  rw [h1] at hk ⊢
  cases C with
  | nil => exact absurd hk (by decide)
  | cons x C => exact (h2 x (by simp)).2.2 hk
theorem OkT.adv {l : List KT} (h : OkT l) (hk : (hdT l).1 ≠ 5) : OkT l.tail := by
  obtain ⟨⟨C, h1, h2⟩, h3⟩ := h
  unfold hdT at hk
  rw [h1] at hk
  cases C with
  | nil => exact absurd rfl hk
  | cons x C =>
    refine ⟨⟨C, by rw [h1]; rfl, fun y hy => h2 y (by simp [hy])⟩, ?_⟩
    rw [List.length_tail]
    omega
theorem OkT.two {l : List KT} (h : OkT l) (hk : (hdT l).1 ≠ 5) : 2 ≤ l.length := by
  obtain ⟨⟨C, h1, _⟩, _⟩ := h
  unfold hdT at hk
  rw [h1] at hk ⊢
  cases C with
  | nil => exact absurd rfl hk
  | cons x C => rw [List.length_append, List.length_cons]; simp
theorem isT_k {s : ByteArray} {l : List KT} (h : isT s l = true) : ((hdT l).1 = 1 ∨ (hdT l).1 = 4) ∧ (hdT l).2 = s := by
  simpa [isT] using h
theorem isT_ne {s : ByteArray} {l : List KT} (h : isT s l = true) : (hdT l).1 ≠ 5 := by have := (isT_k h).1; omega
theorem OkT.seen {l : List KT} (h : OkT l) {s : ByteArray} (hs : isT s l = true) : OkT l.tail := h.adv (isT_ne hs)
/-- what reads leaves tokens that have their End, and no more than there were -/
def Reads {α : Type} (F : Rf α) : Prop := ∀ l, OkT l → ∀ x, F l = some x → OkT x.2 ∧ x.2.length ≤ l.length
theorem tail_le {α : Type} (l : List α) : l.tail.length ≤ l.length := by rw [List.length_tail]; omega
theorem need_reads {s : ByteArray} {l l2 : List KT} (h : OkT l) (he : needF s l = some l2) : OkT l2 ∧ l2.length ≤ l.length := by
  unfold needF at he
  split at he
  · rename_i hs; cases he; exact ⟨h.seen hs, tail_le l⟩
  · cases he
theorem name_reads : Reads nameF := fun l h x he => by
  unfold nameF at he
  split at he
  · rename_i hs
    cases he
    refine ⟨h.adv ?_, tail_le l⟩
    have := hs.1
    simp only [nameB, Bool.and_eq_true, decide_eq_true_eq] at this
    omega
  · cases he
theorem num_reads {l : List KT} (h : OkT l) (hk : (hdT l).1 = 2) {x : Vl × List KT} (he : numF l = some x) : OkT x.2 ∧ x.2.length ≤ l.length := by
  unfold numF at he
  split at he
  · cases he; exact ⟨h.adv (by omega), tail_le l⟩
  · cases he
theorem text_reads : Reads textF := fun l h x he => by
  unfold textF at he
  split at he
  · rename_i hs; cases he; exact ⟨h.adv (by omega), tail_le l⟩
  · cases he
theorem find_is {sg : List (ByteArray × Int)} {l : List KT} {s : ByteArray × Int} (h : sg.find? (fun s => isT s.1 l) = some s) : isT s.1 l = true := by
  have := List.find?_some h
  exact this
theorem chainL_reads {B : Rf Ex} (hB : Reads B) (sg : List (ByteArray × Int)) (f : Nat) : ∀ e, Reads (chainL B sg f e) := by
  induction f with
  | zero => intro e l h x he; cases he; exact ⟨h, Nat.le_refl _⟩
  | succ f ih =>
    intro e l h x he
    rw [chainL] at he
    split at he
    · cases he; exact ⟨h, Nat.le_refl _⟩
    · rename_i s hs
      obtain ⟨y, hy, he⟩ := Option.bind_eq_some_iff.1 he
      have h2 := hB _ (h.seen (find_is hs)) y hy
      have h3 := ih _ _ h2.1 x he
      exact ⟨h3.1, Nat.le_trans h3.2 (Nat.le_trans h2.2 (tail_le l))⟩
theorem chainF_reads {B : Rf Ex} (hB : Reads B) (sg : List (ByteArray × Int)) : Reads (chainF B sg) := fun l h x he => by
  obtain ⟨y, hy, he⟩ := Option.bind_eq_some_iff.1 he
  have h1 := hB l h y hy
  have h2 := chainL_reads hB sg _ _ _ h1.1 x he
  exact ⟨h2.1, Nat.le_trans h2.2 h1.2⟩
theorem prodF_reads {M : Rf Ex} (h : Reads M) : Reads (prodF M) := chainF_reads h _
theorem sumF_reads {M : Rf Ex} (h : Reads M) : Reads (sumF M) := chainF_reads (prodF_reads h) _
theorem bothF_reads {N : Rf Ex} (h : Reads N) : Reads (bothF N) := chainF_reads h _
theorem exprF_reads {N : Rf Ex} (h : Reads N) : Reads (exprF N) := chainF_reads (bothF_reads h) _
theorem nullF_reads (e : Ex) : Reads (nullF e) := fun l h x he => by
  unfold nullF at he
  split at he
  · rename_i hs
    obtain ⟨y, hy, rfl⟩ := Option.map_eq_some_iff.1 he
    have := need_reads (h.seen hs) hy
    exact ⟨this.1, Nat.le_trans this.2 (tail_le l)⟩
  · obtain ⟨y, hy, rfl⟩ := Option.map_eq_some_iff.1 he
    exact need_reads h hy
theorem askR_reads {S : Rf Ex} (hS : Reads S) (e : Ex) : Reads (askR S e) := fun l h x he => by
  unfold askR at he
  split at he
  · rename_i s hs
    obtain ⟨y, hy, rfl⟩ := Option.map_eq_some_iff.1 he
    have := hS _ (h.seen (find_is hs)) y hy
    exact ⟨this.1, Nat.le_trans this.2 (tail_le l)⟩
  · split at he
    · rename_i hs
      have := nullF_reads e _ (h.seen hs) x he
      exact ⟨this.1, Nat.le_trans this.2 (tail_le l)⟩
    · split at he
      · rename_i hs
        obtain ⟨y, hy, rfl⟩ := Option.map_eq_some_iff.1 he
        have := text_reads _ (h.seen hs.2) y hy
        exact ⟨this.1, Nat.le_trans this.2 (tail_le l)⟩
      · cases he; exact ⟨h, Nat.le_refl _⟩
theorem askF_reads {S : Rf Ex} (hS : Reads S) : Reads (askF S) := fun l h x he => by
  obtain ⟨y, hy, he⟩ := Option.bind_eq_some_iff.1 he
  have h1 := hS l h y hy
  have h2 := askR_reads hS _ _ h1.1 x he
  exact ⟨h2.1, Nat.le_trans h2.2 h1.2⟩
theorem notF_reads {N A : Rf Ex} (hN : Reads N) (hA : Reads A) : Reads (notF N A) := fun l h x he => by
  unfold notF at he
  split at he
  · rename_i hs
    obtain ⟨y, hy, rfl⟩ := Option.map_eq_some_iff.1 he
    have := hN _ (h.seen hs) y hy
    exact ⟨this.1, Nat.le_trans this.2 (tail_le l)⟩
  · exact hA l h x he
theorem colF_reads : Reads colF := fun l h x he => by
  obtain ⟨y, hy, he⟩ := Option.bind_eq_some_iff.1 he
  have h1 := name_reads l h y hy
  split at he
  · rename_i hs
    obtain ⟨z, hz, rfl⟩ := Option.map_eq_some_iff.1 he
    have := name_reads _ (h1.1.seen hs) z hz
    exact ⟨this.1, Nat.le_trans this.2 (Nat.le_trans (tail_le _) h1.2)⟩
  · cases he; exact h1
theorem oneF_reads {E : Rf Ex} (hE : Reads E) : Reads (oneF E) := fun l h x he => by
  unfold oneF at he
  split at he
  · rename_i hk
    obtain ⟨y, hy, rfl⟩ := Option.map_eq_some_iff.1 he
    exact num_reads h hk hy
  · split at he
    · obtain ⟨y, hy, rfl⟩ := Option.map_eq_some_iff.1 he
      exact text_reads l h y hy
    · split at he
      · rename_i hs; cases he; exact ⟨h.seen hs, tail_le l⟩
      · split at he
        · rename_i hs
          obtain ⟨y, hy, he⟩ := Option.bind_eq_some_iff.1 he
          obtain ⟨z, hz, rfl⟩ := Option.map_eq_some_iff.1 he
          have h1 := hE _ (h.seen hs) y hy
          have h2 := need_reads h1.1 hz
          exact ⟨h2.1, Nat.le_trans h2.2 (Nat.le_trans h1.2 (tail_le l))⟩
        · exact colF_reads l h x he
theorem minusF_reads {M O : Rf Ex} (hM : Reads M) (hO : Reads O) : Reads (minusF M O) := fun l h x he => by
  unfold minusF at he
  split at he
  · rename_i hs
    obtain ⟨y, hy, rfl⟩ := Option.map_eq_some_iff.1 he
    have := hM _ (h.seen hs) y hy
    exact ⟨this.1, Nat.le_trans this.2 (tail_le l)⟩
  · exact hO l h x he
theorem lev_reads (d : Nat) : Reads (lev d).E ∧ Reads (lev d).N ∧ Reads (lev d).M := by
  induction d with
  | zero => exact ⟨(fun _ _ _ h => by cases h), (fun _ _ _ h => by cases h), (fun _ _ _ h => by cases h)⟩
  | succ d ih =>
    have hM := minusF_reads ih.2.2 (oneF_reads ih.1)
    have hN := notF_reads ih.2.1 (askF_reads (sumF_reads hM))
    exact ⟨exprF_reads hN, hN, hM⟩
theorem Ef_reads : Reads Ef := (lev_reads 13).1
theorem chainL_fuel {B : Rf Ex} (hB : Reads B) (sg : List (ByteArray × Int)) (f : Nat) : ∀ g e l, OkT l → l.length ≤ f → l.length ≤ g → chainL B sg f e l = chainL B sg g e l := by
  induction f with
  | zero => intro g e l h h1 _; have := h.cons; rw [this] at h1; simp at h1
  | succ f ih =>
    intro g e l h h1 h2
    cases g with
    | zero => have := h.cons; rw [this] at h2; simp at h2
    | succ g =>
      rw [chainL, chainL]
      split
      · rfl
      · rename_i s hs
        cases hb : B l.tail with
        | none => rfl
        | some y =>
          have h3 := hB _ (h.seen (find_is hs)) y hb
          have h4 : l.tail.length + 1 = l.length := by rw [h.cons]; rfl
          exact ih g _ _ h3.1 (by omega) (by omega)
end Go.Proofs.YtbdcbaamjkjhaaaGreatDoor
