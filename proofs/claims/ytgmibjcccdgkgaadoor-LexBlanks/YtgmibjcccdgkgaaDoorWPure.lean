/- Words of a text, as plain lists. -/
import Derived.Test.YtgmibjcccdgkgaaDoorWBase
namespace Go.Proofs.YtgmibjcccdgkgaaDoor
open Go.RowKit

/-- a byte of a word -/
def isLn (x : Nat) : Bool := decide (65 ≤ x) && decide (x ≤ 90) || decide (97 ≤ x) && decide (x ≤ 122) || decide (48 ≤ x) && decide (x ≤ 57) || decide (127 < x)
def isL (c : UInt8) : Bool := isLn c.toNat
/-- how many bytes stand ahead of the first one that is none of a word -/
def lead (l : List UInt8) : Nat := l.findIdx (fun c => !isL c)
theorem lead_none (s : ByteArray) (hz : ∀ j (h2 : j < s.size), isLn s[j].toNat = true) : lead s.data.toList = s.size := by
  unfold lead
  have : s.size = s.data.toList.length := by simp
  rw [this, List.findIdx_eq_length]
  intro x hx
  obtain ⟨j, hj, rfl⟩ := List.getElem_of_mem hx
  have : isLn (s.data[j]'(by simpa using hj)).toNat = true := hz j (by simpa using hj)
  simpa [isL] using this
/-- whether a text ends so -/
def hasB (s e : ByteArray) : Bool := decide (e.size ≤ s.size) && ((s.extract (s.size - e.size) s.size).toList == e.toList)
/-- a byte, in small -/
def lown (x : Nat) : Nat := if 65 ≤ x ∧ x ≤ 90 then x + 32 else x
theorem lown_lt (c : UInt8) : lown c.toNat < 256 := by
  have := c.toNat_lt
  unfold lown
  split <;> omega
def low (c : UInt8) : UInt8 := UInt8.ofNat (lown c.toNat)
theorem low_nat (c : UInt8) : (low c).toNat = lown c.toNat := by
  have := lown_lt c
  simp [low]
  omega
/-- a text, in small -/
def smallL (l : List UInt8) : List UInt8 := l.map low
def smallS (s : ByteArray) : ByteArray := ⟨(smallL s.data.toList).toArray⟩
/-- bytes in a block: those ahead of k as l has them, the others as m -/
structure Half (B n k : Nat) (l m : Nat → Nat) (w : World) : Prop where
  cell : ∀ j, j < n → w.cell? ⟨B, j, none⟩ = some (.int .u8 ((if j < k then l j else m j : Nat) : Int))
  free : ∀ j, j < n → w.frozen? ⟨B, j, none⟩ = false
theorem Half.set {B n k : Nat} {l m : Nat → Nat} {w : World} (h : Half B n k l m w) (hk : k < n) (x : Int) (hx : x = (l k : Int)) : Half B n (k + 1) l m (w.setCell ⟨B, k, none⟩ (.int .u8 x)) := by
  subst hx
  refine ⟨fun j hj => ?_, fun j hj => by rw [World.frozen?_setCell]; exact h.free j hj⟩
  by_cases e : j = k
  · subst e
    rw [World.cell?_setCell_same _ _ _ (h.cell j hj)]
    simp
  · rw [World.cell?_setCell_other _ _ _ _ (fun q => e (by cases q; rfl)), h.cell j hj]
    have : (j < k + 1) = (j < k) := by simp; omega
    simp only [this]
theorem Half.keep {B n k : Nat} {l m : Nat → Nat} {w : World} (h : Half B n k l m w) (hk : k < n) (hx : l k = m k) : Half B n (k + 1) l m w := by
  refine ⟨fun j hj => ?_, h.free⟩
  rw [h.cell j hj]
  by_cases e : j = k
  · subst e; simp [hx]
  · have : (j < k + 1) = (j < k) := by simp; omega
    simp only [this]
def bt (s : ByteArray) (j : Nat) : Nat := if h : j < s.size then s[j].toNat else 0
theorem bt_at (s : ByteArray) (j : Nat) (h : j < s.size) : bt s j = s[j].toNat := by simp [bt, h]
theorem bt_lt (s : ByteArray) (j : Nat) : bt s j < 256 := by
  unfold bt
  split
  · exact UInt8.toNat_lt _
  · omega
theorem small_text (s : ByteArray) (j : Nat) (hj : j < (smallL s.data.toList).length) : ((smallL s.data.toList)[j]).toNat = lown (bt s j) := by
  have hj' : j < s.data.size := by simpa [smallL] using hj
  rw [bt_at s j hj']
  simp [smallL, low_nat]
  rfl
theorem small_len (s : ByteArray) : (smallL s.data.toList).length = s.size := by simp [smallL]
theorem smallS_size (s : ByteArray) : (smallS s).size = s.size := by
  show (smallL s.data.toList).toArray.size = _
  simp [small_len]
/-- the ends of words, and what stands in their place -/
def endsT : List (ByteArray × ByteArray) := [(⟨#[115, 115, 101, 115]⟩, ⟨#[115, 115]⟩), (⟨#[105, 101, 115]⟩, ⟨#[121]⟩), (⟨#[115, 115]⟩, ⟨#[115, 115]⟩), (⟨#[105, 110, 103]⟩, ⟨#[]⟩), (⟨#[101, 100]⟩, ⟨#[]⟩), (⟨#[101, 115]⟩, ⟨#[101]⟩), (⟨#[115]⟩, ⟨#[]⟩)]
/-- a word without its end -/
def stemFrom : List (ByteArray × ByteArray) → ByteArray → ByteArray
  | [], s => s
  | (e, r) :: t, s => if hasB s e then (if e.size + 3 ≤ s.size then s.extract 0 (s.size - e.size) ++ r else s) else stemFrom t s
def stemS (s : ByteArray) : ByteArray := stemFrom endsT s
theorem stem_no {e r s : ByteArray} {t : List (ByteArray × ByteArray)} (h : hasB s e = false) : stemFrom ((e, r) :: t) s = stemFrom t s := by simp [stemFrom, h]
theorem stem_short {e r s : ByteArray} {t : List (ByteArray × ByteArray)} (h : hasB s e = true) (h3 : ¬ e.size + 3 ≤ s.size) : stemFrom ((e, r) :: t) s = s := by simp only [stemFrom, h, if_true, if_neg h3]
theorem stem_yes {e r s : ByteArray} {t : List (ByteArray × ByteArray)} (h : hasB s e = true) (h3 : e.size + 3 ≤ s.size) : stemFrom ((e, r) :: t) s = s.extract 0 (s.size - e.size) ++ r := by simp only [stemFrom, h, if_true, if_pos h3]
theorem hasB_small {s e : ByteArray} (h : s.size < e.size) : hasB s e = false := by simp [hasB]; omega
theorem hasB_eq {s e : ByteArray} {l : List UInt8} (h : e.size ≤ s.size) (hl : e.toList = l) : hasB s e = ((s.extract (s.size - e.size) s.size).toList == l) := by simp [hasB, h, hl]
/-- the longest runs of letters, with what was begun ahead -/
def runs : List UInt8 → List UInt8 → List (List UInt8)
  | cur, [] => if cur.isEmpty then [] else [cur]
  | cur, c :: l => if isL c then runs (cur ++ [c]) l else (if cur.isEmpty then [] else [cur]) ++ runs [] l
def wordOf (r : List UInt8) : ByteArray := stemS ⟨((smallL r).take 12).toArray⟩
def wordsL (l : List UInt8) : List ByteArray := (runs [] l).map wordOf
theorem lead_cons_yes (c : UInt8) (l : List UInt8) (h : isL c = true) : lead (c :: l) = lead l + 1 := by simp [lead, List.findIdx_cons, h]
theorem lead_cons_no (c : UInt8) (l : List UInt8) (h : isL c = false) : lead (c :: l) = 0 := by simp [lead, List.findIdx_cons, h]
theorem runs_lead (l : List UInt8) : ∀ cur, runs cur l = (if (cur ++ l.take (lead l)).isEmpty then [] else [cur ++ l.take (lead l)]) ++ runs [] (l.drop (lead l + 1)) := by
  induction l with
  | nil => intro cur; simp [runs]
  | cons c l ih =>
    intro cur
    cases h : isL c
    · rw [lead_cons_no c l h]
      simp [runs, h]
    · rw [lead_cons_yes c l h, runs, if_pos h, ih]
      simp
theorem words_step (l : List UInt8) : wordsL l = (if lead l = 0 then [] else [wordOf (l.take (lead l))]) ++ wordsL (l.drop (lead l + 1)) := by
  unfold wordsL
  rw [runs_lead l []]
  by_cases h : lead l = 0
  · simp [h]
  · have hl : l.take (lead l) ≠ [] := by
      intro e
      rcases List.take_eq_nil_iff.1 e with h' | h'
      · exact h h'
      · subst h'; exact h rfl
    simp [h, hl]
theorem lead_le (l : List UInt8) : lead l ≤ l.length := List.findIdx_le_length
theorem drop_min {α : Type} (l : List α) (n : Nat) : l.drop (min n l.length) = l.drop n := by
  by_cases h : n ≤ l.length
  · rw [Nat.min_eq_left h]
  · rw [Nat.min_eq_right (by omega), List.drop_length, List.drop_eq_nil_of_le (by omega)]
theorem ba_ext {a b : ByteArray} (h : a.data.toList = b.data.toList) : a = b := by
  cases a; cases b; simp at h; simp [h]
theorem ba_extract (s : ByteArray) (a b : Nat) : (s.extract a b).data.toList = (s.data.toList.take b).drop a := by
  rw [ByteArray.data_extract, Array.toList_extract, List.extract_eq_take_drop, List.drop_take]
theorem ba_len (s : ByteArray) : s.data.toList.length = s.size := by simp
/-- the word that the program makes of a run -/
theorem word_prog (t : ByteArray) (n : Nat) : stemS (smallS (t.extract 0 (min n 12))) = wordOf (t.data.toList.take n) := by
  unfold wordOf smallS
  rw [ba_extract]
  simp only [List.drop_zero, smallL, ← List.map_take, List.take_take, Nat.min_comm]
/-- the word that the document makes of a run -/
theorem word_doc_short (r : ByteArray) (h : r.size ≤ 12) : stemS (smallS r) = wordOf r.data.toList := by
  unfold wordOf smallS
  rw [List.take_of_length_le (by simp [smallL]; exact h)]
theorem word_doc_long (r : ByteArray) : stemS ((smallS r).extract 0 12) = wordOf r.data.toList := by
  unfold wordOf
  congr 1
  apply ba_ext
  rw [ba_extract]
  simp [smallS]
theorem stemFrom_le (t : List (ByteArray × ByteArray)) (s : ByteArray) (h : ∀ x ∈ t, x.2.size ≤ x.1.size) : (stemFrom t s).size ≤ s.size := by
  induction t with
  | nil => simp [stemFrom]
  | cons x t ih =>
    obtain ⟨e, r⟩ := x
    have hx := h (e, r) (by simp)
    simp only at hx
    unfold stemFrom
    split
    · split
      · simp only [ByteArray.size_append, ByteArray.size_extract]; omega
      · exact Nat.le_refl _
    · exact ih fun y hy => h y (by simp [hy])
theorem stem_le (s : ByteArray) : (stemS s).size ≤ s.size := stemFrom_le _ _ (by decide)
theorem wordOf_le (r : List UInt8) : (wordOf r).size ≤ 12 := by
  refine Nat.le_trans (stem_le _) ?_
  show ((smallL r).take 12).toArray.size ≤ 12
  simp
  omega
theorem words_le (l : List UInt8) : ∀ x ∈ wordsL l, x.size ≤ 12 := by
  intro x hx
  obtain ⟨r, _, rfl⟩ := List.mem_map.1 hx
  exact wordOf_le r
theorem runs_length (l : List UInt8) : ∀ cur, (runs cur l).length ≤ l.length + 1 := by
  induction l with
  | nil => intro cur; unfold runs; split <;> simp
  | cons c l ih =>
    intro cur
    unfold runs
    split
    · have := ih (cur ++ [c]); simp; omega
    · have := ih []
      simp
      split <;> simp <;> omega
theorem words_length (l : List UInt8) : (wordsL l).length ≤ l.length + 1 := by rw [wordsL, List.length_map]; exact runs_length l []
/-- texts, as cells -/
def sc (l : List ByteArray) : List Value := l.map Value.string
theorem sc_append (a b : List ByteArray) : sc (a ++ b) = sc a ++ sc b := by simp [sc]
theorem sc_length (a : List ByteArray) : (sc a).length = a.length := by simp [sc]
/-- texts in a row -/
def RowS (w : World) (a : Option Addr) (len : Nat) (xs : List ByteArray) : Prop :=
  len = xs.length ∧ xs.length ≤ 1000000 ∧ (xs = [] ∨ ∃ b off, a = some ⟨b, off, none⟩ ∧ b < w.heap.size ∧ ∀ i (h : i < xs.length), w.cell? ⟨b, off + i, none⟩ = some (.string xs[i]))
theorem row_of_own {w : World} {B : Nat} {v : Value} {xs : List ByteArray} (h : w.ownsRow B 9 1 v xs.length (sc xs)) (hl : xs.length ≤ 1000000) : ∃ a cap, v = .slice a xs.length cap ∧ RowS w a xs.length xs ∧ (a = none → cap = 0) := by
  rcases h.2 with ⟨rfl, h0⟩ | ⟨g, cap, cur, rfl, _, hg, _⟩
  · have : xs = [] := List.length_eq_zero_iff.1 h0
    subst this
    exact ⟨none, 0, rfl, ⟨rfl, hl, .inl rfl⟩, fun _ => rfl⟩
  · refine ⟨some ⟨g, 0, none⟩, cap, rfl, ⟨rfl, hl, .inr ⟨g, 0, rfl, (Array.getElem?_eq_some_iff.1 hg).1, fun i hi => ?_⟩⟩, fun e => by simp at e⟩
    have k0 := h.cells (g := g) rfl i (.string xs[i]) (by simp [sc])
    rw [Go.WideShapes.add_plain] at k0
    exact k0
theorem RowS.below {w w' : World} {a : Option Addr} {len : Nat} {xs : List ByteArray} (h : RowS w a len xs) (hb : Below w.heap.size w w') : RowS w' a len xs := by
  obtain ⟨h1, h2, h3⟩ := h
  refine ⟨h1, h2, ?_⟩
  rcases h3 with h3 | ⟨b, off, e, hlt, hc⟩
  · exact .inl h3
  · exact .inr ⟨b, off, e, Nat.lt_of_lt_of_le hlt hb.size, fun i hi => by rw [hb.cell (p := ⟨b, _, none⟩) hlt]; exact hc i hi⟩
theorem own_eq {w : World} {B : Nat} {t : TypeId} {z : Nat} {v : Value} {n n' : Nat} {xs xs' : List Value} (h : w.ownsRow B t z v n xs) (hn : n = n') (hx : xs = xs') : w.ownsRow B t z v n' xs' := by rw [← hn, ← hx]; exact h
theorem own_below {w w' : World} {B : Nat} {t : TypeId} {z : Nat} {v : Value} {n : Nat} {xs : List Value} (h : w.ownsRow B t z v n xs) (hb : Below w.heap.size w w') : w'.ownsRow B t z v n xs := by
  refine ⟨h.1, ?_⟩
  rcases h.2 with h2 | ⟨g, cap, cur, h1, h2, h3, h4⟩
  · exact .inl h2
  · exact .inr ⟨g, cap, cur, h1, h2, by rw [hb.block g (Array.getElem?_eq_some_iff.1 h3).1]; exact h3, h4⟩
/-- how long a text is -/
def strLen : Value → Nat
  | .string t => t.size
  | _ => 0
theorem isLn_128 (x : Nat) : isLn x = (decide (97 ≤ x) && decide (x ≤ 122) || decide (65 ≤ x) && decide (x ≤ 90) || decide (48 ≤ x) && decide (x ≤ 57) || decide (128 ≤ x)) := by
  rw [Bool.eq_iff_iff]
  simp [isLn]
  omega
theorem drop_at (s : ByteArray) (k : Nat) (h : k < s.size) : s.data.toList.drop k = s[k] :: s.data.toList.drop (k + 1) := by
  rw [List.drop_eq_getElem_cons (by simpa using h)]
  simp
  rfl

end Go.Proofs.YtgmibjcccdgkgaaDoor
