/- Texts of the proof of MatchSets: WPure, APure, HPl, WLett, WSmall, WShelf. -/
import Derived.Test.YtjgdnainhoipgaaGreatDoorM07
import Derived.Shelf.LaysM
import Derived.Shelf.Strconv.Clone
namespace Go.Proofs.YtjgdnainhoipgaaGreatDoor
open Go.RowKit

/-- a byte of a word -/
def isLn (x : Nat) : Bool := decide (65 ≤ x) && decide (x ≤ 90) || decide (97 ≤ x) && decide (x ≤ 122) || decide (48 ≤ x) && decide (x ≤ 57) || decide (127 < x)
def isL (c : UInt8) : Bool := isLn c.toNat
/-- how many bytes stand ahead of the first one that is none of a word -/
def lead (l : List UInt8) : Nat := l.findIdx (fun c => !isL c)
theorem lead_none (s : ByteArray) (hz : ∀ j (h2 : j < s.size), isLn s[j].toNat = true) : lead s.data.toList = s.size := by
  unfold lead
  have : s.size = s.data.toList.length := by simp
  rw [this, List.findIdx_eq_length]
  intro x hx
  obtain ⟨j, hj, rfl⟩ := List.getElem_of_mem hx
  have : isLn (s.data[j]'(by simpa using hj)).toNat = true := hz j (by simpa using hj)
  simpa [isL] using this
/-- whether a text ends so -/
def hasB (s e : ByteArray) : Bool := decide (e.size ≤ s.size) && ((s.extract (s.size - e.size) s.size).toList == e.toList)
/-- a byte, in small -/
def lown (x : Nat) : Nat := if 65 ≤ x ∧ x ≤ 90 then x + 32 else x
theorem lown_lt (c : UInt8) : lown c.toNat < 256 := by
  have := c.toNat_lt
  unfold lown
  split <;> omega
def low (c : UInt8) : UInt8 := UInt8.ofNat (lown c.toNat)
theorem low_nat (c : UInt8) : (low c).toNat = lown c.toNat := by
  have := lown_lt c
  simp [low]
  omega
/-- a text, in small -/
def smallL (l : List UInt8) : List UInt8 := l.map low
def smallS (s : ByteArray) : ByteArray := ⟨(smallL s.data.toList).toArray⟩
/-- bytes in a block: those ahead of k as l has them, the others as m -/
structure Half (B n k : Nat) (l m : Nat → Nat) (w : World) : Prop where
  cell : ∀ j, j < n → w.cell? ⟨B, j, none⟩ = some (.int .u8 ((if j < k then l j else m j : Nat) : Int))
  free : ∀ j, j < n → w.frozen? ⟨B, j, none⟩ = false
theorem Half.set {B n k : Nat} {l m : Nat → Nat} {w : World} (h : Half B n k l m w) (hk : k < n) (x : Int) (hx : x = (l k : Int)) : Half B n (k + 1) l m (w.setCell ⟨B, k, none⟩ (.int .u8 x)) := by
  subst hx
  refine ⟨fun j hj => ?_, fun j hj => by rw [World.frozen?_setCell]; exact h.free j hj⟩
  by_cases e : j = k
  · subst e
    rw [World.cell?_setCell_same _ _ _ (h.cell j hj)]
    simp
  · rw [World.cell?_setCell_other _ _ _ _ (fun q => e (by cases q; rfl)), h.cell j hj]
    have : (j < k + 1) = (j < k) := by simp; omega
    simp only [this]
theorem Half.keep {B n k : Nat} {l m : Nat → Nat} {w : World} (h : Half B n k l m w) (hk : k < n) (hx : l k = m k) : Half B n (k + 1) l m w := by
  refine ⟨fun j hj => ?_, h.free⟩
  rw [h.cell j hj]
  by_cases e : j = k
  · subst e; simp [hx]
  · have : (j < k + 1) = (j < k) := by simp; omega
    simp only [this]
def bt (s : ByteArray) (j : Nat) : Nat := if h : j < s.size then s[j].toNat else 0
theorem bt_at (s : ByteArray) (j : Nat) (h : j < s.size) : bt s j = s[j].toNat := by simp [bt, h]
theorem bt_lt (s : ByteArray) (j : Nat) : bt s j < 256 := by
  unfold bt
  split
  · exact UInt8.toNat_lt _
  · omega
theorem small_text (s : ByteArray) (j : Nat) (hj : j < (smallL s.data.toList).length) : ((smallL s.data.toList)[j]).toNat = lown (bt s j) := by
  have hj' : j < s.data.size := by simpa [smallL] using hj
  rw [bt_at s j hj']
  simp [smallL, low_nat]
  rfl
theorem small_len (s : ByteArray) : (smallL s.data.toList).length = s.size := by simp [smallL]
theorem smallS_size (s : ByteArray) : (smallS s).size = s.size := by
  show (smallL s.data.toList).toArray.size = _
  simp [small_len]
/-- the ends of words, and what stands in their place -/
def endsT : List (ByteArray × ByteArray) := [(⟨#[115, 115, 101, 115]⟩, ⟨#[115, 115]⟩), (⟨#[105, 101, 115]⟩, ⟨#[121]⟩), (⟨#[115, 115]⟩, ⟨#[115, 115]⟩), (⟨#[105, 110, 103]⟩, ⟨#[]⟩), (⟨#[101, 100]⟩, ⟨#[]⟩), (⟨#[101, 115]⟩, ⟨#[101]⟩), (⟨#[115]⟩, ⟨#[]⟩)]
/-- a word without its end -/
def stemFrom : List (ByteArray × ByteArray) → ByteArray → ByteArray
  | [], s => s
  | (e, r) :: t, s => if hasB s e then (if e.size + 3 ≤ s.size then s.extract 0 (s.size - e.size) ++ r else s) else stemFrom t s
def stemS (s : ByteArray) : ByteArray := stemFrom endsT s
theorem stem_no {e r s : ByteArray} {t : List (ByteArray × ByteArray)} (h : hasB s e = false) : stemFrom ((e, r) :: t) s = stemFrom t s := by simp [stemFrom, h]
theorem stem_short {e r s : ByteArray} {t : List (ByteArray × ByteArray)} (h : hasB s e = true) (h3 : ¬ e.size + 3 ≤ s.size) : stemFrom ((e, r) :: t) s = s := by simp only [stemFrom, h, if_true, if_neg h3]
theorem stem_yes {e r s : ByteArray} {t : List (ByteArray × ByteArray)} (h : hasB s e = true) (h3 : e.size + 3 ≤ s.size) : stemFrom ((e, r) :: t) s = s.extract 0 (s.size - e.size) ++ r := by simp only [stemFrom, h, if_true, if_pos h3]
/-- the longest runs of letters, with what was begun ahead -/
def runs : List UInt8 → List UInt8 → List (List UInt8)
  | cur, [] => if cur.isEmpty then [] else [cur]
  | cur, c :: l => if isL c then runs (cur ++ [c]) l else (if cur.isEmpty then [] else [cur]) ++ runs [] l
def wordOf (r : List UInt8) : ByteArray := stemS ⟨((smallL r).take 12).toArray⟩
def wordsL (l : List UInt8) : List ByteArray := (runs [] l).map wordOf
theorem lead_cons_yes (c : UInt8) (l : List UInt8) (h : isL c = true) : lead (c :: l) = lead l + 1 := by simp [lead, List.findIdx_cons, h]
theorem lead_cons_no (c : UInt8) (l : List UInt8) (h : isL c = false) : lead (c :: l) = 0 := by simp [lead, List.findIdx_cons, h]
theorem runs_lead (l : List UInt8) : ∀ cur, runs cur l = (if (cur ++ l.take (lead l)).isEmpty then [] else [cur ++ l.take (lead l)]) ++ runs [] (l.drop (lead l + 1)) := by
  induction l with
  | nil => intro cur; simp [runs]
  | cons c l ih =>
    intro cur
    cases h : isL c
    · rw [lead_cons_no c l h]
      simp [runs, h]
    · rw [lead_cons_yes c l h, runs, if_pos h, ih]
      simp
theorem words_step (l : List UInt8) : wordsL l = (if lead l = 0 then [] else [wordOf (l.take (lead l))]) ++ wordsL (l.drop (lead l + 1)) := by
  unfold wordsL
  rw [runs_lead l []]
  by_cases h : lead l = 0
  · simp [h]
  · have hl : l.take (lead l) ≠ [] := by
      intro e
      rcases List.take_eq_nil_iff.1 e with h' | h'
      · exact h h'
      · subst h'; exact h rfl
    simp [h, hl]
theorem lead_le (l : List UInt8) : lead l ≤ l.length := List.findIdx_le_length
theorem drop_min {α : Type} (l : List α) (n : Nat) : l.drop (min n l.length) = l.drop n := by
  by_cases h : n ≤ l.length
  · rw [Nat.min_eq_left h]
  · rw [Nat.min_eq_right (by omega), List.drop_length, List.drop_eq_nil_of_le (by omega)]
theorem ba_ext {a b : ByteArray} (h : a.data.toList = b.data.toList) : a = b := by
  cases a; cases b; simp at h; simp [h]
theorem ba_extract (s : ByteArray) (a b : Nat) : (s.extract a b).data.toList = (s.data.toList.take b).drop a := by
  rw [ByteArray.data_extract, Array.toList_extract, List.extract_eq_take_drop, List.drop_take]
theorem ba_len (s : ByteArray) : s.data.toList.length = s.size := by simp
/-- the word that the program makes of a run -/
theorem word_prog (t : ByteArray) (n : Nat) : stemS (smallS (t.extract 0 (min n 12))) = wordOf (t.data.toList.take n) := by
  unfold wordOf smallS
  rw [ba_extract]
  simp only [List.drop_zero, smallL, ← List.map_take, List.take_take, Nat.min_comm]
theorem stemFrom_le (t : List (ByteArray × ByteArray)) (s : ByteArray) (h : ∀ x ∈ t, x.2.size ≤ x.1.size) : (stemFrom t s).size ≤ s.size := by
  induction t with
  | nil => simp [stemFrom]
  | cons x t ih =>
    obtain ⟨e, r⟩ := x
    have hx := h (e, r) (by simp)
    simp only at hx
    unfold stemFrom
    split
    · split
      · simp only [ByteArray.size_append, ByteArray.size_extract]; omega
      · exact Nat.le_refl _
    · exact ih fun y hy => h y (by simp [hy])
theorem stem_le (s : ByteArray) : (stemS s).size ≤ s.size := stemFrom_le _ _ (by decide)
theorem wordOf_le (r : List UInt8) : (wordOf r).size ≤ 12 := by
  refine Nat.le_trans (stem_le _) ?_
  show ((smallL r).take 12).toArray.size ≤ 12
  simp
  omega
theorem runs_length (l : List UInt8) : ∀ cur, (runs cur l).length ≤ l.length + 1 := by
  induction l with
  | nil => intro cur; unfold runs; split <;> simp
  | cons c l ih =>
    intro cur
    unfold runs
    split
    · have := ih (cur ++ [c]); simp; omega
    · have := ih []
      simp
      split <;> simp <;> omega
theorem words_length (l : List UInt8) : (wordsL l).length ≤ l.length + 1 := by rw [wordsL, List.length_map]; exact runs_length l []
/-- texts, as cells -/
def sc (l : List ByteArray) : List Value := l.map Value.string
theorem sc_append (a b : List ByteArray) : sc (a ++ b) = sc a ++ sc b := by simp [sc]
/-- texts in a row -/
def RowS (w : World) (a : Option Addr) (len : Nat) (xs : List ByteArray) : Prop :=
  len = xs.length ∧ xs.length ≤ 1000000 ∧ (xs = [] ∨ ∃ b off, a = some ⟨b, off, none⟩ ∧ b < w.heap.size ∧ ∀ i (h : i < xs.length), w.cell? ⟨b, off + i, none⟩ = some (.string xs[i]))
theorem row_of_own {w : World} {B : Nat} {v : Value} {xs : List ByteArray} (h : w.ownsRow B 9 1 v xs.length (sc xs)) (hl : xs.length ≤ 1000000) : ∃ a cap, v = .slice a xs.length cap ∧ RowS w a xs.length xs ∧ (a = none → cap = 0) := by
  rcases h.2 with ⟨rfl, h0⟩ | ⟨g, cap, cur, rfl, _, hg, _⟩
  · have : xs = [] := List.length_eq_zero_iff.1 h0
    subst this
    exact ⟨none, 0, rfl, ⟨rfl, hl, .inl rfl⟩, fun _ => rfl⟩
  · refine ⟨some ⟨g, 0, none⟩, cap, rfl, ⟨rfl, hl, .inr ⟨g, 0, rfl, (Array.getElem?_eq_some_iff.1 hg).1, fun i hi => ?_⟩⟩, fun e => by simp at e⟩
    have k0 := h.cells (g := g) rfl i (.string xs[i]) (by simp [sc])
    rw [Go.WideShapes.add_plain] at k0
    exact k0
theorem RowS.below {w w' : World} {a : Option Addr} {len : Nat} {xs : List ByteArray} (h : RowS w a len xs) (hb : Below w.heap.size w w') : RowS w' a len xs := by
  obtain ⟨h1, h2, h3⟩ := h
  refine ⟨h1, h2, ?_⟩
  rcases h3 with h3 | ⟨b, off, e, hlt, hc⟩
  · exact .inl h3
  · exact .inr ⟨b, off, e, Nat.lt_of_lt_of_le hlt hb.size, fun i hi => by rw [hb.cell (p := ⟨b, _, none⟩) hlt]; exact hc i hi⟩
theorem own_eq {w : World} {B : Nat} {t : TypeId} {z : Nat} {v : Value} {n n' : Nat} {xs xs' : List Value} (h : w.ownsRow B t z v n xs) (hn : n = n') (hx : xs = xs') : w.ownsRow B t z v n' xs' := by rw [← hn, ← hx]; exact h
theorem own_below {w w' : World} {B : Nat} {t : TypeId} {z : Nat} {v : Value} {n : Nat} {xs : List Value} (h : w.ownsRow B t z v n xs) (hb : Below w.heap.size w w') : w'.ownsRow B t z v n xs := by
  refine ⟨h.1, ?_⟩
  rcases h.2 with h2 | ⟨g, cap, cur, h1, h2, h3, h4⟩
  · exact .inl h2
  · exact .inr ⟨g, cap, cur, h1, h2, by rw [hb.block g (Array.getElem?_eq_some_iff.1 h3).1]; exact h3, h4⟩
/-- how long a text is -/
def strLen : Value → Nat
  | .string t => t.size
  | _ => 0
theorem drop_at (s : ByteArray) (k : Nat) (h : k < s.size) : s.data.toList.drop k = s[k] :: s.data.toList.drop (k + 1) := by
  rw [List.drop_eq_getElem_cons (by simpa using h)]
  simp
  rfl

end Go.Proofs.YtjgdnainhoipgaaGreatDoor
namespace Go.Proofs.YtjgdnainhoipgaaGreatDoor
open Go.RowKit

/-- what is left, and what was wrong first -/
structure Rst where
  l : List ByteArray
  bad : Int
inductive Qy where
  | nil
  | node (k : Int) (ws : List ByteArray) (a b : Qy)

def Rst.fails (s : Rst) (e : Int) : Rst := if s.bad = 0 then ⟨s.l, e⟩ else s
def Rst.peek (s : Rst) : ByteArray := if s.bad = 0 then s.l.headD ⟨#[]⟩ else ⟨#[]⟩
def Rst.take (s : Rst) (x : ByteArray) : Bool × Rst := if s.peek = x then (true, ⟨s.l.tail, s.bad⟩) else (false, s)
def Rst.plain (s : Rst) (x : ByteArray) : ByteArray × Rst := match wordsL x.data.toList with
  | [y] => (y, s)
  | _ => (⟨#[]⟩, s.fails 3)
def alnum (c : UInt8) : Bool := decide (97 ≤ c.toNat) && decide (c.toNat ≤ 122) || decide (48 ≤ c.toNat) && decide (c.toNat ≤ 57)
def Rst.begins (s : Rst) (x : ByteArray) : List UInt8 → Rst
  | [] => s
  | c :: r => (if !alnum c || decide (12 < x.size) then s.fails 3 else s).begins x r
def zeroQ : Qy := .node 0 [] .nil .nil
def tOpen : ByteArray := ⟨#[40]⟩
def tShut : ByteArray := ⟨#[41]⟩
def tStar : ByteArray := ⟨#[42]⟩
def tAnd : ByteArray := ⟨#[65, 78, 68]⟩
def tOr : ByteArray := ⟨#[79, 82]⟩
def tNot : ByteArray := ⟨#[78, 79, 84]⟩
def tNear : ByteArray := ⟨#[78, 69, 65, 82]⟩
def tNone : ByteArray := ⟨#[]⟩
/-- no thing begins so -/
def noOne (p : ByteArray) : Bool := decide (p = tNone) || decide (p = tShut) || decide (p = tStar) || decide (p = tAnd) || decide (p = tOr) || decide (p = tNot) || decide (p = tNear)
def isSign (c : UInt8) : Bool := c == 40 || c == 41 || c == 42 || c == 34
def firstB (p : ByteArray) : UInt8 := p.data.toList.headD 0

/-- a word, or two that stand near -/
def nearM (p : ByteArray) (s : Rst) : Qy × Rst :=
  let x := s.plain p
  let n := x.2.take tNear
  if n.1 then
    let t := n.2.peek
    if t = tNone ∨ isSign (firstB t) then (.node 1 [x.1] .nil .nil, n.2.fails 3)
    else
      let y := (n.2.take t).2.plain t
      (.node 3 [x.1, y.1] .nil .nil, y.2)
  else (.node 1 [x.1] .nil .nil, n.2)
def oneM (any : Rst → Qy × Rst) (over : Bool) (s : Rst) : Qy × Rst :=
  let p := s.peek
  if over then (zeroQ, s.fails 4)
  else if p = tOpen then
    let r := any (s.take tOpen).2
    let c := r.2.take tShut
    (r.1, if c.1 then c.2 else c.2.fails 3)
  else if noOne p then (zeroQ, s.fails 3)
  else if firstB p = 34 then
    let ws := wordsL (p.data.toList.drop 1)
    (.node 1 ws .nil .nil, if ws = [] then (s.take p).2.fails 3 else (s.take p).2)
  else
    let st := (s.take p).2.take tStar
    if st.1 then (.node 2 [smallS p] .nil .nil, st.2.begins p (smallL p.data.toList))
    else nearM p st.2

/-- how much may still be read -/
def Rst.nu (s : Rst) : Nat := if s.bad = 0 then s.l.length else 0
def goes (p : ByteArray) : Bool := !decide (p = tNone) && !decide (p = tShut) && !decide (p = tOr)
def allL (one : Rst → Qy × Rst) : Nat → Qy → Rst → Qy × Rst
  | 0, q, s => (q, s)
  | f + 1, q, s =>
    if goes s.peek then
      let n := s.take tNot
      let r := one (if n.1 then n.2 else (n.2.take tAnd).2)
      allL one f (.node (if n.1 then 6 else 4) [] q r.1) r.2
    else (q, s)
def allM (one : Rst → Qy × Rst) (s : Rst) : Qy × Rst := let r := one s; allL one r.2.nu r.1 r.2
def anyL (all : Rst → Qy × Rst) : Nat → Qy → Rst → Qy × Rst
  | 0, q, s => (q, s)
  | f + 1, q, s =>
    let o := s.take tOr
    if o.1 then
      let r := all o.2
      anyL all f (.node 5 [] q r.1) r.2
    else (q, o.2)
def anyM (one : Rst → Qy × Rst) (s : Rst) : Qy × Rst := let r := allM one s; anyL (allM one) r.2.nu r.1 r.2
/-- with so many parentheses left -/
def oneAt : Nat → Rst → Qy × Rst
  | 0 => oneM (fun s => (.nil, s)) true
  | m + 1 => oneM (anyM (oneAt m)) false
def askM (l : List ByteArray) : Qy × Int :=
  let r := anyM (oneAt 13) ⟨l, 0⟩
  let s := if r.2.l = [] then r.2 else r.2.fails 3
  (if s.bad = 0 then r.1 else .nil, s.bad)

theorem plain_one {s : Rst} {x y : ByteArray} (h : wordsL x.data.toList = [y]) : s.plain x = (y, s) := by rw [Rst.plain, h]
theorem plain_other {s : Rst} {x : ByteArray} {ws : List ByteArray} (h : wordsL x.data.toList = ws) (hl : ws.length ≠ 1) : s.plain x = (⟨#[]⟩, s.fails 3) := by
  rw [Rst.plain, h]
  match ws, hl with
  | [], _ => rfl
  | [_], h => exact absurd rfl h
  | _ :: _ :: _, _ => rfl
theorem nu_fails (s : Rst) (e : Int) (he : e ≠ 0) : (s.fails e).nu = 0 := by
  unfold Rst.fails Rst.nu
  by_cases h : s.bad = 0 <;> simp [h, he]
theorem nu_take (s : Rst) (x : ByteArray) : (s.take x).2.nu ≤ s.nu := by
  unfold Rst.take Rst.nu
  split <;> simp <;> split <;> simp
theorem peek_some {s : Rst} (h : s.peek ≠ tNone) : s.bad = 0 ∧ ∃ r, s.l = s.peek :: r := by
  unfold Rst.peek at *
  split at h
  · rename_i hb
    rw [if_pos hb]
    cases hl : s.l with
    | nil => rw [hl] at h; exact absurd rfl h
    | cons x r => exact ⟨hb, r, by simp⟩
  · exact absurd rfl h
theorem nu_take_lt {s : Rst} {x : ByteArray} (h : s.peek = x) (hx : x ≠ tNone) : (s.take x).2.nu < s.nu := by
  obtain ⟨hb, r, hl⟩ := peek_some (s := s) (by rw [h]; exact hx)
  unfold Rst.take Rst.nu
  rw [if_pos h]
  simp [hb, hl]
theorem take_yes {s : Rst} {x : ByteArray} (h : s.peek = x) : s.take x = (true, ⟨s.l.tail, s.bad⟩) := by rw [Rst.take, if_pos h]
theorem take_no {s : Rst} {x : ByteArray} (h : s.peek ≠ x) : s.take x = (false, s) := by rw [Rst.take, if_neg h]
theorem nu_plain (s : Rst) (x : ByteArray) : (s.plain x).2.nu ≤ s.nu := by
  unfold Rst.plain
  split
  · exact Nat.le_refl _
  · simp [nu_fails]
theorem nu_begins (x : ByteArray) (l : List UInt8) : ∀ s : Rst, (s.begins x l).nu ≤ s.nu := by
  induction l with
  | nil => intro s; exact Nat.le_refl _
  | cons c r ih =>
    intro s
    unfold Rst.begins
    refine Nat.le_trans (ih _) ?_
    split
    · simp [nu_fails]
    · exact Nat.le_refl _
theorem nu_near (p : ByteArray) (s : Rst) : (nearM p s).2.nu ≤ s.nu := by
  have h1 := nu_plain s p
  have h2 := nu_take (s.plain p).2 tNear
  unfold nearM
  simp only
  split
  · split
    · simp [nu_fails]
    · have h3 := nu_take ((s.plain p).2.take tNear).2 ((s.plain p).2.take tNear).2.peek
      have h4 := nu_plain ((((s.plain p).2.take tNear).2.take ((s.plain p).2.take tNear).2.peek).2) ((s.plain p).2.take tNear).2.peek
      simp only
      omega
  · simp only
    omega
theorem nu_one {any : Rst → Qy × Rst} (ha : ∀ s, (any s).2.nu ≤ s.nu) (over : Bool) (s : Rst) : (oneM any over s).2.nu ≤ s.nu ∧ (s.peek ≠ tNone → (oneM any over s).2.nu < s.nu) := by
  have key : s.peek ≠ tNone → 0 < s.nu := fun h => by
    obtain ⟨hb, r, hl⟩ := peek_some h
    unfold Rst.nu; rw [if_pos hb, hl]; simp
  unfold oneM
  simp only
  split
  · rw [nu_fails _ _ (by decide)]; exact ⟨Nat.zero_le _, key⟩
  · split
    · rename_i hp
      have h1 := nu_take_lt hp (by decide)
      have h2 := ha (s.take tOpen).2
      have h3 := nu_take (any (s.take tOpen).2).2 tShut
      split
      · simp only; exact ⟨by omega, fun _ => by omega⟩
      · simp only; rw [nu_fails _ _ (by decide)]; exact ⟨Nat.zero_le _, key⟩
    · split
      · rw [nu_fails _ _ (by decide)]; exact ⟨Nat.zero_le _, key⟩
      · rename_i hp hno
        have hne : s.peek ≠ tNone := fun e => hno (by rw [e]; decide)
        have h1 := nu_take_lt (s := s) rfl hne
        split
        · split
          · rw [nu_fails _ _ (by decide)]; exact ⟨Nat.zero_le _, key⟩
          · simp only
            exact ⟨by omega, fun _ => h1⟩
        · have h2 := nu_take (s.take s.peek).2 tStar
          split
          · have h3 := nu_begins s.peek (smallL s.peek.data.toList) ((s.take s.peek).2.take tStar).2
            simp only
            exact ⟨by omega, fun _ => by omega⟩
          · have h3 := nu_near s.peek ((s.take s.peek).2.take tStar).2
            exact ⟨by omega, fun _ => by omega⟩
theorem nu_allL {one : Rst → Qy × Rst} (ha : ∀ s, (one s).2.nu ≤ s.nu) : ∀ f q s, (allL one f q s).2.nu ≤ s.nu := by
  intro f
  induction f with
  | zero => intro q s; exact Nat.le_refl _
  | succ f ih =>
    intro q s
    unfold allL
    split
    · have h1 := nu_take s tNot
      have h2 := nu_take (s.take tNot).2 tAnd
      refine Nat.le_trans (ih _ _) (Nat.le_trans (ha _) ?_)
      split <;> omega
    · exact Nat.le_refl _
theorem nu_allM {one : Rst → Qy × Rst} (ha : ∀ s, (one s).2.nu ≤ s.nu) (s : Rst) : (allM one s).2.nu ≤ (one s).2.nu := nu_allL ha _ _ _
theorem nu_anyL {all : Rst → Qy × Rst} (ha : ∀ s, (all s).2.nu ≤ s.nu) : ∀ f q s, (anyL all f q s).2.nu ≤ s.nu := by
  intro f
  induction f with
  | zero => intro q s; exact Nat.le_refl _
  | succ f ih =>
    intro q s
    have h1 := nu_take s tOr
    unfold anyL
    simp only
    split
    · exact Nat.le_trans (ih _ _) (Nat.le_trans (ha _) h1)
    · exact h1
theorem nu_anyM {one : Rst → Qy × Rst} (ha : ∀ s, (one s).2.nu ≤ s.nu) (s : Rst) : (anyM one s).2.nu ≤ s.nu :=
  Nat.le_trans (nu_anyL (fun s => Nat.le_trans (nu_allM ha s) (ha s)) _ _ _) (Nat.le_trans (nu_allM ha s) (ha s))
theorem nu_oneAt (m : Nat) : ∀ s, (oneAt m s).2.nu ≤ s.nu ∧ (s.peek ≠ tNone → (oneAt m s).2.nu < s.nu) := by
  induction m with
  | zero => intro s; exact nu_one (fun s => Nat.le_refl _) true s
  | succ m ih => intro s; exact nu_one (nu_anyM (fun s => (ih s).1)) false s
end Go.Proofs.YtjgdnainhoipgaaGreatDoor
namespace Go.Proofs.YtjgdnainhoipgaaGreatDoor
open Go.RowKit

/-- hits, with one place more -/
def cntS (l : List Ht) (r : Int) : List Ht := match l.getLast? with
  | some x => if x.r = r then l.dropLast ++ [⟨r, x.o + 1⟩] else l ++ [⟨r, 1⟩]
  | none => [⟨r, 1⟩]
theorem cntS_nil (r : Int) : cntS [] r = [⟨r, 1⟩] := rfl
theorem cntS_yes (l : List Ht) (x : Ht) : cntS (l ++ [x]) x.r = l ++ [⟨x.r, x.o + 1⟩] := by simp [cntS]
theorem cntS_no {l : List Ht} {x : Ht} {r : Int} (h : x.r ≠ r) : cntS (l ++ [x]) r = l ++ [x] ++ [⟨r, 1⟩] := by simp [cntS, h]
def cntF (l : List Ht) (ps : List Pl) : List Ht := ps.foldl (fun l p => cntS l p.r) l
def cntL2 (ps : List Pl) : List Ht := cntF [] ps
theorem cntF_cons (l : List Ht) (p : Pl) (ps : List Pl) : cntF l (p :: ps) = cntF (cntS l p.r) ps := rfl
/-- rows that rise, each of them there, no more often, nor more of them, than M -/
structure Hk (M : Nat) (l : List Ht) : Prop where
  ris : RisH l
  pos : PosH l
  le : ∀ x ∈ l, x.o ≤ (M : Int)
  len : l.length ≤ M
theorem Hk.nil (M : Nat) : Hk M [] := ⟨List.Pairwise.nil, fun _ h => (by cases h), fun _ h => (by cases h), Nat.zero_le _⟩
theorem Hk.mono {M N : Nat} {l : List Ht} (h : Hk M l) (hm : M ≤ N) : Hk N l := ⟨h.ris, h.pos, fun x hx => by have := h.le x hx; omega, Nat.le_trans h.len hm⟩
theorem tog_le (k : Int) (M N : Int) (hM : 0 ≤ M) (hN : 0 ≤ N) (a b : List Ht) : (∀ x ∈ a, x.o ≤ M) → (∀ x ∈ b, x.o ≤ N) → ∀ x ∈ togL k a b, x.o ≤ M + N := by
  have one : ∀ {c : Bool} {z : Ht} {l : List Ht}, z.o ≤ M + N → (∀ x ∈ l, x.o ≤ M + N) → ∀ x ∈ (if c then [z] else []) ++ l, x.o ≤ M + N := fun {c z l} hz hl x hx => by
    rcases List.mem_append.1 hx with hx | hx
    · cases c
      · simp at hx
      · rw [List.mem_singleton.1 hx]; exact hz
    · exact hl x hx
  induction a, b using togL.induct with
  | case1 => intro _ _ x hx; simp [togL] at hx
  | case2 x a ih => intro ha hb; rw [togL]; exact one (by have := ha x (by simp); omega) (ih (fun y hy => ha y (by simp [hy])) hb)
  | case3 y b ih => intro ha hb; rw [togL]; exact one (by have := hb y (by simp); show y.o ≤ _; omega) (ih ha (fun z hz => hb z (by simp [hz])))
  | case4 x a y b h ih => intro ha hb; rw [togL, if_pos h]; exact one (by have := ha x (by simp); omega) (ih (fun y hy => ha y (by simp [hy])) hb)
  | case5 x a y b h h2 ih => intro ha hb; rw [togL, if_neg h, if_pos h2]; exact one (by have := hb y (by simp); show y.o ≤ _; omega) (ih ha (fun z hz => hb z (by simp [hz])))
  | case6 x a y b h h2 ih => intro ha hb; rw [togL, if_neg h, if_neg h2]; exact one (by have := ha x (by simp); have := hb y (by simp); show x.o + y.o ≤ _; omega) (ih (fun y hy => ha y (by simp [hy])) (fun z hz => hb z (by simp [hz])))
theorem tog_len (k : Int) (a b : List Ht) : (togL k a b).length ≤ a.length + b.length := by
  have one : ∀ (c : Bool) (z : Ht) (l : List Ht), ((if c then [z] else []) ++ l).length ≤ l.length + 1 := fun c z l => by cases c <;> simp
  induction a, b using togL.induct with
  | case1 => simp [togL]
  | case2 x a ih => rw [togL]; have := one (staysB k true false) x (togL k a []); simp only [List.length_cons, List.length_nil] at *; omega
  | case3 y b ih => rw [togL]; have := one (staysB k false true) ⟨y.r, y.o⟩ (togL k [] b); simp only [List.length_cons, List.length_nil] at *; omega
  | case4 x a y b h ih => rw [togL, if_pos h]; have := one (staysB k true false) x (togL k a (y :: b)); simp only [List.length_cons] at *; omega
  | case5 x a y b h h2 ih => rw [togL, if_neg h, if_pos h2]; have := one (staysB k false true) ⟨y.r, y.o⟩ (togL k (x :: a) b); simp only [List.length_cons] at *; omega
  | case6 x a y b h h2 ih => rw [togL, if_neg h, if_neg h2]; have := one (staysB k true true) ⟨y.r, x.o + y.o⟩ (togL k a b); simp only [List.length_cons] at *; omega
theorem Hk.tog {M N : Nat} {a b : List Ht} (k : Int) (ha : Hk M a) (hb : Hk N b) : Hk (M + N) (togL k a b) :=
  ⟨tog_ris k a b ha.ris hb.ris, tog_pos k a b ha.pos hb.pos, fun x hx => by have := tog_le k M N (by omega) (by omega) a b ha.le hb.le x hx; omega, by have := tog_len k a b; have := ha.len; have := hb.len; omega⟩
/-- what is counted -/
structure CntOf (ps : List Pl) (l : List Ht) : Prop where
  hk : Hk ps.length l
  mem : ∀ x ∈ l, ∃ p ∈ ps, p.r = x.r
  all : ∀ p ∈ ps, ∃ x ∈ l, x.r = p.r
theorem cntS_of {ps : List Pl} {l : List Ht} {p : Pl} (h : CntOf ps l) (hp : ∀ q ∈ ps, q.r ≤ p.r) : CntOf (ps ++ [p]) (cntS l p.r) := by
  rcases List.eq_nil_or_concat l with rfl | ⟨l', x, rfl⟩
  · have e : ps = [] := by
      cases ps with
      | nil => rfl
      | cons q ps => obtain ⟨x, hx, _⟩ := h.all q (by simp); cases hx
    subst e
    rw [cntS_nil]
    exact ⟨⟨List.pairwise_singleton _ _, fun x hx => by rw [List.mem_singleton.1 hx]; exact Int.one_pos, fun x hx => by rw [List.mem_singleton.1 hx]; exact Int.le_refl _, Nat.le_refl _⟩, fun x hx => ⟨p, by simp, by rw [List.mem_singleton.1 hx]⟩, fun q hq => ⟨⟨p.r, 1⟩, List.mem_singleton.2 rfl, by have e : q = p := (by simpa using hq); rw [e]⟩⟩
  · rw [List.concat_eq_append] at *
    obtain ⟨⟨h1, h2, h3, h4⟩, h5, h6⟩ := h
    unfold RisH at h1
    rw [List.pairwise_append] at h1
    obtain ⟨r1, _, r3⟩ := h1
    have hlx : ∀ y ∈ l', y.r < x.r := fun y hy => r3 y hy x (by simp)
    obtain ⟨qx, hqx, eqx⟩ := h5 x (by simp)
    have hxp : x.r ≤ p.r := by have := hp qx hqx; omega
    by_cases e : x.r = p.r
    · rw [← e, cntS_yes]
      refine ⟨⟨?_, fun y hy => ?_, fun y hy => ?_, by simp at h4 ⊢; omega⟩, fun y hy => ?_, fun q hq => ?_⟩
      · exact List.pairwise_append.2 ⟨r1, List.pairwise_singleton _ _, fun y hy z hz => by rw [List.mem_singleton.1 hz]; exact hlx y hy⟩
      · rcases List.mem_append.1 hy with hy | hy
        · exact h2 y (by simp [hy])
        · rw [List.mem_singleton.1 hy]; have := h2 x (by simp); show 0 < x.o + 1; omega
      · have hl : ((ps ++ [p]).length : Int) = ps.length + 1 := by simp
        rcases List.mem_append.1 hy with hy | hy
        · have := h3 y (by simp [hy]); omega
        · rw [List.mem_singleton.1 hy]; have := h3 x (by simp); show x.o + 1 ≤ _; omega
      · rcases List.mem_append.1 hy with hy | hy
        · obtain ⟨q, hq, e⟩ := h5 y (by simp [hy]); exact ⟨q, by simp [hq], e⟩
        · rw [List.mem_singleton.1 hy]; exact ⟨p, by simp, e.symm⟩
      · rcases List.mem_append.1 hq with hq | hq
        · obtain ⟨y, hy, e⟩ := h6 q hq
          rcases List.mem_append.1 hy with hy | hy
          · exact ⟨y, by simp [hy], e⟩
          · rw [List.mem_singleton.1 hy] at e; exact ⟨⟨x.r, x.o + 1⟩, by simp, e⟩
        · rw [List.mem_singleton.1 hq]; exact ⟨⟨x.r, x.o + 1⟩, by simp, e⟩
    · rw [cntS_no e]
      refine ⟨⟨?_, fun y hy => ?_, fun y hy => ?_, by simp at h4 ⊢; omega⟩, fun y hy => ?_, fun q hq => ?_⟩
      · refine List.pairwise_append.2 ⟨List.pairwise_append.2 ⟨r1, List.pairwise_singleton _ _, r3⟩, List.pairwise_singleton _ _, fun y hy z hz => ?_⟩
        rw [List.mem_singleton.1 hz]
        show y.r < p.r
        rcases List.mem_append.1 hy with hy | hy
        · have := hlx y hy; omega
        · rw [List.mem_singleton.1 hy]; omega
      · rcases List.mem_append.1 hy with hy | hy
        · exact h2 y hy
        · rw [List.mem_singleton.1 hy]; exact Int.one_pos
      · have hl : ((ps ++ [p]).length : Int) = ps.length + 1 := by simp
        rcases List.mem_append.1 hy with hy | hy
        · have := h3 y hy; omega
        · rw [List.mem_singleton.1 hy]; show (1 : Int) ≤ _; omega
      · rcases List.mem_append.1 hy with hy | hy
        · obtain ⟨q, hq, e⟩ := h5 y hy; exact ⟨q, by simp [hq], e⟩
        · rw [List.mem_singleton.1 hy]; exact ⟨p, by simp, rfl⟩
      · rcases List.mem_append.1 hq with hq | hq
        · obtain ⟨y, hy, e⟩ := h6 q hq; exact ⟨y, List.mem_append_left _ hy, e⟩
        · rw [List.mem_singleton.1 hq]; exact ⟨⟨p.r, 1⟩, by simp, rfl⟩
theorem cntF_of (qs : List Pl) : ∀ {ps : List Pl} {l : List Ht}, CntOf ps l → (ps ++ qs).Pairwise (fun a b => a.r ≤ b.r) → CntOf (ps ++ qs) (cntF l qs) := by
  induction qs with
  | nil => intro ps l h _; rw [List.append_nil]; exact h
  | cons p qs ih =>
    intro ps l h hs
    have hp : ∀ q ∈ ps, q.r ≤ p.r := fun q hq => (List.pairwise_append.1 hs).2.2 q hq p (by simp)
    have := ih (cntS_of h hp) (by rw [List.append_assoc]; exact hs)
    rw [List.append_assoc] at this
    exact this
theorem ltp_le {l : List Pl} (h : l.Pairwise LtP) : l.Pairwise (fun a b => a.r ≤ b.r) := h.imp (fun {a b} h => by unfold LtP at h; omega)
theorem cnt_of {ps : List Pl} (h : ps.Pairwise LtP) : CntOf ps (cntL2 ps) := by
  have := cntF_of ps (ps := []) (l := []) ⟨Hk.nil _, fun _ h => (by cases h), fun _ h => (by cases h)⟩ (ltp_le h)
  rw [List.nil_append] at this
  exact this
/-- words, one right behind the other -/
def standF (pls : ByteArray → List Pl) : List Pl → List ByteArray → List Pl
  | s, [] => s
  | s, w :: ws => standF pls (keepL stpF s (pls w)) ws
def standL (pls : ByteArray → List Pl) : List ByteArray → List Pl
  | [] => []
  | w :: ws => standF pls (pls w) ws
theorem keep_nil (ys : List Pl) : keepL stpF [] ys = [] := by
  induction ys with
  | nil => rfl
  | cons y ys ih =>
    show (if headB y (dropF y []) then _ else keepL stpF (dropF y []) ys) = []
    exact ih
theorem stand_nil (pls : ByteArray → List Pl) (ws : List ByteArray) : standF pls [] ws = [] := by
  induction ws with
  | nil => rfl
  | cons w ws ih => rw [standF, keep_nil]; exact ih
theorem stand_ris (pls : ByteArray → List Pl) (hp : ∀ w, (pls w).Pairwise LtP) (ws : List ByteArray) : ∀ s : List Pl, s.Pairwise LtP → (standF pls s ws).Pairwise LtP := by
  induction ws with
  | nil => intro s h; exact h
  | cons w ws ih => intro s h; exact ih _ (foll_list h (hp w)).1
theorem stand_len (pls : ByteArray → List Pl) (M : Nat) (hp : ∀ w, (pls w).length ≤ M) (ws : List ByteArray) : ∀ s : List Pl, s.length ≤ M → (standF pls s ws).length ≤ M := by
  induction ws with
  | nil => intro s h; exact h
  | cons w ws ih => intro s h; exact ih _ (Nat.le_trans (keep_le stpF (pls w) s) (hp w))
theorem standL_ris (pls : ByteArray → List Pl) (hp : ∀ w, (pls w).Pairwise LtP) (ws : List ByteArray) : (standL pls ws).Pairwise LtP := by
  cases ws with
  | nil => exact List.Pairwise.nil
  | cons w ws => exact stand_ris pls hp ws _ (hp w)
theorem standL_len (pls : ByteArray → List Pl) (M : Nat) (hp : ∀ w, (pls w).length ≤ M) (ws : List ByteArray) : (standL pls ws).length ≤ M := by
  cases ws with
  | nil => exact Nat.zero_le _
  | cons w ws => exact stand_len pls M hp ws _ (hp w)
/-- words that begin so, together -/
def begF (pls : ByteArray → List Pl) (l : List Ht) (ws : List ByteArray) : List Ht := ws.foldl (fun l w => togL 5 l (cntL2 (pls w))) l
theorem begF_cons (pls : ByteArray → List Pl) (l : List Ht) (w : ByteArray) (ws : List ByteArray) : begF pls l (w :: ws) = begF pls (togL 5 l (cntL2 (pls w))) ws := rfl
theorem begF_hk (pls : ByteArray → List Pl) (K : Nat) (hp : ∀ w, (pls w).Pairwise LtP) (hl : ∀ w, (pls w).length ≤ K) (ws : List ByteArray) : ∀ (M : Nat) (l : List Ht), Hk M l → Hk (M + K * ws.length) (begF pls l ws) := by
  induction ws with
  | nil => intro M l h; exact h.mono (by simp)
  | cons w ws ih =>
    intro M l h
    have := ih _ _ (Hk.tog 5 h ((cnt_of (hp w)).hk.mono (hl w)))
    rw [begF_cons]
    exact this.mono (by rw [List.length_cons, Nat.mul_add]; omega)
/-- two words, near -/
def nearL2 (pls : ByteArray → List Pl) (u v : ByteArray) : List Ht := (nearFrom 3 [] (pls u) (pls v)).map (fun r => ⟨r, 1⟩)
theorem near_le (far : Int) (n : Nat) : ∀ (acc : List Int) (a b : List Pl), a.length + b.length ≤ n → (nearFrom far acc a b).length ≤ acc.length + a.length + b.length := by
  induction n with
  | zero =>
    intro acc a b h
    have ha : a = [] := List.length_eq_zero_iff.1 (by omega)
    subst ha
    rw [nearFrom]
    omega
  | succ n ih =>
    intro acc a b h
    cases a with
    | nil => rw [nearFrom]; omega
    | cons x a =>
      cases b with
      | nil => rw [near_nil_right]; omega
      | cons y b =>
        simp only [List.length_cons] at h
        rw [nearFrom]
        have hacc : (if x.r = y.r ∧ max (x.a - y.a) (y.a - x.a) ≤ far then addRow acc x.r else acc).length ≤ acc.length + 1 := by
          split
          · exact addRow_le acc x.r
          · omega
        generalize (if x.r = y.r ∧ max (x.a - y.a) (y.a - x.a) ≤ far then addRow acc x.r else acc) = acc2 at hacc
        split
        · have := ih acc2 a (y :: b) (by simp only [List.length_cons]; omega)
          simp only [List.length_cons] at *
          omega
        · have := ih acc2 (x :: a) b (by simp only [List.length_cons]; omega)
          simp only [List.length_cons] at *
          omega
def aloneL (pls : ByteArray → List Pl) (beg : ByteArray → List ByteArray) (k : Int) (ws : List ByteArray) : List Ht :=
  if k = 1 then cntL2 (standL pls ws)
  else if k = 2 then (match ws with
    | [s] => begF pls [] (beg s)
    | _ => [])
  else if k = 3 then (match ws with
    | [u, v] => nearL2 pls u v
    | _ => [])
  else []
def isTog (k : Int) : Bool := decide (k = 4) || decide (k = 5) || decide (k = 6)
/-- what a query finds -/
def evalQ (pls : ByteArray → List Pl) (beg : ByteArray → List ByteArray) : Qy → List Ht
  | .nil => []
  | .node k ws a b => if isTog k then togL k (evalQ pls beg a) (evalQ pls beg b) else aloneL pls beg k ws
/-- how many parts a query has -/
def lvs : Qy → Nat
  | .nil => 0
  | .node k _ a b => if isTog k then lvs a + lvs b else if k = 0 then 0 else 1
/-- what a finder tells of a name -/
structure FOk (pls : ByteArray → List Pl) (beg : ByteArray → List ByteArray) : Prop where
  right : ∀ w, rightL (pls w) = true
  len : ∀ w, (pls w).length ≤ 500
  bl : ∀ s, (beg s).length ≤ 500
section
variable {pls : ByteArray → List Pl} {beg : ByteArray → List ByteArray}
theorem FOk.ris (h : FOk pls beg) (w : ByteArray) : (pls w).Pairwise LtP := ((right_iff _).1 (h.right w)).2
theorem FOk.ok (h : FOk pls beg) (w : ByteArray) : ∀ p ∈ pls w, OkP p := ((right_iff _).1 (h.right w)).1
theorem alone_hk (h : FOk pls beg) (k : Int) (ws : List ByteArray) : Hk 250000 (aloneL pls beg k ws) := by
  unfold aloneL
  split
  · exact (cnt_of (standL_ris pls h.ris ws)).hk.mono (Nat.le_trans (standL_len pls 500 h.len ws) (by decide))
  · split
    · split
      · rename_i s
        refine (begF_hk pls 500 h.ris h.len (beg s) 0 [] (Hk.nil _)).mono ?_
        have := h.bl s
        omega
      · exact Hk.nil _
    · split
      · split
        · rename_i u v
          obtain ⟨n1, n2⟩ := near_list 3 (h.ris u) (h.ris v)
          have hl := near_le 3 _ [] (pls u) (pls v) (Nat.le_refl _)
          have := h.len u
          have := h.len v
          unfold nearL2
          refine ⟨?_, fun x hx => ?_, fun x hx => ?_, by rw [List.length_map]; simp only [List.length_nil] at hl; omega⟩
          · unfold RisH; rw [List.pairwise_map]; exact n1.imp (fun h => h)
          · obtain ⟨r, _, rfl⟩ := List.mem_map.1 hx; exact Int.one_pos
          · obtain ⟨r, _, rfl⟩ := List.mem_map.1 hx; show (1 : Int) ≤ _; omega
        · exact Hk.nil _
      · exact Hk.nil _
theorem eval_hk (h : FOk pls beg) (q : Qy) : Hk (250000 * lvs q) (evalQ pls beg q) := by
  induction q with
  | nil => exact Hk.nil _
  | node k ws a b ha hb =>
    unfold evalQ lvs
    split
    · exact (Hk.tog k ha hb).mono (by rw [Nat.mul_add]; omega)
    · split
      · rename_i h0
        subst h0
        exact Hk.nil _
      · exact (alone_hk h k ws).mono (by omega)
end
end Go.Proofs.YtjgdnainhoipgaaGreatDoor
namespace Go.Proofs.YtjgdnainhoipgaaGreatDoor
open Go.RowKit

set_option maxHeartbeats 2000000 in
theorem letter_any (x : Nat) (w : World) : Calls Tryz.prog 55 #[.int .u8 (x : Int)] w fun e w' => e = .returned (.bool (isLn x)) ∧ w' = w := by
  obtain ⟨a1, e1⟩ : ∃ b, decide ((65 : Int) ≤ (x : Int)) = b := ⟨_, rfl⟩
  obtain ⟨a2, e2⟩ : ∃ b, decide ((x : Int) ≤ 90) = b := ⟨_, rfl⟩
  obtain ⟨a3, e3⟩ : ∃ b, decide ((97 : Int) ≤ (x : Int)) = b := ⟨_, rfl⟩
  obtain ⟨a4, e4⟩ : ∃ b, decide ((x : Int) ≤ 122) = b := ⟨_, rfl⟩
  obtain ⟨a5, e5⟩ : ∃ b, decide ((48 : Int) ≤ (x : Int)) = b := ⟨_, rfl⟩
  obtain ⟨a6, e6⟩ : ∃ b, decide ((x : Int) ≤ 57) = b := ⟨_, rfl⟩
  have HR : Hid (isLn x = (a1 && a2 || a3 && a4 || a5 && a6 || decide ((127 : Int) < (x : Int)))) := by
    show _ = _
    rw [← e1, ← e2, ← e3, ← e4, ← e5, ← e6, Bool.eq_iff_iff]
    simp [isLn]
    omega
  cases a1 <;> cases a2 <;> cases a3 <;> cases a4 <;> cases a5 <;> cases a6 <;> first
    | (exfalso; simp only [decide_eq_true_eq, decide_eq_false_iff_not] at e1 e2 e3 e4 e5 e6; clear HR; omega)
    | (go_enter Tryz.func55, Tryz.ntmps55
       go_wp2
       go_ret
       exact ⟨ret_bool (by rw [HR.out]; simp), rfl⟩)
theorem lead_at (s : ByteArray) (k : Nat) (hk : k < s.size) (h0 : isLn s[k].toNat = false) (hz : ∀ j (_ : j < k) (h2 : j < s.size), isLn s[j].toNat = true) : lead s.data.toList = k := by
  unfold lead
  rw [List.findIdx_eq (by simpa using hk)]
  refine ⟨?_, fun j hj => ?_⟩
  · have : isLn (s.data[k]'hk).toNat = false := h0
    simpa [isL] using this
  · have : isLn (s.data[j]'(by have : s.data.size = s.size := rfl; omega)).toNat = true := hz j hj (by omega)
    simpa [isL] using this
set_option maxHeartbeats 400000 in
theorem letters_any (s : ByteArray) (w : World) (hs : s.size ≤ 1000000) :
    Calls Tryz.prog 28 #[.string s] w fun e w' => e = .returned (.int .i64 (lead s.data.toList)) ∧ w' = w := by
  go_enter Tryz.func28, Tryz.ntmps28
  go_wp2
  go_loop [6] (fun i => ∃ k : Nat, k ≤ s.size ∧ i = .int .i64 k ∧ Hid (∀ j (_ : j < k) (h2 : j < s.size), isLn s[j].toNat = true)) (fun i => s.size - (intOf i).toNat)
  case atStart => exact ⟨0, Nat.zero_le _, rfl, fun j h => absurd h (Nat.not_lt_zero _)⟩
  case round =>
    obtain ⟨k, hk, rfl, hz⟩ := hrel
    by_cases hlt : k < s.size
    · cases hb : isLn s[k].toNat
      · go_wp2_with (go_at_call 55; refine (letter_any _ _).mono ?_; rintro e w' ⟨rfl, rfl⟩)
        go_ret
        exact ⟨ret_int (by rw [lead_at s k hlt hb hz.out]), rfl⟩
      · go_wp2_with (go_at_call 55; refine (letter_any _ _).mono ?_; rintro e w' ⟨rfl, rfl⟩)
        go_round
        case rel =>
          refine ⟨k + 1, by omega, by go_num, ?_⟩
          intro j hj h2
          by_cases e : j = k
          · subst e; exact hb
          · exact hz.out j (by omega) h2
        case measure => simp [intOf]; omega
    · go_wp2
      go_ret
      exact ⟨ret_int (by rw [lead_none s fun j h2 => hz.out j (by omega) h2]), rfl⟩
set_option maxHeartbeats 400000 in
theorem suffix38 (s e : ByteArray) (w : World) (hs : s.size ≤ 1000000) (he : e.size ≤ 1000000) :
    Calls Tryz.prog 84 #[.string s, .string e] w fun x w' => x = .returned (.bool (hasB s e)) ∧ w' = w := by
  by_cases h : e.size ≤ s.size
  · have hd : decide ((e.size : Int) ≤ (s.size : Int)) = true := by simpa using h
    have HR : Hid (hasB s e = ((s.extract (s.size - e.size) s.size).toList == e.toList)) := by show _ = _; simp [hasB, h]
    go_enter Tryz.func84, Tryz.ntmps84
    go_wp2
    go_ret
    refine ⟨ret_bool ?_, rfl⟩
    rw [HR.out]
  · have hd : decide ((e.size : Int) ≤ (s.size : Int)) = false := by simp; omega
    have HR : Hid (hasB s e = false) := by show _ = _; simp [hasB, h]
    go_enter Tryz.func84, Tryz.ntmps84
    go_wp2
    go_ret
    exact ⟨ret_bool (by rw [HR.out]), rfl⟩
theorem suffix27 (s e : ByteArray) (w : World) (hs : s.size ≤ 1000000) (he : e.size ≤ 1000000) :
    Calls Tryz.prog 56 #[.string s, .string e] w fun x w' => x = .returned (.bool (hasB s e)) ∧ w' = w := by
  go_enter Tryz.func56, Tryz.ntmps56
  go_wp2_with (go_at_call 84; refine (suffix38 _ _ _ hs he).mono ?_; rintro e w' ⟨rfl, rfl⟩)
  go_ret
  exact ⟨rfl, rfl⟩

end Go.Proofs.YtjgdnainhoipgaaGreatDoor
namespace Go.Proofs.YtjgdnainhoipgaaGreatDoor
open Go.RowKit

theorem Half.text {B n : Nat} {l m : Nat → Nat} {w : World} {cap : Nat} (h : Half B n n l m w) (t : List UInt8) (ht : t.length = n) (hl : ∀ j (hj : j < t.length), (t[j]).toNat = l j) :
    (convert 128 9 (.slice (some ⟨B, 0, none⟩) n cap)).run Tryz.prog w = .ok (.string ⟨t.toArray⟩) w := by
  subst ht
  exact run_convert_bytes_back (P := Tryz.prog) w 128 9 5 ⟨B, 0, none⟩ cap t Tryz.underlying128 Tryz.underlying5 Tryz.underlying9 (fun j hj => by
    rw [Addr.add_lit, Nat.zero_add, h.cell j hj, if_pos hj, hl j hj])
/-- bytes of a text in a new row -/
theorem bytes_ofW (s : ByteArray) (w : World) : ∃ cap w', (convert 9 128 (.string s)).run Tryz.prog w = .ok (.slice (some ⟨w.heap.size, 0, none⟩) s.size cap) w' ∧ Below w.heap.size w w' ∧ w'.heap.size = w.heap.size + 1 ∧
    (∀ j (hj : j < s.data.toList.length), w'.cell? ⟨w.heap.size, j, none⟩ = some (.int .u8 (s.data.toList[j].toNat : Int))) ∧ (∀ j, j < s.size → w'.frozen? ⟨w.heap.size, j, none⟩ = false) := by
  have h := run_bytes_of_string (P := Tryz.prog) w 9 128 5 s Tryz.underlying9 Tryz.underlying128 Tryz.underlying5
  refine ⟨_, _, h, (Below.refl _ w).drew.alloc (Nat.le_refl _) _, ?_, ?_, ?_⟩
  · simp
  · intro j hj
    have hn : (w.drew.alloc (.cells (bytesRow s (grownCap w s.size 0 5)) 5 ((bytesRow s (grownCap w s.size 0 5)).size, (bytesRow s (grownCap w s.size 0 5)).size + 1))).heap[w.heap.size]? = _ := heap_alloc_new w.drew _
    have hj' : j < s.data.size := by simpa using hj
    simp only [World.cell?, hn]
    have hj2 : j < s.size := hj'
    simp [bytesRow, Array.getElem?_append, hj2]
  · intro j hj
    have hn : (w.drew.alloc (.cells (bytesRow s (grownCap w s.size 0 5)) 5 ((bytesRow s (grownCap w s.size 0 5)).size, (bytesRow s (grownCap w s.size 0 5)).size + 1))).heap[w.heap.size]? = _ := heap_alloc_new w.drew _
    have hj' : j < (bytesRow s (grownCap w s.size 0 5)).size := by
      have e : s.data.size = s.size := rfl
      simp [bytesRow]; omega
    simp only [World.frozen?, hn]
    simp
    omega
set_option maxHeartbeats 1000000 in
theorem small_any (s : ByteArray) (w : World) (hs : s.size ≤ 1000000) :
    Calls Tryz.prog 30 #[.string s] w fun e w' => e = .returned (.string (smallS s)) ∧ Below w.heap.size w w' := by
  obtain ⟨cap, w1, hcv, hb1, hz1, hc1, hf1⟩ := bytes_ofW s w
  have h0 : Half w.heap.size s.size 0 (fun j => lown (bt s j)) (bt s) w1 := ⟨fun j hj => by rw [hc1 j (by simpa using hj)]; simp [bt_at s j hj]; rfl, hf1⟩
  clear hc1 hf1 hz1
  go_enter Tryz.func30, Tryz.ntmps30
  go_wp2
  go_loopw [10] (fun i wr => ∃ k : Nat, k ≤ s.size ∧ i = .int .i64 k ∧ Hid (Half w.heap.size s.size k (fun j => lown (bt s j)) (bt s) wr ∧ Below w.heap.size w wr)) (fun i _ => s.size - (intOf i).toNat)
  case atStart => exact ⟨0, Nat.zero_le _, rfl, h0, hb1⟩
  case round =>
    clear h0 hb1 hcv
    obtain ⟨k, hk, rfl, hz⟩ := hrel
    by_cases hlt : k < s.size
    · have hc := hz.out.1.cell k hlt
      have hf := hz.out.1.free k hlt
      simp only [Nat.lt_irrefl, if_false] at hc
      have hbt := bt_lt s k
      obtain ⟨x, hx⟩ : ∃ x, bt s k = x := ⟨_, rfl⟩
      rw [hx] at hc hbt
      have HX : Hid (bt s k = x) := hx
      clear hx
      obtain ⟨a1, e1⟩ : ∃ b, decide ((65 : Int) ≤ (x : Int)) = b := ⟨_, rfl⟩
      obtain ⟨a2, e2⟩ : ∃ b, decide ((x : Int) ≤ 90) = b := ⟨_, rfl⟩
      have hi : (k : Int) < (s.size : Int) := by omega
      cases a1
      · go_wp2
        go_roundw
        case rel =>
          refine ⟨k + 1, by omega, by go_num, hz.out.1.keep hlt ?_, hz.out.2⟩
          show lown (bt s k) = _
          simp only [decide_eq_false_iff_not] at e1
          rw [HX.out, lown, if_neg (by omega)]
        case measure => simp [intOf]; omega
      · cases a2
        · go_wp2
          go_roundw
          case rel =>
            refine ⟨k + 1, by omega, by go_num, hz.out.1.keep hlt ?_, hz.out.2⟩
            show lown (bt s k) = _
            simp only [decide_eq_false_iff_not] at e2
            rw [HX.out, lown, if_neg (by omega)]
          case measure => simp [intOf]; omega
        · simp only [decide_eq_true_eq] at e1 e2
          go_wp2
          go_roundw
          case rel =>
            refine ⟨k + 1, by omega, by go_num, hz.out.1.set hlt _ ?_, hz.out.2.setCell (p := ⟨_, k, none⟩) (Nat.le_refl _) _⟩
            show _ = ((lown (bt s k) : Nat) : Int)
            rw [HX.out, lown, if_pos (by omega)]
            omega
          case measure => simp [intOf]; omega
    · obtain rfl : k = s.size := by omega
      have ht := hz.out.1.text (cap := cap) (smallL s.data.toList) (small_len s) (small_text s)
      go_wp2
      go_ret
      exact ⟨rfl, hz.out.2⟩

end Go.Proofs.YtjgdnainhoipgaaGreatDoor
namespace Go.Proofs.YtjgdnainhoipgaaGreatDoor
open Go.Shelf Go.RowKit
theorem clone39 (s : ByteArray) (w : World) (hlim : s.size ≤ 281474976710656) :
    Calls Tryz.prog 85 #[.string s] w fun e w' => e = .returned (.string s) ∧ Below w.heap.size w w' := Any.stringslite_Clone Tryz.laysM316 s w hlim
theorem clone28 (s : ByteArray) (w : World) (hlim : s.size ≤ 281474976710656) :
    Calls Tryz.prog 57 #[.string s] w fun e w' => e = .returned (.string s) ∧ Below w.heap.size w w' := by
  go_enter Tryz.func57, Tryz.ntmps57
  go_wp2_with (go_at_call 85; refine (clone39 _ _ hlim).mono ?_; rintro e w' ⟨rfl, hb⟩)
  go_ret
  exact ⟨rfl, hb⟩
end Go.Proofs.YtjgdnainhoipgaaGreatDoor
