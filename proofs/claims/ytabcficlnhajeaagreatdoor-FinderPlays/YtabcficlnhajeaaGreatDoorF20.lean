/- Texts of the proof of FinderPlays: WPure, WLett, WSmall, WShelf, WStem, WSplit. -/
import Derived.Test.YtabcficlnhajeaaGreatDoorF19
import Derived.Shelf.LaysM
import Derived.Shelf.Strconv.Clone
namespace Go.Proofs.YtabcficlnhajeaaGreatDoor
open Go.RowKit

/-- a byte of a word -/
def isLn (x : Nat) : Bool := decide (65 ≤ x) && decide (x ≤ 90) || decide (97 ≤ x) && decide (x ≤ 122) || decide (48 ≤ x) && decide (x ≤ 57) || decide (127 < x)
def isL (c : UInt8) : Bool := isLn c.toNat
/-- how many bytes stand ahead of the first one that is none of a word -/
def lead (l : List UInt8) : Nat := l.findIdx (fun c => !isL c)
theorem lead_none (s : ByteArray) (hz : ∀ j (h2 : j < s.size), isLn s[j].toNat = true) : lead s.data.toList = s.size := by
  unfold lead
  have : s.size = s.data.toList.length := by simp
  rw [this, List.findIdx_eq_length]
  intro x hx
  obtain ⟨j, hj, rfl⟩ := List.getElem_of_mem hx
  have : isLn (s.data[j]'(by simpa using hj)).toNat = true := hz j (by simpa using hj)
  simpa [isL] using this
/-- whether a text ends so -/
def hasB (s e : ByteArray) : Bool := decide (e.size ≤ s.size) && ((s.extract (s.size - e.size) s.size).toList == e.toList)
/-- a byte, in small -/
def lown (x : Nat) : Nat := if 65 ≤ x ∧ x ≤ 90 then x + 32 else x
theorem lown_lt (c : UInt8) : lown c.toNat < 256 := by
  have := c.toNat_lt
  unfold lown
  split <;> omega
def low (c : UInt8) : UInt8 := UInt8.ofNat (lown c.toNat)
theorem low_nat (c : UInt8) : (low c).toNat = lown c.toNat := by
  have := lown_lt c
  simp [low]
  omega
/-- a text, in small -/
def smallL (l : List UInt8) : List UInt8 := l.map low
def smallS (s : ByteArray) : ByteArray := ⟨(smallL s.data.toList).toArray⟩
/-- bytes in a block: those ahead of k as l has them, the others as m -/
structure Half (B n k : Nat) (l m : Nat → Nat) (w : World) : Prop where
  cell : ∀ j, j < n → w.cell? ⟨B, j, none⟩ = some (.int .u8 ((if j < k then l j else m j : Nat) : Int))
  free : ∀ j, j < n → w.frozen? ⟨B, j, none⟩ = false
theorem Half.set {B n k : Nat} {l m : Nat → Nat} {w : World} (h : Half B n k l m w) (hk : k < n) (x : Int) (hx : x = (l k : Int)) : Half B n (k + 1) l m (w.setCell ⟨B, k, none⟩ (.int .u8 x)) := by
  subst hx
  refine ⟨fun j hj => ?_, fun j hj => by rw [World.frozen?_setCell]; exact h.free j hj⟩
  by_cases e : j = k
  · subst e
    rw [World.cell?_setCell_same _ _ _ (h.cell j hj)]
    simp
  · rw [World.cell?_setCell_other _ _ _ _ (fun q => e (by cases q; rfl)), h.cell j hj]
    have : (j < k + 1) = (j < k) := by simp; omega
    simp only [this]
theorem Half.keep {B n k : Nat} {l m : Nat → Nat} {w : World} (h : Half B n k l m w) (hk : k < n) (hx : l k = m k) : Half B n (k + 1) l m w := by
  refine ⟨fun j hj => ?_, h.free⟩
  rw [h.cell j hj]
  by_cases e : j = k
  · subst e; simp [hx]
  · have : (j < k + 1) = (j < k) := by simp; omega
    simp only [this]
def bt (s : ByteArray) (j : Nat) : Nat := if h : j < s.size then s[j].toNat else 0
theorem bt_at (s : ByteArray) (j : Nat) (h : j < s.size) : bt s j = s[j].toNat := by simp [bt, h]
theorem bt_lt (s : ByteArray) (j : Nat) : bt s j < 256 := by
  unfold bt
  split
  · exact UInt8.toNat_lt _
  · omega
theorem small_text (s : ByteArray) (j : Nat) (hj : j < (smallL s.data.toList).length) : ((smallL s.data.toList)[j]).toNat = lown (bt s j) := by
  have hj' : j < s.data.size := by simpa [smallL] using hj
  rw [bt_at s j hj']
  simp [smallL, low_nat]
  rfl
theorem small_len (s : ByteArray) : (smallL s.data.toList).length = s.size := by simp [smallL]
theorem smallS_size (s : ByteArray) : (smallS s).size = s.size := by
  show (smallL s.data.toList).toArray.size = _
  simp [small_len]
/-- the ends of words, and what stands in their place -/
def endsT : List (ByteArray × ByteArray) := [(⟨#[115, 115, 101, 115]⟩, ⟨#[115, 115]⟩), (⟨#[105, 101, 115]⟩, ⟨#[121]⟩), (⟨#[115, 115]⟩, ⟨#[115, 115]⟩), (⟨#[105, 110, 103]⟩, ⟨#[]⟩), (⟨#[101, 100]⟩, ⟨#[]⟩), (⟨#[101, 115]⟩, ⟨#[101]⟩), (⟨#[115]⟩, ⟨#[]⟩)]
/-- a word without its end -/
def stemFrom : List (ByteArray × ByteArray) → ByteArray → ByteArray
  | [], s => s
  | (e, r) :: t, s => if hasB s e then (if e.size + 3 ≤ s.size then s.extract 0 (s.size - e.size) ++ r else s) else stemFrom t s
def stemS (s : ByteArray) : ByteArray := stemFrom endsT s
theorem stem_no {e r s : ByteArray} {t : List (ByteArray × ByteArray)} (h : hasB s e = false) : stemFrom ((e, r) :: t) s = stemFrom t s := by simp [stemFrom, h]
theorem stem_short {e r s : ByteArray} {t : List (ByteArray × ByteArray)} (h : hasB s e = true) (h3 : ¬ e.size + 3 ≤ s.size) : stemFrom ((e, r) :: t) s = s := by simp only [stemFrom, h, if_true, if_neg h3]
theorem stem_yes {e r s : ByteArray} {t : List (ByteArray × ByteArray)} (h : hasB s e = true) (h3 : e.size + 3 ≤ s.size) : stemFrom ((e, r) :: t) s = s.extract 0 (s.size - e.size) ++ r := by simp only [stemFrom, h, if_true, if_pos h3]
theorem hasB_small {s e : ByteArray} (h : s.size < e.size) : hasB s e = false := by simp [hasB]; omega
theorem hasB_eq {s e : ByteArray} {l : List UInt8} (h : e.size ≤ s.size) (hl : e.toList = l) : hasB s e = ((s.extract (s.size - e.size) s.size).toList == l) := by simp [hasB, h, hl]
/-- the longest runs of letters, with what was begun ahead -/
def runs : List UInt8 → List UInt8 → List (List UInt8)
  | cur, [] => if cur.isEmpty then [] else [cur]
  | cur, c :: l => if isL c then runs (cur ++ [c]) l else (if cur.isEmpty then [] else [cur]) ++ runs [] l
def wordOf (r : List UInt8) : ByteArray := stemS ⟨((smallL r).take 12).toArray⟩
def wordsL (l : List UInt8) : List ByteArray := (runs [] l).map wordOf
theorem lead_cons_yes (c : UInt8) (l : List UInt8) (h : isL c = true) : lead (c :: l) = lead l + 1 := by simp [lead, List.findIdx_cons, h]
theorem lead_cons_no (c : UInt8) (l : List UInt8) (h : isL c = false) : lead (c :: l) = 0 := by simp [lead, List.findIdx_cons, h]
theorem runs_lead (l : List UInt8) : ∀ cur, runs cur l = (if (cur ++ l.take (lead l)).isEmpty then [] else [cur ++ l.take (lead l)]) ++ runs [] (l.drop (lead l + 1)) := by
  induction l with
  | nil => intro cur; simp [runs]
  | cons c l ih =>
    intro cur
    cases h : isL c
    · rw [lead_cons_no c l h]
      simp [runs, h]
    · rw [lead_cons_yes c l h, runs, if_pos h, ih]
      simp
theorem words_step (l : List UInt8) : wordsL l = (if lead l = 0 then [] else [wordOf (l.take (lead l))]) ++ wordsL (l.drop (lead l + 1)) := by
  unfold wordsL
  rw [runs_lead l []]
  by_cases h : lead l = 0
  · simp [h]
  · have hl : l.take (lead l) ≠ [] := by
      intro e
      rcases List.take_eq_nil_iff.1 e with h' | h'
      · exact h h'
      · subst h'; exact h rfl
    simp [h, hl]
theorem lead_le (l : List UInt8) : lead l ≤ l.length := List.findIdx_le_length
theorem drop_min {α : Type} (l : List α) (n : Nat) : l.drop (min n l.length) = l.drop n := by
  by_cases h : n ≤ l.length
  · rw [Nat.min_eq_left h]
  · rw [Nat.min_eq_right (by omega), List.drop_length, List.drop_eq_nil_of_le (by omega)]
theorem ba_ext {a b : ByteArray} (h : a.data.toList = b.data.toList) : a = b := by
  cases a; cases b; simp at h; simp [h]
theorem ba_extract (s : ByteArray) (a b : Nat) : (s.extract a b).data.toList = (s.data.toList.take b).drop a := by
  rw [ByteArray.data_extract, Array.toList_extract, List.extract_eq_take_drop, List.drop_take]
theorem ba_len (s : ByteArray) : s.data.toList.length = s.size := by simp
/-- the word that the program makes of a run -/
theorem word_prog (t : ByteArray) (n : Nat) : stemS (smallS (t.extract 0 (min n 12))) = wordOf (t.data.toList.take n) := by
  unfold wordOf smallS
  rw [ba_extract]
  simp only [List.drop_zero, smallL, ← List.map_take, List.take_take, Nat.min_comm]
/-- the word that the document makes of a run -/
theorem word_doc_short (r : ByteArray) (h : r.size ≤ 12) : stemS (smallS r) = wordOf r.data.toList := by
  unfold wordOf smallS
  rw [List.take_of_length_le (by simp [smallL]; exact h)]
theorem word_doc_long (r : ByteArray) : stemS ((smallS r).extract 0 12) = wordOf r.data.toList := by
  unfold wordOf
  congr 1
  apply ba_ext
  rw [ba_extract]
  simp [smallS]
theorem stemFrom_le (t : List (ByteArray × ByteArray)) (s : ByteArray) (h : ∀ x ∈ t, x.2.size ≤ x.1.size) : (stemFrom t s).size ≤ s.size := by
  induction t with
  | nil => simp [stemFrom]
  | cons x t ih =>
    obtain ⟨e, r⟩ := x
    have hx := h (e, r) (by simp)
    simp only at hx
    unfold stemFrom
    split
    · split
      · simp only [ByteArray.size_append, ByteArray.size_extract]; omega
      · exact Nat.le_refl _
    · exact ih fun y hy => h y (by simp [hy])
theorem stem_le (s : ByteArray) : (stemS s).size ≤ s.size := stemFrom_le _ _ (by decide)
theorem wordOf_le (r : List UInt8) : (wordOf r).size ≤ 12 := by
  refine Nat.le_trans (stem_le _) ?_
  show ((smallL r).take 12).toArray.size ≤ 12
  simp
  omega
theorem words_le (l : List UInt8) : ∀ x ∈ wordsL l, x.size ≤ 12 := by
  intro x hx
  obtain ⟨r, _, rfl⟩ := List.mem_map.1 hx
  exact wordOf_le r
theorem runs_length (l : List UInt8) : ∀ cur, (runs cur l).length ≤ l.length + 1 := by
  induction l with
  | nil => intro cur; unfold runs; split <;> simp
  | cons c l ih =>
    intro cur
    unfold runs
    split
    · have := ih (cur ++ [c]); simp; omega
    · have := ih []
      simp
      split <;> simp <;> omega
theorem words_length (l : List UInt8) : (wordsL l).length ≤ l.length + 1 := by rw [wordsL, List.length_map]; exact runs_length l []
/-- texts, as cells -/
def sc (l : List ByteArray) : List Value := l.map Value.string
theorem sc_append (a b : List ByteArray) : sc (a ++ b) = sc a ++ sc b := by simp [sc]
theorem sc_length (a : List ByteArray) : (sc a).length = a.length := by simp [sc]
/-- texts in a row -/
def RowS (w : World) (a : Option Addr) (len : Nat) (xs : List ByteArray) : Prop :=
  len = xs.length ∧ xs.length ≤ 1000000 ∧ (xs = [] ∨ ∃ b off, a = some ⟨b, off, none⟩ ∧ b < w.heap.size ∧ ∀ i (h : i < xs.length), w.cell? ⟨b, off + i, none⟩ = some (.string xs[i]))
theorem row_of_own {w : World} {B : Nat} {v : Value} {xs : List ByteArray} (h : w.ownsRow B 9 1 v xs.length (sc xs)) (hl : xs.length ≤ 1000000) : ∃ a cap, v = .slice a xs.length cap ∧ RowS w a xs.length xs ∧ (a = none → cap = 0) := by
  rcases h.2 with ⟨rfl, h0⟩ | ⟨g, cap, cur, rfl, _, hg, _⟩
  · have : xs = [] := List.length_eq_zero_iff.1 h0
    subst this
    exact ⟨none, 0, rfl, ⟨rfl, hl, .inl rfl⟩, fun _ => rfl⟩
  · refine ⟨some ⟨g, 0, none⟩, cap, rfl, ⟨rfl, hl, .inr ⟨g, 0, rfl, (Array.getElem?_eq_some_iff.1 hg).1, fun i hi => ?_⟩⟩, fun e => by simp at e⟩
    have k0 := h.cells (g := g) rfl i (.string xs[i]) (by simp [sc])
    rw [Go.WideShapes.add_plain] at k0
    exact k0
theorem RowS.below {w w' : World} {a : Option Addr} {len : Nat} {xs : List ByteArray} (h : RowS w a len xs) (hb : Below w.heap.size w w') : RowS w' a len xs := by
  obtain ⟨h1, h2, h3⟩ := h
  refine ⟨h1, h2, ?_⟩
  rcases h3 with h3 | ⟨b, off, e, hlt, hc⟩
  · exact .inl h3
  · exact .inr ⟨b, off, e, Nat.lt_of_lt_of_le hlt hb.size, fun i hi => by rw [hb.cell (p := ⟨b, _, none⟩) hlt]; exact hc i hi⟩
theorem own_eq {w : World} {B : Nat} {t : TypeId} {z : Nat} {v : Value} {n n' : Nat} {xs xs' : List Value} (h : w.ownsRow B t z v n xs) (hn : n = n') (hx : xs = xs') : w.ownsRow B t z v n' xs' := by rw [← hn, ← hx]; exact h
theorem own_below {w w' : World} {B : Nat} {t : TypeId} {z : Nat} {v : Value} {n : Nat} {xs : List Value} (h : w.ownsRow B t z v n xs) (hb : Below w.heap.size w w') : w'.ownsRow B t z v n xs := by
  refine ⟨h.1, ?_⟩
  rcases h.2 with h2 | ⟨g, cap, cur, h1, h2, h3, h4⟩
  · exact .inl h2
  · exact .inr ⟨g, cap, cur, h1, h2, by rw [hb.block g (Array.getElem?_eq_some_iff.1 h3).1]; exact h3, h4⟩
/-- how long a text is -/
def strLen : Value → Nat
  | .string t => t.size
  | _ => 0
theorem isLn_128 (x : Nat) : isLn x = (decide (97 ≤ x) && decide (x ≤ 122) || decide (65 ≤ x) && decide (x ≤ 90) || decide (48 ≤ x) && decide (x ≤ 57) || decide (128 ≤ x)) := by
  rw [Bool.eq_iff_iff]
  simp [isLn]
  omega
theorem drop_at (s : ByteArray) (k : Nat) (h : k < s.size) : s.data.toList.drop k = s[k] :: s.data.toList.drop (k + 1) := by
  rw [List.drop_eq_getElem_cons (by simpa using h)]
  simp
  rfl

end Go.Proofs.YtabcficlnhajeaaGreatDoor
namespace Go.Proofs.YtabcficlnhajeaaGreatDoor
open Go.RowKit

set_option maxHeartbeats 2000000 in
theorem letter_any (x : Nat) (w : World) : Calls Tryz.prog 68 #[.int .u8 (x : Int)] w fun e w' => e = .returned (.bool (isLn x)) ∧ w' = w := by
  obtain ⟨a1, e1⟩ : ∃ b, decide ((65 : Int) ≤ (x : Int)) = b := ⟨_, rfl⟩
  obtain ⟨a2, e2⟩ : ∃ b, decide ((x : Int) ≤ 90) = b := ⟨_, rfl⟩
  obtain ⟨a3, e3⟩ : ∃ b, decide ((97 : Int) ≤ (x : Int)) = b := ⟨_, rfl⟩
  obtain ⟨a4, e4⟩ : ∃ b, decide ((x : Int) ≤ 122) = b := ⟨_, rfl⟩
  obtain ⟨a5, e5⟩ : ∃ b, decide ((48 : Int) ≤ (x : Int)) = b := ⟨_, rfl⟩
  obtain ⟨a6, e6⟩ : ∃ b, decide ((x : Int) ≤ 57) = b := ⟨_, rfl⟩
  have HR : Hid (isLn x = (a1 && a2 || a3 && a4 || a5 && a6 || decide ((127 : Int) < (x : Int)))) := by
    show _ = _
    rw [← e1, ← e2, ← e3, ← e4, ← e5, ← e6, Bool.eq_iff_iff]
    simp [isLn]
    omega
  cases a1 <;> cases a2 <;> cases a3 <;> cases a4 <;> cases a5 <;> cases a6 <;> first
    | (exfalso; simp only [decide_eq_true_eq, decide_eq_false_iff_not] at e1 e2 e3 e4 e5 e6; clear HR; omega)
    | (go_enter Tryz.func68, Tryz.ntmps68
       go_wp2
       go_ret
       exact ⟨ret_bool (by rw [HR.out]; simp), rfl⟩)
theorem lead_at (s : ByteArray) (k : Nat) (hk : k < s.size) (h0 : isLn s[k].toNat = false) (hz : ∀ j (_ : j < k) (h2 : j < s.size), isLn s[j].toNat = true) : lead s.data.toList = k := by
  unfold lead
  rw [List.findIdx_eq (by simpa using hk)]
  refine ⟨?_, fun j hj => ?_⟩
  · have : isLn (s.data[k]'hk).toNat = false := h0
    simpa [isL] using this
  · have : isLn (s.data[j]'(by have : s.data.size = s.size := rfl; omega)).toNat = true := hz j hj (by omega)
    simpa [isL] using this
set_option maxHeartbeats 400000 in
theorem letters_any (s : ByteArray) (w : World) (hs : s.size ≤ 1000000) :
    Calls Tryz.prog 37 #[.string s] w fun e w' => e = .returned (.int .i64 (lead s.data.toList)) ∧ w' = w := by
  go_enter Tryz.func37, Tryz.ntmps37
  go_wp2
  go_loop [6] (fun i => ∃ k : Nat, k ≤ s.size ∧ i = .int .i64 k ∧ Hid (∀ j (_ : j < k) (h2 : j < s.size), isLn s[j].toNat = true)) (fun i => s.size - (intOf i).toNat)
  case atStart => exact ⟨0, Nat.zero_le _, rfl, fun j h => absurd h (Nat.not_lt_zero _)⟩
  case round =>
    obtain ⟨k, hk, rfl, hz⟩ := hrel
    by_cases hlt : k < s.size
    · cases hb : isLn s[k].toNat
      · go_wp2_with (go_at_call 68; refine (letter_any _ _).mono ?_; rintro e w' ⟨rfl, rfl⟩)
        go_ret
        exact ⟨ret_int (by rw [lead_at s k hlt hb hz.out]), rfl⟩
      · go_wp2_with (go_at_call 68; refine (letter_any _ _).mono ?_; rintro e w' ⟨rfl, rfl⟩)
        go_round
        case rel =>
          refine ⟨k + 1, by omega, by go_num, ?_⟩
          intro j hj h2
          by_cases e : j = k
          · subst e; exact hb
          · exact hz.out j (by omega) h2
        case measure => simp [intOf]; omega
    · go_wp2
      go_ret
      exact ⟨ret_int (by rw [lead_none s fun j h2 => hz.out j (by omega) h2]), rfl⟩
set_option maxHeartbeats 400000 in
theorem suffix38 (s e : ByteArray) (w : World) (hs : s.size ≤ 1000000) (he : e.size ≤ 1000000) :
    Calls Tryz.prog 96 #[.string s, .string e] w fun x w' => x = .returned (.bool (hasB s e)) ∧ w' = w := by
  by_cases h : e.size ≤ s.size
  · have hd : decide ((e.size : Int) ≤ (s.size : Int)) = true := by simpa using h
    have HR : Hid (hasB s e = ((s.extract (s.size - e.size) s.size).toList == e.toList)) := by show _ = _; simp [hasB, h]
    go_enter Tryz.func96, Tryz.ntmps96
    go_wp2
    go_ret
    refine ⟨ret_bool ?_, rfl⟩
    rw [HR.out]
  · have hd : decide ((e.size : Int) ≤ (s.size : Int)) = false := by simp; omega
    have HR : Hid (hasB s e = false) := by show _ = _; simp [hasB, h]
    go_enter Tryz.func96, Tryz.ntmps96
    go_wp2
    go_ret
    exact ⟨ret_bool (by rw [HR.out]), rfl⟩
theorem suffix27 (s e : ByteArray) (w : World) (hs : s.size ≤ 1000000) (he : e.size ≤ 1000000) :
    Calls Tryz.prog 69 #[.string s, .string e] w fun x w' => x = .returned (.bool (hasB s e)) ∧ w' = w := by
  go_enter Tryz.func69, Tryz.ntmps69
  go_wp2_with (go_at_call 96; refine (suffix38 _ _ _ hs he).mono ?_; rintro e w' ⟨rfl, rfl⟩)
  go_ret
  exact ⟨rfl, rfl⟩

end Go.Proofs.YtabcficlnhajeaaGreatDoor
namespace Go.Proofs.YtabcficlnhajeaaGreatDoor
open Go.RowKit

theorem Half.text {B n : Nat} {l m : Nat → Nat} {w : World} {cap : Nat} (h : Half B n n l m w) (t : List UInt8) (ht : t.length = n) (hl : ∀ j (hj : j < t.length), (t[j]).toNat = l j) :
    (convert 139 9 (.slice (some ⟨B, 0, none⟩) n cap)).run Tryz.prog w = .ok (.string ⟨t.toArray⟩) w := by
  subst ht
  exact run_convert_bytes_back (P := Tryz.prog) w 139 9 5 ⟨B, 0, none⟩ cap t Tryz.underlying139 Tryz.underlying5 Tryz.underlying9 (fun j hj => by
    rw [Addr.add_lit, Nat.zero_add, h.cell j hj, if_pos hj, hl j hj])
/-- bytes of a text in a new row -/
theorem bytes_ofW (s : ByteArray) (w : World) : ∃ cap w', (convert 9 139 (.string s)).run Tryz.prog w = .ok (.slice (some ⟨w.heap.size, 0, none⟩) s.size cap) w' ∧ Below w.heap.size w w' ∧ w'.heap.size = w.heap.size + 1 ∧
    (∀ j (hj : j < s.data.toList.length), w'.cell? ⟨w.heap.size, j, none⟩ = some (.int .u8 (s.data.toList[j].toNat : Int))) ∧ (∀ j, j < s.size → w'.frozen? ⟨w.heap.size, j, none⟩ = false) := by
  have h := run_bytes_of_string (P := Tryz.prog) w 9 139 5 s Tryz.underlying9 Tryz.underlying139 Tryz.underlying5
  refine ⟨_, _, h, (Below.refl _ w).drew.alloc (Nat.le_refl _) _, ?_, ?_, ?_⟩
  · simp
  · intro j hj
    have hn : (w.drew.alloc (.cells (bytesRow s (grownCap w s.size 0 5)) 5 ((bytesRow s (grownCap w s.size 0 5)).size, (bytesRow s (grownCap w s.size 0 5)).size + 1))).heap[w.heap.size]? = _ := heap_alloc_new w.drew _
    have hj' : j < s.data.size := by simpa using hj
    simp only [World.cell?, hn]
    have hj2 : j < s.size := hj'
    simp [bytesRow, Array.getElem?_append, hj2]
  · intro j hj
    have hn : (w.drew.alloc (.cells (bytesRow s (grownCap w s.size 0 5)) 5 ((bytesRow s (grownCap w s.size 0 5)).size, (bytesRow s (grownCap w s.size 0 5)).size + 1))).heap[w.heap.size]? = _ := heap_alloc_new w.drew _
    have hj' : j < (bytesRow s (grownCap w s.size 0 5)).size := by
      have e : s.data.size = s.size := rfl
      simp [bytesRow]; omega
    simp only [World.frozen?, hn]
    simp
    omega
set_option maxHeartbeats 1000000 in
theorem small_any (s : ByteArray) (w : World) (hs : s.size ≤ 1000000) :
    Calls Tryz.prog 39 #[.string s] w fun e w' => e = .returned (.string (smallS s)) ∧ Below w.heap.size w w' := by
  obtain ⟨cap, w1, hcv, hb1, hz1, hc1, hf1⟩ := bytes_ofW s w
  have h0 : Half w.heap.size s.size 0 (fun j => lown (bt s j)) (bt s) w1 := ⟨fun j hj => by rw [hc1 j (by simpa using hj)]; simp [bt_at s j hj]; rfl, hf1⟩
  clear hc1 hf1 hz1
  go_enter Tryz.func39, Tryz.ntmps39
  go_wp2
  go_loopw [10] (fun i wr => ∃ k : Nat, k ≤ s.size ∧ i = .int .i64 k ∧ Hid (Half w.heap.size s.size k (fun j => lown (bt s j)) (bt s) wr ∧ Below w.heap.size w wr)) (fun i _ => s.size - (intOf i).toNat)
  case atStart => exact ⟨0, Nat.zero_le _, rfl, h0, hb1⟩
  case round =>
    clear h0 hb1 hcv
    obtain ⟨k, hk, rfl, hz⟩ := hrel
    by_cases hlt : k < s.size
    · have hc := hz.out.1.cell k hlt
      have hf := hz.out.1.free k hlt
      simp only [Nat.lt_irrefl, if_false] at hc
      have hbt := bt_lt s k
      obtain ⟨x, hx⟩ : ∃ x, bt s k = x := ⟨_, rfl⟩
      rw [hx] at hc hbt
      have HX : Hid (bt s k = x) := hx
      clear hx
      obtain ⟨a1, e1⟩ : ∃ b, decide ((65 : Int) ≤ (x : Int)) = b := ⟨_, rfl⟩
      obtain ⟨a2, e2⟩ : ∃ b, decide ((x : Int) ≤ 90) = b := ⟨_, rfl⟩
      have hi : (k : Int) < (s.size : Int) := by omega
      cases a1
      · go_wp2
        go_roundw
        case rel =>
          refine ⟨k + 1, by omega, by go_num, hz.out.1.keep hlt ?_, hz.out.2⟩
          show lown (bt s k) = _
          simp only [decide_eq_false_iff_not] at e1
          rw [HX.out, lown, if_neg (by omega)]
        case measure => simp [intOf]; omega
      · cases a2
        · go_wp2
          go_roundw
          case rel =>
            refine ⟨k + 1, by omega, by go_num, hz.out.1.keep hlt ?_, hz.out.2⟩
            show lown (bt s k) = _
            simp only [decide_eq_false_iff_not] at e2
            rw [HX.out, lown, if_neg (by omega)]
          case measure => simp [intOf]; omega
        · simp only [decide_eq_true_eq] at e1 e2
          go_wp2
          go_roundw
          case rel =>
            refine ⟨k + 1, by omega, by go_num, hz.out.1.set hlt _ ?_, hz.out.2.setCell (p := ⟨_, k, none⟩) (Nat.le_refl _) _⟩
            show _ = ((lown (bt s k) : Nat) : Int)
            rw [HX.out, lown, if_pos (by omega)]
            omega
          case measure => simp [intOf]; omega
    · obtain rfl : k = s.size := by omega
      have ht := hz.out.1.text (cap := cap) (smallL s.data.toList) (small_len s) (small_text s)
      go_wp2
      go_ret
      exact ⟨rfl, hz.out.2⟩

end Go.Proofs.YtabcficlnhajeaaGreatDoor
namespace Go.Proofs.YtabcficlnhajeaaGreatDoor
open Go.Shelf Go.RowKit
theorem clone39 (s : ByteArray) (w : World) (hlim : s.size ≤ 281474976710656) :
    Calls Tryz.prog 97 #[.string s] w fun e w' => e = .returned (.string s) ∧ Below w.heap.size w w' := Any.stringslite_Clone Tryz.laysM316 s w hlim
theorem clone28 (s : ByteArray) (w : World) (hlim : s.size ≤ 281474976710656) :
    Calls Tryz.prog 70 #[.string s] w fun e w' => e = .returned (.string s) ∧ Below w.heap.size w w' := by
  go_enter Tryz.func70, Tryz.ntmps70
  go_wp2_with (go_at_call 97; refine (clone39 _ _ hlim).mono ?_; rintro e w' ⟨rfl, hb⟩)
  go_ret
  exact ⟨rfl, hb⟩
end Go.Proofs.YtabcficlnhajeaaGreatDoor
namespace Go.Proofs.YtabcficlnhajeaaGreatDoor
open Go.RowKit

/-- the package's variable holds the ends -/
def EndsAt (w : World) : Prop := w.cell? ⟨0, 0, none⟩ = some (.string ⟨#[115, 115, 101, 115]⟩) ∧ w.cell? ⟨0, 1, none⟩ = some (.string ⟨#[115, 115]⟩) ∧ w.cell? ⟨0, 2, none⟩ = some (.string ⟨#[105, 101, 115]⟩) ∧ w.cell? ⟨0, 3, none⟩ = some (.string ⟨#[121]⟩) ∧ w.cell? ⟨0, 4, none⟩ = some (.string ⟨#[115, 115]⟩) ∧ w.cell? ⟨0, 5, none⟩ = some (.string ⟨#[115, 115]⟩) ∧ w.cell? ⟨0, 6, none⟩ = some (.string ⟨#[105, 110, 103]⟩) ∧ w.cell? ⟨0, 7, none⟩ = some (.string ⟨#[]⟩) ∧ w.cell? ⟨0, 8, none⟩ = some (.string ⟨#[101, 100]⟩) ∧ w.cell? ⟨0, 9, none⟩ = some (.string ⟨#[]⟩) ∧ w.cell? ⟨0, 10, none⟩ = some (.string ⟨#[101, 115]⟩) ∧ w.cell? ⟨0, 11, none⟩ = some (.string ⟨#[101]⟩) ∧ w.cell? ⟨0, 12, none⟩ = some (.string ⟨#[115]⟩) ∧ w.cell? ⟨0, 13, none⟩ = some (.string ⟨#[]⟩)
theorem EndsAt.below {w w' : World} (h : EndsAt w) (hb : Below w.heap.size w w') : EndsAt w' := by
  have h0 : 0 < w.heap.size := World.block_lt_of_cell? w _ h.1
  unfold EndsAt at h ⊢
  have e : ∀ o, w'.cell? ⟨0, o, none⟩ = w.cell? ⟨0, o, none⟩ := fun o => hb.cell (p := ⟨0, o, none⟩) h0
  simp only [e]
  exact h
theorem ixE0 (W : World) : (Instr.index 138 (.agg #[.string ⟨#[115, 115, 101, 115]⟩, .string ⟨#[115, 115]⟩, .string ⟨#[105, 101, 115]⟩, .string ⟨#[121]⟩, .string ⟨#[115, 115]⟩, .string ⟨#[115, 115]⟩, .string ⟨#[105, 110, 103]⟩, .string ⟨#[]⟩, .string ⟨#[101, 100]⟩, .string ⟨#[]⟩, .string ⟨#[101, 115]⟩, .string ⟨#[101]⟩, .string ⟨#[115]⟩, .string ⟨#[]⟩]) (.int .i64 0)).run Tryz.prog W = .ok (.agg #[.string ⟨#[115, 115, 101, 115]⟩, .string ⟨#[115, 115]⟩]) W := by kernel_rfl
theorem ixE1 (W : World) : (Instr.index 138 (.agg #[.string ⟨#[115, 115, 101, 115]⟩, .string ⟨#[115, 115]⟩, .string ⟨#[105, 101, 115]⟩, .string ⟨#[121]⟩, .string ⟨#[115, 115]⟩, .string ⟨#[115, 115]⟩, .string ⟨#[105, 110, 103]⟩, .string ⟨#[]⟩, .string ⟨#[101, 100]⟩, .string ⟨#[]⟩, .string ⟨#[101, 115]⟩, .string ⟨#[101]⟩, .string ⟨#[115]⟩, .string ⟨#[]⟩]) (.int .i64 1)).run Tryz.prog W = .ok (.agg #[.string ⟨#[105, 101, 115]⟩, .string ⟨#[121]⟩]) W := by kernel_rfl
theorem ixE2 (W : World) : (Instr.index 138 (.agg #[.string ⟨#[115, 115, 101, 115]⟩, .string ⟨#[115, 115]⟩, .string ⟨#[105, 101, 115]⟩, .string ⟨#[121]⟩, .string ⟨#[115, 115]⟩, .string ⟨#[115, 115]⟩, .string ⟨#[105, 110, 103]⟩, .string ⟨#[]⟩, .string ⟨#[101, 100]⟩, .string ⟨#[]⟩, .string ⟨#[101, 115]⟩, .string ⟨#[101]⟩, .string ⟨#[115]⟩, .string ⟨#[]⟩]) (.int .i64 2)).run Tryz.prog W = .ok (.agg #[.string ⟨#[115, 115]⟩, .string ⟨#[115, 115]⟩]) W := by kernel_rfl
theorem ixE3 (W : World) : (Instr.index 138 (.agg #[.string ⟨#[115, 115, 101, 115]⟩, .string ⟨#[115, 115]⟩, .string ⟨#[105, 101, 115]⟩, .string ⟨#[121]⟩, .string ⟨#[115, 115]⟩, .string ⟨#[115, 115]⟩, .string ⟨#[105, 110, 103]⟩, .string ⟨#[]⟩, .string ⟨#[101, 100]⟩, .string ⟨#[]⟩, .string ⟨#[101, 115]⟩, .string ⟨#[101]⟩, .string ⟨#[115]⟩, .string ⟨#[]⟩]) (.int .i64 3)).run Tryz.prog W = .ok (.agg #[.string ⟨#[105, 110, 103]⟩, .string ⟨#[]⟩]) W := by kernel_rfl
theorem ixE4 (W : World) : (Instr.index 138 (.agg #[.string ⟨#[115, 115, 101, 115]⟩, .string ⟨#[115, 115]⟩, .string ⟨#[105, 101, 115]⟩, .string ⟨#[121]⟩, .string ⟨#[115, 115]⟩, .string ⟨#[115, 115]⟩, .string ⟨#[105, 110, 103]⟩, .string ⟨#[]⟩, .string ⟨#[101, 100]⟩, .string ⟨#[]⟩, .string ⟨#[101, 115]⟩, .string ⟨#[101]⟩, .string ⟨#[115]⟩, .string ⟨#[]⟩]) (.int .i64 4)).run Tryz.prog W = .ok (.agg #[.string ⟨#[101, 100]⟩, .string ⟨#[]⟩]) W := by kernel_rfl
theorem ixE5 (W : World) : (Instr.index 138 (.agg #[.string ⟨#[115, 115, 101, 115]⟩, .string ⟨#[115, 115]⟩, .string ⟨#[105, 101, 115]⟩, .string ⟨#[121]⟩, .string ⟨#[115, 115]⟩, .string ⟨#[115, 115]⟩, .string ⟨#[105, 110, 103]⟩, .string ⟨#[]⟩, .string ⟨#[101, 100]⟩, .string ⟨#[]⟩, .string ⟨#[101, 115]⟩, .string ⟨#[101]⟩, .string ⟨#[115]⟩, .string ⟨#[]⟩]) (.int .i64 5)).run Tryz.prog W = .ok (.agg #[.string ⟨#[101, 115]⟩, .string ⟨#[101]⟩]) W := by kernel_rfl
theorem ixE6 (W : World) : (Instr.index 138 (.agg #[.string ⟨#[115, 115, 101, 115]⟩, .string ⟨#[115, 115]⟩, .string ⟨#[105, 101, 115]⟩, .string ⟨#[121]⟩, .string ⟨#[115, 115]⟩, .string ⟨#[115, 115]⟩, .string ⟨#[105, 110, 103]⟩, .string ⟨#[]⟩, .string ⟨#[101, 100]⟩, .string ⟨#[]⟩, .string ⟨#[101, 115]⟩, .string ⟨#[101]⟩, .string ⟨#[115]⟩, .string ⟨#[]⟩]) (.int .i64 6)).run Tryz.prog W = .ok (.agg #[.string ⟨#[115]⟩, .string ⟨#[]⟩]) W := by kernel_rfl
set_option maxRecDepth 100000 in
set_option maxHeartbeats 4000000 in
theorem stem_any (s : ByteArray) (w : World) (hs : s.size ≤ 1000000) (he : EndsAt w) :
    Calls Tryz.prog 38 #[.string s] w fun e w' => e = .returned (.string (stemS s)) ∧ Below w.heap.size w w' := by
  obtain ⟨q0, q1, q2, q3, q4, q5, q6, q7, q8, q9, q10, q11, q12, q13⟩ := he
  have HR : Hid (stemFrom (endsT.drop 0) s = stemS s) := rfl
  generalize stemS s = R at *
  go_enter Tryz.func38, Tryz.ntmps38
  go_wp2
  clear q0 q1 q2 q3 q4 q5 q6 q7 q8 q9 q10 q11 q12 q13
  go_loopw [0, 7] (fun x i wr => ∃ k : Nat, k ≤ 7 ∧ x = .string s ∧ i = .int .i64 k ∧ Hid (Below w.heap.size w wr ∧ stemFrom (endsT.drop k) s = R)) (fun _ i _ => 7 - (intOf i).toNat)
  case atStart => exact ⟨0, Nat.zero_le _, rfl, rfl, Below.refl _ _, HR.out⟩
  case round =>
    clear HR
    obtain ⟨k, hk, rfl, rfl, hz⟩ := hrel
    have hk7 : k = 0 ∨ k = 1 ∨ k = 2 ∨ k = 3 ∨ k = 4 ∨ k = 5 ∨ k = 6 ∨ k = 7 := by omega
    rcases hk7 with rfl | rfl | rfl | rfl | rfl | rfl | rfl | rfl
    · have hix := ixE0 wr
      cases hb : hasB s ⟨#[115, 115, 101, 115]⟩
      · go_wp2_with (go_at_call 69; refine (suffix27 _ _ _ hs (by decide)).mono ?_; rintro e w' ⟨rfl, rfl⟩)
        go_roundw
        case rel => exact ⟨1, by omega, rfl, by go_num, by have := hz.out.1.size; exact hz.out.1.alloc (by omega) _, (stem_no hb).symm.trans hz.out.2⟩
        case measure => simp [intOf]
      · by_cases h3 : 4 + 3 ≤ s.size
        · have HS : Hid (s.extract 0 (s.size - 4) ++ ⟨#[115, 115]⟩ = R) := (stem_yes (r := ⟨#[115, 115]⟩) (t := endsT.drop 1) hb h3).symm.trans hz.out.2
          have h3' : (3 : Int) ≤ (s.size : Int) - 4 := by omega
          go_wp2_with (go_at_call 69; refine (suffix27 _ _ _ hs (by decide)).mono ?_; rintro e w' ⟨rfl, rfl⟩)
          go_region
          have HL : Hid (R.size ≤ 281474976710656) := by show _ ≤ _; rw [← HS.out]; have e : (⟨#[115, 115]⟩ : ByteArray).size = 2 := rfl; simp only [ByteArray.size_append, ByteArray.size_extract, e]; omega
          go_wp2_with (go_at_call 70; rw [HS.out]; refine (clone28 _ _ HL.out).mono ?_; rintro e w' ⟨rfl, hb⟩)
          go_ret
          exact ⟨rfl, by have := hz.out.1.size; exact ((hz.out.1.alloc this _).drew).trans (hb.mono (by simp; omega))⟩
        · have HS : Hid (s = R) := (stem_short (r := ⟨#[115, 115]⟩) (t := endsT.drop 1) hb h3).symm.trans hz.out.2
          have h3' : (s.size : Int) - 4 < 3 := by omega
          go_wp2_with (first | (go_at_call 69; refine (suffix27 _ _ _ hs (by decide)).mono ?_; rintro e w' ⟨rfl, rfl⟩) | (go_at_call 70; refine (clone28 _ _ (by omega)).mono ?_; rintro e w' ⟨rfl, hb⟩))
          go_ret
          rw [HS.out]
          exact ⟨rfl, by have := hz.out.1.size; exact (hz.out.1.alloc (by omega) _).trans (hb.mono (by simp; omega))⟩
    · have hix := ixE1 wr
      cases hb : hasB s ⟨#[105, 101, 115]⟩
      · go_wp2_with (go_at_call 69; refine (suffix27 _ _ _ hs (by decide)).mono ?_; rintro e w' ⟨rfl, rfl⟩)
        go_roundw
        case rel => exact ⟨2, by omega, rfl, by go_num, by have := hz.out.1.size; exact hz.out.1.alloc (by omega) _, (stem_no hb).symm.trans hz.out.2⟩
        case measure => simp [intOf]
      · by_cases h3 : 3 + 3 ≤ s.size
        · have HS : Hid (s.extract 0 (s.size - 3) ++ ⟨#[121]⟩ = R) := (stem_yes (r := ⟨#[121]⟩) (t := endsT.drop 2) hb h3).symm.trans hz.out.2
          have h3' : (3 : Int) ≤ (s.size : Int) - 3 := by omega
          go_wp2_with (go_at_call 69; refine (suffix27 _ _ _ hs (by decide)).mono ?_; rintro e w' ⟨rfl, rfl⟩)
          go_region
          have HL : Hid (R.size ≤ 281474976710656) := by show _ ≤ _; rw [← HS.out]; have e : (⟨#[121]⟩ : ByteArray).size = 1 := rfl; simp only [ByteArray.size_append, ByteArray.size_extract, e]; omega
          go_wp2_with (go_at_call 70; rw [HS.out]; refine (clone28 _ _ HL.out).mono ?_; rintro e w' ⟨rfl, hb⟩)
          go_ret
          exact ⟨rfl, by have := hz.out.1.size; exact ((hz.out.1.alloc this _).drew).trans (hb.mono (by simp; omega))⟩
        · have HS : Hid (s = R) := (stem_short (r := ⟨#[121]⟩) (t := endsT.drop 2) hb h3).symm.trans hz.out.2
          have h3' : (s.size : Int) - 3 < 3 := by omega
          go_wp2_with (first | (go_at_call 69; refine (suffix27 _ _ _ hs (by decide)).mono ?_; rintro e w' ⟨rfl, rfl⟩) | (go_at_call 70; refine (clone28 _ _ (by omega)).mono ?_; rintro e w' ⟨rfl, hb⟩))
          go_ret
          rw [HS.out]
          exact ⟨rfl, by have := hz.out.1.size; exact (hz.out.1.alloc (by omega) _).trans (hb.mono (by simp; omega))⟩
    · have hix := ixE2 wr
      cases hb : hasB s ⟨#[115, 115]⟩
      · go_wp2_with (go_at_call 69; refine (suffix27 _ _ _ hs (by decide)).mono ?_; rintro e w' ⟨rfl, rfl⟩)
        go_roundw
        case rel => exact ⟨3, by omega, rfl, by go_num, by have := hz.out.1.size; exact hz.out.1.alloc (by omega) _, (stem_no hb).symm.trans hz.out.2⟩
        case measure => simp [intOf]
      · by_cases h3 : 2 + 3 ≤ s.size
        · have HS : Hid (s.extract 0 (s.size - 2) ++ ⟨#[115, 115]⟩ = R) := (stem_yes (r := ⟨#[115, 115]⟩) (t := endsT.drop 3) hb h3).symm.trans hz.out.2
          have h3' : (3 : Int) ≤ (s.size : Int) - 2 := by omega
          go_wp2_with (go_at_call 69; refine (suffix27 _ _ _ hs (by decide)).mono ?_; rintro e w' ⟨rfl, rfl⟩)
          go_region
          have HL : Hid (R.size ≤ 281474976710656) := by show _ ≤ _; rw [← HS.out]; have e : (⟨#[115, 115]⟩ : ByteArray).size = 2 := rfl; simp only [ByteArray.size_append, ByteArray.size_extract, e]; omega
          go_wp2_with (go_at_call 70; rw [HS.out]; refine (clone28 _ _ HL.out).mono ?_; rintro e w' ⟨rfl, hb⟩)
          go_ret
          exact ⟨rfl, by have := hz.out.1.size; exact ((hz.out.1.alloc this _).drew).trans (hb.mono (by simp; omega))⟩
        · have HS : Hid (s = R) := (stem_short (r := ⟨#[115, 115]⟩) (t := endsT.drop 3) hb h3).symm.trans hz.out.2
          have h3' : (s.size : Int) - 2 < 3 := by omega
          go_wp2_with (first | (go_at_call 69; refine (suffix27 _ _ _ hs (by decide)).mono ?_; rintro e w' ⟨rfl, rfl⟩) | (go_at_call 70; refine (clone28 _ _ (by omega)).mono ?_; rintro e w' ⟨rfl, hb⟩))
          go_ret
          rw [HS.out]
          exact ⟨rfl, by have := hz.out.1.size; exact (hz.out.1.alloc (by omega) _).trans (hb.mono (by simp; omega))⟩
    · have hix := ixE3 wr
      cases hb : hasB s ⟨#[105, 110, 103]⟩
      · go_wp2_with (go_at_call 69; refine (suffix27 _ _ _ hs (by decide)).mono ?_; rintro e w' ⟨rfl, rfl⟩)
        go_roundw
        case rel => exact ⟨4, by omega, rfl, by go_num, by have := hz.out.1.size; exact hz.out.1.alloc (by omega) _, (stem_no hb).symm.trans hz.out.2⟩
        case measure => simp [intOf]
      · by_cases h3 : 3 + 3 ≤ s.size
        · have HS : Hid (s.extract 0 (s.size - 3) ++ ⟨#[]⟩ = R) := (stem_yes (r := ⟨#[]⟩) (t := endsT.drop 4) hb h3).symm.trans hz.out.2
          have h3' : (3 : Int) ≤ (s.size : Int) - 3 := by omega
          go_wp2_with (go_at_call 69; refine (suffix27 _ _ _ hs (by decide)).mono ?_; rintro e w' ⟨rfl, rfl⟩)
          go_region
          have HL : Hid (R.size ≤ 281474976710656) := by show _ ≤ _; rw [← HS.out]; have e : (⟨#[]⟩ : ByteArray).size = 0 := rfl; simp only [ByteArray.size_append, ByteArray.size_extract, e]; omega
          go_wp2_with (go_at_call 70; rw [HS.out]; refine (clone28 _ _ HL.out).mono ?_; rintro e w' ⟨rfl, hb⟩)
          go_ret
          exact ⟨rfl, by have := hz.out.1.size; exact ((hz.out.1.alloc this _).drew).trans (hb.mono (by simp; omega))⟩
        · have HS : Hid (s = R) := (stem_short (r := ⟨#[]⟩) (t := endsT.drop 4) hb h3).symm.trans hz.out.2
          have h3' : (s.size : Int) - 3 < 3 := by omega
          go_wp2_with (first | (go_at_call 69; refine (suffix27 _ _ _ hs (by decide)).mono ?_; rintro e w' ⟨rfl, rfl⟩) | (go_at_call 70; refine (clone28 _ _ (by omega)).mono ?_; rintro e w' ⟨rfl, hb⟩))
          go_ret
          rw [HS.out]
          exact ⟨rfl, by have := hz.out.1.size; exact (hz.out.1.alloc (by omega) _).trans (hb.mono (by simp; omega))⟩
    · have hix := ixE4 wr
      cases hb : hasB s ⟨#[101, 100]⟩
      · go_wp2_with (go_at_call 69; refine (suffix27 _ _ _ hs (by decide)).mono ?_; rintro e w' ⟨rfl, rfl⟩)
        go_roundw
        case rel => exact ⟨5, by omega, rfl, by go_num, by have := hz.out.1.size; exact hz.out.1.alloc (by omega) _, (stem_no hb).symm.trans hz.out.2⟩
        case measure => simp [intOf]
      · by_cases h3 : 2 + 3 ≤ s.size
        · have HS : Hid (s.extract 0 (s.size - 2) ++ ⟨#[]⟩ = R) := (stem_yes (r := ⟨#[]⟩) (t := endsT.drop 5) hb h3).symm.trans hz.out.2
          have h3' : (3 : Int) ≤ (s.size : Int) - 2 := by omega
          go_wp2_with (go_at_call 69; refine (suffix27 _ _ _ hs (by decide)).mono ?_; rintro e w' ⟨rfl, rfl⟩)
          go_region
          have HL : Hid (R.size ≤ 281474976710656) := by show _ ≤ _; rw [← HS.out]; have e : (⟨#[]⟩ : ByteArray).size = 0 := rfl; simp only [ByteArray.size_append, ByteArray.size_extract, e]; omega
          go_wp2_with (go_at_call 70; rw [HS.out]; refine (clone28 _ _ HL.out).mono ?_; rintro e w' ⟨rfl, hb⟩)
          go_ret
          exact ⟨rfl, by have := hz.out.1.size; exact ((hz.out.1.alloc this _).drew).trans (hb.mono (by simp; omega))⟩
        · have HS : Hid (s = R) := (stem_short (r := ⟨#[]⟩) (t := endsT.drop 5) hb h3).symm.trans hz.out.2
          have h3' : (s.size : Int) - 2 < 3 := by omega
          go_wp2_with (first | (go_at_call 69; refine (suffix27 _ _ _ hs (by decide)).mono ?_; rintro e w' ⟨rfl, rfl⟩) | (go_at_call 70; refine (clone28 _ _ (by omega)).mono ?_; rintro e w' ⟨rfl, hb⟩))
          go_ret
          rw [HS.out]
          exact ⟨rfl, by have := hz.out.1.size; exact (hz.out.1.alloc (by omega) _).trans (hb.mono (by simp; omega))⟩
    · have hix := ixE5 wr
      cases hb : hasB s ⟨#[101, 115]⟩
      · go_wp2_with (go_at_call 69; refine (suffix27 _ _ _ hs (by decide)).mono ?_; rintro e w' ⟨rfl, rfl⟩)
        go_roundw
        case rel => exact ⟨6, by omega, rfl, by go_num, by have := hz.out.1.size; exact hz.out.1.alloc (by omega) _, (stem_no hb).symm.trans hz.out.2⟩
        case measure => simp [intOf]
      · by_cases h3 : 2 + 3 ≤ s.size
        · have HS : Hid (s.extract 0 (s.size - 2) ++ ⟨#[101]⟩ = R) := (stem_yes (r := ⟨#[101]⟩) (t := endsT.drop 6) hb h3).symm.trans hz.out.2
          have h3' : (3 : Int) ≤ (s.size : Int) - 2 := by omega
          go_wp2_with (go_at_call 69; refine (suffix27 _ _ _ hs (by decide)).mono ?_; rintro e w' ⟨rfl, rfl⟩)
          go_region
          have HL : Hid (R.size ≤ 281474976710656) := by show _ ≤ _; rw [← HS.out]; have e : (⟨#[101]⟩ : ByteArray).size = 1 := rfl; simp only [ByteArray.size_append, ByteArray.size_extract, e]; omega
          go_wp2_with (go_at_call 70; rw [HS.out]; refine (clone28 _ _ HL.out).mono ?_; rintro e w' ⟨rfl, hb⟩)
          go_ret
          exact ⟨rfl, by have := hz.out.1.size; exact ((hz.out.1.alloc this _).drew).trans (hb.mono (by simp; omega))⟩
        · have HS : Hid (s = R) := (stem_short (r := ⟨#[101]⟩) (t := endsT.drop 6) hb h3).symm.trans hz.out.2
          have h3' : (s.size : Int) - 2 < 3 := by omega
          go_wp2_with (first | (go_at_call 69; refine (suffix27 _ _ _ hs (by decide)).mono ?_; rintro e w' ⟨rfl, rfl⟩) | (go_at_call 70; refine (clone28 _ _ (by omega)).mono ?_; rintro e w' ⟨rfl, hb⟩))
          go_ret
          rw [HS.out]
          exact ⟨rfl, by have := hz.out.1.size; exact (hz.out.1.alloc (by omega) _).trans (hb.mono (by simp; omega))⟩
    · have hix := ixE6 wr
      cases hb : hasB s ⟨#[115]⟩
      · go_wp2_with (go_at_call 69; refine (suffix27 _ _ _ hs (by decide)).mono ?_; rintro e w' ⟨rfl, rfl⟩)
        go_roundw
        case rel => exact ⟨7, by omega, rfl, by go_num, by have := hz.out.1.size; exact hz.out.1.alloc (by omega) _, (stem_no hb).symm.trans hz.out.2⟩
        case measure => simp [intOf]
      · by_cases h3 : 1 + 3 ≤ s.size
        · have HS : Hid (s.extract 0 (s.size - 1) ++ ⟨#[]⟩ = R) := (stem_yes (r := ⟨#[]⟩) (t := endsT.drop 7) hb h3).symm.trans hz.out.2
          have h3' : (3 : Int) ≤ (s.size : Int) - 1 := by omega
          go_wp2_with (go_at_call 69; refine (suffix27 _ _ _ hs (by decide)).mono ?_; rintro e w' ⟨rfl, rfl⟩)
          go_region
          have HL : Hid (R.size ≤ 281474976710656) := by show _ ≤ _; rw [← HS.out]; have e : (⟨#[]⟩ : ByteArray).size = 0 := rfl; simp only [ByteArray.size_append, ByteArray.size_extract, e]; omega
          go_wp2_with (go_at_call 70; rw [HS.out]; refine (clone28 _ _ HL.out).mono ?_; rintro e w' ⟨rfl, hb⟩)
          go_ret
          exact ⟨rfl, by have := hz.out.1.size; exact ((hz.out.1.alloc this _).drew).trans (hb.mono (by simp; omega))⟩
        · have HS : Hid (s = R) := (stem_short (r := ⟨#[]⟩) (t := endsT.drop 7) hb h3).symm.trans hz.out.2
          have h3' : (s.size : Int) - 1 < 3 := by omega
          go_wp2_with (first | (go_at_call 69; refine (suffix27 _ _ _ hs (by decide)).mono ?_; rintro e w' ⟨rfl, rfl⟩) | (go_at_call 70; refine (clone28 _ _ (by omega)).mono ?_; rintro e w' ⟨rfl, hb⟩))
          go_ret
          rw [HS.out]
          exact ⟨rfl, by have := hz.out.1.size; exact (hz.out.1.alloc (by omega) _).trans (hb.mono (by simp; omega))⟩
    · have HS : Hid (s = R) := hz.out.2
      go_wp2_with (go_at_call 70; refine (clone28 _ _ (by omega)).mono ?_; rintro e w' ⟨rfl, hb⟩)
      go_ret
      rw [HS.out]
      exact ⟨rfl, hz.out.1.trans (hb.mono hz.out.1.size)⟩

end Go.Proofs.YtabcficlnhajeaaGreatDoor
namespace Go.Proofs.YtabcficlnhajeaaGreatDoor
open Go.RowKit

theorem letters_as (s : ByteArray) (n : Nat) (hn : lead s.data.toList = n) (w : World) (hs : s.size ≤ 1000000) :
    Calls Tryz.prog 37 #[.string s] w fun e w' => e = .returned (.int .i64 n) ∧ w' = w := by
  rw [← hn]; exact letters_any s w hs
set_option maxRecDepth 100000 in
set_option maxHeartbeats 4000000 in
theorem split_any (s : ByteArray) (w : World) (hs : s.size ≤ 900000) (he : EndsAt w) :
    Calls Tryz.prog 17 #[.string s] w fun e w' => ∃ v, e = .returned v ∧ w'.ownsRow w.heap.size 9 1 v (wordsL s.data.toList).length (sc (wordsL s.data.toList)) ∧ Below w.heap.size w w' := by
  obtain ⟨i0, hi, hz0, hz1, hz2⟩ := info9
  have HW : Hid ((wordsL s.data.toList).length ≤ 900001 ∧ EndsAt w) := ⟨by have := words_length s.data.toList; rw [ba_len] at this; omega, he⟩
  clear he
  generalize hWs : wordsL s.data.toList = W at *
  have HS : Hid (wordsL s.data.toList = W) := hWs
  clear hWs
  go_enter Tryz.func17, Tryz.ntmps17
  go_wp2
  go_loopw [0, 3] (fun x v wr => ∃ (t : ByteArray) (ws : List ByteArray), t.size ≤ s.size ∧ x = .string t ∧ Hid (ws ++ wordsL t.data.toList = W) ∧ Hid (wr.ownsRow w.heap.size 9 1 v ws.length (sc ws) ∧ Below w.heap.size w wr)) (fun x _ _ => strLen x)
  case atStart => exact ⟨s, [], Nat.le_refl _, rfl, HS.out, World.ownsRow_nil w _ 9 1, Below.refl _ _⟩
  case round =>
    clear HS
    obtain ⟨t, ws, hts, rfl, hws, hown⟩ := hrel
    by_cases h0 : 0 < t.size
    · obtain ⟨n, hn⟩ : ∃ n, lead t.data.toList = n := ⟨_, rfl⟩
      have hle := lead_le t.data.toList
      rw [hn, ba_len] at hle
      have HN : Hid (lead t.data.toList = n) := hn
      have HD : Hid (wordsL (t.extract (min (n + 1) t.size) t.size).data.toList = wordsL (t.data.toList.drop (n + 1))) := by
        show _ = _
        rw [ba_extract, List.take_of_length_le (by rw [ba_len]; exact Nat.le_refl _)]
        have := drop_min t.data.toList (n + 1)
        rw [ba_len] at this
        rw [this]
      clear hn
      by_cases hn0 : n = 0
      · subst hn0
        have HX : Hid (ws ++ wordsL (t.extract (min (0 + 1) t.size) t.size).data.toList = W) := by
          show _ = _
          rw [HD.out, ← hws.out, words_step t.data.toList, HN.out]
          simp
        clear HD
        go_wp2_with (go_at_call 37; refine (letters_as _ 0 HN.out _ (by omega)).mono ?_; rintro e w' ⟨rfl, rfl⟩)
        go_roundw
        case rel =>
          have e : (min (1 : Int) (t.size : Int)).toNat = min (0 + 1) t.size := by omega
          exact ⟨_, ws, by simp; omega, rfl, by rw [e]; exact HX.out, hown.out⟩
        case measure => simp [strLen]; omega
      · have HX : Hid ((ws ++ [wordOf (t.data.toList.take n)]) ++ wordsL (t.extract (min (n + 1) t.size) t.size).data.toList = W) := by
          show _ = _
          rw [HD.out, ← hws.out, words_step t.data.toList, HN.out, if_neg hn0]
          simp
        have HL : Hid (ws.length ≤ 900001) := by
          show _ ≤ _
          have h1 := HW.out.1
          rw [← hws.out] at h1
          simp at h1
          omega
        clear HD
        have hn1 : (0 : Int) < (n : Int) := by omega
        have HQ : Hid (stemS (smallS (t.extract 0 (min (n : Int) 12).toNat)) = wordOf (t.data.toList.take n)) := by
          show _ = _
          rw [show (min (n : Int) 12).toNat = min n 12 by omega]
          exact word_prog t n
        have HB : Hid (Below w.heap.size w wr) := hown.out.2
        have HO : Hid (wr.ownsRow w.heap.size 9 1 u3 ws.length (sc ws)) := hown.out.1
        clear hown
        go_wp2_with fail
        refine (letters_as _ n HN.out _ (by omega)).mono ?_
        rintro _ wr ⟨rfl, rfl⟩
        go_wp2_with fail
        refine (small_any _ _ (by simp; omega)).mono ?_
        rintro _ w1 ⟨rfl, hb1⟩
        have HE : Hid (EndsAt w1) := (HW.out.2.below HB.out).below hb1
        go_wp2_with fail
        refine (stem_any _ _ (by rw [smallS_size]; simp; omega) HE.out).mono ?_
        rintro _ w2 ⟨rfl, hb2⟩
        rw [HQ.out]
        have HB2 : Hid (Below w.heap.size w w2) := (HB.out.trans (hb1.mono HB.out.size)).trans (hb2.mono (Nat.le_trans HB.out.size hb1.size))
        have HO2 : Hid (w2.ownsRow w.heap.size 9 1 u3 ws.length (sc ws)) := own_below (own_below HO.out hb1) hb2
        clear HB HO hb1 hb2 HE HQ
        obtain ⟨x, hx⟩ : ∃ x, wordOf (t.data.toList.take n) = x := ⟨_, rfl⟩
        rw [hx]
        have HX : Hid _ := HX.out
        rw [hx] at HX
        clear hx
        go_wp2_with (at_builtin; refine wpList_append_own _ rfl _ _ 59 rfl w.heap.size 9 i0 (.string ⟨#[]⟩) 1 16 Tryz.underlying59 hi hz0 hz1 hz2 rfl (by decide) _ _ _ rfl (HO2.out.alloc _) ⟨w2.heap.size, 0, none⟩ 1 1 [.string x] rfl rfl ?c1 ?c2 ?c3 ?c4 ?c5 ?_)
        case c1 => exact cell_one_new _ _ _
        case c2 => intro y hy; simp at hy; subst hy; rfl
        case c3 => have := HL.out; simp [maxLen]; omega
        case c4 => have := HL.out; omega
        case c5 => have := HB2.out.size; simp; omega
        · intro v' w3 hown' hgrow _
          have hbl' := HB2.out.size
          have HB3 : Hid (Below w.heap.size w w3) := (HB2.out.alloc (by omega) _).grown hgrow (by simp; omega) (fun g hg => (HO2.out.lt g hg).1)
          have HO3 : Hid (w3.ownsRow w.heap.size 9 1 v' (ws ++ [x]).length (sc (ws ++ [x]))) := own_eq hown' (by simp) (by simp [sc])
          clear HB2 HO2 hown' hgrow hbl'
          go_wp2
          go_roundw
          case rel =>
            have e : (min ((n : Int) + 1) (t.size : Int)).toNat = min (n + 1) t.size := by omega
            exact ⟨_, ws ++ [x], by simp; omega, rfl, by rw [e]; exact HX.out, HO3.out, HB3.out⟩
          case measure => simp [strLen]; omega
    · go_wp2
      go_ret
      obtain rfl : t = ⟨#[]⟩ := by
        cases t with
        | mk d =>
          have : d.size = 0 := Nat.eq_zero_of_not_pos h0
          simp [Array.size_eq_zero_iff.1 this]
      have e : ws = W := by have := hws.out; simpa [wordsL, runs] using this
      subst e
      exact ⟨_, rfl, hown.out.1, hown.out.2⟩

end Go.Proofs.YtabcficlnhajeaaGreatDoor
