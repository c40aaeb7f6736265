/- Part 1 of 30. -/
import Derived.Test.YtmabfbffpedfnaaGreatDoorRows
import Derived.WalkKit
import Derived.WalkSpells
import Derived.WalkLawsBesides
import Derived.BigQuiet
import Derived.Deep.DeepCutAuto
import Derived.Laws.AppendOwnNone
import Derived.Deep.RegionHeld3
import Derived.Laws.IdiomStrings
import Derived.Lib.Bytealg
import Derived.Lib.ParseIntB
import Derived.Deep.MidRow
namespace Go.Proofs.YtmabfbffpedfnaaGreatDoor
open Go.RowKit

theorem ret_int {k : IntKind} {a b : Int} (h : a = b) : Ending.returned (.int k a) = .returned (.int k b) := by rw [h]
theorem ret_bool {a b : Bool} (h : a = b) : Ending.returned (.bool a) = .returned (.bool b) := by rw [h]
theorem Tryz.own : ownKnob Tryz.prog.godebug = none := by kernel_rfl
theorem cells3 : Tryz.prog.cellsOf 3 = 1 := by kernel_rfl
theorem cells9 : Tryz.prog.cellsOf 9 = 1 := by kernel_rfl
theorem info_parts {P : Program} {t : TypeId} {z : Value} {n b : Nat} (h : (P.info? t).map (fun i => (i.zero, i.size, i.bytes)) = some (some z, n, b)) : ∃ i, P.info? t = some i ∧ i.zero = some z ∧ i.size = n ∧ i.bytes = b := by
  cases hi : P.info? t with
  | none => simp [hi] at h
  | some i => simp [hi] at h; exact ⟨i, rfl, h.1, h.2.1, h.2.2⟩

end Go.Proofs.YtmabfbffpedfnaaGreatDoor
namespace Go.Proofs.YtmabfbffpedfnaaGreatDoor
open Go.RowKit

/-- a byte, in small -/
def lown (x : Nat) : Nat := if 65 ≤ x ∧ x ≤ 90 then x + 32 else x
theorem lown_lt (c : UInt8) : lown c.toNat < 256 := by
  have := c.toNat_lt
  unfold lown
  split <;> omega
def low (c : UInt8) : UInt8 := UInt8.ofNat (lown c.toNat)
theorem low_nat (c : UInt8) : (low c).toNat = lown c.toNat := by
  have := lown_lt c
  simp [low]
  omega
/-- a text, in small -/
def smallL (l : List UInt8) : List UInt8 := l.map low
def smallS (s : ByteArray) : ByteArray := ⟨(smallL s.data.toList).toArray⟩
/-- bytes in a block: those ahead of k as l has them, the others as m -/
structure Half (B n k : Nat) (l m : Nat → Nat) (w : World) : Prop where
  cell : ∀ j, j < n → w.cell? ⟨B, j, none⟩ = some (.int .u8 ((if j < k then l j else m j : Nat) : Int))
  free : ∀ j, j < n → w.frozen? ⟨B, j, none⟩ = false
theorem Half.set {B n k : Nat} {l m : Nat → Nat} {w : World} (h : Half B n k l m w) (hk : k < n) (x : Int) (hx : x = (l k : Int)) : Half B n (k + 1) l m (w.setCell ⟨B, k, none⟩ (.int .u8 x)) := by
  subst hx
  refine ⟨fun j hj => ?_, fun j hj => by rw [World.frozen?_setCell]; exact h.free j hj⟩
  by_cases e : j = k
  · subst e
    rw [World.cell?_setCell_same _ _ _ (h.cell j hj)]
    simp
  · rw [World.cell?_setCell_other _ _ _ _ (fun q => e (by cases q; rfl)), h.cell j hj]
    have : (j < k + 1) = (j < k) := by simp; omega
    simp only [this]
theorem Half.keep {B n k : Nat} {l m : Nat → Nat} {w : World} (h : Half B n k l m w) (hk : k < n) (hx : l k = m k) : Half B n (k + 1) l m w := by
  refine ⟨fun j hj => ?_, h.free⟩
  rw [h.cell j hj]
  by_cases e : j = k
  · subst e; simp [hx]
  · have : (j < k + 1) = (j < k) := by simp; omega
    simp only [this]
def bt (s : ByteArray) (j : Nat) : Nat := if h : j < s.size then s[j].toNat else 0
theorem bt_at (s : ByteArray) (j : Nat) (h : j < s.size) : bt s j = s[j].toNat := by simp [bt, h]
theorem bt_lt (s : ByteArray) (j : Nat) : bt s j < 256 := by
  unfold bt
  split
  · exact UInt8.toNat_lt _
  · omega
theorem small_text (s : ByteArray) (j : Nat) (hj : j < (smallL s.data.toList).length) : ((smallL s.data.toList)[j]).toNat = lown (bt s j) := by
  have hj' : j < s.data.size := by simpa [smallL] using hj
  rw [bt_at s j hj']
  simp [smallL, low_nat]
  rfl
theorem small_len (s : ByteArray) : (smallL s.data.toList).length = s.size := by simp [smallL]
theorem ba_ext {a b : ByteArray} (h : a.data.toList = b.data.toList) : a = b := by
  cases a; cases b; simp at h; simp [h]
theorem ba_extract (s : ByteArray) (a b : Nat) : (s.extract a b).data.toList = (s.data.toList.take b).drop a := by
  rw [ByteArray.data_extract, Array.toList_extract, List.extract_eq_take_drop, List.drop_take]
theorem ba_len (s : ByteArray) : s.data.toList.length = s.size := by simp
/-- texts, as cells -/
def sc (l : List ByteArray) : List Value := l.map Value.string
/-- texts in a row -/
def RowS (w : World) (a : Option Addr) (len : Nat) (xs : List ByteArray) : Prop :=
  len = xs.length ∧ xs.length ≤ 1000000 ∧ (xs = [] ∨ ∃ b off, a = some ⟨b, off, none⟩ ∧ b < w.heap.size ∧ ∀ i (h : i < xs.length), w.cell? ⟨b, off + i, none⟩ = some (.string xs[i]))
theorem RowS.below {w w' : World} {a : Option Addr} {len : Nat} {xs : List ByteArray} (h : RowS w a len xs) (hb : Below w.heap.size w w') : RowS w' a len xs := by
  obtain ⟨h1, h2, h3⟩ := h
  refine ⟨h1, h2, ?_⟩
  rcases h3 with h3 | ⟨b, off, e, hlt, hc⟩
  · exact .inl h3
  · exact .inr ⟨b, off, e, Nat.lt_of_lt_of_le hlt hb.size, fun i hi => by rw [hb.cell (p := ⟨b, _, none⟩) hlt]; exact hc i hi⟩
theorem own_eq {w : World} {B : Nat} {t : TypeId} {z : Nat} {v : Value} {n n' : Nat} {xs xs' : List Value} (h : w.ownsRow B t z v n xs) (hn : n = n') (hx : xs = xs') : w.ownsRow B t z v n' xs' := by rw [← hn, ← hx]; exact h
theorem own_below {w w' : World} {B : Nat} {t : TypeId} {z : Nat} {v : Value} {n : Nat} {xs : List Value} (h : w.ownsRow B t z v n xs) (hb : Below w.heap.size w w') : w'.ownsRow B t z v n xs := by
  refine ⟨h.1, ?_⟩
  rcases h.2 with h2 | ⟨g, cap, cur, h1, h2, h3, h4⟩
  · exact .inl h2
  · exact .inr ⟨g, cap, cur, h1, h2, by rw [hb.block g (Array.getElem?_eq_some_iff.1 h3).1]; exact h3, h4⟩
theorem drop_at (s : ByteArray) (k : Nat) (h : k < s.size) : s.data.toList.drop k = s[k] :: s.data.toList.drop (k + 1) := by
  rw [List.drop_eq_getElem_cons (by simpa using h)]
  simp
  rfl

end Go.Proofs.YtmabfbffpedfnaaGreatDoor
namespace Go.Proofs.YtmabfbffpedfnaaGreatDoor
open Go.RowKit

/-- a token: its kind, what it says, where it stands -/
structure Tok where
  k : Int
  t : ByteArray
  p : Nat
def alphaN (x : Nat) : Bool := decide (97 ≤ x) && decide (x ≤ 122) || decide (65 ≤ x) && decide (x ≤ 90) || decide (x = 95)
def digN (x : Nat) : Bool := decide (48 ≤ x) && decide (x ≤ 57)
def isAl (c : UInt8) : Bool := alphaN c.toNat
def isDg (c : UInt8) : Bool := digN c.toNat
def wordC (c : UInt8) : Bool := isAl c || isDg c
def blankC (c : UInt8) : Bool := decide (c.toNat = 32) || decide (c.toNat = 9) || decide (c.toNat = 13) || decide (c.toNat = 10)
def markC (c : UInt8) : Bool := decide (0 ≤ Lib.indexByte [60, 62, 61, 43, 45, 42, 40, 41, 44, 46, 59] c)
/-- two marks that are one -/
def twoC (c d : UInt8) : Bool := decide (c.toNat = 60 ∧ d.toNat = 62) || decide (c.toNat = 60 ∧ d.toNat = 61) || decide (c.toNat = 62 ∧ d.toNat = 61)
/-- what stands behind a quote: what it says, and how long it is, with the quote that ends it -/
def strL : List UInt8 → Option (List UInt8 × Nat)
  | [] => none
  | [c] => if c.toNat = 39 then some ([], 1) else none
  | c :: d :: r => if c.toNat = 39 then (if d.toNat = 39 then (strL r).map (fun x => (d :: x.1, x.2 + 2)) else some ([], 1)) else (strL (d :: r)).map (fun x => (c :: x.1, x.2 + 1))
def markT (c : UInt8) : List UInt8 → Int × List UInt8 × Nat
  | d :: _ => if twoC c d then (4, [c, d], 2) else (4, [c], 1)
  | [] => (4, [c], 1)
/-- the token that stands there: its kind, what it says, how long it is -/
def nextT : List UInt8 → Option (Int × List UInt8 × Nat)
  | [] => none
  | c :: l =>
    if isAl c then some (1, smallL (c :: l.takeWhile wordC), (l.takeWhile wordC).length + 1)
    else if isDg c then some (2, c :: l.takeWhile isDg, (l.takeWhile isDg).length + 1)
    else if c.toNat = 39 then (strL l).map fun x => (3, x.1, x.2 + 1)
    else if markC c then some (markT c l)
    else none
def lexL : Nat → Nat → Nat → List UInt8 → Except (Int × Nat) (List Tok)
  | 0, i, _, _ => .ok [⟨5, ⟨#[]⟩, i⟩]
  | _ + 1, i, _, [] => .ok [⟨5, ⟨#[]⟩, i⟩]
  | f + 1, i, n, c :: l =>
    if blankC c then lexL f (i + 1) n l
    else match nextT (c :: l) with
      | none => .error (3, i)
      | some (k, t, m) => if (k = 2 ∧ 19 < m) ∨ n = 200 then .error (4, i) else (lexL f (i + m) (n + 1) ((c :: l).drop m)).map (⟨k, ⟨t.toArray⟩, i⟩ :: ·)

theorem strL_pos (l : List UInt8) : ∀ x, strL l = some x → 0 < x.2 ∧ x.2 ≤ l.length ∧ x.1.length ≤ l.length := by
  induction l using strL.induct with
  | case1 => intro x h; cases h
  | case2 c h => intro x hx; rw [strL, if_pos h] at hx; cases hx; exact ⟨by decide, by simp, by simp⟩
  | case3 c h => intro x hx; rw [strL, if_neg h] at hx; cases hx
  | case4 c d r h1 h2 ih =>
    intro x hx
    rw [strL, if_pos h1, if_pos h2, Option.map_eq_some_iff] at hx
    obtain ⟨y, hy, rfl⟩ := hx
    have := ih y hy
    simp only [List.length_cons]
    omega
  | case5 c d r h1 h2 => intro x hx; rw [strL, if_pos h1, if_neg h2] at hx; cases hx; exact ⟨by decide, by simp, by simp⟩
  | case6 c d r h1 ih =>
    intro x hx
    rw [strL, if_neg h1, Option.map_eq_some_iff] at hx
    obtain ⟨y, hy, rfl⟩ := hx
    have := ih y hy
    simp only [List.length_cons] at this ⊢
    omega
theorem nextT_pos {l : List UInt8} {k : Int} {t : List UInt8} {m : Nat} (h : nextT l = some (k, t, m)) : 0 < m ∧ m ≤ l.length ∧ t.length ≤ l.length := by
  cases l with
  | nil => cases h
  | cons c l =>
    rw [nextT] at h
    split at h
    · cases h
      have := (List.takeWhile_sublist wordC (l := l)).length_le
      refine ⟨by omega, by simp only [List.length_cons]; omega, ?_⟩
      simp only [smallL, List.length_map, List.length_cons]
      omega
    · split at h
      · cases h
        have := (List.takeWhile_sublist isDg (l := l)).length_le
        refine ⟨by omega, by simp only [List.length_cons]; omega, by simp only [List.length_cons]; omega⟩
      · split at h
        · rw [Option.map_eq_some_iff] at h
          obtain ⟨x, hx, e⟩ := h
          cases e
          have := strL_pos l x hx
          simp only [List.length_cons]
          omega
        · split at h
          · have e := Option.some.inj h
            cases l with
            | nil => rw [markT] at e; cases e; simp
            | cons d r =>
              rw [markT] at e
              split at e
              · cases e; simp
              · cases e; simp
          · cases h
theorem lexL_fuel (f : Nat) : ∀ g i n l, l.length ≤ f → l.length ≤ g → lexL f i n l = lexL g i n l := by
  induction f with
  | zero =>
    intro g i n l h1 h2
    obtain rfl : l = [] := List.length_eq_zero_iff.1 (by omega)
    cases g <;> rfl
  | succ f ih =>
    intro g i n l h1 h2
    cases l with
    | nil => cases g <;> rfl
    | cons c l =>
      cases g with
      | zero => simp at h2
      | succ g =>
        simp only [List.length_cons] at h1 h2
        rw [lexL, lexL]
        split
        · exact ih g _ _ _ (by omega) (by omega)
        · split
          · rfl
          · rename_i k t m hm
            have := nextT_pos hm
            rw [ih g (i + m) (n + 1) ((c :: l).drop m) (by rw [List.length_drop, List.length_cons]; omega) (by rw [List.length_drop, List.length_cons]; omega)]
/-- the tokens of a text -/
def lexS (s : ByteArray) : Except (Int × Nat) (List Tok) := lexL s.size 0 0 s.data.toList
/-- tokens, as cells -/
def tc (l : List Tok) : List Value := l.flatMap fun x => [.int .i64 x.k, .string x.t, .int .i64 x.p]
theorem tc_append (a b : List Tok) : tc (a ++ b) = tc a ++ tc b := by simp [tc]
end Go.Proofs.YtmabfbffpedfnaaGreatDoor
namespace Go.Proofs.YtmabfbffpedfnaaGreatDoor
open Go.RowKit

/-- a value -/
structure Vl where
  k : Int
  n : Int
  t : ByteArray
def Vl.none : Vl := ⟨0, 0, ⟨#[]⟩⟩
/-- an expression -/
inductive Ex where
  | nil : Ex
  | node (c : Int) (v : Vl) (nm : ByteArray) (l r : Ex) : Ex
def Ex.two (c : Int) (l r : Ex) : Ex := .node c .none ⟨#[]⟩ l r
def Ex.code : Ex → Int
  | .nil => 0
  | .node c _ _ _ _ => c
/-- a token: its kind, what it says -/
abbrev KT := Int × ByteArray
def Tok.kt (x : Tok) : KT := (x.k, x.t)
/-- what reads: what it makes of tokens, and what is left; or nothing -/
abbrev Rf (α : Type) := List KT → Option (α × List KT)
def hdT (l : List KT) : KT := l.headD (5, ⟨#[]⟩)
def isT (s : ByteArray) (l : List KT) : Bool := (decide ((hdT l).1 = 1) || decide ((hdT l).1 = 4)) && decide ((hdT l).2 = s)
def needF (s : ByteArray) (l : List KT) : Option (List KT) := if isT s l then some l.tail else none
def keepL : List ByteArray := [⟨#[97, 110, 100]⟩, ⟨#[97, 115, 99]⟩, ⟨#[98, 101, 103, 105, 110]⟩, ⟨#[98, 121]⟩, ⟨#[99, 111, 109, 109, 105, 116]⟩, ⟨#[99, 111, 117, 110, 116]⟩, ⟨#[99, 114, 101, 97, 116, 101]⟩, ⟨#[100, 101, 108, 101, 116, 101]⟩, ⟨#[100, 101, 115, 99]⟩, ⟨#[100, 114, 111, 112]⟩, ⟨#[102, 114, 111, 109]⟩, ⟨#[103, 114, 111, 117, 112]⟩, ⟨#[105, 110]⟩, ⟨#[105, 110, 100, 101, 120]⟩, ⟨#[105, 110, 115, 101, 114, 116]⟩, ⟨#[105, 110, 116]⟩, ⟨#[105, 110, 116, 111]⟩, ⟨#[105, 115]⟩, ⟨#[106, 111, 105, 110]⟩, ⟨#[108, 105, 109, 105, 116]⟩, ⟨#[109, 97, 116, 99, 104]⟩, ⟨#[109, 97, 120]⟩, ⟨#[109, 105, 110]⟩, ⟨#[110, 111, 116]⟩, ⟨#[110, 117, 108, 108]⟩, ⟨#[111, 110]⟩, ⟨#[111, 114]⟩, ⟨#[111, 114, 100, 101, 114]⟩, ⟨#[114, 97, 110, 107]⟩, ⟨#[114, 111, 108, 108, 98, 97, 99, 107]⟩, ⟨#[115, 101, 108, 101, 99, 116]⟩, ⟨#[115, 101, 116]⟩, ⟨#[115, 117, 109]⟩, ⟨#[116, 97, 98, 108, 101]⟩, ⟨#[116, 101, 120, 116]⟩, ⟨#[117, 112, 100, 97, 116, 101]⟩, ⟨#[118, 97, 108, 117, 101, 115]⟩, ⟨#[119, 104, 101, 114, 101]⟩, ⟨#[119, 111, 114, 100, 115]⟩]
def keepB (s : ByteArray) : Bool := keepL.any fun k => decide (k = s)
def nameB (l : List KT) : Bool := decide ((hdT l).1 = 1) && !keepB (hdT l).2
def nameF : Rf ByteArray := fun l => if nameB l = true ∧ (hdT l).2.size ≤ 16 then some ((hdT l).2, l.tail) else none
def numF : Rf Vl := fun l => match Lib.parseIntB 64 (hdT l).2.data.toList with | .ok n => some (⟨1, n, ⟨#[]⟩⟩, l.tail) | _ => none
def rightT (s : ByteArray) : Bool := decide (s.size ≤ 40) && s.data.toList.all (fun c => decide (c.toNat ≠ 0))
def textF : Rf Vl := fun l => if (hdT l).1 = 3 ∧ rightT (hdT l).2 = true then some (⟨2, 0, (hdT l).2⟩, l.tail) else none

def chainL (B : Rf Ex) (sg : List (ByteArray × Int)) : Nat → Ex → Rf Ex
  | 0, e, l => some (e, l)
  | f + 1, e, l => match sg.find? (fun s => isT s.1 l) with
    | none => some (e, l)
    | some s => (B l.tail).bind fun x => chainL B sg f (.two s.2 e x.1) x.2
def chainF (B : Rf Ex) (sg : List (ByteArray × Int)) : Rf Ex := fun l => (B l).bind fun x => chainL B sg x.2.length x.1 x.2
def orS : List (ByteArray × Int) := [(⟨#[111, 114]⟩, 16)]
def andS : List (ByteArray × Int) := [(⟨#[97, 110, 100]⟩, 15)]
def cmpS : List (ByteArray × Int) := [(⟨#[61]⟩, 9), (⟨#[60, 62]⟩, 10), (⟨#[60]⟩, 11), (⟨#[60, 61]⟩, 12), (⟨#[62]⟩, 13), (⟨#[62, 61]⟩, 14)]
def sumS : List (ByteArray × Int) := [(⟨#[43]⟩, 6), (⟨#[45]⟩, 7)]
def mulS : List (ByteArray × Int) := [(⟨#[42]⟩, 8)]
def prodF (M : Rf Ex) : Rf Ex := chainF M mulS
def sumF (M : Rf Ex) : Rf Ex := chainF (prodF M) sumS
def bothF (N : Rf Ex) : Rf Ex := chainF N andS
def exprF (N : Rf Ex) : Rf Ex := chainF (bothF N) orS
def nullF (e : Ex) : Rf Ex := fun l =>
  if isT ⟨#[110, 111, 116]⟩ l then (needF ⟨#[110, 117, 108, 108]⟩ l.tail).map fun l2 => (.two 4 (.two 5 e .nil) .nil, l2) else (needF ⟨#[110, 117, 108, 108]⟩ l).map fun l2 => (.two 5 e .nil, l2)
def askR (S : Rf Ex) (e : Ex) : Rf Ex := fun l =>
  match cmpS.find? (fun s => isT s.1 l) with
  | some s => (S l.tail).map fun x => (.two s.2 e x.1, x.2)
  | none => if isT ⟨#[105, 115]⟩ l then nullF e l.tail else if e.code = 2 ∧ isT ⟨#[109, 97, 116, 99, 104]⟩ l = true then (textF l.tail).map fun x => (.node 17 x.1 ⟨#[]⟩ e .nil, x.2) else some (e, l)
def askF (S : Rf Ex) : Rf Ex := fun l => (S l).bind fun x => askR S x.1 x.2
def notF (N A : Rf Ex) : Rf Ex := fun l => if isT ⟨#[110, 111, 116]⟩ l then (N l.tail).map fun x => (.two 4 x.1 .nil, x.2) else A l
def colF : Rf Ex := fun l => (nameF l).bind fun x =>
  if isT ⟨#[46]⟩ x.2 then (nameF x.2.tail).map fun y => (.node 2 .none (x.1 ++ (⟨#[46]⟩ ++ y.1)) .nil .nil, y.2) else some (.node 2 .none x.1 .nil .nil, x.2)
def oneF (E : Rf Ex) : Rf Ex := fun l =>
  if (hdT l).1 = 2 then (numF l).map fun x => (.node 1 x.1 ⟨#[]⟩ .nil .nil, x.2)
  else if (hdT l).1 = 3 then (textF l).map fun x => (.node 1 x.1 ⟨#[]⟩ .nil .nil, x.2)
  else if isT ⟨#[110, 117, 108, 108]⟩ l then some (.node 1 .none ⟨#[]⟩ .nil .nil, l.tail)
  else if isT ⟨#[40]⟩ l then (E l.tail).bind fun x => (needF ⟨#[41]⟩ x.2).map fun l2 => (x.1, l2)
  else colF l
def minusF (M O : Rf Ex) : Rf Ex := fun l => if isT ⟨#[45]⟩ l then (M l.tail).map fun x => (.two 3 x.1 .nil, x.2) else O l
/-- the three that know how deep they stand -/
structure Lv where
  E : Rf Ex
  N : Rf Ex
  M : Rf Ex
def lev : Nat → Lv
  | 0 => ⟨fun _ => none, fun _ => none, fun _ => none⟩
  | d + 1 =>
    let M := minusF (lev d).M (oneF (lev d).E)
    let N := notF (lev d).N (askF (sumF M))
    ⟨exprF N, N, M⟩
/-- an expression that stands in nothing -/
def Ef : Rf Ex := (lev 13).E

/-- digits, not too many -/
def digsB (s : ByteArray) : Bool := decide (0 < s.size) && decide (s.size ≤ 19) && s.data.toList.all isDg
/-- tokens that have their End -/
def OkT (l : List KT) : Prop := (∃ C, l = C ++ [(5, ⟨#[]⟩)] ∧ ∀ x ∈ C, x.1 ≠ 5 ∧ x.2.size ≤ 4000 ∧ (x.1 = 2 → digsB x.2 = true)) ∧ l.length ≤ 300
theorem OkT.cons {l : List KT} (h : OkT l) : l = hdT l :: l.tail := by
  obtain ⟨⟨C, h1, _⟩, _⟩ := h
  unfold hdT
  rw [h1]
  cases C <;> rfl
theorem OkT.size {l : List KT} (h : OkT l) : (hdT l).2.size ≤ 4000 := by
  obtain ⟨⟨C, h1, h2⟩, _⟩ := h
  unfold hdT
  rw [h1]
  cases C with
  | nil => exact Nat.zero_le _
  | cons x C => exact (h2 x (by simp)).2.1
theorem OkT.digs {l : List KT} (h : OkT l) (hk : (hdT l).1 = 2) : digsB (hdT l).2 = true := by
  obtain ⟨⟨C, h1, h2⟩, _⟩ := h
  unfold hdT at hk ⊢
  rw [h1] at hk ⊢
  cases C with
  | nil => exact absurd hk (by decide)
  | cons x C => exact (h2 x (by simp)).2.2 hk
theorem OkT.adv {l : List KT} (h : OkT l) (hk : (hdT l).1 ≠ 5) : OkT l.tail := by
  obtain ⟨⟨C, h1, h2⟩, h3⟩ := h
  unfold hdT at hk
  rw [h1] at hk
  cases C with
  | nil => exact absurd rfl hk
  | cons x C =>
    refine ⟨⟨C, by rw [h1]; rfl, fun y hy => h2 y (by simp [hy])⟩, ?_⟩
    rw [List.length_tail]
    omega
theorem OkT.two {l : List KT} (h : OkT l) (hk : (hdT l).1 ≠ 5) : 2 ≤ l.length := by
  obtain ⟨⟨C, h1, _⟩, _⟩ := h
  unfold hdT at hk
  rw [h1] at hk ⊢
  cases C with
  | nil => exact absurd rfl hk
  | cons x C => rw [List.length_append, List.length_cons]; simp
theorem isT_k {s : ByteArray} {l : List KT} (h : isT s l = true) : ((hdT l).1 = 1 ∨ (hdT l).1 = 4) ∧ (hdT l).2 = s := by
  simpa [isT] using h
theorem isT_ne {s : ByteArray} {l : List KT} (h : isT s l = true) : (hdT l).1 ≠ 5 := by have := (isT_k h).1; omega
theorem OkT.seen {l : List KT} (h : OkT l) {s : ByteArray} (hs : isT s l = true) : OkT l.tail := h.adv (isT_ne hs)
/-- what reads leaves tokens that have their End, and no more than there were -/
def Reads {α : Type} (F : Rf α) : Prop := ∀ l, OkT l → ∀ x, F l = some x → OkT x.2 ∧ x.2.length ≤ l.length
theorem tail_le {α : Type} (l : List α) : l.tail.length ≤ l.length := by rw [List.length_tail]; omega
theorem need_reads {s : ByteArray} {l l2 : List KT} (h : OkT l) (he : needF s l = some l2) : OkT l2 ∧ l2.length ≤ l.length := by
  unfold needF at he
  split at he
  · rename_i hs; cases he; exact ⟨h.seen hs, tail_le l⟩
  · cases he
theorem name_reads : Reads nameF := fun l h x he => by
  unfold nameF at he
  split at he
  · rename_i hs
    cases he
    refine ⟨h.adv ?_, tail_le l⟩
    have := hs.1
    simp only [nameB, Bool.and_eq_true, decide_eq_true_eq] at this
    omega
  · cases he
theorem num_reads {l : List KT} (h : OkT l) (hk : (hdT l).1 = 2) {x : Vl × List KT} (he : numF l = some x) : OkT x.2 ∧ x.2.length ≤ l.length := by
  unfold numF at he
  split at he
  · cases he; exact ⟨h.adv (by omega), tail_le l⟩
  · cases he
theorem text_reads : Reads textF := fun l h x he => by
  unfold textF at he
  split at he
  · rename_i hs; cases he; exact ⟨h.adv (by omega), tail_le l⟩
  · cases he
theorem find_is {sg : List (ByteArray × Int)} {l : List KT} {s : ByteArray × Int} (h : sg.find? (fun s => isT s.1 l) = some s) : isT s.1 l = true := by
  have := List.find?_some h
  exact this
theorem chainL_reads {B : Rf Ex} (hB : Reads B) (sg : List (ByteArray × Int)) (f : Nat) : ∀ e, Reads (chainL B sg f e) := by
  induction f with
  | zero => intro e l h x he; cases he; exact ⟨h, Nat.le_refl _⟩
  | succ f ih =>
    intro e l h x he
    rw [chainL] at he
    split at he
    · cases he; exact ⟨h, Nat.le_refl _⟩
    · rename_i s hs
      obtain ⟨y, hy, he⟩ := Option.bind_eq_some_iff.1 he
      have h2 := hB _ (h.seen (find_is hs)) y hy
      have h3 := ih _ _ h2.1 x he
      exact ⟨h3.1, Nat.le_trans h3.2 (Nat.le_trans h2.2 (tail_le l))⟩
theorem chainF_reads {B : Rf Ex} (hB : Reads B) (sg : List (ByteArray × Int)) : Reads (chainF B sg) := fun l h x he => by
  obtain ⟨y, hy, he⟩ := Option.bind_eq_some_iff.1 he
  have h1 := hB l h y hy
  have h2 := chainL_reads hB sg _ _ _ h1.1 x he
  exact ⟨h2.1, Nat.le_trans h2.2 h1.2⟩
theorem prodF_reads {M : Rf Ex} (h : Reads M) : Reads (prodF M) := chainF_reads h _
theorem sumF_reads {M : Rf Ex} (h : Reads M) : Reads (sumF M) := chainF_reads (prodF_reads h) _
theorem bothF_reads {N : Rf Ex} (h : Reads N) : Reads (bothF N) := chainF_reads h _
theorem exprF_reads {N : Rf Ex} (h : Reads N) : Reads (exprF N) := chainF_reads (bothF_reads h) _
theorem nullF_reads (e : Ex) : Reads (nullF e) := fun l h x he => by
  unfold nullF at he
  split at he
  · rename_i hs
    obtain ⟨y, hy, rfl⟩ := Option.map_eq_some_iff.1 he
    have := need_reads (h.seen hs) hy
    exact ⟨this.1, Nat.le_trans this.2 (tail_le l)⟩
  · obtain ⟨y, hy, rfl⟩ := Option.map_eq_some_iff.1 he
    exact need_reads h hy
theorem askR_reads {S : Rf Ex} (hS : Reads S) (e : Ex) : Reads (askR S e) := fun l h x he => by
  unfold askR at he
  split at he
  · rename_i s hs
    obtain ⟨y, hy, rfl⟩ := Option.map_eq_some_iff.1 he
    have := hS _ (h.seen (find_is hs)) y hy
    exact ⟨this.1, Nat.le_trans this.2 (tail_le l)⟩
  · split at he
    · rename_i hs
      have := nullF_reads e _ (h.seen hs) x he
      exact ⟨this.1, Nat.le_trans this.2 (tail_le l)⟩
    · split at he
      · rename_i hs
        obtain ⟨y, hy, rfl⟩ := Option.map_eq_some_iff.1 he
        have := text_reads _ (h.seen hs.2) y hy
        exact ⟨this.1, Nat.le_trans this.2 (tail_le l)⟩
      · cases he; exact ⟨h, Nat.le_refl _⟩
theorem askF_reads {S : Rf Ex} (hS : Reads S) : Reads (askF S) := fun l h x he => by
  obtain ⟨y, hy, he⟩ := Option.bind_eq_some_iff.1 he
  have h1 := hS l h y hy
  have h2 := askR_reads hS _ _ h1.1 x he
  exact ⟨h2.1, Nat.le_trans h2.2 h1.2⟩
theorem notF_reads {N A : Rf Ex} (hN : Reads N) (hA : Reads A) : Reads (notF N A) := fun l h x he => by
  unfold notF at he
  split at he
  · rename_i hs
    obtain ⟨y, hy, rfl⟩ := Option.map_eq_some_iff.1 he
    have := hN _ (h.seen hs) y hy
    exact ⟨this.1, Nat.le_trans this.2 (tail_le l)⟩
  · exact hA l h x he
theorem colF_reads : Reads colF := fun l h x he => by
  obtain ⟨y, hy, he⟩ := Option.bind_eq_some_iff.1 he
  have h1 := name_reads l h y hy
  split at he
  · rename_i hs
    obtain ⟨z, hz, rfl⟩ := Option.map_eq_some_iff.1 he
    have := name_reads _ (h1.1.seen hs) z hz
    exact ⟨this.1, Nat.le_trans this.2 (Nat.le_trans (tail_le _) h1.2)⟩
  · cases he; exact h1
theorem oneF_reads {E : Rf Ex} (hE : Reads E) : Reads (oneF E) := fun l h x he => by
  unfold oneF at he
  split at he
  · rename_i hk
    obtain ⟨y, hy, rfl⟩ := Option.map_eq_some_iff.1 he
    exact num_reads h hk hy
  · split at he
    · obtain ⟨y, hy, rfl⟩ := Option.map_eq_some_iff.1 he
      exact text_reads l h y hy
    · split at he
      · rename_i hs; cases he; exact ⟨h.seen hs, tail_le l⟩
      · split at he
        · rename_i hs
          obtain ⟨y, hy, he⟩ := Option.bind_eq_some_iff.1 he
          obtain ⟨z, hz, rfl⟩ := Option.map_eq_some_iff.1 he
          have h1 := hE _ (h.seen hs) y hy
          have h2 := need_reads h1.1 hz
          exact ⟨h2.1, Nat.le_trans h2.2 (Nat.le_trans h1.2 (tail_le l))⟩
        · exact colF_reads l h x he
theorem minusF_reads {M O : Rf Ex} (hM : Reads M) (hO : Reads O) : Reads (minusF M O) := fun l h x he => by
  unfold minusF at he
  split at he
  · rename_i hs
    obtain ⟨y, hy, rfl⟩ := Option.map_eq_some_iff.1 he
    have := hM _ (h.seen hs) y hy
    exact ⟨this.1, Nat.le_trans this.2 (tail_le l)⟩
  · exact hO l h x he
theorem lev_reads (d : Nat) : Reads (lev d).E ∧ Reads (lev d).N ∧ Reads (lev d).M := by
  induction d with
  | zero => exact ⟨(fun _ _ _ h => by cases h), (fun _ _ _ h => by cases h), (fun _ _ _ h => by cases h)⟩
  | succ d ih =>
    have hM := minusF_reads ih.2.2 (oneF_reads ih.1)
    have hN := notF_reads ih.2.1 (askF_reads (sumF_reads hM))
    exact ⟨exprF_reads hN, hN, hM⟩
theorem Ef_reads : Reads Ef := (lev_reads 13).1
theorem chainL_fuel {B : Rf Ex} (hB : Reads B) (sg : List (ByteArray × Int)) (f : Nat) : ∀ g e l, OkT l → l.length ≤ f → l.length ≤ g → chainL B sg f e l = chainL B sg g e l := by
  induction f with
  | zero => intro g e l h h1 _; have := h.cons; rw [this] at h1; simp at h1
  | succ f ih =>
    intro g e l h h1 h2
    cases g with
    | zero => have := h.cons; rw [this] at h2; simp at h2
    | succ g =>
      rw [chainL, chainL]
      split
      · rfl
      · rename_i s hs
        cases hb : B l.tail with
        | none => rfl
        | some y =>
          have h3 := hB _ (h.seen (find_is hs)) y hb
          have h4 : l.tail.length + 1 = l.length := by rw [h.cons]; rfl
          exact ih g _ _ h3.1 (by omega) (by omega)
end Go.Proofs.YtmabfbffpedfnaaGreatDoor
namespace Go.Proofs.YtmabfbffpedfnaaGreatDoor
open Go.RowKit

/-- tokens in a row that lies below A -/
def RowK (A : Nat) (w : World) (a : Option Addr) (L : List Tok) : Prop :=
  L = [] ∨ ∃ b off, a = some ⟨b, off, none⟩ ∧ b < A ∧ ∀ j (h : j < L.length), w.cell? ⟨b, off + j * 3, none⟩ = some (.int .i64 L[j].k) ∧ w.cell? ⟨b, off + j * 3 + 1, none⟩ = some (.string L[j].t) ∧ w.cell? ⟨b, off + j * 3 + 2, none⟩ = some (.int .i64 (L[j].p : Int))
/-- the signs of two, with their codes and levels -/
def pairL : List (Int × ByteArray × Int) := [(16, ⟨#[111, 114]⟩, 1), (15, ⟨#[97, 110, 100]⟩, 2), (9, ⟨#[61]⟩, 4), (10, ⟨#[60, 62]⟩, 4), (11, ⟨#[60]⟩, 4), (12, ⟨#[60, 61]⟩, 4), (13, ⟨#[62]⟩, 4), (14, ⟨#[62, 61]⟩, 4), (6, ⟨#[43]⟩, 5), (7, ⟨#[45]⟩, 5), (8, ⟨#[42]⟩, 6)]
def nameCells : List Value := keepL.map .string
def pairCells : List Value := pairL.flatMap fun x => [.int .i64 x.1, .string x.2.1, .int .i64 x.2.2]
/-- the variables of the package and of the library, as they are laid -/
structure VrAt (w : World) : Prop where
  nm : w.rangeAt 2 0 nameCells
  pr : w.rangeAt 6 0 pairCells
  sy : ∃ v, w.cell? ⟨7, 0, none⟩ = some v ∧ (v = .nilIface ∨ ∃ t p, v = .iface t p)
  rg : ∃ v, w.cell? ⟨8, 0, none⟩ = some v ∧ (v = .nilIface ∨ ∃ t p, v = .iface t p)
theorem range_keep {w w' : World} {b : Nat} {cs : List Value} (h : w.rangeAt b 0 cs) (hk : ∀ o, w'.cell? ⟨b, o, none⟩ = w.cell? ⟨b, o, none⟩) : w'.rangeAt b 0 cs := fun i hi => by rw [hk]; exact h i hi
theorem VrAt.keep {w w' : World} (h : VrAt w) (hk : ∀ k, k < 12 → w'.heap[k]? = w.heap[k]?) : VrAt w' := by
  have key : ∀ b, b < 12 → ∀ o, w'.cell? ⟨b, o, none⟩ = w.cell? ⟨b, o, none⟩ := fun b hb o => World.cell?_of_block (w := w) (a := ⟨b, o, none⟩) (hk b hb)
  obtain ⟨v, a1, a2⟩ := h.sy
  obtain ⟨u, b1, b2⟩ := h.rg
  exact ⟨range_keep h.nm (fun o => key 2 (by decide) o), range_keep h.pr (fun o => key 6 (by decide) o), ⟨v, by rw [key _ (by decide)]; exact a1, a2⟩, u, by rw [key _ (by decide)]; exact b1, b2⟩
/-- block A is the reader: these tokens are left -/
structure RdIs (A : Nat) (l : List KT) (w : World) : Prop where
  row : ∃ L a c, L.map Tok.kt = l ∧ w.heap[A]? = some (.cells #[.slice a l.length c] 119 (0, 0)) ∧ RowK A w a L ∧ l.length ≤ c
  ok : OkT l
  vr : VrAt w
  lo : 12 ≤ A
theorem RdIs.lt {A : Nat} {l : List KT} {w : World} (h : RdIs A l w) : A < w.heap.size := by
  obtain ⟨L, a, c, _, h1, _⟩ := h.row
  exact (Array.getElem?_eq_some_iff.1 h1).1
theorem grownA_refl (w : World) (r : Option Nat) : w.grownBy w r := ⟨rfl, rfl, rfl, Nat.le_refl _, fun _ _ _ => rfl⟩
theorem grown_of_belowA {w w' : World} (h : Below w.heap.size w w') (row : Option Nat) : w.grownBy w' row := ⟨h.os, h.tape, h.output, h.size, fun k hk _ => h.block k hk⟩
theorem grownA_set (W : World) (b o : Nat) (v : Value) : W.grownBy (W.setCell ⟨b, o, none⟩ v) (some b) :=
  ⟨rfl, rfl, rfl, by simp [World.setCell], fun k _ hk => Below.heap_setCell W ⟨b, o, none⟩ v k (fun e => hk (by rw [e]))⟩
theorem grown_alloc (w : World) (o : Obj) (A : Option Nat) : w.grownBy (w.alloc o) A := grown_of_belowA ((Below.refl _ _).alloc (Nat.le_refl _) _) _
theorem grown_drew (w : World) (A : Option Nat) : w.grownBy w.drew A := grown_of_belowA (Below.refl _ _).drew _
theorem RowK.keep {A : Nat} {w w' : World} {a : Option Addr} {L : List Tok} (h : RowK A w a L) (hb : ∀ k, k < A → w'.heap[k]? = w.heap[k]?) : RowK A w' a L := by
  rcases h with h | ⟨b, off, e, hlt, hc⟩
  · exact .inl h
  · have key : ∀ o, w'.cell? ⟨b, o, none⟩ = w.cell? ⟨b, o, none⟩ := fun o => World.cell?_of_block (w := w) (a := ⟨b, o, none⟩) (hb b hlt)
    exact .inr ⟨b, off, e, hlt, fun i hi => by rw [key, key, key]; exact hc i hi⟩
theorem RdIs.keep {A : Nat} {l : List KT} {w w' : World} (h : RdIs A l w) (hk : ∀ k, k ≤ A → w'.heap[k]? = w.heap[k]?) : RdIs A l w' := by
  obtain ⟨L, a, c, h0, h1, h2, h3⟩ := h.row
  have hlo := h.lo
  exact ⟨⟨L, a, c, h0, by rw [hk A (Nat.le_refl _)]; exact h1, h2.keep (fun k hk' => hk k (by omega)), h3⟩, h.ok, h.vr.keep (fun k hk' => hk k (by omega)), h.lo⟩
theorem RdIs.below {A : Nat} {l : List KT} {w w' : World} (h : RdIs A l w) (hb : Below w.heap.size w w') : RdIs A l w' := h.keep fun k hk => hb.block k (by have := h.lt; omega)
theorem RdIs.set {A b : Nat} {l : List KT} {u : World} (hr : RdIs A l u) (hb : A < b) (o : Nat) (v : Value) : RdIs A l (u.setCell ⟨b, o, none⟩ v) :=
  hr.keep fun k hk => Below.heap_setCell u ⟨b, o, none⟩ v k (fun e => by simp only at e; omega)
/-- its first token -/
theorem RdIs.head {A : Nat} {l : List KT} {w : World} (h : RdIs A l w) : ∃ b off n c p, w.cell? ⟨A, 0, none⟩ = some (.slice (some ⟨b, off, none⟩) (n + 1) c) ∧ w.frozen? ⟨A, 0, none⟩ = false ∧ b < A ∧ n + 1 ≤ c ∧ l.length = n + 1 ∧ n ≤ 300 ∧ w.cell? ⟨b, off, none⟩ = some (.int .i64 (hdT l).1) ∧ w.cell? ⟨b, off + 1, none⟩ = some (.string (hdT l).2) ∧ w.cell? ⟨b, off + 2, none⟩ = some (.int .i64 p) := by
  obtain ⟨L, a, c, h0, h1, h2, h3⟩ := h.row
  have hc := h.ok.cons
  have hlen : l.length = l.tail.length + 1 := by rw [hc]; rfl
  cases L with
  | nil => rw [← h0] at hc; cases hc
  | cons x L =>
    rcases h2 with h2 | ⟨b, off, rfl, hb, hcl⟩
    · cases h2
    · have h4 := hcl 0 (by simp)
      rw [Nat.zero_mul, Nat.add_zero] at h4
      have e : hdT l = x.kt := by rw [← h0]; rfl
      have := h.ok.2
      refine ⟨b, off, l.tail.length, c, x.p, ?_, ?_, hb, by omega, hlen, by omega, ?_, ?_, h4.2.2⟩
      · rw [← hlen]; simp [World.cell?, h1]
      · simp [World.frozen?, h1]
      · rw [e]; exact h4.1
      · rw [e]; exact h4.2.1
/-- the first token is taken -/
theorem RdIs.tail {A : Nat} {l : List KT} {w : World} {b off n c : Nat} (h : RdIs A l w) (hc : w.cell? ⟨A, 0, none⟩ = some (.slice (some ⟨b, off, none⟩) (n + 1) c)) (hk : (hdT l).1 ≠ 5) (a' : Option Addr) (c' : Nat) (ha : a' = some ⟨b, off + 3, none⟩) (hc' : n ≤ c') :
    RdIs A l.tail (w.setCell ⟨A, 0, none⟩ (.slice a' n c')) := by
  obtain ⟨L, a, c0, h0, h1, h2, h3⟩ := h.row
  have hlen : l.length = l.tail.length + 1 := by rw [h.ok.cons]; rfl
  have hc2 : w.cell? ⟨A, 0, none⟩ = some (.slice a l.length c0) := by simp [World.cell?, h1]
  rw [hc2] at hc
  have e1 : a = some ⟨b, off, none⟩ := by injection hc with hc; injection hc
  have e2 : l.length = n + 1 := by injection hc with hc; injection hc
  subst e1
  have hlo := h.lo
  have hkeep : ∀ k, k < A → (w.setCell ⟨A, 0, none⟩ (.slice a' n c')).heap[k]? = w.heap[k]? := fun k hk => Below.heap_setCell w ⟨A, 0, none⟩ _ k (fun e => by simp only at e; omega)
  refine ⟨⟨L.tail, a', c', by rw [← h0, List.map_tail], ?_, ?_, by omega⟩, h.ok.adv hk, h.vr.keep (fun k hk => hkeep k (by omega)), h.lo⟩
  · rw [show l.tail.length = n by omega]
    simp [World.setCell, Array.getElem?_modify, h1]
  · cases L with
    | nil => exact .inl rfl
    | cons x L =>
      rcases h2 with h2 | ⟨b', off', e, hbA, hcell⟩
      · cases h2
      · cases e
        refine .inr ⟨b, off + 3, ha, hbA, fun i hi => ?_⟩
        have key : ∀ o, (w.setCell ⟨A, 0, none⟩ (.slice a' n c')).cell? ⟨b, o, none⟩ = w.cell? ⟨b, o, none⟩ := fun o => World.cell?_of_block (w := w) (a := ⟨b, o, none⟩) (hkeep b hbA)
        have h4 := hcell (i + 1) (by simpa using hi)
        rw [show off + (i + 1) * 3 = off + 3 + i * 3 by omega] at h4
        rw [key, key, key]
        exact h4
def lenCell : Option Value → Nat
  | some (.slice _ n _) => n
  | _ => 0
theorem RdIs.len {A : Nat} {l : List KT} {w : World} (h : RdIs A l w) : lenCell (w.cell? ⟨A, 0, none⟩) = l.length := by
  obtain ⟨L, a, c, _, h1, _⟩ := h.row
  simp [World.cell?, h1, lenCell]
/-- an expression in memory, behind A -/
def ExIs (A : Nat) (w : World) : Option Addr → Ex → Prop
  | p, .nil => p = none
  | p, .node c v nm l r => ∃ B pl pr, p = some ⟨B, 0, none⟩ ∧ A < B ∧ w.heap[B]? = some (.cells #[.int .i64 c, .int .i64 v.k, .int .i64 v.n, .string v.t, .string nm, .pointer pl, .pointer pr] 75 (0, 0)) ∧ ExIs A w pl l ∧ ExIs A w pr r
/-- all blocks but such are as they were -/
def Fr (X : Nat → Obj → Prop) (w w' : World) : Prop := ∀ (k : Nat) (o : Obj), w.heap[k]? = some o → ¬ X k o → w'.heap[k]? = some o
theorem Fr.refl (X : Nat → Obj → Prop) (w : World) : Fr X w w := fun _ _ h _ => h
theorem Fr.trans {X : Nat → Obj → Prop} {w w1 w2 : World} (h : Fr X w w1) (k : Fr X w1 w2) : Fr X w w2 := fun i o hi hx => k i o (h i o hi hx) hx
theorem Fr.mono {X Y : Nat → Obj → Prop} {w w' : World} (h : Fr X w w') (hXY : ∀ k o, X k o → Y k o) : Fr Y w w' := fun k o hk hy => h k o hk (fun hx => hy (hXY k o hx))
theorem Fr.of_below {X : Nat → Obj → Prop} {w w' : World} (h : Below w.heap.size w w') : Fr X w w' := fun k o hk _ => by
  rw [h.block k (Array.getElem?_eq_some_iff.1 hk).1]; exact hk
theorem Fr.of_grown {X : Nat → Obj → Prop} {w w' : World} {A : Nat} (hX : ∀ o, X A o) (h : w.grownBy w' (some A)) : Fr X w w' := fun k o hk hx => by
  rw [h.block k (Array.getElem?_eq_some_iff.1 hk).1 (fun e => by cases e; exact hx (hX o))]; exact hk
theorem Fr.set {X : Nat → Obj → Prop} {w : World} {b : Nat} (hX : ∀ o, X b o) (i : Nat) (v : Value) : Fr X w (w.setCell ⟨b, i, none⟩ v) := fun k o hk hx => by
  rw [Below.heap_setCell w ⟨b, i, none⟩ v k (fun e => by simp only at e; subst e; exact hx (hX o))]; exact hk
theorem ExIs.fr {A : Nat} {X : Nat → Obj → Prop} {w w' : World} (h : Fr X w w') (hX : ∀ k cs fz, A < k → w.heap[k]? = some (.cells cs 75 fz) → ¬ X k (.cells cs 75 fz)) (q : Ex) : ∀ {p : Option Addr}, ExIs A w p q → ExIs A w' p q := by
  induction q with
  | nil => intro p h; exact h
  | node c v nm a b ha hb =>
    intro p hq
    obtain ⟨B, pa, pb, e, h1, h3, qa, qb⟩ := hq
    exact ⟨B, pa, pb, e, h1, h B _ h3 (hX B _ _ h1 h3), ha qa, hb qb⟩
theorem ExIs.grownN {A n : Nat} {w w' : World} (hn : A ≤ n) (hg : w.grownBy w' (some A)) {q : Ex} {p : Option Addr} (h : ExIs n w p q) : ExIs n w' p q :=
  ExIs.fr (X := fun k _ => k = A) (Fr.of_grown (fun _ => rfl) hg) (fun k _ _ hk _ e => by omega) q h
theorem ExIs.mono {n m : Nat} {w : World} (hm : m ≤ n) {q : Ex} : ∀ {p : Option Addr}, ExIs n w p q → ExIs m w p q := by
  induction q with
  | nil => intro p h; exact h
  | node c v nm a b ha hb =>
    intro p h
    obtain ⟨B, pa, pb, e, h1, hc, qa, qb⟩ := h
    exact ⟨B, pa, pb, e, by omega, hc, ha qa, hb qb⟩
theorem ExIs.below {A : Nat} {w w' : World} (hb : Below w.heap.size w w') {q : Ex} {p : Option Addr} (h : ExIs A w p q) : ExIs A w' p q :=
  ExIs.fr (X := fun _ _ => False) (Fr.of_below hb) (fun _ _ _ _ _ e => e) q h
theorem ExIs.box {A : Nat} {w : World} (hA : A < w.heap.size) (c : Int) (v : Vl) (nm : ByteArray) (pl pr : Option Addr) (l r : Ex) (hl : ExIs A w pl l) (hr : ExIs A w pr r) :
    ExIs A (w.alloc (.cells #[.int .i64 c, .int .i64 v.k, .int .i64 v.n, .string v.t, .string nm, .pointer pl, .pointer pr] 75)) (some ⟨w.heap.size, 0, none⟩) (.node c v nm l r) := by
  have hb : Below w.heap.size w (w.alloc (.cells #[.int .i64 c, .int .i64 v.k, .int .i64 v.n, .string v.t, .string nm, .pointer pl, .pointer pr] 75)) := (Below.refl _ _).alloc (Nat.le_refl _) _
  exact ⟨w.heap.size, pl, pr, rfl, hA, heap_alloc_new _ _, hl.below hb, hr.below hb⟩
theorem exNil (A : Nat) (w : World) : ExIs A w none .nil := rfl
/-- what is thrown -/
def Thr (e : Ending) : Prop := ∃ n p : Int, e = .panicked [{ v := .iface 115 (.agg #[.int .i64 n, .int .i64 p]), recovered := false }]
/-- what a reading function tells -/
def Told (A : Nat) (R : Option (Ex × List KT)) (w : World) (e : Ending) (w' : World) : Prop :=
  w.grownBy w' (some A) ∧ ((∃ x l p, R = some (x, l) ∧ e = .returned (.pointer p) ∧ ExIs (w.heap.size - 1) w' p x ∧ RdIs A l w') ∨ (R = none ∧ Thr e))
theorem Told.from {A : Nat} {R : Option (Ex × List KT)} {w W w' : World} {e : Ending} (h : Told A R W e w') (hg : w.grownBy W (some A)) : Told A R w e w' := by
  obtain ⟨h1, h2⟩ := h
  refine ⟨hg.trans h1, ?_⟩
  rcases h2 with ⟨x, l, p, a, b, c, d⟩ | h2
  · exact .inl ⟨x, l, p, a, b, c.mono (by have := hg.size; omega), d⟩
  · exact .inr h2
/-- a new box over what was read -/
theorem box_told {A q0 : Nat} {w0 w : World} (hq : q0 < w0.heap.size) (c : Int) (v : Vl) (nm : ByteArray) (pl pr : Option Addr) (l r : Ex) {t : List KT} (hr : RdIs A t w) (hl : ExIs q0 w pl l) (hrr : ExIs q0 w pr r) (hg : w0.grownBy w (some A)) :
    w0.grownBy (w.alloc (.cells #[.int .i64 c, .int .i64 v.k, .int .i64 v.n, .string v.t, .string nm, .pointer pl, .pointer pr] 75)) (some A) ∧ ExIs q0 (w.alloc (.cells #[.int .i64 c, .int .i64 v.k, .int .i64 v.n, .string v.t, .string nm, .pointer pl, .pointer pr] 75)) (some ⟨w.heap.size, 0, none⟩) (.node c v nm l r) ∧ RdIs A t (w.alloc (.cells #[.int .i64 c, .int .i64 v.k, .int .i64 v.n, .string v.t, .string nm, .pointer pl, .pointer pr] 75)) := by
  have hs := hg.size
  exact ⟨hg.trans (grown_alloc _ _ _), ExIs.box (by omega) c v nm pl pr l r hl hrr, hr.below ((Below.refl _ _).alloc (Nat.le_refl _) _)⟩
end Go.Proofs.YtmabfbffpedfnaaGreatDoor
namespace Go.Proofs.YtmabfbffpedfnaaGreatDoor
open Go.RowKit

theorem ba_beq (a b : ByteArray) : (a.toList == b.toList) = decide (a = b) := by
  rw [Bool.eq_iff_iff, beq_iff_eq, decide_eq_true_eq]
  exact ⟨fun h => ba_ext (by rw [← ByteArray.toList_eq, ← ByteArray.toList_eq, h]), fun h => by rw [h]⟩
theorem results_c {P : Program} {fn : Func} {p : Tmp} {ty : TypeId} {v : Value} (h : fn.results = #[.cell p ty]) (tmps : Array Value) (w : World) (a : Addr) (hp : tmps.getD p undef = .pointer (some a)) (hl : (loadVar ty a).run P w = .ok v w) :
    (results fn tmps).run P w = .ok v w := by
  have hp' : tmps[p]?.getD undef = .pointer (some a) := by simpa [Array.getD_eq_getD_getElem?] using hp
  simp [results, h, hp', asAddr, hl]
theorem field0 (k p : Int) (t : ByteArray) (w : World) : (Instr.field 113 (.agg #[.int .i64 k, .string t, .int .i64 p]) 0).run Tryz.prog w = .ok (.int .i64 k) w := by kernel_rfl
theorem field1 (k p : Int) (t : ByteArray) (w : World) : (Instr.field 113 (.agg #[.int .i64 k, .string t, .int .i64 p]) 1).run Tryz.prog w = .ok (.string t) w := by kernel_rfl
theorem field2 (k p : Int) (t : ByteArray) (w : World) : (Instr.field 113 (.agg #[.int .i64 k, .string t, .int .i64 p]) 2).run Tryz.prog w = .ok (.int .i64 p) w := by kernel_rfl
set_option maxHeartbeats 2000000 in
theorem now_any (A : Nat) (l : List KT) (w : World) (h : RdIs A l w) : Calls Tryz.prog 69 #[.pointer (some ⟨A, 0, none⟩)] w fun e w' => (∃ p : Int, e = .returned (.agg #[.int .i64 (hdT l).1, .string (hdT l).2, .int .i64 p])) ∧ Below w.heap.size w w' := by
  obtain ⟨W, hW⟩ : ∃ W, w.alloc (.cells #[.int .i64 0, .string ⟨#[]⟩, .int .i64 0] 113) = W := ⟨_, rfl⟩
  have hbW : Below w.heap.size w W := by rw [← hW]; exact (Below.refl _ _).alloc (Nat.le_refl _) _
  have HB : Hid (Below w.heap.size w W) := hbW
  obtain ⟨b, off, n, c, p, h1, _, h2, h3, h4, h5, k0, k1, k2⟩ := (h.below hbW).head
  have hA := h.lt
  have z0 : W.cell? ⟨w.heap.size, 0, none⟩ = some (.int .i64 0) := by rw [← hW]; simp [go_sem]
  have z1 : W.cell? ⟨w.heap.size, 1, none⟩ = some (.string ⟨#[]⟩) := by rw [← hW]; simp [go_sem]
  have z2 : W.cell? ⟨w.heap.size, 2, none⟩ = some (.int .i64 0) := by rw [← hW]; simp [go_sem]
  have f0 : ∀ i, W.frozen? ⟨w.heap.size, i, none⟩ = false := fun i => by
    have := heap_alloc_new w (.cells #[.int .i64 0, .string ⟨#[]⟩, .int .i64 0] 113)
    rw [hW] at this
    simp [World.frozen?, this]
  clear h h4 hbW
  generalize (hdT l).1 = k at *
  generalize (hdT l).2 = t at *
  go_enter Tryz.func69, Tryz.ntmps69
  go_wp2
  refine bodyPost_ret (v := .agg #[.int .i64 k, .string t, .int .i64 p]) (results_c Tryz.results69 _ _ _ rfl ?_) rfl ?_
  · simp [go_sem, z0, z1, z2]
  · exact ⟨⟨p, rfl⟩, (((HB.out.setCell (Nat.le_refl _) _).setCell (Nat.le_refl _) _).setCell (Nat.le_refl _) _)⟩
set_option maxHeartbeats 2000000 in
theorem take_any (A : Nat) (l : List KT) (w : World) (h : RdIs A l w) (hk : (hdT l).1 ≠ 5) : Calls Tryz.prog 92 #[.pointer (some ⟨A, 0, none⟩)] w fun e w' => e = .returned (.tuple #[]) ∧ RdIs A l.tail w' ∧ w.grownBy w' (some A) := by
  have H : Hid (RdIs A l w) := h
  have h2 := h.ok.two hk
  have HK : Hid ((hdT l).1 ≠ 5) := hk
  obtain ⟨b, off, n, c, p, h3, hf, h4, h5, h6, h7, _, _, _⟩ := h.head
  have HC : Hid (w.cell? ⟨A, 0, none⟩ = some (.slice (some ⟨b, off, none⟩) (n + 1) c)) := h3
  have hn1 : 1 ≤ n := by omega
  have hc2 : 1 < c := by omega
  have hnc : n ≤ c - 1 := by omega
  clear h hk h6 h2
  go_enter Tryz.func92, Tryz.ntmps92
  go_wp2
  go_end0
  exact ⟨rfl, H.out.tail HC.out HK.out _ _ rfl hnc, grownA_set _ _ _ _⟩
theorem must_yes (A : Nat) (w : World) : Calls Tryz.prog 68 #[.pointer (some ⟨A, 0, none⟩), .bool true] w fun e w' => e = .returned (.tuple #[]) ∧ w' = w := by
  go_enter Tryz.func68, Tryz.ntmps68
  go_wp2
  go_end0
  exact ⟨rfl, rfl⟩
theorem must_no (A : Nat) (l : List KT) (w : World) (h : RdIs A l w) : Calls Tryz.prog 68 #[.pointer (some ⟨A, 0, none⟩), .bool false] w fun e w' => Thr e ∧ Below w.heap.size w w' := by
  have H : Hid (RdIs A l w) := h
  clear h
  generalize hk : (hdT l).1 = k
  generalize ht : (hdT l).2 = t
  have HE : Hid ((hdT l).1 = k ∧ (hdT l).2 = t) := ⟨hk, ht⟩
  clear hk ht
  have hf := field2 k
  go_enter Tryz.func68, Tryz.ntmps68
  go_wp2_with fail
  refine (now_any A l w H.out).mono ?_
  rintro _ w1 ⟨⟨p, rfl⟩, hb1⟩
  rw [HE.out.1, HE.out.2]
  have HB : Hid (Below w.heap.size w w1) := hb1
  clear hb1
  go_wp2
  exact ⟨rfl, ⟨3, p, rfl⟩, HB.out⟩
theorem most_yes (A : Nat) (n m : Int) (hn : n ≤ m) (w : World) : Calls Tryz.prog 104 #[.pointer (some ⟨A, 0, none⟩), .int .i64 n, .int .i64 m] w fun e w' => e = .returned (.tuple #[]) ∧ w' = w := by
  have d : decide (m < n) = false := decide_eq_false (by omega)
  clear hn
  go_enter Tryz.func104, Tryz.ntmps104
  go_wp2
  go_end0
  exact ⟨rfl, rfl⟩
theorem most_no (A : Nat) (l : List KT) (n m : Int) (hn : m < n) (w : World) (h : RdIs A l w) : Calls Tryz.prog 104 #[.pointer (some ⟨A, 0, none⟩), .int .i64 n, .int .i64 m] w fun e w' => Thr e ∧ Below w.heap.size w w' := by
  have d : decide (m < n) = true := decide_eq_true hn
  have H : Hid (RdIs A l w) := h
  clear h hn
  generalize hk : (hdT l).1 = k
  generalize ht : (hdT l).2 = t
  have HE : Hid ((hdT l).1 = k ∧ (hdT l).2 = t) := ⟨hk, ht⟩
  clear hk ht
  have hf := field2 k
  go_enter Tryz.func104, Tryz.ntmps104
  go_wp2_with fail
  refine (now_any A l w H.out).mono ?_
  rintro _ w1 ⟨⟨p, rfl⟩, hb1⟩
  rw [HE.out.1, HE.out.2]
  have HB : Hid (Below w.heap.size w w1) := hb1
  clear hb1
  go_wp2
  exact ⟨rfl, ⟨4, p, rfl⟩, HB.out⟩
set_option maxHeartbeats 2000000 in
theorem is_any (A : Nat) (l : List KT) (s : ByteArray) (x : Bool) (hx : isT s l = x) (w : World) (h : RdIs A l w) : Calls Tryz.prog 91 #[.pointer (some ⟨A, 0, none⟩), .string s] w fun e w' => e = .returned (.bool x) ∧ Below w.heap.size w w' := by
  have H : Hid (RdIs A l w) := h
  obtain ⟨b1, e1⟩ : ∃ b, decide ((hdT l).2 = s) = b := ⟨_, rfl⟩
  obtain ⟨b2, e2⟩ : ∃ b, ((hdT l).1 == 1) = b := ⟨_, rfl⟩
  obtain ⟨b3, e3⟩ : ∃ b, ((hdT l).1 == 4) = b := ⟨_, rfl⟩
  have HX : Hid (x = ((b2 || b3) && b1)) := by
    show _ = _
    rw [← hx, isT, e1, ← e2, ← e3]; rfl
  have d1 : ((hdT l).2.toList == s.toList) = b1 := by rw [ba_beq]; exact e1
  clear h hx e1
  generalize hk : (hdT l).1 = k at *
  generalize ht : (hdT l).2 = t at *
  have HE : Hid ((hdT l).1 = k ∧ (hdT l).2 = t) := ⟨hk, ht⟩
  clear hk ht
  cases b1 <;> cases b2 <;> cases b3 <;> first
    | (exfalso; rw [beq_iff_eq] at e2 e3; omega)
    | (go_enter Tryz.func91, Tryz.ntmps91
       go_wp2_with fail
       refine (now_any A l w H.out).mono ?_
       rintro _ w1 ⟨⟨p, rfl⟩, hb1⟩
       rw [HE.out.1, HE.out.2]
       have HB : Hid (Below w.heap.size w w1) := hb1
       have HS : Hid (w.heap.size ≤ w1.heap.size) := hb1.size
       clear hb1
       go_wp2
       go_ret
       exact ⟨ret_bool (by rw [HX.out]; rfl), HB.out.alloc HS.out _⟩)
set_option maxHeartbeats 2000000 in
theorem has_any (A : Nat) (l : List KT) (s : ByteArray) (x : Bool) (hx : isT s l = x) (w : World) (h : RdIs A l w) : Calls Tryz.prog 67 #[.pointer (some ⟨A, 0, none⟩), .string s] w fun e w' => e = .returned (.bool x) ∧ RdIs A (if x then l.tail else l) w' ∧ w.grownBy w' (some A) := by
  have H : Hid (RdIs A l w) := h
  have HX : Hid (isT s l = x) := hx
  clear h hx
  cases x
  · go_enter Tryz.func67, Tryz.ntmps67
    go_wp2_with fail
    refine (is_any A l s false HX.out w H.out).mono ?_
    rintro _ w1 ⟨rfl, hb1⟩
    have HB : Hid (Below w.heap.size w w1) := hb1
    clear hb1
    go_wp2
    go_ret
    exact ⟨rfl, H.out.below HB.out, grown_of_belowA HB.out _⟩
  · go_enter Tryz.func67, Tryz.ntmps67
    go_wp2_with fail
    refine (is_any A l s true HX.out w H.out).mono ?_
    rintro _ w1 ⟨rfl, hb1⟩
    have HB : Hid (Below w.heap.size w w1) := hb1
    clear hb1
    go_wp2_with fail
    refine (take_any A l w1 (H.out.below HB.out) (isT_ne HX.out)).mono ?_
    rintro _ w2 ⟨rfl, hr2, hg2⟩
    have HR : Hid (RdIs A l.tail w2 ∧ w.grownBy w2 (some A)) := ⟨hr2, (grown_of_belowA HB.out _).trans hg2⟩
    clear hr2 hg2
    go_wp2
    go_ret
    exact ⟨rfl, HR.out⟩
/-- what need tells -/
def ToldU (A : Nat) (R : Option (List KT)) (w : World) (e : Ending) (w' : World) : Prop :=
  w.grownBy w' (some A) ∧ ((∃ l, R = some l ∧ e = .returned (.tuple #[]) ∧ RdIs A l w') ∨ (R = none ∧ Thr e))
set_option maxHeartbeats 2000000 in
theorem need_any (A : Nat) (l : List KT) (s : ByteArray) (w : World) (h : RdIs A l w) : Calls Tryz.prog 85 #[.pointer (some ⟨A, 0, none⟩), .string s] w fun e w' => ToldU A (needF s l) w e w' := by
  have H : Hid (RdIs A l w) := h
  obtain ⟨x, hx⟩ : ∃ x, isT s l = x := ⟨_, rfl⟩
  have HX : Hid (isT s l = x) := hx
  have HN : Hid (needF s l = if x then some l.tail else none) := by show needF s l = _; unfold needF; rw [hx]
  clear h hx
  go_enter Tryz.func85, Tryz.ntmps85
  go_wp2_with fail
  refine (has_any A l s x HX.out w H.out).mono ?_
  rintro _ w1 ⟨rfl, hr1, hg1⟩
  have HR : Hid (RdIs A (if x then l.tail else l) w1 ∧ w.grownBy w1 (some A)) := ⟨hr1, hg1⟩
  clear hr1 hg1
  cases x
  · go_wp2_with fail
    refine (must_no A _ w1 HR.out.1).mono ?_
    rintro _ w2 ⟨⟨n, p, rfl⟩, hb2⟩
    have HB : Hid (w.grownBy w2 (some A)) := HR.out.2.trans (grown_of_belowA hb2 _)
    clear hb2
    go_wp2
    exact ⟨rfl, HB.out, .inr ⟨HN.out, n, p, rfl⟩⟩
  · go_wp2_with fail
    refine (must_yes A w1).mono ?_
    rintro _ w2 ⟨rfl, rfl⟩
    go_wp2
    go_end0
    exact ⟨HR.out.2, .inl ⟨_, HN.out, rfl, HR.out.1⟩⟩
end Go.Proofs.YtmabfbffpedfnaaGreatDoor
namespace Go.Proofs.YtmabfbffpedfnaaGreatDoor
open Go.RowKit

theorem ixP (k : Nat) (hk : k < 11) (W : World) : (Instr.index 173 (.agg pairCells.toArray) (.int .i64 (k : Int))).run Tryz.prog W = .ok (.agg #[.int .i64 (pairL.getD k (0, ⟨#[]⟩, 0)).1, .string (pairL.getD k (0, ⟨#[]⟩, 0)).2.1, .int .i64 (pairL.getD k (0, ⟨#[]⟩, 0)).2.2]) W :=
  match k, hk with
  | 0, _ => by kernel_rfl
  | 1, _ => by kernel_rfl
  | 2, _ => by kernel_rfl
  | 3, _ => by kernel_rfl
  | 4, _ => by kernel_rfl
  | 5, _ => by kernel_rfl
  | 6, _ => by kernel_rfl
  | 7, _ => by kernel_rfl
  | 8, _ => by kernel_rfl
  | 9, _ => by kernel_rfl
  | 10, _ => by kernel_rfl
  | n + 11, h => absurd h (by omega)
/-- the code whose sign of this level stands there -/
def betA (ps : List (Int × ByteArray × Int)) (lv : Int) (l : List KT) : Int := match ps.find? (fun p => decide (p.2.2 = lv) && isT p.2.1 l) with
  | some p => p.1
  | none => 0
theorem bet_step (k : Nat) (hk : k < 11) (lv : Int) (l : List KT) : betA (pairL.drop k) lv l = if (decide ((pairL.getD k (0, ⟨#[]⟩, 0)).2.2 = lv) && isT (pairL.getD k (0, ⟨#[]⟩, 0)).2.1 l) = true then (pairL.getD k (0, ⟨#[]⟩, 0)).1 else betA (pairL.drop (k + 1)) lv l := by
  have e : pairL.getD k (0, ⟨#[]⟩, 0) = pairL[k]'hk := by simp [List.getD, show k < pairL.length from hk]; rfl
  unfold betA
  rw [List.drop_eq_getElem_cons (show k < pairL.length from hk), List.find?_cons, e]
  cases decide ((pairL[k]'hk).2.2 = lv) && isT (pairL[k]'hk).2.1 l <;> rfl
theorem code_pos (k : Nat) (hk : k < 11) : (pairL.getD k (0, ⟨#[]⟩, 0)).1 ≠ 0 :=
  match k, hk with
  | 0, _ => by decide
  | 1, _ => by decide
  | 2, _ => by decide
  | 3, _ => by decide
  | 4, _ => by decide
  | 5, _ => by decide
  | 6, _ => by decide
  | 7, _ => by decide
  | 8, _ => by decide
  | 9, _ => by decide
  | 10, _ => by decide
  | n + 11, h => absurd h (by omega)
/-- what between tells -/
def ToldB (A : Nat) (C : Int) (l : List KT) (w : World) (e : Ending) (w' : World) : Prop :=
  e = .returned (.int .i64 C) ∧ w.grownBy w' (some A) ∧ RdIs A (if C = 0 then l else l.tail) w'
set_option maxRecDepth 100000 in
set_option maxHeartbeats 8000000 in
theorem between_any (A : Nat) (l : List KT) (lv : Int) (w : World) (h : RdIs A l w) : Calls Tryz.prog 136 #[.pointer (some ⟨A, 0, none⟩), .int .i64 lv] w fun e w' => ToldB A (betA pairL lv l) l w e w' := by
  have H : Hid (RdIs A l w) := h
  obtain ⟨C, hC⟩ : ∃ C, betA pairL lv l = C := ⟨_, rfl⟩
  rw [hC]
  have HC : Hid (betA (pairL.drop 0) lv l = C) := hC
  have hsz : (Tryz.prog.info? 173).map (·.size) = some pairCells.length := by kernel_rfl
  clear h hC
  go_enter Tryz.func136, Tryz.ntmps136
  go_wp2_with (refine wpList_load_mid rfl 173 _ rfl _ 0 rfl pairCells _ H.out.vr.pr Tryz.underlying173 rfl hsz ?_)
  clear hsz
  go_loopw [8] (fun i wr => ∃ k : Nat, k ≤ 11 ∧ i = .int .i64 k ∧ Hid (betA (pairL.drop k) lv l = C) ∧ Hid (RdIs A l wr ∧ w.grownBy wr (some A))) (fun i _ => 11 - (intOf i).toNat)
  case atStart => exact ⟨0, Nat.zero_le _, rfl, HC, H.out, grownA_refl _ _⟩
  case round =>
    clear HC
    obtain ⟨k, hk, rfl, he, HR⟩ := hrel
    obtain ⟨wo, rfl⟩ : ∃ wo, wo = wr := ⟨_, rfl⟩
    by_cases hlt : k < 11
    · have hix := ixP k hlt wo
      have hst := he.out
      have hcp := code_pos k hlt
      rw [bet_step k hlt] at hst
      generalize pairL.getD k (0, ⟨#[]⟩, 0) = m at *
      obtain ⟨mc, ms, ml⟩ := m
      simp only at *
      have hk' : (k : Int) < 11 := by omega
      obtain ⟨b1, hb1⟩ : ∃ b, (ml == lv) = b := ⟨_, rfl⟩
      have hb1' : decide (ml = lv) = b1 := hb1
      rw [hb1'] at hst
      obtain ⟨W, hW⟩ : ∃ W, wo.alloc (.cells #[.int .i64 mc, .string ms, .int .i64 ml] 172) = W := ⟨_, rfl⟩
      have hbW : Below wo.heap.size wo W := by rw [← hW]; exact (Below.refl _ _).alloc (Nat.le_refl _) _
      have hzW : W.heap.size = wo.heap.size + 1 := by rw [← hW]; simp
      have z0 : W.cell? ⟨wo.heap.size, 0, none⟩ = some (.int .i64 mc) := by rw [← hW]; simp [go_sem]
      have z1 : W.cell? ⟨wo.heap.size, 1, none⟩ = some (.string ms) := by rw [← hW]; simp [go_sem]
      have z2 : W.cell? ⟨wo.heap.size, 2, none⟩ = some (.int .i64 ml) := by rw [← hW]; simp [go_sem]
      have HW : Hid (RdIs A l W ∧ w.grownBy W (some A)) := ⟨HR.out.1.below hbW, HR.out.2.trans (grown_of_belowA hbW _)⟩
      have hAo := HR.out.1.lt
      have HZ : Hid (∀ wx, W.grownBy wx (some A) → wx.cell? ⟨wo.heap.size, 0, none⟩ = some (.int .i64 mc)) := fun wx hg => by
        rw [World.cell?_of_block (w := W) (a := ⟨wo.heap.size, 0, none⟩) (hg.block wo.heap.size (by omega) (fun e => by cases e; omega))]; exact z0
      clear hb1' he hbW
      cases b1
      · have HS : Hid (betA (pairL.drop (k + 1)) lv l = C) := by rw [Bool.false_and, if_neg (by decide)] at hst; exact hst
        clear hst HR
        go_wp2
        go_roundw
        case rel => exact ⟨k + 1, by omega, by go_num, HS, HW⟩
        case measure => simp [intOf]; omega
      · obtain ⟨b2, hb2⟩ : ∃ b, isT ms l = b := ⟨_, rfl⟩
        have HT : Hid (isT ms l = b2) := hb2
        rw [hb2, Bool.true_and] at hst
        clear hb2 HR
        go_wp2_with fail
        refine (has_any A l ms b2 HT.out W HW.out.1).mono ?_
        rintro _ w2 ⟨rfl, hr2, hg2⟩
        have H2 : Hid (RdIs A (if b2 then l.tail else l) w2 ∧ w.grownBy w2 (some A)) := ⟨hr2, HW.out.2.trans hg2⟩
        have y0 := HZ.out w2 hg2
        clear hr2 hg2
        cases b2
        · have HS : Hid (betA (pairL.drop (k + 1)) lv l = C) := by rw [if_neg (by decide)] at hst; exact hst
          clear hst
          go_wp2
          go_roundw
          case rel => exact ⟨k + 1, by omega, by go_num, HS, H2⟩
          case measure => simp [intOf]; omega
        · have e : mc = C := by rw [if_pos rfl] at hst; exact hst
          clear hst
          subst e
          go_wp2
          go_ret
          exact ⟨rfl, H2.out.2, by rw [if_neg hcp]; exact H2.out.1⟩
    · obtain rfl : k = 11 := by omega
      have e : 0 = C := by rw [← he.out]; rfl
      subst e
      clear he
      go_wp2
      go_ret
      exact ⟨rfl, HR.out.2, HR.out.1⟩
/-- a level's signs -/
def SgOf (lv : Int) (sg : List (ByteArray × Int)) : Prop := ∀ l, (∃ s, sg.find? (fun s => isT s.1 l) = some s ∧ betA pairL lv l = s.2 ∧ s.2 ≠ 0) ∨ (sg.find? (fun s => isT s.1 l) = none ∧ betA pairL lv l = 0)
theorem sg_or : SgOf 1 orS := fun l => by
  cases h : isT ⟨#[111, 114]⟩ l <;> simp [betA, pairL, orS, h]
theorem sg_and : SgOf 2 andS := fun l => by
  cases h : isT ⟨#[97, 110, 100]⟩ l <;> simp [betA, pairL, andS, h]
theorem sg_cmp : SgOf 4 cmpS := fun l => by
  cases h1 : isT ⟨#[61]⟩ l <;> cases h2 : isT ⟨#[60, 62]⟩ l <;> cases h3 : isT ⟨#[60]⟩ l <;> cases h4 : isT ⟨#[60, 61]⟩ l <;> cases h5 : isT ⟨#[62]⟩ l <;> cases h6 : isT ⟨#[62, 61]⟩ l <;> simp [betA, pairL, cmpS, h1, h2, h3, h4, h5, h6]
theorem sg_sum : SgOf 5 sumS := fun l => by
  cases h1 : isT ⟨#[43]⟩ l <;> cases h2 : isT ⟨#[45]⟩ l <;> simp [betA, pairL, sumS, h1, h2]
theorem sg_mul : SgOf 6 mulS := fun l => by
  cases h : isT ⟨#[42]⟩ l <;> simp [betA, pairL, mulS, h]
theorem bet_any {lv : Int} {sg : List (ByteArray × Int)} (hs : SgOf lv sg) (A : Nat) (l : List KT) (w : World) (h : RdIs A l w) : Calls Tryz.prog 136 #[.pointer (some ⟨A, 0, none⟩), .int .i64 lv] w fun e w' =>
    w.grownBy w' (some A) ∧ ((∃ s, sg.find? (fun s => isT s.1 l) = some s ∧ s.2 ≠ 0 ∧ e = .returned (.int .i64 s.2) ∧ RdIs A l.tail w') ∨ (sg.find? (fun s => isT s.1 l) = none ∧ e = .returned (.int .i64 0) ∧ RdIs A l w')) := by
  refine (between_any A l lv w h).mono ?_
  rintro e w' ⟨rfl, hg, hr⟩
  refine ⟨hg, ?_⟩
  rcases hs l with ⟨s, h1, h2, h3⟩ | ⟨h1, h2⟩
  · rw [h2, if_neg h3] at hr
    exact .inl ⟨s, h1, h3, by rw [h2], hr⟩
  · rw [h2, if_pos rfl] at hr
    exact .inr ⟨h1, by rw [h2], hr⟩
end Go.Proofs.YtmabfbffpedfnaaGreatDoor
