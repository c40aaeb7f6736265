/- Part 9 of 30. -/
import Derived.Test.YtmabfbffpedfnaaGreatDoorK08
import Derived.Deep.RegionLaw
import Derived.Lib.ItoaNum
namespace Go.Proofs.YtmabfbffpedfnaaGreatDoor
open Go.RowKit

/-- a row of trees that lay there before the writer -/
def RowTr (b : Nat) (w : World) (a : Option Addr) (L : List Ex) : Prop := L = [] ∨ ∃ g off, a = some ⟨g, off, none⟩ ∧ g < b ∧ ∀ j (h : j < L.length), ∃ p, w.cell? ⟨g, off + j, none⟩ = some (.pointer p) ∧ TrAt b w p L[j]
theorem RowTr.keep {b : Nat} {w w' : World} {a : Option Addr} {L : List Ex} (h : RowTr b w a L) (k : Below b w w') : RowTr b w' a L := by
  rcases h with h | ⟨g, off, e, hg, h⟩
  · exact .inl h
  · refine .inr ⟨g, off, e, hg, fun j hj => ?_⟩
    obtain ⟨p, h1, h2⟩ := h j hj
    exact ⟨p, (k.cell (p := ⟨g, off + j, none⟩) hg).trans h1, h2.keep k⟩
/-- what row's closure needs -/
structure RowI (b q : Nat) (a : Option Addr) (c : Nat) (L : List Ex) (w : World) : Prop where
  wr : Blk q #[.pointer (some ⟨b, 0, none⟩)] 0 w
  sl : Blk (q + 1) #[.slice a L.length c] 58 w
  row : RowTr b w a L
  q0 : b < q
theorem RowI.kept {b q : Nat} {a : Option Addr} {c : Nat} {L : List Ex} : ∀ u u', RowI b q a c L u → WK b u u' → RowI b q a c L u' := fun _ _ h k =>
  ⟨k.blk h.wr (by have := h.q0; omega) (by decide), k.blk h.sl (by have := h.q0; omega) (by decide), h.row.keep k.below, h.q0⟩
end Go.Proofs.YtmabfbffpedfnaaGreatDoor
namespace Go.Proofs.YtmabfbffpedfnaaGreatDoor
open Go.RowKit

def rowT (L : List Ex) : List UInt8 := [40] ++ lstT (fun i => prN 1 (L.getD i .nil)) L.length ++ [41]
end Go.Proofs.YtmabfbffpedfnaaGreatDoor
namespace Go.Proofs.YtmabfbffpedfnaaGreatDoor
open Go.RowKit

def behT (s : List UInt8) (e : Ex) : List UInt8 := match e with
  | .nil => []
  | .node _ _ _ _ _ => s ++ prN 1 e
/-- a column, as it is written -/
def colT (n : ByteArray) (k : Int) (m u : Bool) : List UInt8 := n.data.toList ++ (if k = 2 then [32, 116, 101, 120, 116] else [32, 105, 110, 116]) ++ (if m then [32, 110, 111, 116, 32, 110, 117, 108, 108] else []) ++ (if u then [32, 119, 111, 114, 100, 115] else [])
end Go.Proofs.YtmabfbffpedfnaaGreatDoor
namespace Go.Proofs.YtmabfbffpedfnaaGreatDoor
open Go.RowKit

def orT (s : List UInt8) (e : Ex) : List UInt8 := match e with
  | .nil => s
  | .node _ _ _ _ _ => prN 1 e
def rankT (e : Ex) (d : Bool) : List UInt8 := orT [114, 97, 110, 107] e ++ (if d then [32, 100, 101, 115, 99] else [])
def itemH (o : Int) : List UInt8 := if o = 1 then [99, 111, 117, 110, 116, 40] else if o = 2 then [115, 117, 109, 40] else if o = 3 then [109, 105, 110, 40] else [109, 97, 120, 40]
def itemT (o : Int) (e : Ex) : List UInt8 := if 1 ≤ o ∧ o ≤ 4 then itemH o ++ orT [42] e ++ [41] else prN 1 e
end Go.Proofs.YtmabfbffpedfnaaGreatDoor
namespace Go.Proofs.YtmabfbffpedfnaaGreatDoor
open Go.RowKit

def setT (e : Ex) : List UInt8 := match e with
  | .nil => []
  | .node _ _ nm x _ => nm.data.toList ++ [32, 61, 32] ++ prN 1 x
end Go.Proofs.YtmabfbffpedfnaaGreatDoor
namespace Go.Proofs.YtmabfbffpedfnaaGreatDoor
open Go.RowKit

/-- a row of things that lay there before the writer -/
def RowG {α : Type} (b sz : Nat) (El : α → Nat → Nat → World → Prop) (w : World) (a : Option Addr) (L : List α) : Prop := L = [] ∨ ∃ g off, a = some ⟨g, off, none⟩ ∧ g < b ∧ ∀ j (h : j < L.length), El L[j] g (off + j * sz) w
def Keeps {α : Type} (b : Nat) (El : α → Nat → Nat → World → Prop) : Prop := ∀ x g o w w', g < b → Below b w w' → El x g o w → El x g o w'
theorem RowG.keep {α : Type} {b sz : Nat} {El : α → Nat → Nat → World → Prop} (hE : Keeps b El) {w w' : World} {a : Option Addr} {L : List α} (h : RowG b sz El w a L) (k : Below b w w') : RowG b sz El w' a L := by
  rcases h with h | ⟨g, off, e, hg, h⟩
  · exact .inl h
  · exact .inr ⟨g, off, e, hg, fun j hj => hE _ _ _ _ _ hg k (h j hj)⟩
structure StI {α : Type} (f : SV → Value) (b q r sz : Nat) (El : α → Nat → Nat → World → Prop) (sv : SV) (a : Option Addr) (c : Nat) (L : List α) (w : World) : Prop where
  wr : Blk q #[.pointer (some ⟨b, 0, none⟩)] 0 w
  st : Blk r sv.cells 62 w
  sl : f sv = .slice a L.length c
  row : RowG b sz El w a L
  q0 : b < q ∧ b < r
theorem StI.kept {α : Type} {f : SV → Value} {b q r sz : Nat} {El : α → Nat → Nat → World → Prop} (hE : Keeps b El) {sv : SV} {a : Option Addr} {c : Nat} {L : List α} : ∀ u u', StI f b q r sz El sv a c L u → WK b u u' → StI f b q r sz El sv a c L u' := fun _ _ h k =>
  ⟨k.blk h.wr (by have := h.q0; omega) (by decide), k.blk h.st (by have := h.q0; omega) (by decide), h.sl, h.row.keep hE k.below, h.q0⟩
def ElW3 (b : Nat) (x : Ex) (g o : Nat) (w : World) : Prop := ∃ p, w.cell? ⟨g, o, none⟩ = some (.pointer p) ∧ TrAt b w p x
theorem ElW3.keeps (b : Nat) : Keeps b (ElW3 b) := fun _ g _ _ _ hg kb h => by
  obtain ⟨p, h1, h2⟩ := h
  exact ⟨p, (kb.cell (p := ⟨g, _, none⟩) hg).trans h1, h2.keep kb⟩
def ElWI (b : Nat) (x : (Int × Ex)) (g o : Nat) (w : World) : Prop := ∃ p, w.cell? ⟨g, o, none⟩ = some (.int .i64 x.1) ∧ w.cell? ⟨g, o + 1, none⟩ = some (.pointer p) ∧ TrAt b w p x.2
theorem ElWI.keeps (b : Nat) : Keeps b (ElWI b) := fun _ g _ _ _ hg kb h => by
  obtain ⟨p, h1, h2, h3⟩ := h
  exact ⟨p, (kb.cell (p := ⟨g, _, none⟩) hg).trans h1, (kb.cell (p := ⟨g, _, none⟩) hg).trans h2, h3.keep kb⟩
def ElWO (b : Nat) (x : (Ex × Bool)) (g o : Nat) (w : World) : Prop := ∃ p, w.cell? ⟨g, o, none⟩ = some (.pointer p) ∧ w.cell? ⟨g, o + 1, none⟩ = some (.bool x.2) ∧ TrAt b w p x.1
theorem ElWO.keeps (b : Nat) : Keeps b (ElWO b) := fun _ g _ _ _ hg kb h => by
  obtain ⟨p, h1, h2, h3⟩ := h
  exact ⟨p, (kb.cell (p := ⟨g, _, none⟩) hg).trans h1, (kb.cell (p := ⟨g, _, none⟩) hg).trans h2, h3.keep kb⟩
end Go.Proofs.YtmabfbffpedfnaaGreatDoor
namespace Go.Proofs.YtmabfbffpedfnaaGreatDoor
open Go.RowKit

def ElW1 (_b : Nat) (x : Colm) (g o : Nat) (w : World) : Prop := w.cell? ⟨g, o, none⟩ = some (.string x.nm) ∧ w.cell? ⟨g, o + 1, none⟩ = some (.int .i64 x.k) ∧ w.cell? ⟨g, o + 2, none⟩ = some (.bool x.mu) ∧ w.cell? ⟨g, o + 3, none⟩ = some (.bool x.wo)
theorem ElW1.keeps (b : Nat) : Keeps b (ElW1 b) := fun _ g _ _ _ hg kb h => ⟨(kb.cell (p := ⟨g, _, none⟩) hg).trans h.1, (kb.cell (p := ⟨g, _, none⟩) hg).trans h.2.1, (kb.cell (p := ⟨g, _, none⟩) hg).trans h.2.2.1, (kb.cell (p := ⟨g, _, none⟩) hg).trans h.2.2.2⟩
def ElW2 (b : Nat) (x : List Ex) (g o : Nat) (w : World) : Prop := ∃ a c, w.cell? ⟨g, o, none⟩ = some (.slice a x.length c) ∧ RowTr b w a x
theorem ElW2.keeps (b : Nat) : Keeps b (ElW2 b) := fun _ g _ _ _ hg kb h => by
  obtain ⟨a, c, h1, h2⟩ := h
  exact ⟨a, c, (kb.cell (p := ⟨g, _, none⟩) hg).trans h1, h2.keep kb⟩
end Go.Proofs.YtmabfbffpedfnaaGreatDoor
namespace Go.Proofs.YtmabfbffpedfnaaGreatDoor
open Go.RowKit

/-- a word of small letters -/
def wordB (t : ByteArray) : Prop := ∃ c l, t.data.toList = c :: l ∧ isAl c = true ∧ (∀ d ∈ l, wordC d = true) ∧ smallL (c :: l) = c :: l
/-- a name -/
structure NameW (t : ByteArray) : Prop where
  word : wordB t
  keep : keepB t = false
  size : t.size ≤ 16
inductive LitV : Vl → KT → Prop
  | null : LitV .none (1, ⟨#[110, 117, 108, 108]⟩)
  | num {n : Int} : 0 ≤ n → n ≤ 9223372036854775807 → LitV ⟨1, n, ⟨#[]⟩⟩ (2, ⟨(Lib.decDigits n.toNat).toArray⟩)
  | txt {t : ByteArray} : rightT t = true → LitV ⟨2, 0, t⟩ (3, t)
inductive ColN : ByteArray → List KT → Prop
  | one {a : ByteArray} : NameW a → ColN a [(1, a)]
  | two {a b : ByteArray} : NameW a → NameW b → ColN (a ++ (⟨#[46]⟩ ++ b)) [(1, a), (4, ⟨#[46]⟩), (1, b)]
/-- an expression that can be read at depth d where one of level n stands, and its tokens, printed there -/
inductive Ft : Nat → Int → Ex → List KT → Prop
  | par {d : Nat} {n : Int} {e : Ex} {ts : List KT} : lvlC e.code < n → Ft d 1 e ts → Ft (d + 1) n e ((4, ⟨#[40]⟩) :: (ts ++ [(4, ⟨#[41]⟩)]))
  | lit {d : Nat} {n : Int} {v : Vl} {t : KT} : n ≤ 8 → LitV v t → Ft d n (.node 1 v ⟨#[]⟩ .nil .nil) [t]
  | col {d : Nat} {n : Int} {nm : ByteArray} {ts : List KT} : n ≤ 8 → ColN nm ts → Ft d n (.node 2 .none nm .nil .nil) ts
  | neg {d : Nat} {n : Int} {x : Ex} {ts : List KT} : n ≤ 7 → Ft d 7 x ts → Ft (d + 1) n (.two 3 x .nil) ((4, ⟨#[45]⟩) :: ts)
  | not {d : Nat} {n : Int} {x : Ex} {ts : List KT} : n ≤ 3 → x.code ≠ 5 → Ft d 3 x ts → Ft (d + 1) n (.two 4 x .nil) ((1, ⟨#[110, 111, 116]⟩) :: ts)
  | nnul {d : Nat} {n : Int} {x : Ex} {ts : List KT} : n ≤ 3 → Ft d 5 x ts → Ft d n (.two 4 (.two 5 x .nil) .nil) (ts ++ [(1, ⟨#[105, 115]⟩), (1, ⟨#[110, 111, 116]⟩), (1, ⟨#[110, 117, 108, 108]⟩)])
  | nul {d : Nat} {n : Int} {x : Ex} {ts : List KT} : n ≤ 4 → Ft d 5 x ts → Ft d n (.two 5 x .nil) (ts ++ [(1, ⟨#[105, 115]⟩), (1, ⟨#[110, 117, 108, 108]⟩)])
  | mat {d : Nat} {n : Int} {nm t : ByteArray} {ts : List KT} : n ≤ 4 → ColN nm ts → rightT t = true → Ft d n (.node 17 ⟨2, 0, t⟩ ⟨#[]⟩ (.node 2 .none nm .nil .nil) .nil) (ts ++ [(1, ⟨#[109, 97, 116, 99, 104]⟩), (3, t)])
  | ask {d : Nat} {n : Int} {s : ByteArray × Int} {x y : Ex} {ts us : List KT} : n ≤ 4 → s ∈ cmpS → Ft d 5 x ts → Ft d 5 y us → Ft d n (.two s.2 x y) (ts ++ ((4, s.1) :: us))
  | sum {d : Nat} {n : Int} {s : ByteArray × Int} {x y : Ex} {ts us : List KT} : n ≤ 5 → s ∈ sumS → Ft d 5 x ts → Ft d 6 y us → Ft d n (.two s.2 x y) (ts ++ ((4, s.1) :: us))
  | mul {d : Nat} {n : Int} {s : ByteArray × Int} {x y : Ex} {ts us : List KT} : n ≤ 6 → s ∈ mulS → Ft d 6 x ts → Ft d 7 y us → Ft d n (.two s.2 x y) (ts ++ ((4, s.1) :: us))
  | and {d : Nat} {n : Int} {s : ByteArray × Int} {x y : Ex} {ts us : List KT} : n ≤ 2 → s ∈ andS → Ft d 2 x ts → Ft d 3 y us → Ft d n (.two s.2 x y) (ts ++ ((1, s.1) :: us))
  | or {d : Nat} {n : Int} {s : ByteArray × Int} {x y : Ex} {ts us : List KT} : n ≤ 1 → s ∈ orS → Ft d 1 x ts → Ft d 2 y us → Ft d n (.two s.2 x y) (ts ++ ((1, s.1) :: us))

/-- how tight a sign holds -/
def sgnT (t : ByteArray) : Int :=
  if t = ⟨#[111, 114]⟩ then 1 else if t = ⟨#[97, 110, 100]⟩ then 2
  else if t = ⟨#[61]⟩ then 4 else if t = ⟨#[60, 62]⟩ then 4 else if t = ⟨#[60]⟩ then 4 else if t = ⟨#[60, 61]⟩ then 4 else if t = ⟨#[62]⟩ then 4 else if t = ⟨#[62, 61]⟩ then 4 else if t = ⟨#[105, 115]⟩ then 4 else if t = ⟨#[109, 97, 116, 99, 104]⟩ then 4
  else if t = ⟨#[43]⟩ then 5 else if t = ⟨#[45]⟩ then 5 else if t = ⟨#[42]⟩ then 6 else if t = ⟨#[46]⟩ then 9 else 0
def sgn (l : List KT) : Int := if (hdT l).1 = 1 ∨ (hdT l).1 = 4 then sgnT (hdT l).2 else 0
theorem isT_no {s : ByteArray} {l : List KT} {n : Int} (h : sgn l < n) (hs : n ≤ sgnT s) : isT s l = false := by
  cases e : isT s l with
  | false => rfl
  | true =>
    have := isT_k e
    rw [sgn, if_pos this.1, this.2] at h
    omega
theorem find_no {sg : List (ByteArray × Int)} {l : List KT} {n : Int} (h : sgn l < n) (hs : ∀ s ∈ sg, n ≤ sgnT s.1) : sg.find? (fun s => isT s.1 l) = none := by
  rw [List.find?_eq_none]
  intro s hm
  rw [isT_no h (hs s hm)]
  decide
theorem chainL_end {B : Rf Ex} {sg : List (ByteArray × Int)} {l : List KT} (h : sg.find? (fun s => isT s.1 l) = none) (f : Nat) (e : Ex) : chainL B sg f e l = some (e, l) := by
  cases f with
  | zero => rfl
  | succ f => rw [chainL, h]
theorem chainF_end {B : Rf Ex} {sg : List (ByteArray × Int)} {T l : List KT} {e : Ex} (hB : B T = some (e, l)) (h : sg.find? (fun s => isT s.1 l) = none) : chainF B sg T = some (e, l) := by
  rw [chainF, hB]
  exact chainL_end h _ _
/-- the reader of level n at depth d -/
def Rr (d : Nat) (n : Int) : Rf Ex :=
  if n = 1 then exprF (lev (d + 1)).N else if n = 2 then bothF (lev (d + 1)).N else if n = 3 then (lev (d + 1)).N else if n = 4 then askF (sumF (lev (d + 1)).M) else if n = 5 then sumF (lev (d + 1)).M else if n = 6 then prodF (lev (d + 1)).M else if n = 7 then (lev (d + 1)).M else oneF (lev d).E
theorem Rr1E (d : Nat) : Rr d 1 = (lev (d + 1)).E := rfl
theorem Rr3 (d : Nat) : Rr d 3 = notF (lev d).N (Rr d 4) := rfl
theorem Rr3N (d : Nat) : Rr d 3 = (lev (d + 1)).N := rfl
theorem Rr4 (d : Nat) : Rr d 4 = askF (Rr d 5) := rfl
theorem Rr7 (d : Nat) : Rr d 7 = minusF (lev d).M (Rr d 8) := rfl
theorem Rr7M (d : Nat) : Rr d 7 = (lev (d + 1)).M := rfl
theorem Rr8 (d : Nat) : Rr d 8 = oneF (lev d).E := rfl

theorem sig_or : ∀ s ∈ orS, (1 : Int) ≤ sgnT s.1 := by decide +kernel
theorem sig_and : ∀ s ∈ andS, (2 : Int) ≤ sgnT s.1 := by decide +kernel
theorem sig_cmp : ∀ s ∈ cmpS, (4 : Int) ≤ sgnT s.1 := by decide +kernel
theorem sig_sum : ∀ s ∈ sumS, (5 : Int) ≤ sgnT s.1 := by decide +kernel
theorem sig_mul : ∀ s ∈ mulS, (6 : Int) ≤ sgnT s.1 := by decide +kernel
theorem sig_is : (4 : Int) ≤ sgnT ⟨#[105, 115]⟩ := by decide +kernel
theorem sig_match : (4 : Int) ≤ sgnT ⟨#[109, 97, 116, 99, 104]⟩ := by decide +kernel
theorem sig_dot : (8 : Int) ≤ sgnT ⟨#[46]⟩ := by decide +kernel

/-- one level down -/
theorem down {d : Nat} {m : Int} {T l : List KT} {e : Ex} (h1 : 1 ≤ m) (h8 : m ≤ 7) (hR : Rr d (m + 1) T = some (e, l)) (hs : sgn l < m) (h3 : m = 3 → isT ⟨#[110, 111, 116]⟩ T = false) (h7 : m = 7 → isT ⟨#[45]⟩ T = false) : Rr d m T = some (e, l) := by
  have c : m = 1 ∨ m = 2 ∨ m = 3 ∨ m = 4 ∨ m = 5 ∨ m = 6 ∨ m = 7 := by omega
  rcases c with rfl | rfl | rfl | rfl | rfl | rfl | rfl
  · exact chainF_end hR (find_no hs sig_or)
  · exact chainF_end hR (find_no hs sig_and)
  · rw [Rr3, notF, h3 rfl]; exact hR
  · rw [Rr4, askF, show Rr d 5 T = some (e, l) from hR, Option.bind_some, askR, find_no hs sig_cmp]
    simp only
    rw [isT_no hs sig_is, isT_no hs sig_match]
    simp
  · exact chainF_end hR (find_no hs sig_sum)
  · exact chainF_end hR (find_no hs sig_mul)
  · rw [Rr7, minusF, h7 rfl]; exact hR
theorem downs (k : Nat) : ∀ {d : Nat} {n : Int} {T l : List KT} {e : Ex}, 1 ≤ n → n + k ≤ 8 → Rr d (n + k) T = some (e, l) → sgn l < n → (n ≤ 3 → 4 ≤ n + k → isT ⟨#[110, 111, 116]⟩ T = false) → (n ≤ 7 → n + k = 8 → isT ⟨#[45]⟩ T = false) → Rr d n T = some (e, l) := by
  induction k with
  | zero => intro d n T l e _ _ hR _ _ _; simpa using hR
  | succ k ih =>
    intro d n T l e h1 h8 hR hs h3 h7
    have hR2 : Rr d (n + 1) T = some (e, l) := by
      refine ih (by omega) (by omega) ?_ (by omega) (fun a b => h3 (by omega) (by omega)) (fun a b => h7 (by omega) (by omega))
      rw [show n + 1 + (k : Int) = n + ((k + 1 : Nat) : Int) by omega]
      exact hR
    exact down h1 (by omega) hR2 hs (fun a => h3 (by omega) (by omega)) (fun a => h7 (by omega) (by omega))
theorem down_to {d : Nat} {m n : Int} {T l : List KT} {e : Ex} (h1 : 1 ≤ n) (hnm : n ≤ m) (h8 : m ≤ 8) (hR : Rr d m T = some (e, l)) (hs : sgn l < n) (h3 : n ≤ 3 → 4 ≤ m → isT ⟨#[110, 111, 116]⟩ T = false) (h7 : n ≤ 7 → m = 8 → isT ⟨#[45]⟩ T = false) : Rr d n T = some (e, l) := by
  have e1 : m = n + ((m - n).toNat : Int) := by omega
  rw [e1] at hR h3 h7 h8
  exact downs _ h1 h8 hR hs h3 h7
/-- the signs of a level -/
def sgs (n : Int) : List (ByteArray × Int) := if n = 1 then orS else if n = 2 then andS else if n = 5 then sumS else mulS
/-- what is read on from a chain -/
def Cont (d : Nat) (n : Int) (e : Ex) (ts : List KT) : Prop := ∀ l, sgn l < n + 1 → ∃ y L k, Rr d (n + 1) (ts ++ l) = some (y, L) ∧ k + l.length ≤ L.length ∧ ∀ f, chainL (Rr d (n + 1)) (sgs n) (f + k) y L = chainL (Rr d (n + 1)) (sgs n) f e l
def isCh (n : Int) : Prop := n = 1 ∨ n = 2 ∨ n = 5 ∨ n = 6
/-- what is read of these tokens -/
structure Nat8 (d : Nat) (n m : Int) (e : Ex) (ts : List KT) : Prop where
  le : n ≤ m
  pos : 1 ≤ m
  max : m ≤ 8
  read : ∀ l, sgn l < m → Rr d m (ts ++ l) = some (e, l)
  cont : isCh m → Cont d m e ts
  not : 4 ≤ m → ∀ l, isT ⟨#[110, 111, 116]⟩ (ts ++ l) = false
  neg : m = 8 → ∀ l, isT ⟨#[45]⟩ (ts ++ l) = false
theorem Nat8.at {d : Nat} {n m : Int} {e : Ex} {ts : List KT} (h : Nat8 d n m e ts) {i : Int} (h1 : 1 ≤ i) (hi : i ≤ m) {l : List KT} (hs : sgn l < i) : Rr d i (ts ++ l) = some (e, l) :=
  down_to h1 hi h.max (h.read l (by omega)) hs (fun _ b => h.not b l) (fun _ b => h.neg b l)
theorem Nat8.conts {d : Nat} {n m : Int} {e : Ex} {ts : List KT} (h : Nat8 d n m e ts) {i : Int} (hc : isCh i) (hi : i ≤ m) : Cont d i e ts := by
  by_cases c : i = m
  · subst c; exact h.cont hc
  · intro l hl
    refine ⟨e, l, 0, h.at ?_ (by omega) hl, by omega, fun f => rfl⟩
    rcases hc with rfl | rfl | rfl | rfl <;> omega
end Go.Proofs.YtmabfbffpedfnaaGreatDoor
namespace Go.Proofs.YtmabfbffpedfnaaGreatDoor
open Go.RowKit

theorem hdT_cons (x : KT) (l : List KT) : hdT (x :: l) = x := rfl
theorem isT_cons (s : ByteArray) (x : KT) (l : List KT) : isT s (x :: l) = ((decide (x.1 = 1) || decide (x.1 = 4)) && decide (x.2 = s)) := rfl
theorem sgn_cons (x : KT) (l : List KT) : sgn (x :: l) = if x.1 = 1 ∨ x.1 = 4 then sgnT x.2 else 0 := rfl
theorem sgn_word {s : ByteArray} (l : List KT) : sgn ((1, s) :: l) = sgnT s := by rw [sgn_cons]; rfl
theorem sgn_mark {s : ByteArray} (l : List KT) : sgn ((4, s) :: l) = sgnT s := by rw [sgn_cons]; rfl
/-- a word's text is no mark -/
theorem word_ne {t : ByteArray} (h : wordB t) {s : ByteArray} {c : UInt8} {l : List UInt8} (hs : s.data.toList = c :: l) (hc : isAl c = false) : t ≠ s := by
  rintro rfl
  obtain ⟨c2, l2, h1, h2, _⟩ := h
  rw [hs] at h1
  cases h1
  rw [hc] at h2
  cases h2
theorem name_kept {t : ByteArray} (h : NameW t) {s : ByteArray} (hs : s ∈ keepL) : t ≠ s := by
  rintro rfl
  have := h.keep
  rw [keepB, List.any_eq_false] at this
  exact absurd (decide_eq_true rfl) (this _ hs)
/-- a token that no expression begins with otherwise -/
theorem isT_name {t : ByteArray} (h : NameW t) {s : ByteArray} (hs : s ∈ keepL ∨ ∃ c l, s.data.toList = c :: l ∧ isAl c = false) (l : List KT) : isT s ((1, t) :: l) = false := by
  rw [isT_cons]
  have : t ≠ s := by
    rcases hs with hs | ⟨c, m, h1, h2⟩
    · exact name_kept h hs
    · exact word_ne h.word h1 h2
  rw [decide_eq_false this, Bool.and_false]
theorem ne_isT {x : KT} {s : ByteArray} (h : x.2 ≠ s) (l : List KT) : isT s (x :: l) = false := by
  rw [isT_cons]; simp [h]
theorem one_isT {k : Int} (hk : k ≠ 1 ∧ k ≠ 4) (t s : ByteArray) (l : List KT) : isT s ((k, t) :: l) = false := by
  rw [isT_cons]; simp [hk.1, hk.2]
/-- what an expression begins with -/
inductive Hd : Int → KT → Prop
  | par {n : Int} : Hd n (4, ⟨#[40]⟩)
  | null {n : Int} : Hd n (1, ⟨#[110, 117, 108, 108]⟩)
  | num {n : Int} {t : ByteArray} : Hd n (2, t)
  | txt {n : Int} {t : ByteArray} : Hd n (3, t)
  | name {n : Int} {t : ByteArray} : NameW t → Hd n (1, t)
  | neg {n : Int} : n ≤ 7 → Hd n (4, ⟨#[45]⟩)
  | not {n : Int} : n ≤ 3 → Hd n (1, ⟨#[110, 111, 116]⟩)
theorem Hd.low {n m : Int} {t : KT} (h : Hd n t) (hm : m ≤ n) : Hd m t := by
  cases h with
  | par => exact .par
  | null => exact .null
  | num => exact .num
  | txt => exact .txt
  | name h => exact .name h
  | neg h => exact .neg (by omega)
  | not h => exact .not (by omega)
theorem Lit_hd {v : Vl} {t : KT} (h : LitV v t) (n : Int) : Hd n t := by
  cases h with
  | null => exact .null
  | num => exact .num
  | txt => exact .txt
theorem Col_hd {nm : ByteArray} {ts : List KT} (h : ColN nm ts) (n : Int) : ∃ t l, ts = t :: l ∧ Hd n t := by
  cases h with
  | one h => exact ⟨_, _, rfl, .name h⟩
  | two h _ => exact ⟨_, _, rfl, .name h⟩
theorem Ft.hd {d : Nat} {n : Int} {e : Ex} {ts : List KT} (h : Ft d n e ts) : ∃ t l, ts = t :: l ∧ Hd n t := by
  induction h with
  | par _ _ _ => exact ⟨_, _, rfl, .par⟩
  | lit _ h => exact ⟨_, _, rfl, Lit_hd h _⟩
  | col _ h => exact Col_hd h _
  | neg h _ _ => exact ⟨_, _, rfl, .neg h⟩
  | not h _ _ _ => exact ⟨_, _, rfl, .not h⟩
  | nnul h _ ih => obtain ⟨t, l, rfl, k⟩ := ih; exact ⟨t, _, rfl, k.low (by omega)⟩
  | nul h _ ih => obtain ⟨t, l, rfl, k⟩ := ih; exact ⟨t, _, rfl, k.low (by omega)⟩
  | mat h h2 _ => obtain ⟨t, l, rfl, k⟩ := Col_hd h2 _; exact ⟨t, _, rfl, k⟩
  | ask h _ _ _ ih _ => obtain ⟨t, l, rfl, k⟩ := ih; exact ⟨t, _, rfl, k.low (by omega)⟩
  | sum h _ _ _ ih _ => obtain ⟨t, l, rfl, k⟩ := ih; exact ⟨t, _, rfl, k.low (by omega)⟩
  | mul h _ _ _ ih _ => obtain ⟨t, l, rfl, k⟩ := ih; exact ⟨t, _, rfl, k.low (by omega)⟩
  | and h _ _ _ ih _ => obtain ⟨t, l, rfl, k⟩ := ih; exact ⟨t, _, rfl, k.low (by omega)⟩
  | or h _ _ _ ih _ => obtain ⟨t, l, rfl, k⟩ := ih; exact ⟨t, _, rfl, k.low (by omega)⟩
/-- a word or mark that no expression of level n begins with -/
theorem Hd.isT {n : Int} {t : KT} (h : Hd n t) {s : ByteArray} (hs : s ∈ keepL ∨ ∃ c l, s.data.toList = c :: l ∧ isAl c = false) (h1 : s ≠ ⟨#[40]⟩) (h2 : s ≠ ⟨#[110, 117, 108, 108]⟩) (h3 : n ≤ 7 → s ≠ ⟨#[45]⟩) (h4 : n ≤ 3 → s ≠ ⟨#[110, 111, 116]⟩) (l : List KT) : isT s (t :: l) = false := by
  cases h with
  | par => exact ne_isT (fun h => h1 h.symm) l
  | null => exact ne_isT (fun h => h2 h.symm) l
  | num => exact one_isT (by decide) _ _ _
  | txt => exact one_isT (by decide) _ _ _
  | name h => exact isT_name h hs l
  | neg h => exact ne_isT (fun e => h3 h e.symm) l
  | not h => exact ne_isT (fun e => h4 h e.symm) l
theorem not_keep : ⟨#[110, 111, 116]⟩ ∈ keepL := by simp [keepL]
theorem Ft.noNot {d : Nat} {n : Int} {e : Ex} {ts : List KT} (h : Ft d n e ts) (hn : 4 ≤ n) (l : List KT) : isT ⟨#[110, 111, 116]⟩ (ts ++ l) = false := by
  obtain ⟨t, m, rfl, k⟩ := h.hd
  exact k.isT (Or.inl not_keep) (by decide +kernel) (by decide +kernel) (fun _ => by decide +kernel) (fun _ => by omega) _
end Go.Proofs.YtmabfbffpedfnaaGreatDoor
namespace Go.Proofs.YtmabfbffpedfnaaGreatDoor
open Go.RowKit

theorem parse_digit (M : Nat) (r : List UInt8) : ∀ (u acc : Nat), True → acc * 10 ^ Lib.nDigits u + u ≤ M → M ≤ 9999999999999999999 → Lib.parseUintM M acc (Lib.decDigits u ++ r) = Lib.parseUintM M (acc * 10 ^ Lib.nDigits u + u) r := by
  intro u
  induction u using Nat.strongRecOn generalizing r with
  | _ u ih =>
    intro acc _ hM hM2
    by_cases hu : u < 10
    · rw [Lib.decDigits_one hu, List.singleton_append, Lib.parseUintM]
      rw [Lib.nDigits_small hu] at hM ⊢
      have e : (UInt8.ofNat (48 + u)).toNat = 48 + u := by simp; omega
      rw [e, if_pos ⟨by omega, by omega⟩, if_neg (by omega), if_neg (by omega)]
      congr 1
      omega
    · rw [Lib.decDigits, dif_neg hu, List.append_assoc]
      rw [Lib.nDigits_big hu] at hM ⊢
      have hp : acc * 10 ^ (Lib.nDigits (u / 10) + 1) = acc * 10 ^ Lib.nDigits (u / 10) * 10 := by rw [Nat.pow_succ, Nat.mul_assoc]
      rw [hp] at hM ⊢
      rw [ih (u / 10) (by omega) _ acc trivial (by omega) hM2, List.singleton_append, Lib.parseUintM]
      have e : (UInt8.ofNat (48 + u % 10)).toNat = 48 + u % 10 := by simp; omega
      rw [e, if_pos ⟨by omega, by omega⟩, if_neg (by omega), if_neg (by omega)]
      congr 1
      omega
theorem dec_cons (u : Nat) : ∃ c l, Lib.decDigits u = c :: l := by
  have h1 := Lib.nDigits_pos u
  have := Lib.decDigits_length u
  cases h : Lib.decDigits u with
  | nil => rw [h, List.length_nil] at this; omega
  | cons c l => exact ⟨c, l, rfl⟩
theorem dec_all (u : Nat) : ∀ c ∈ Lib.decDigits u, isDg c = true := by
  induction u using Nat.strongRecOn with
  | _ u ih =>
    intro c hc
    by_cases hu : u < 10
    · rw [Lib.decDigits_one hu, List.mem_singleton] at hc
      subst hc
      simp [isDg, digN]; omega
    · rw [Lib.decDigits, dif_neg hu, List.mem_append] at hc
      rcases hc with hc | hc
      · exact ih (u / 10) (by omega) c hc
      · rw [List.mem_singleton] at hc
        subst hc
        simp [isDg, digN]; omega
theorem parse_dec {n : Int} (h0 : 0 ≤ n) (h1 : n ≤ 9223372036854775807) : Lib.parseIntB 64 (Lib.decDigits n.toNat) = .ok n := by
  obtain ⟨c, l, hc⟩ := dec_cons n.toNat
  have hd := dec_all n.toNat c (by rw [hc]; simp)
  simp only [isDg, digN, Bool.and_eq_true, decide_eq_true_eq] at hd
  rw [hc]
  unfold Lib.parseIntB
  simp only
  rw [if_neg (by omega), ← hc]
  have hu : Lib.parseUintB 64 (Lib.decDigits n.toNat) = .ok n.toNat := by
    rw [Lib.parseUintB, if_neg (by rw [hc]; simp)]
    have hb := parse_digit 9223372036854775807 [] n.toNat 0 trivial (by omega) (by omega)
    have hm : ∀ M1 M2 : Nat, M1 ≤ M2 → ∀ l acc v, Lib.parseUintM M1 acc l = .ok v → Lib.parseUintM M2 acc l = .ok v := by
      intro M1 M2 hM l
      induction l with
      | nil => intro acc v h; exact h
      | cons c l ih =>
        intro acc v h
        rw [Lib.parseUintM] at h ⊢
        split at h
        · rename_i hc
          rw [if_pos hc]
          split at h
          · cases h
          · rename_i h2
            rw [if_neg h2]
            split at h
            · cases h
            · rename_i h3
              rw [if_neg (by omega)]
              exact ih _ _ h
        · cases h
    refine hm 9223372036854775807 _ (by decide) _ _ _ ?_
    rw [List.append_nil] at hb
    rw [hb, Lib.parseUintM]
    congr 1
    omega
  rw [hu]
  simp only
  rw [if_neg (by omega), if_neg (by omega), if_neg (by omega)]
  congr 1
  omega

theorem chn_step {d : Nat} {n k : Int} {s : ByteArray × Int} {x y : Ex} {ts us : List KT} (hs : ∀ l, (sgs n).find? (fun q => isT q.1 ((k, s.1) :: l)) = some s) (hg : ∀ l, sgn ((k, s.1) :: l) < n + 1) (hx : Cont d n x ts) (hy : ∀ l, sgn l < n + 1 → Rr d (n + 1) (us ++ l) = some (y, l)) : Cont d n (.two s.2 x y) (ts ++ ((k, s.1) :: us)) := by
  intro l hl
  obtain ⟨y0, L, k0, h1, h2, h3⟩ := hx ((k, s.1) :: (us ++ l)) (hg _)
  refine ⟨y0, L, k0 + 1, by rw [List.append_assoc, List.cons_append]; exact h1, by simp only [List.length_cons, List.length_append] at h2; omega, fun f => ?_⟩
  rw [show f + (k0 + 1) = (f + 1) + k0 by omega, h3 (f + 1), chainL, hs]
  simp only
  rw [List.tail_cons, hy l hl]
  rfl
theorem sgs_all {n : Int} (h : isCh n) : ∀ s ∈ sgs n, n ≤ sgnT s.1 := by
  rcases h with rfl | rfl | rfl | rfl
  · exact sig_or
  · exact sig_and
  · exact sig_sum
  · exact sig_mul
theorem Rr_chain {n : Int} (h : isCh n) (d : Nat) : Rr d n = chainF (Rr d (n + 1)) (sgs n) := by
  rcases h with rfl | rfl | rfl | rfl <;> rfl
theorem cont_read {d : Nat} {n : Int} {e : Ex} {ts : List KT} (hc : isCh n) (h : Cont d n e ts) (l : List KT) (hl : sgn l < n) : Rr d n (ts ++ l) = some (e, l) := by
  obtain ⟨y, L, k, h1, h2, h3⟩ := h l (by omega)
  rw [Rr_chain hc, chainF, h1]
  show chainL _ _ L.length y L = _
  rw [show L.length = (L.length - k) + k by omega, h3]
  exact chainL_end (find_no hl (sgs_all hc)) _ _
theorem nat8_chain {d : Nat} {n m : Int} {e : Ex} {ts : List KT} (hc : isCh m) (hn : n ≤ m) (h : Cont d m e ts) (hno : 4 ≤ m → ∀ l, isT ⟨#[110, 111, 116]⟩ (ts ++ l) = false) : Nat8 d n m e ts := by
  refine ⟨hn, ?_, ?_, fun l hl => cont_read hc h l hl, fun _ => h, hno, fun h8 => ?_⟩
  · rcases hc with rfl | rfl | rfl | rfl <;> omega
  · rcases hc with rfl | rfl | rfl | rfl <;> omega
  · exfalso; rcases hc with rfl | rfl | rfl | rfl <;> omega
theorem NameW.read {a : ByteArray} (h : NameW a) (l : List KT) : nameF ((1, a) :: l) = some (a, l) := by
  rw [nameF, if_pos ⟨by rw [nameB, hdT_cons]; simp [h.keep], h.size⟩]
  rfl
theorem isT_self {k : Int} (hk : k = 1 ∨ k = 4) (s : ByteArray) (l : List KT) : isT s ((k, s) :: l) = true := by
  rw [isT_cons]; rcases hk with rfl | rfl <;> simp
theorem need_self {k : Int} (hk : k = 1 ∨ k = 4) (s : ByteArray) (l : List KT) : needF s ((k, s) :: l) = some l := by
  rw [needF, isT_self hk]; rfl
theorem null_keep : ⟨#[110, 117, 108, 108]⟩ ∈ keepL := by simp [keepL]
theorem onec_col {E : Rf Ex} {a : ByteArray} (h : NameW a) (l : List KT) : oneF E ((1, a) :: l) = colF ((1, a) :: l) := by
  rw [oneF, hdT_cons, if_neg (show ¬ (1 : Int) = 2 by decide), if_neg (show ¬ (1 : Int) = 3 by decide), isT_name h (Or.inl null_keep), isT_name h (Or.inr ⟨40, [], rfl, by decide⟩)]
  rfl
theorem col_read {d : Nat} {nm : ByteArray} {ts : List KT} (h : ColN nm ts) (l : List KT) (hl : sgn l < 8) : Rr d 8 (ts ++ l) = some (.node 2 .none nm .nil .nil, l) := by
  rw [Rr8]
  cases h with
  | one h =>
    rw [List.singleton_append, onec_col h, colF, h.read, Option.bind_some, isT_no hl sig_dot]
    rfl
  | two h k =>
    rw [List.cons_append, onec_col h, colF, h.read, Option.bind_some]
    show (if isT _ ((4, _) :: _) = true then _ else _) = _
    rw [isT_self (Or.inr rfl), if_pos rfl]
    show (nameF ((1, _) :: _)).map _ = _
    rw [k.read]
    rfl
theorem lit_read {d : Nat} {v : Vl} {t : KT} (h : LitV v t) (l : List KT) : Rr d 8 (t :: l) = some (.node 1 v ⟨#[]⟩ .nil .nil, l) := by
  rw [Rr8, oneF, hdT_cons]
  cases h with
  | null => rw [if_neg (by decide), if_neg (by decide), isT_self (Or.inl rfl)]; rfl
  | num h0 h1 =>
    rw [if_pos rfl, numF, hdT_cons]
    simp only [parse_dec h0 h1]
    rfl
  | txt h => rw [if_neg (show ¬ (3 : Int) = 2 by decide), if_pos rfl, textF, hdT_cons, if_pos ⟨rfl, h⟩]; rfl
theorem onec_paren {E : Rf Ex} (l : List KT) : oneF E ((4, ⟨#[40]⟩) :: l) = (E l).bind fun x => (needF ⟨#[41]⟩ x.2).map fun l2 => (x.1, l2) := by
  rw [oneF, hdT_cons, if_neg (by decide), if_neg (by decide), ne_isT (by decide +kernel), isT_self (Or.inr rfl)]
  rfl
theorem Col_not {nm : ByteArray} {ts : List KT} (h : ColN nm ts) (l : List KT) : isT ⟨#[110, 111, 116]⟩ (ts ++ l) = false := by
  cases h with
  | one h => exact isT_name h (Or.inl not_keep) _
  | two h _ => exact isT_name h (Or.inl not_keep) _
theorem Col_neg {nm : ByteArray} {ts : List KT} (h : ColN nm ts) (l : List KT) : isT ⟨#[45]⟩ (ts ++ l) = false := by
  cases h with
  | one h => exact isT_name h (Or.inr ⟨45, [], rfl, by decide⟩) _
  | two h _ => exact isT_name h (Or.inr ⟨45, [], rfl, by decide⟩) _
theorem no_ch {m : Int} (h : m = 3 ∨ m = 4 ∨ m = 7 ∨ m = 8) : ¬ isCh m := by
  unfold isCh; omega
theorem find_cmp (s : ByteArray × Int) (h : s ∈ cmpS) (l : List KT) : cmpS.find? (fun q => isT q.1 ((4, s.1) :: l)) = some s := by
  simp only [isT_cons]
  revert s
  decide +kernel
theorem find_sum (s : ByteArray × Int) (h : s ∈ sumS) (l : List KT) : (sgs 5).find? (fun q => isT q.1 ((4, s.1) :: l)) = some s := by
  simp only [isT_cons]
  revert s
  decide +kernel
theorem find_mul (s : ByteArray × Int) (h : s ∈ mulS) (l : List KT) : (sgs 6).find? (fun q => isT q.1 ((4, s.1) :: l)) = some s := by
  simp only [isT_cons]
  revert s
  decide +kernel
theorem find_and (s : ByteArray × Int) (h : s ∈ andS) (l : List KT) : (sgs 2).find? (fun q => isT q.1 ((1, s.1) :: l)) = some s := by
  simp only [isT_cons]
  revert s
  decide +kernel
theorem find_or (s : ByteArray × Int) (h : s ∈ orS) (l : List KT) : (sgs 1).find? (fun q => isT q.1 ((1, s.1) :: l)) = some s := by
  simp only [isT_cons]
  revert s
  decide +kernel
theorem lt_cmp : ∀ s ∈ cmpS, sgnT s.1 < (5 : Int) := by decide +kernel
theorem lt_sum : ∀ s ∈ sumS, sgnT s.1 < (6 : Int) := by decide +kernel
theorem lt_mul : ∀ s ∈ mulS, sgnT s.1 < (7 : Int) := by decide +kernel
theorem lt_and : ∀ s ∈ andS, sgnT s.1 < (3 : Int) := by decide +kernel
theorem lt_or : ∀ s ∈ orS, sgnT s.1 < (2 : Int) := by decide +kernel
theorem sgn_is (l : List KT) : sgn ((1, ⟨#[105, 115]⟩) :: l) < 5 := by rw [sgn_word]; decide +kernel
theorem sgn_match (l : List KT) : sgn ((1, ⟨#[109, 97, 116, 99, 104]⟩) :: l) < 5 := by rw [sgn_word]; decide +kernel
theorem find_is0 (l : List KT) : cmpS.find? (fun q => isT q.1 ((1, ⟨#[105, 115]⟩) :: l)) = none := by simp only [isT_cons]; decide +kernel
theorem find_match0 (l : List KT) : cmpS.find? (fun q => isT q.1 ((1, ⟨#[109, 97, 116, 99, 104]⟩) :: l)) = none := by simp only [isT_cons]; decide +kernel

theorem Ft.nat {d : Nat} {n : Int} {e : Ex} {ts : List KT} (h : Ft d n e ts) (h8 : n ≤ 8) : ∃ m, Nat8 d n m e ts := by
  induction h with
  | @par d n e ts hl hf ih =>
    obtain ⟨m, hm⟩ := ih (by decide)
    refine ⟨8, h8, by decide, by decide, fun l hs => ?_, fun hc => absurd hc (no_ch (by decide)), fun _ l => ?_, fun _ l => ?_⟩
    · rw [Rr8, List.cons_append, onec_paren, ← Rr1E, List.append_assoc, hm.at (by decide) hm.pos (by rw [List.singleton_append, sgn_mark]; decide +kernel), Option.bind_some, List.singleton_append]
      show (needF _ ((4, _) :: _)).map _ = _
      rw [need_self (Or.inr rfl)]
      rfl
    · exact ne_isT (by decide +kernel) _
    · exact ne_isT (by decide +kernel) _
  | @lit d n v t hn hv =>
    refine ⟨8, h8, by decide, by decide, fun l hs => lit_read hv l, fun hc => absurd hc (no_ch (by decide)), fun _ l => ?_, fun _ l => ?_⟩
    · exact (Lit_hd hv 8).isT (Or.inl not_keep) (by decide +kernel) (by decide +kernel) (fun _ => by decide +kernel) (fun _ => by omega) _
    · exact (Lit_hd hv 8).isT (Or.inr ⟨45, [], rfl, by decide⟩) (by decide +kernel) (by decide +kernel) (fun _ => by omega) (fun _ => by decide +kernel) _
  | @col d n nm ts hn hv =>
    exact ⟨8, h8, by decide, by decide, fun l hs => col_read hv l hs, fun hc => absurd hc (no_ch (by decide)), fun _ l => Col_not hv l, fun _ l => Col_neg hv l⟩
  | @neg d n x ts hn hf ih =>
    obtain ⟨m, hm⟩ := ih (by decide)
    refine ⟨7, hn, by decide, by decide, fun l hs => ?_, fun hc => absurd hc (no_ch (by decide)), fun _ l => ne_isT (by decide +kernel) _, fun h => absurd h (by decide)⟩
    rw [Rr7, minusF, List.cons_append, isT_self (Or.inr rfl), if_pos rfl, List.tail_cons, ← Rr7M, hm.at (by decide) hm.le hs]
    rfl
  | @not d n x ts hn hx hf ih =>
    obtain ⟨m, hm⟩ := ih (by decide)
    refine ⟨3, hn, by decide, by decide, fun l hs => ?_, fun hc => absurd hc (no_ch (by decide)), fun h => absurd h (by decide), fun h => absurd h (by decide)⟩
    rw [Rr3, notF, List.cons_append, isT_self (Or.inl rfl), if_pos rfl, List.tail_cons, ← Rr3N, hm.at (by decide) hm.le hs]
    rfl
  | @nnul d n x ts hn hf ih =>
    obtain ⟨m, hm⟩ := ih (by decide)
    refine ⟨4, by omega, by decide, by decide, fun l hs => ?_, fun hc => absurd hc (no_ch (by decide)), fun _ l => by rw [List.append_assoc]; exact hf.noNot (by decide) _, fun h => absurd h (by decide)⟩
    rw [Rr4, askF, List.append_assoc, List.cons_append, hm.at (by decide) hm.le (sgn_is _), Option.bind_some, askR, find_is0]
    simp only
    rw [isT_self (Or.inl rfl), if_pos rfl, nullF, List.tail_cons, List.cons_append, isT_self (Or.inl rfl), if_pos rfl, List.tail_cons, List.cons_append, need_self (Or.inl rfl)]
    rfl
  | @nul d n x ts hn hf ih =>
    obtain ⟨m, hm⟩ := ih (by decide)
    refine ⟨4, by omega, by decide, by decide, fun l hs => ?_, fun hc => absurd hc (no_ch (by decide)), fun _ l => by rw [List.append_assoc]; exact hf.noNot (by decide) _, fun h => absurd h (by decide)⟩
    rw [Rr4, askF, List.append_assoc, List.cons_append, hm.at (by decide) hm.le (sgn_is _), Option.bind_some, askR, find_is0]
    simp only
    rw [isT_self (Or.inl rfl), if_pos rfl, nullF, List.tail_cons, List.cons_append, ne_isT (by decide +kernel), if_neg (by decide), need_self (Or.inl rfl)]
    rfl
  | @mat d n nm t ts hn hc hr =>
    refine ⟨4, by omega, by decide, by decide, fun l hs => ?_, fun hc => absurd hc (no_ch (by decide)), fun _ l => by rw [List.append_assoc]; exact Col_not hc _, fun h => absurd h (by decide)⟩
    have h5 : Rr d 5 (ts ++ ((1, ⟨#[109, 97, 116, 99, 104]⟩) :: (3, t) :: l)) = some (.node 2 .none nm .nil .nil, (1, ⟨#[109, 97, 116, 99, 104]⟩) :: (3, t) :: l) :=
      down_to (by decide) (by decide) (by decide) (col_read hc _ (by have := sgn_match ((3, t) :: l); omega)) (sgn_match _) (fun h => absurd h (by decide)) (fun _ _ => Col_neg hc _)
    rw [Rr4, askF, List.append_assoc, List.cons_append, List.singleton_append, h5, Option.bind_some, askR, find_match0]
    simp only
    rw [ne_isT (by decide +kernel), if_neg (by decide), if_pos ⟨rfl, isT_self (Or.inl rfl) _ _⟩, List.tail_cons, textF, hdT_cons, if_pos ⟨rfl, hr⟩]
    rfl
  | @ask d n s x y ts us hn hs hx hy ihx ihy =>
    obtain ⟨m, hm⟩ := ihx (by decide)
    obtain ⟨p, hp⟩ := ihy (by decide)
    refine ⟨4, hn, by decide, by decide, fun l hl => ?_, fun hc => absurd hc (no_ch (by decide)), fun _ l => by rw [List.append_assoc]; exact hx.noNot (by decide) _, fun h => absurd h (by decide)⟩
    rw [Rr4, askF, List.append_assoc, List.cons_append, hm.at (by decide) hm.le (by rw [sgn_mark]; exact lt_cmp s hs), Option.bind_some, askR, find_cmp s hs]
    simp only
    rw [List.tail_cons, hp.at (by decide) hp.le (by omega)]
    rfl
  | @sum d n s x y ts us hn hs hx hy ihx ihy =>
    obtain ⟨m, hm⟩ := ihx (by decide)
    obtain ⟨p, hp⟩ := ihy (by decide)
    refine ⟨5, nat8_chain (by unfold isCh; decide) hn (chn_step (find_sum s hs) (fun l => by rw [sgn_mark]; exact lt_sum s hs) (hm.conts (by unfold isCh; decide) hm.le) (fun l hl => hp.at (by decide) hp.le hl)) (fun _ l => by rw [List.append_assoc]; exact hx.noNot (by decide) _)⟩
  | @mul d n s x y ts us hn hs hx hy ihx ihy =>
    obtain ⟨m, hm⟩ := ihx (by decide)
    obtain ⟨p, hp⟩ := ihy (by decide)
    refine ⟨6, nat8_chain (by unfold isCh; decide) hn (chn_step (find_mul s hs) (fun l => by rw [sgn_mark]; exact lt_mul s hs) (hm.conts (by unfold isCh; decide) hm.le) (fun l hl => hp.at (by decide) hp.le hl)) (fun _ l => by rw [List.append_assoc]; exact hx.noNot (by decide) _)⟩
  | @and d n s x y ts us hn hs hx hy ihx ihy =>
    obtain ⟨m, hm⟩ := ihx (by decide)
    obtain ⟨p, hp⟩ := ihy (by decide)
    refine ⟨2, nat8_chain (by unfold isCh; decide) hn (chn_step (find_and s hs) (fun l => by rw [sgn_word]; exact lt_and s hs) (hm.conts (by unfold isCh; decide) hm.le) (fun l hl => hp.at (by decide) hp.le hl)) (fun h => absurd h (by decide))⟩
  | @or d n s x y ts us hn hs hx hy ihx ihy =>
    obtain ⟨m, hm⟩ := ihx (by decide)
    obtain ⟨p, hp⟩ := ihy (by decide)
    refine ⟨1, nat8_chain (by unfold isCh; decide) hn (chn_step (find_or s hs) (fun l => by rw [sgn_word]; exact lt_or s hs) (hm.conts (by unfold isCh; decide) hm.le) (fun l hl => hp.at (by decide) hp.le hl)) (fun h => absurd h (by decide))⟩
/-- printed and read again -/
theorem Ft.back {e : Ex} {ts : List KT} (h : Ft 12 1 e ts) (l : List KT) (hl : sgn l < 1) : Ef (ts ++ l) = some (e, l) := by
  obtain ⟨m, hm⟩ := h.nat (by decide)
  exact hm.at (by decide) hm.pos hl
end Go.Proofs.YtmabfbffpedfnaaGreatDoor
namespace Go.Proofs.YtmabfbffpedfnaaGreatDoor
open Go.RowKit

/-- what tokens weigh -/
def wt (μ : KT → Nat) (l : List KT) : Nat := (l.map μ).sum
theorem wt_nil (μ : KT → Nat) : wt μ [] = 0 := rfl
theorem wt_cons (μ : KT → Nat) (x : KT) (l : List KT) : wt μ (x :: l) = μ x + wt μ l := by simp [wt]
theorem wt_append (μ : KT → Nat) (a b : List KT) : wt μ (a ++ b) = wt μ a + wt μ b := by simp [wt]
/-- a measure by which a number weighs no more as it is printed -/
structure MuOk (μ : KT → Nat) : Prop where
  same : ∀ s, μ (1, s) = μ (4, s)
  num : ∀ t n, digsB t = true → Lib.parseIntB 64 t.data.toList = .ok n → μ (2, ⟨(Lib.decDigits n.toNat).toArray⟩) ≤ μ (2, t)
/-- tokens as a text has them -/
def Src (l : List KT) : Prop := ∀ x ∈ l, (x.1 = 1 → wordB x.2) ∧ (x.1 = 2 → digsB x.2 = true)
theorem Src.tail {l : List KT} (h : Src l) : Src l.tail := fun x hx => h x (List.mem_of_mem_tail hx)
/-- a token that is taken -/
theorem isT_cons' {s : ByteArray} {l : List KT} (h : isT s l = true) : ∃ k, (k = 1 ∨ k = 4) ∧ l = (k, s) :: l.tail := by
  have hk := isT_k h
  cases l with
  | nil => exact absurd hk.1 (by show ¬ ((5 : Int) = 1 ∨ (5 : Int) = 4); decide)
  | cons x l =>
    obtain ⟨k, t⟩ := x
    exact ⟨k, hk.1, by rw [← (show t = s from hk.2)]; rfl⟩
theorem isT_wt {s : ByteArray} {l : List KT} (h : isT s l = true) {μ : KT → Nat} (hμ : MuOk μ) : wt μ l = μ (1, s) + wt μ l.tail := by
  obtain ⟨k, hk, e⟩ := isT_cons' h
  rw [e, wt_cons, List.tail_cons]
  rcases hk with rfl | rfl
  · rfl
  · rw [hμ.same]
theorem isT_wt4 {s : ByteArray} {l : List KT} (h : isT s l = true) {μ : KT → Nat} (hμ : MuOk μ) : wt μ l = μ (4, s) + wt μ l.tail := by rw [isT_wt h hμ, hμ.same]
theorem need_wt {s : ByteArray} {l l2 : List KT} (h : needF s l = some l2) : isT s l = true ∧ l2 = l.tail := by
  rw [needF] at h
  split at h
  · rename_i hs; exact ⟨hs, (Option.some.inj h).symm⟩
  · cases h

theorem lvl_pos (c : Int) : 1 ≤ lvlC c := by
  unfold lvlC
  split
  · decide
  · split
    · decide
    · split
      · decide
      · split
        · rename_i h
          unfold pairR at h ⊢
          split at h
          · rename_i p hp
            have := List.mem_of_find?_eq_some hp
            revert this
            have key : ∀ p ∈ pairL, (1 : Int) ≤ p.2.2 := by decide +kernel
            exact fun hm => by simp only; exact key p hm
          · cases h
        · decide
theorem lvl_cmp : ∀ s ∈ cmpS, lvlC s.2 = 4 := by decide +kernel
theorem lvl_sum : ∀ s ∈ sumS, lvlC s.2 = 5 := by decide +kernel
theorem lvl_mul : ∀ s ∈ mulS, lvlC s.2 = 6 := by decide +kernel
theorem lvl_and : ∀ s ∈ andS, lvlC s.2 = 2 := by decide +kernel
theorem lvl_or : ∀ s ∈ orS, lvlC s.2 = 1 := by decide +kernel

theorem Ft.mono {d : Nat} {n : Int} {e : Ex} {ts : List KT} (h : Ft d n e ts) : Ft (d + 1) n e ts := by
  induction h with
  | par a _ ih => exact .par a ih
  | lit a b => exact .lit a b
  | col a b => exact .col a b
  | neg a _ ih => exact .neg a ih
  | not a b _ ih => exact .not a b ih
  | nnul a _ ih => exact .nnul a ih
  | nul a _ ih => exact .nul a ih
  | mat a b c => exact .mat a b c
  | ask a b _ _ i j => exact .ask a b i j
  | sum a b _ _ i j => exact .sum a b i j
  | mul a b _ _ i j => exact .mul a b i j
  | and a b _ _ i j => exact .and a b i j
  | or a b _ _ i j => exact .or a b i j
/-- where one of a higher level stands, if it is of one -/
theorem Ft.up {d : Nat} {e : Ex} {ts : List KT} (h : Ft d 1 e ts) {n : Int} (hn : n ≤ lvlC e.code) : Ft d n e ts := by
  cases h with
  | par a _ => have := lvl_pos e.code; omega
  | lit _ b => exact .lit hn b
  | col _ b => exact .col hn b
  | neg _ b => exact .neg hn b
  | not _ b c => exact .not hn b c
  | nnul _ b => exact .nnul hn b
  | nul _ b => exact .nul hn b
  | mat _ b c => exact .mat hn b c
  | ask _ b x y => exact .ask (by have := lvl_cmp _ b; simp only [Ex.two, Ex.code] at hn; omega) b x y
  | sum _ b x y => exact .sum (by have := lvl_sum _ b; simp only [Ex.two, Ex.code] at hn; omega) b x y
  | mul _ b x y => exact .mul (by have := lvl_mul _ b; simp only [Ex.two, Ex.code] at hn; omega) b x y
  | and _ b x y => exact .and (by have := lvl_and _ b; simp only [Ex.two, Ex.code] at hn; omega) b x y
  | or _ b x y => exact .or (by have := lvl_or _ b; simp only [Ex.two, Ex.code] at hn; omega) b x y
theorem Ft.isCol {d : Nat} {n : Int} {x : Ex} {ts : List KT} (h : Ft d n x ts) (hx : x.code = 2) : ∃ nm us, x = .node 2 .none nm .nil .nil ∧ ColN nm us ∧ ∀ μ, MuOk μ → wt μ us ≤ wt μ ts := by
  have kc : ∀ s ∈ cmpS, s.2 ≠ 2 := by decide +kernel
  have ks : ∀ s ∈ sumS, s.2 ≠ 2 := by decide +kernel
  have km : ∀ s ∈ mulS, s.2 ≠ 2 := by decide +kernel
  have ka : ∀ s ∈ andS, s.2 ≠ 2 := by decide +kernel
  have ko : ∀ s ∈ orS, s.2 ≠ 2 := by decide +kernel
  induction h with
  | par _ _ ih =>
    obtain ⟨nm, us, e, hc, hw⟩ := ih hx
    exact ⟨nm, us, e, hc, fun μ hμ => by have := hw μ hμ; rw [wt_cons, wt_append]; omega⟩
  | col _ hc => exact ⟨_, _, rfl, hc, fun μ _ => Nat.le_refl _⟩
  | lit _ _ => simp [Ex.code] at hx
  | neg _ _ _ => simp [Ex.code, Ex.two] at hx
  | not _ _ _ _ => simp [Ex.code, Ex.two] at hx
  | nnul _ _ _ => simp [Ex.code, Ex.two] at hx
  | nul _ _ _ => simp [Ex.code, Ex.two] at hx
  | mat _ _ _ => simp [Ex.code] at hx
  | ask _ hs _ _ _ _ => exact absurd hx (kc _ hs)
  | sum _ hs _ _ _ _ => exact absurd hx (ks _ hs)
  | mul _ hs _ _ _ _ => exact absurd hx (km _ hs)
  | and _ hs _ _ _ _ => exact absurd hx (ka _ hs)
  | or _ hs _ _ _ _ => exact absurd hx (ko _ hs)
theorem Ft.isNul {d : Nat} {n : Int} {x : Ex} {ts : List KT} (h : Ft d n x ts) (hn : n ≤ 4) (hx : x.code = 5) : ∃ z us, x = .two 5 z .nil ∧ Ft d 5 z us ∧ ∀ μ, MuOk μ → wt μ us + μ (1, ⟨#[105, 115]⟩) + μ (1, ⟨#[110, 117, 108, 108]⟩) ≤ wt μ ts := by
  have kc : ∀ s ∈ cmpS, s.2 ≠ 5 := by decide +kernel
  have ks : ∀ s ∈ sumS, s.2 ≠ 5 := by decide +kernel
  have km : ∀ s ∈ mulS, s.2 ≠ 5 := by decide +kernel
  have ka : ∀ s ∈ andS, s.2 ≠ 5 := by decide +kernel
  have ko : ∀ s ∈ orS, s.2 ≠ 5 := by decide +kernel
  cases h with
  | par a _ => rw [hx, show lvlC 5 = 4 by decide +kernel] at a; omega
  | nul _ b => exact ⟨_, _, rfl, b, fun μ _ => by simp only [wt_append, wt_cons, wt_nil]; omega⟩
  | col _ _ => simp [Ex.code] at hx
  | lit _ _ => simp [Ex.code] at hx
  | neg _ _ => simp [Ex.code, Ex.two] at hx
  | not _ _ _ => simp [Ex.code, Ex.two] at hx
  | nnul _ _ => simp [Ex.code, Ex.two] at hx
  | mat _ _ _ => simp [Ex.code] at hx
  | ask _ hs _ _ => exact absurd hx (kc _ hs)
  | sum _ hs _ _ => exact absurd hx (ks _ hs)
  | mul _ hs _ _ => exact absurd hx (km _ hs)
  | and _ hs _ _ => exact absurd hx (ka _ hs)
  | or _ hs _ _ => exact absurd hx (ko _ hs)
/-- what is read of tokens l, so that l' are left: it can be printed, in no more -/
def Rdy (d : Nat) (n : Int) (e : Ex) (l l' : List KT) : Prop := Src l' ∧ ∃ ts, Ft d n e ts ∧ ∀ μ, MuOk μ → wt μ ts + wt μ l' ≤ wt μ l
theorem Rdy.low {d : Nat} {n m : Int} {e : Ex} {l l' : List KT} (h : Rdy d n e l l') (hm : m ≤ n) : Rdy d m e l l' := by
  obtain ⟨hs, ts, hf, hw⟩ := h
  cases hf with
  | @par d _ _ us a b =>
    by_cases c : lvlC e.code < m
    · exact ⟨hs, _, .par c b, hw⟩
    · refine ⟨hs, us, (b.up (by omega)).mono, fun μ hμ => ?_⟩
      have := hw μ hμ
      rw [wt_cons, wt_append] at this
      omega
  | lit a b => exact ⟨hs, _, .lit (by omega) b, hw⟩
  | col a b => exact ⟨hs, _, .col (by omega) b, hw⟩
  | neg a b => exact ⟨hs, _, .neg (by omega) b, hw⟩
  | not a b c => exact ⟨hs, _, .not (by omega) b c, hw⟩
  | nnul a b => exact ⟨hs, _, .nnul (by omega) b, hw⟩
  | nul a b => exact ⟨hs, _, .nul (by omega) b, hw⟩
  | mat a b c => exact ⟨hs, _, .mat (by omega) b c, hw⟩
  | ask a b x y => exact ⟨hs, _, .ask (by omega) b x y, hw⟩
  | sum a b x y => exact ⟨hs, _, .sum (by omega) b x y, hw⟩
  | mul a b x y => exact ⟨hs, _, .mul (by omega) b x y, hw⟩
  | and a b x y => exact ⟨hs, _, .and (by omega) b x y, hw⟩
  | or a b x y => exact ⟨hs, _, .or (by omega) b x y, hw⟩
/-- what reads, reads what can be printed -/
def Rds (F : Rf Ex) (d : Nat) (n : Int) : Prop := ∀ l, Src l → ∀ e l', F l = some (e, l') → Rdy d n e l l'
/-- a chain -/
theorem rds_chainL {B : Rf Ex} {sg : List (ByteArray × Int)} {d : Nat} {n k : Int} (hk : k = 1 ∨ k = 4) (hB : Rds B d (n + 1))
    (hC : ∀ s ∈ sg, ∀ x y ts us, Ft d n x ts → Ft d (n + 1) y us → Ft d n (.two s.2 x y) (ts ++ ((k, s.1) :: us))) (f : Nat) :
    ∀ e l e' l', Src l → chainL B sg f e l = some (e', l') → ∀ ts, Ft d n e ts → Src l' ∧ ∃ us, Ft d n e' us ∧ ∀ μ, MuOk μ → wt μ us + wt μ l' ≤ wt μ ts + wt μ l := by
  induction f with
  | zero => intro e l e' l' hs h ts ht; cases h; exact ⟨hs, ts, ht, fun μ _ => Nat.le_refl _⟩
  | succ f ih =>
    intro e l e' l' hs h ts ht
    rw [chainL] at h
    split at h
    · cases h; exact ⟨hs, ts, ht, fun μ _ => Nat.le_refl _⟩
    · rename_i s hf
      obtain ⟨⟨y, l2⟩, hy, h⟩ := Option.bind_eq_some_iff.1 h
      obtain ⟨hs2, us, hu, hw⟩ := hB _ hs.tail y l2 hy
      obtain ⟨hs3, vs, hv, hw2⟩ := ih _ _ _ _ hs2 h _ (hC s (List.mem_of_find?_eq_some hf) e y ts us ht hu)
      refine ⟨hs3, vs, hv, fun μ hμ => ?_⟩
      have a := hw μ hμ
      have b := hw2 μ hμ
      rw [wt_append, wt_cons] at b
      have c := isT_wt (find_is hf) hμ
      have c2 : μ (k, s.1) = μ (1, s.1) := by
        rcases hk with rfl | rfl
        · rfl
        · exact (hμ.same _).symm
      omega
theorem rds_chain {B : Rf Ex} {sg : List (ByteArray × Int)} {d : Nat} {n k : Int} (hk : k = 1 ∨ k = 4) (hB : Rds B d (n + 1))
    (hC : ∀ s ∈ sg, ∀ x y ts us, Ft d n x ts → Ft d (n + 1) y us → Ft d n (.two s.2 x y) (ts ++ ((k, s.1) :: us))) : Rds (chainF B sg) d n := by
  intro l hs e l' h
  obtain ⟨⟨y, l2⟩, hy, h⟩ := Option.bind_eq_some_iff.1 h
  obtain ⟨hs2, ts, ht, hw⟩ := (hB l hs y l2 hy).low (m := n) (by omega)
  obtain ⟨hs3, us, hu, hw2⟩ := rds_chainL hk hB hC _ _ _ _ _ hs2 h ts ht
  refine ⟨hs3, us, hu, fun μ hμ => ?_⟩
  have := hw μ hμ
  have := hw2 μ hμ
  dsimp only at *
  omega
theorem name_rd {l : List KT} (hs : Src l) {a : ByteArray} {l' : List KT} (h : nameF l = some (a, l')) : NameW a ∧ l = (1, a) :: l' := by
  rw [nameF] at h
  split at h
  · rename_i hn
    cases h
    have hn1 := hn.1
    simp only [nameB, Bool.and_eq_true, decide_eq_true_eq, Bool.not_eq_true'] at hn1
    cases l with
    | nil => exact absurd hn1.1 (by show ¬ (5 : Int) = 1; decide)
    | cons x l =>
      obtain ⟨k, t⟩ := x
      have hk : k = 1 := hn1.1
      subst hk
      exact ⟨⟨(hs _ (List.mem_cons_self)).1 rfl, hn1.2, hn.2⟩, rfl⟩
  · cases h
theorem col_rd {l : List KT} (hs : Src l) {e : Ex} {l' : List KT} (h : colF l = some (e, l')) : Src l' ∧ ∃ nm ts, e = .node 2 .none nm .nil .nil ∧ ColN nm ts ∧ ∀ μ, MuOk μ → wt μ ts + wt μ l' ≤ wt μ l := by
  obtain ⟨⟨a, l1⟩, h1, h⟩ := Option.bind_eq_some_iff.1 h
  obtain ⟨na, el⟩ := name_rd hs h1
  have hs1 : Src l1 := by have := hs.tail; rw [el] at this; exact this
  split at h
  · rename_i hd
    obtain ⟨⟨b, l2⟩, h2, h⟩ := Option.map_eq_some_iff.1 h
    cases h
    obtain ⟨nb, el2⟩ := name_rd hs1.tail h2
    have hs2 : Src l2 := by have := hs1.tail.tail; rw [el2] at this; exact this
    refine ⟨hs2, _, _, rfl, .two na nb, fun μ hμ => ?_⟩
    have c := isT_wt4 hd hμ
    rw [el, wt_cons]
    simp only [wt_cons, wt_nil] at c ⊢
    rw [c, el2, wt_cons]
    omega
  · cases h
    exact ⟨hs1, _, _, rfl, .one na, fun μ hμ => by rw [el]; simp [wt_cons, wt_nil]⟩
theorem num_rd {t : ByteArray} (h : digsB t = true) {n : Int} (hp : Lib.parseIntB 64 t.data.toList = .ok n) : 0 ≤ n ∧ n ≤ 9223372036854775807 := by
  cases e : t.data.toList with
  | nil => rw [e] at hp; cases hp
  | cons c l =>
    simp only [digsB, Bool.and_eq_true, decide_eq_true_eq, List.all_eq_true] at h
    have hc := h.2 c (by rw [e]; simp)
    simp only [isDg, digN, Bool.and_eq_true, decide_eq_true_eq] at hc
    rw [e] at hp
    unfold Lib.parseIntB at hp
    simp only at hp
    split at hp
    · cases hp
    · cases hp
    · rename_i u hu
      rw [if_neg (show ¬ c.toNat = 45 by omega)] at hp
      split at hp
      · cases hp
      · rename_i h1
        split at hp
        · cases hp
        · have := Lib.NumEnd.ok.inj hp
          omega
theorem rds_one {E : Rf Ex} {d : Nat} (hE : ∀ l, Src l → ∀ e l', E l = some (e, l') → ∃ c, d = c + 1 ∧ Rdy c 1 e l l') : Rds (oneF E) d 8 := by
  intro l hs e l' h
  rw [oneF] at h
  split at h
  · rename_i hk
    obtain ⟨⟨v, l2⟩, h1, h2⟩ := Option.map_eq_some_iff.1 h
    cases h2
    cases l with
    | nil => exact absurd hk (by show ¬ (5 : Int) = 2; decide)
    | cons x l =>
      obtain ⟨k, t⟩ := x
      have hk2 : k = 2 := hk
      subst hk2
      have hd := (hs _ (List.mem_cons_self)).2 rfl
      rw [numF, hdT_cons] at h1
      split at h1
      · rename_i n hp
        cases h1
        have := num_rd hd hp
        refine ⟨hs.tail, _, .lit (by decide) (.num this.1 this.2), fun μ hμ => ?_⟩
        have := hμ.num t n hd hp
        simp only [wt_cons, wt_nil, List.tail_cons]
        omega
      · cases h1
  · split at h
    · rename_i hk
      obtain ⟨⟨v, l2⟩, h1, h2⟩ := Option.map_eq_some_iff.1 h
      cases h2
      rw [textF] at h1
      split at h1
      · rename_i hr
        cases h1
        cases l with
        | nil => exact absurd hk (by show ¬ (5 : Int) = 3; decide)
        | cons x l =>
          obtain ⟨k, t⟩ := x
          have hk2 : k = 3 := hk
          subst hk2
          exact ⟨hs.tail, _, .lit (by decide) (.txt hr.2), fun μ hμ => by simp only [wt_cons, wt_nil]; exact Nat.le_refl _⟩
      · cases h1
    · split at h
      · rename_i hn
        cases h
        exact ⟨hs.tail, _, .lit (by decide) .null, fun μ hμ => by rw [isT_wt hn hμ]; simp [wt_cons, wt_nil]⟩
      · split at h
        · rename_i hp
          obtain ⟨⟨y, l2⟩, h1, h⟩ := Option.bind_eq_some_iff.1 h
          obtain ⟨l3, h2, h3⟩ := Option.map_eq_some_iff.1 h
          cases h3
          obtain ⟨c, rfl, hs2, ts, hf, hw⟩ := hE _ hs.tail _ _ h1
          obtain ⟨hq, rfl⟩ := need_wt h2
          refine ⟨hs2.tail, ?_⟩
          by_cases hlv : lvlC y.code < 8
          · refine ⟨_, .par hlv hf, fun μ hμ => ?_⟩
            have a := hw μ hμ
            have b := isT_wt4 hp hμ
            have c := isT_wt4 hq hμ
            simp only [wt_cons, wt_append, wt_nil]
            simp only at a c
            omega
          · refine ⟨ts, (hf.up (by omega)).mono, fun μ hμ => ?_⟩
            have a := hw μ hμ
            have b := isT_wt4 hp hμ
            have c := isT_wt4 hq hμ
            simp only at a c ⊢
            omega
        · obtain ⟨hs2, nm, ts, rfl, hc, hw⟩ := col_rd hs h
          exact ⟨hs2, ts, .col (by decide) hc, hw⟩
theorem rds_minus {M : Rf Ex} {O : Rf Ex} {d : Nat} (hM : ∀ l, Src l → ∀ e l', M l = some (e, l') → ∃ c, d = c + 1 ∧ Rdy c 7 e l l') (hO : Rds O d 8) : Rds (minusF M O) d 7 := by
  intro l hs e l' h
  rw [minusF] at h
  split at h
  · rename_i hm
    obtain ⟨⟨y, l2⟩, h1, h2⟩ := Option.map_eq_some_iff.1 h
    cases h2
    obtain ⟨c, rfl, hs2, ts, hf, hw⟩ := hM _ hs.tail _ _ h1
    refine ⟨hs2, _, .neg (by decide) hf, fun μ hμ => ?_⟩
    have a := hw μ hμ
    have b := isT_wt4 hm hμ
    rw [wt_cons]
    simp only at a ⊢
    omega
  · exact (hO l hs e l' h).low (by decide)
theorem rds_null {d : Nat} {x : Ex} {ts : List KT} (hx : Ft d 5 x ts) {l : List KT} (hs : Src l) {e : Ex} {l' : List KT} (h : nullF x l = some (e, l')) : Src l' ∧ ∃ us, Ft d 3 e us ∧ (Ft d 4 e us ∨ ∃ z, e = .two 4 z .nil) ∧ ∀ μ, MuOk μ → wt μ us + wt μ l' ≤ wt μ ts + μ (1, ⟨#[105, 115]⟩) + wt μ l := by
  rw [nullF] at h
  split at h
  · rename_i hn
    obtain ⟨l2, h1, h2⟩ := Option.map_eq_some_iff.1 h
    cases h2
    obtain ⟨hq, rfl⟩ := need_wt h1
    refine ⟨hs.tail.tail, _, .nnul (by decide) hx, Or.inr ⟨_, rfl⟩, fun μ hμ => ?_⟩
    rw [isT_wt hn hμ, isT_wt hq hμ]
    simp only [wt_cons, wt_append, wt_nil]
    omega
  · obtain ⟨l2, h1, h2⟩ := Option.map_eq_some_iff.1 h
    cases h2
    obtain ⟨hq, rfl⟩ := need_wt h1
    refine ⟨hs.tail, _, .nul (by decide) hx, Or.inl (.nul (by decide) hx), fun μ hμ => ?_⟩
    rw [isT_wt hq hμ]
    simp only [wt_cons, wt_append, wt_nil]
    omega
/-- a question may be a Not of IsNull: it is read where a Not may stand -/
theorem rds_ask {S : Rf Ex} {d : Nat} (hS : Rds S d 5) : Rds (askF S) d 3 := by
  intro l hs e l' h
  obtain ⟨⟨x, l2⟩, h1, h⟩ := Option.bind_eq_some_iff.1 h
  obtain ⟨hs2, ts, hf, hw⟩ := hS _ hs _ _ h1
  rw [askR] at h
  split at h
  · rename_i s hm
    obtain ⟨⟨y, l3⟩, h2, h3⟩ := Option.map_eq_some_iff.1 h
    cases h3
    obtain ⟨hs3, us, hu, hw2⟩ := hS _ hs2.tail _ _ h2
    refine ⟨hs3, _, .ask (by decide) (List.mem_of_find?_eq_some hm) hf hu, fun μ hμ => ?_⟩
    have a := hw μ hμ
    have b := hw2 μ hμ
    have c := isT_wt4 (find_is hm) hμ
    rw [wt_append, wt_cons]
    dsimp only at *
    omega
  · split at h
    · rename_i hi
      obtain ⟨hs3, us, hu, _, hw2⟩ := rds_null hf hs2.tail h
      refine ⟨hs3, us, hu, fun μ hμ => ?_⟩
      have a := hw μ hμ
      have b := hw2 μ hμ
      have c := isT_wt hi hμ
      dsimp only at *
      omega
    · split at h
      · rename_i hi
        obtain ⟨⟨v, l3⟩, h2, h3⟩ := Option.map_eq_some_iff.1 h
        cases h3
        obtain ⟨nm, us, rfl, hc, hwc⟩ := hf.isCol hi.1
        rw [textF] at h2
        split at h2
        · rename_i hr
          cases h2
          refine ⟨hs2.tail.tail, _, .mat (by decide) hc hr.2, fun μ hμ => ?_⟩
          have a := hw μ hμ
          have b := hwc μ hμ
          have c := isT_wt hi.2 hμ
          simp only [wt_append, wt_cons, wt_nil]
          have e3 : wt μ l2.tail = μ (3, (hdT l2.tail).2) + wt μ l2.tail.tail := by
            cases e : l2.tail with
            | nil => rw [e] at hr; exact absurd hr.1 (by show ¬ (5 : Int) = 3; decide)
            | cons q r =>
              rw [e] at hr
              obtain ⟨k, t⟩ := q
              obtain rfl : k = 3 := hr.1
              rw [wt_cons]; rfl
          dsimp only at *
          omega
        · cases h2
      · cases h
        exact Rdy.low ⟨hs2, ts, hf, hw⟩ (by decide)
theorem rds_not {N A : Rf Ex} {d : Nat} (hN : ∀ l, Src l → ∀ e l', N l = some (e, l') → ∃ c, d = c + 1 ∧ Rdy c 3 e l l') (hA : Rds A d 3) : Rds (notF N A) d 3 := by
  intro l hs e l' h
  rw [notF] at h
  split at h
  · rename_i hm
    obtain ⟨⟨y, l2⟩, h1, h2⟩ := Option.map_eq_some_iff.1 h
    cases h2
    obtain ⟨c, rfl, hs2, ts, hf, hw⟩ := hN _ hs.tail _ _ h1
    by_cases hy : y.code = 5
    · obtain ⟨z, us, rfl, hz, hwz⟩ := hf.isNul (by decide) hy
      refine ⟨hs2, _, .nnul (by decide) hz.mono, fun μ hμ => ?_⟩
      have a := hw μ hμ
      have b := isT_wt hm hμ
      have c := hwz μ hμ
      simp only [wt_append, wt_cons, wt_nil]
      dsimp only at *
      omega
    · refine ⟨hs2, _, .not (by decide) hy hf, fun μ hμ => ?_⟩
      have a := hw μ hμ
      have b := isT_wt hm hμ
      rw [wt_cons]
      simp only at a ⊢
      omega
  · exact hA l hs e l' h
theorem lev_rds (d : Nat) : (∀ l, Src l → ∀ e l', (lev d).E l = some (e, l') → ∃ c, d = c + 1 ∧ Rdy c 1 e l l') ∧ (∀ l, Src l → ∀ e l', (lev d).N l = some (e, l') → ∃ c, d = c + 1 ∧ Rdy c 3 e l l') ∧ (∀ l, Src l → ∀ e l', (lev d).M l = some (e, l') → ∃ c, d = c + 1 ∧ Rdy c 7 e l l') := by
  induction d with
  | zero => exact ⟨(fun _ _ _ _ h => by cases h), (fun _ _ _ _ h => by cases h), (fun _ _ _ _ h => by cases h)⟩
  | succ d ih =>
    have h8 : Rds (Rr d 8) d 8 := rds_one ih.1
    have h7 : Rds (Rr d 7) d 7 := rds_minus ih.2.2 h8
    have h6 : Rds (Rr d 6) d 6 := rds_chain (k := 4) (Or.inr rfl) h7 (fun s hs x y ts us hx hy => .mul (by decide) hs hx hy)
    have h5 : Rds (Rr d 5) d 5 := rds_chain (k := 4) (Or.inr rfl) h6 (fun s hs x y ts us hx hy => .sum (by decide) hs hx hy)
    have h3 : Rds (Rr d 3) d 3 := rds_not ih.2.1 (rds_ask h5)
    have h2 : Rds (Rr d 2) d 2 := rds_chain (k := 1) (Or.inl rfl) h3 (fun s hs x y ts us hx hy => .and (by decide) hs hx hy)
    have h1 : Rds (Rr d 1) d 1 := rds_chain (k := 1) (Or.inl rfl) h2 (fun s hs x y ts us hx hy => .or (by decide) hs hx hy)
    exact ⟨fun l hs e l' h => ⟨d, rfl, h1 l hs e l' h⟩, fun l hs e l' h => ⟨d, rfl, h3 l hs e l' h⟩, fun l hs e l' h => ⟨d, rfl, h7 l hs e l' h⟩⟩
theorem Ef_rds : Rds Ef 12 1 := fun l hs e l' h => by
  obtain ⟨c, hc, hr⟩ := (lev_rds 13).1 l hs e l' h
  obtain rfl : c = 12 := by omega
  exact hr
end Go.Proofs.YtmabfbffpedfnaaGreatDoor
