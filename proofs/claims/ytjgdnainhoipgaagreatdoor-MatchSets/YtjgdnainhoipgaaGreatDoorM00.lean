/- Texts of the proof of MatchSets: Base, MTog, Trp, Teh, Shp, Shelf, Disk, Tear, Write, State. -/
import Derived.Test.YtjgdnainhoipgaaGreatDoorProg
import Derived.WalkKit
import Derived.WalkSpells
import Derived.WalkLawsBesides
import Derived.Deep.RegionHeld3
import Derived.Maps.OwnSet
import Derived.Shelf.LaysM
import Derived.Shelf.Strconv.Clone
import Derived.Shelf.Strings.Repeat
import Derived.Shelf.Strings.Prefix
import Derived.Lib.BufferWrite
import Derived.Laws.IdiomCopy
import Derived.Laws.IdiomStrings
namespace Go.Proofs.YtjgdnainhoipgaaGreatDoor
open Go.RowKit

theorem ret_int {k : IntKind} {a b : Int} (h : a = b) : Ending.returned (.int k a) = .returned (.int k b) := by rw [h]
theorem ret_bool {a b : Bool} (h : a = b) : Ending.returned (.bool a) = .returned (.bool b) := by rw [h]
theorem Tryz.own : ownKnob Tryz.prog.godebug = none := by kernel_rfl
theorem Tryz.laidOut : laidOutB Tryz.prog = true := by kernel_rfl
theorem cells9 : Tryz.prog.cellsOf 9 = 1 := by kernel_rfl
theorem info5 : (Tryz.prog.info? 5).map (fun i => (i.zero, i.size, i.bytes)) = some (some (.int .u8 0), 1, 1) := by kernel_rfl
theorem Below.setCells' {B b : Nat} {a : World} (hB : B ≤ b) : ∀ (vs : List Value) (o : Nat) (w : World), Below B a w → Below B a (w.setCells b o vs)
  | [], _, _, h => h
  | v :: r, o, _, h => Below.setCells' hB r (o + 1) _ (h.setCell (p := ⟨b, o, none⟩) hB v)
end Go.Proofs.YtjgdnainhoipgaaGreatDoor
namespace Go.Proofs.YtjgdnainhoipgaaGreatDoor

/-- a row in which something is found, and how often -/
structure Ht where
  r : Int
  o : Int
/-- whether a row stays, that the first side has, or the second -/
def staysB (k : Int) (f s : Bool) : Bool := if k = 4 then f && s else if k = 6 then !s else true
/-- both sides together, as the program goes through them -/
def togL (k : Int) : List Ht → List Ht → List Ht
  | [], [] => []
  | x :: a, [] => (if staysB k true false then [x] else []) ++ togL k a []
  | [], y :: b => (if staysB k false true then [⟨y.r, y.o⟩] else []) ++ togL k [] b
  | x :: a, y :: b =>
    if x.r < y.r then (if staysB k true false then [x] else []) ++ togL k a (y :: b)
    else if y.r < x.r then (if staysB k false true then [⟨y.r, y.o⟩] else []) ++ togL k (x :: a) b
    else (if staysB k true true then [⟨y.r, x.o + y.o⟩] else []) ++ togL k a b
termination_by a b => a.length + b.length
/-- how often a row has it -/
def cn : List Ht → Int → Int
  | [], _ => 0
  | x :: l, r => if x.r = r then x.o else cn l r
def RisH (l : List Ht) : Prop := l.Pairwise (fun x y => x.r < y.r)
def PosH (l : List Ht) : Prop := ∀ x ∈ l, 0 < x.o

theorem PosH.tl {x : Ht} {l : List Ht} (h : PosH (x :: l)) : PosH l := fun y hy => h y (List.mem_cons_of_mem _ hy)
theorem PosH.hd {x : Ht} {l : List Ht} (h : PosH (x :: l)) : 0 < x.o := h x List.mem_cons_self
theorem RisH.tl {x : Ht} {l : List Ht} (h : RisH (x :: l)) : RisH l := (List.pairwise_cons.1 h).2
theorem RisH.hd {x : Ht} {l : List Ht} (h : RisH (x :: l)) : ∀ y ∈ l, x.r < y.r := (List.pairwise_cons.1 h).1
theorem cn_none {l : List Ht} {r : Int} (h : ∀ x ∈ l, x.r ≠ r) : cn l r = 0 := by
  induction l with
  | nil => rfl
  | cons x l ih =>
    show (if x.r = r then x.o else cn l r) = 0
    rw [if_neg (h x List.mem_cons_self)]
    exact ih (fun y hy => h y (List.mem_cons_of_mem _ hy))
theorem cn_nonneg {l : List Ht} (h : PosH l) (r : Int) : 0 ≤ cn l r := by
  induction l with
  | nil => exact Int.le_refl _
  | cons x l ih =>
    show 0 ≤ (if x.r = r then x.o else cn l r)
    split
    · exact Int.le_of_lt h.hd
    · exact ih h.tl
theorem cn_pos {l : List Ht} (h : PosH l) (r : Int) : 0 < cn l r ↔ ∃ x ∈ l, x.r = r := by
  induction l with
  | nil => simp [cn]
  | cons x l ih =>
    show 0 < (if x.r = r then x.o else cn l r) ↔ _
    by_cases e : x.r = r
    · rw [if_pos e]
      exact ⟨fun _ => ⟨x, List.mem_cons_self, e⟩, fun _ => h.hd⟩
    · rw [if_neg e, ih h.tl]
      constructor
      · rintro ⟨y, hy, hr⟩; exact ⟨y, List.mem_cons_of_mem _ hy, hr⟩
      · rintro ⟨y, hy, hr⟩
        rcases List.mem_cons.1 hy with rfl | hy
        · exact absurd hr e
        · exact ⟨y, hy, hr⟩
/-- what is there behind, comes of either side -/
theorem tog_mem (k : Int) (a b : List Ht) : ∀ z ∈ togL k a b, (∃ x ∈ a, x.r = z.r) ∨ (∃ y ∈ b, y.r = z.r) := by
  induction a, b using togL.induct with
  | case1 => intro z hz; simp [togL] at hz
  | case2 x a ih =>
    intro z hz
    rw [togL, List.mem_append] at hz
    rcases hz with hz | hz
    · split at hz
      · exact .inl ⟨x, List.mem_cons_self, by rw [List.mem_singleton.1 hz]⟩
      · simp at hz
    · rcases ih z hz with ⟨y, hy, e⟩ | ⟨y, hy, e⟩
      · exact .inl ⟨y, List.mem_cons_of_mem _ hy, e⟩
      · exact .inr ⟨y, hy, e⟩
  | case3 y b ih =>
    intro z hz
    rw [togL, List.mem_append] at hz
    rcases hz with hz | hz
    · split at hz
      · exact .inr ⟨y, List.mem_cons_self, by rw [List.mem_singleton.1 hz]⟩
      · simp at hz
    · rcases ih z hz with ⟨x, hx, e⟩ | ⟨x, hx, e⟩
      · exact .inl ⟨x, hx, e⟩
      · exact .inr ⟨x, List.mem_cons_of_mem _ hx, e⟩
  | case4 x a y b h ih =>
    intro z hz
    rw [togL, if_pos h, List.mem_append] at hz
    rcases hz with hz | hz
    · split at hz
      · exact .inl ⟨x, List.mem_cons_self, by rw [List.mem_singleton.1 hz]⟩
      · simp at hz
    · rcases ih z hz with ⟨u, hu, e⟩ | ⟨u, hu, e⟩
      · exact .inl ⟨u, List.mem_cons_of_mem _ hu, e⟩
      · exact .inr ⟨u, hu, e⟩
  | case5 x a y b h h2 ih =>
    intro z hz
    rw [togL, if_neg h, if_pos h2, List.mem_append] at hz
    rcases hz with hz | hz
    · split at hz
      · exact .inr ⟨y, List.mem_cons_self, by rw [List.mem_singleton.1 hz]⟩
      · simp at hz
    · rcases ih z hz with ⟨u, hu, e⟩ | ⟨u, hu, e⟩
      · exact .inl ⟨u, hu, e⟩
      · exact .inr ⟨u, List.mem_cons_of_mem _ hu, e⟩
  | case6 x a y b h h2 ih =>
    intro z hz
    rw [togL, if_neg h, if_neg h2, List.mem_append] at hz
    rcases hz with hz | hz
    · split at hz
      · exact .inr ⟨y, List.mem_cons_self, by rw [List.mem_singleton.1 hz]⟩
      · simp at hz
    · rcases ih z hz with ⟨u, hu, e⟩ | ⟨u, hu, e⟩
      · exact .inl ⟨u, List.mem_cons_of_mem _ hu, e⟩
      · exact .inr ⟨u, List.mem_cons_of_mem _ hu, e⟩
theorem cn_if (c : Bool) (z : Ht) (l : List Ht) (r : Int) : cn ((if c then [z] else []) ++ l) r = if z.r = r ∧ c = true then z.o else cn l r := by
  cases c <;> simp [cn]
/-- row by row: what stays of both sides -/
theorem cn_tog (k : Int) (a b : List Ht) (r : Int) : RisH a → RisH b → PosH a → PosH b →
    cn (togL k a b) r = if staysB k (decide (0 < cn a r)) (decide (0 < cn b r)) then cn a r + cn b r else 0 := by
  have none_of : ∀ {a b : List Ht}, (∀ x ∈ a, x.r ≠ r) → (∀ y ∈ b, y.r ≠ r) → cn (togL k a b) r = 0 := fun ha hb => cn_none (fun z hz e => by
    rcases tog_mem k _ _ z hz with ⟨x, hx, e'⟩ | ⟨y, hy, e'⟩
    · exact ha x hx (e'.trans e)
    · exact hb y hy (e'.trans e))
  induction a, b using togL.induct with
  | case1 => intro _ _ _ _; simp [togL, cn]
  | case2 x a ih =>
    intro ra rb pa pb
    rw [togL, cn_if]
    by_cases e : x.r = r
    · have h0 : cn (togL k a []) r = 0 := none_of (fun u hu e' => by have := ra.hd u hu; omega) (fun _ h => by cases h)
      have e1 : cn (x :: a) r = x.o := by show (if x.r = r then x.o else cn a r) = x.o; rw [if_pos e]
      have e2 : cn [] r = 0 := rfl
      have := pa.hd
      rw [h0, e1, e2, Int.add_zero]
      simp [e, this]
    · have e1 : cn (x :: a) r = cn a r := by show (if x.r = r then x.o else cn a r) = cn a r; rw [if_neg e]
      rw [if_neg (fun h => e h.1), e1]
      exact ih ra.tl rb pa.tl pb
  | case3 y b ih =>
    intro ra rb pa pb
    rw [togL, cn_if]
    by_cases e : y.r = r
    · have h0 : cn (togL k [] b) r = 0 := none_of (fun _ h => by cases h) (fun u hu e' => by have := rb.hd u hu; omega)
      have e1 : cn (y :: b) r = y.o := by show (if y.r = r then y.o else cn b r) = y.o; rw [if_pos e]
      have e2 : cn [] r = 0 := rfl
      have := pb.hd
      rw [h0, e1, e2, Int.zero_add]
      simp [e, this]
    · have e1 : cn (y :: b) r = cn b r := by show (if y.r = r then y.o else cn b r) = cn b r; rw [if_neg e]
      rw [if_neg (fun h => e h.1), e1]
      exact ih ra rb.tl pa pb.tl
  | case4 x a y b h ih =>
    intro ra rb pa pb
    rw [togL, if_pos h, cn_if]
    by_cases e : x.r = r
    · have hb : ∀ u ∈ y :: b, u.r ≠ r := fun u hu e' => by
        rcases List.mem_cons.1 hu with rfl | hu
        · omega
        · have := rb.hd u hu; omega
      have h0 : cn (togL k a (y :: b)) r = 0 := none_of (fun u hu e' => by have := ra.hd u hu; omega) hb
      have e1 : cn (x :: a) r = x.o := by show (if x.r = r then x.o else cn a r) = x.o; rw [if_pos e]
      have e2 : cn (y :: b) r = 0 := cn_none hb
      have := pa.hd
      rw [h0, e1, e2, Int.add_zero]
      simp [e, this]
    · have e1 : cn (x :: a) r = cn a r := by show (if x.r = r then x.o else cn a r) = cn a r; rw [if_neg e]
      rw [if_neg (fun h => e h.1), e1]
      exact ih ra.tl rb pa.tl pb
  | case5 x a y b h h2 ih =>
    intro ra rb pa pb
    rw [togL, if_neg h, if_pos h2, cn_if]
    by_cases e : y.r = r
    · have ha : ∀ u ∈ x :: a, u.r ≠ r := fun u hu e' => by
        rcases List.mem_cons.1 hu with rfl | hu
        · omega
        · have := ra.hd u hu; omega
      have h0 : cn (togL k (x :: a) b) r = 0 := none_of ha (fun u hu e' => by have := rb.hd u hu; omega)
      have e1 : cn (y :: b) r = y.o := by show (if y.r = r then y.o else cn b r) = y.o; rw [if_pos e]
      have e2 : cn (x :: a) r = 0 := cn_none ha
      have := pb.hd
      rw [h0, e1, e2, Int.zero_add]
      simp [e, this]
    · have e1 : cn (y :: b) r = cn b r := by show (if y.r = r then y.o else cn b r) = cn b r; rw [if_neg e]
      rw [if_neg (fun h => e h.1), e1]
      exact ih ra rb.tl pa pb.tl
  | case6 x a y b h h2 ih =>
    intro ra rb pa pb
    have hxy : x.r = y.r := by omega
    rw [togL, if_neg h, if_neg h2, cn_if]
    by_cases e : y.r = r
    · have h0 : cn (togL k a b) r = 0 := none_of (fun u hu e' => by have := ra.hd u hu; omega) (fun u hu e' => by have := rb.hd u hu; omega)
      have e1 : cn (y :: b) r = y.o := by show (if y.r = r then y.o else cn b r) = y.o; rw [if_pos e]
      have e2 : cn (x :: a) r = x.o := by show (if x.r = r then x.o else cn a r) = x.o; rw [if_pos (hxy.trans e)]
      have h1 := pa.hd
      have h2 := pb.hd
      rw [h0, e1, e2]
      simp [e, h1, h2]
    · have e1 : cn (y :: b) r = cn b r := by show (if y.r = r then y.o else cn b r) = cn b r; rw [if_neg e]
      have e2 : cn (x :: a) r = cn a r := by show (if x.r = r then x.o else cn a r) = cn a r; rw [if_neg (fun h => e (hxy.symm.trans h))]
      rw [if_neg (fun h => e h.1), e1, e2]
      exact ih ra.tl rb.tl pa.tl pb.tl
theorem risH_if {c : Bool} {z : Ht} {l : List Ht} (h : RisH l) (hz : ∀ y ∈ l, z.r < y.r) : RisH ((if c then [z] else []) ++ l) := by
  cases c
  · simpa using h
  · exact List.pairwise_cons.2 ⟨hz, h⟩
/-- it rises -/
theorem tog_ris (k : Int) (a b : List Ht) : RisH a → RisH b → RisH (togL k a b) := by
  have low : ∀ {a b : List Ht} {n : Int}, (∀ x ∈ a, n < x.r) → (∀ y ∈ b, n < y.r) → ∀ z ∈ togL k a b, n < z.r := fun ha hb z hz => by
    rcases tog_mem k _ _ z hz with ⟨x, hx, e⟩ | ⟨y, hy, e⟩
    · rw [← e]; exact ha x hx
    · rw [← e]; exact hb y hy
  induction a, b using togL.induct with
  | case1 => intro _ _; simp [togL, RisH]
  | case2 x a ih =>
    intro ra rb
    rw [togL]
    exact risH_if (ih ra.tl rb) (low ra.hd (fun _ h => by cases h))
  | case3 y b ih =>
    intro ra rb
    rw [togL]
    exact risH_if (ih ra rb.tl) (low (fun _ h => by cases h) rb.hd)
  | case4 x a y b h ih =>
    intro ra rb
    rw [togL, if_pos h]
    refine risH_if (ih ra.tl rb) (low ra.hd (fun u hu => ?_))
    rcases List.mem_cons.1 hu with rfl | hu
    · exact h
    · exact Int.lt_trans h (rb.hd u hu)
  | case5 x a y b h h2 ih =>
    intro ra rb
    rw [togL, if_neg h, if_pos h2]
    refine risH_if (ih ra rb.tl) (low (fun u hu => ?_) rb.hd)
    rcases List.mem_cons.1 hu with rfl | hu
    · exact h2
    · exact Int.lt_trans h2 (ra.hd u hu)
  | case6 x a y b h h2 ih =>
    intro ra rb
    have hxy : x.r = y.r := by omega
    rw [togL, if_neg h, if_neg h2]
    exact risH_if (ih ra.tl rb.tl) (low (fun u hu => by have := ra.hd u hu; show y.r < u.r; omega) rb.hd)
/-- and each row has it -/
theorem tog_pos (k : Int) (a b : List Ht) : PosH a → PosH b → PosH (togL k a b) := by
  have one : ∀ {c : Bool} {z : Ht} {l : List Ht}, 0 < z.o → PosH l → PosH ((if c then [z] else []) ++ l) := fun {c z l} hz hl u hu => by
    rcases List.mem_append.1 hu with hu | hu
    · cases c
      · simp at hu
      · rw [List.mem_singleton.1 hu]; exact hz
    · exact hl u hu
  induction a, b using togL.induct with
  | case1 => intro _ _; simp [togL, PosH]
  | case2 x a ih => intro pa pb; rw [togL]; exact one pa.hd (ih pa.tl pb)
  | case3 y b ih => intro pa pb; rw [togL]; exact one pb.hd (ih pa pb.tl)
  | case4 x a y b h ih => intro pa pb; rw [togL, if_pos h]; exact one pa.hd (ih pa.tl pb)
  | case5 x a y b h h2 ih => intro pa pb; rw [togL, if_neg h, if_pos h2]; exact one pb.hd (ih pa pb.tl)
  | case6 x a y b h h2 ih => intro pa pb; rw [togL, if_neg h, if_neg h2]; exact one (by have := pa.hd; have := pb.hd; show 0 < x.o + y.o; omega) (ih pa.tl pb.tl)
end Go.Proofs.YtjgdnainhoipgaaGreatDoor
namespace Go.Proofs.YtjgdnainhoipgaaGreatDoor
open Go.RowKit

/-- a pair -/
structure Pr where
  k : ByteArray
  i : ByteArray
def Pr.Ok (x : Pr) : Prop := 1 ≤ x.k.size ∧ x.k.size ≤ 60 ∧ x.i.size ≤ 100
def Pr.sz (x : Pr) : Nat := 2 + x.k.size + x.i.size
def Pr.enc (x : Pr) : List UInt8 := UInt8.ofNat x.k.size :: UInt8.ofNat x.i.size :: (x.k.data.toList ++ x.i.data.toList)
def encL : List Pr → List UInt8
  | [] => []
  | x :: r => x.enc ++ encL r
def szL : List Pr → Nat
  | [] => 0
  | x :: r => x.sz + szL r
theorem Pr.enc_len (x : Pr) : x.enc.length = x.sz := by
  unfold Pr.enc Pr.sz
  simp only [List.length_cons, List.length_append, Array.length_toList]
  show x.k.size + x.i.size + 1 + 1 = _
  omega
theorem encL_len : ∀ l, (encL l).length = szL l
  | [] => rfl
  | x :: r => by rw [encL, szL, List.length_append, Pr.enc_len, encL_len r]
theorem encL_append : ∀ l m, encL (l ++ m) = encL l ++ encL m
  | [], _ => rfl
  | x :: r, m => by rw [List.cons_append, encL, encL, encL_append r m, List.append_assoc]
theorem szL_append : ∀ l m, szL (l ++ m) = szL l + szL m
  | [], m => by rw [List.nil_append, szL, Nat.zero_add]
  | x :: r, m => by rw [List.cons_append, szL, szL, szL_append r m, Nat.add_assoc]
theorem szL_take_le (l : List Pr) (j : Nat) : szL (l.take j) ≤ szL l := by
  conv => rhs; rw [← List.take_append_drop j l, szL_append]
  omega
theorem szL_take_succ {l : List Pr} {j : Nat} (hj : j < l.length) : szL (l.take (j + 1)) = szL (l.take j) + l[j].sz := by
  rw [List.take_succ_eq_append_getElem hj, szL_append]
  rfl
/-- a leaf's text -/
structure Leaf (t : ByteArray) (ps : List Pr) (z : Nat) : Prop where
  data : t.data.toList = encL ps ++ List.replicate z 0
  ok : ∀ x ∈ ps, x.Ok
  small : t.size ≤ 4096
section
variable {t : ByteArray} {ps : List Pr} {z : Nat}
theorem Leaf.size (h : Leaf t ps z) : t.size = szL ps + z := by
  have := congrArg List.length h.data
  rw [List.length_append, encL_len, List.length_replicate, Array.length_toList] at this
  exact this
/-- the bytes from a pair on -/
theorem Leaf.at (h : Leaf t ps z) {j : Nat} (hj : j < ps.length) : t.data.toList.drop (szL (ps.take j)) = ps[j].enc ++ (encL (ps.drop (j + 1)) ++ List.replicate z 0) := by
  rw [h.data]
  have e : encL ps = encL (ps.take j) ++ (ps[j].enc ++ encL (ps.drop (j + 1))) := by
    conv => lhs; rw [← List.take_append_drop j ps, encL_append, List.drop_eq_getElem_cons hj]
    rfl
  rw [e, List.append_assoc, ← encL_len, List.drop_left, List.append_assoc]
theorem getElem_bytes {t : ByteArray} {n : Nat} (hn : n < t.size) : t[n] = t.data.toList[n]'(by rw [Array.length_toList]; exact hn) := by
  rw [Array.getElem_toList]; rfl
theorem get_of_drop {t : ByteArray} {a b : Nat} {l : List UInt8} {x : UInt8} (h : t.data.toList.drop a = l) (hx : l[b]? = some x) (hn : a + b < t.size) : t[a + b] = x := by
  rw [getElem_bytes hn]
  have := congrArg (·[b]?) h
  simp only [List.getElem?_drop] at this
  rw [hx] at this
  rw [List.getElem?_eq_getElem (by rw [Array.length_toList]; exact hn)] at this
  exact Option.some.inj this
theorem Leaf.room (h : Leaf t ps z) {j : Nat} (hj : j < ps.length) : szL (ps.take j) + ps[j].sz ≤ t.size := by
  rw [h.size, ← szL_take_succ hj]
  have := szL_take_le ps (j + 1)
  omega
theorem small_u8 {n : Nat} (h : n ≤ 200) : (UInt8.ofNat n).toNat = n := by
  rw [UInt8.toNat_ofNat']
  exact Nat.mod_eq_of_lt (by omega)
theorem Leaf.key_len (h : Leaf t ps z) {j : Nat} (hj : j < ps.length) (hn : szL (ps.take j) < t.size) : (t[szL (ps.take j)]).toNat = ps[j].k.size := by
  have e := get_of_drop (t := t) (a := szL (ps.take j)) (b := 0) (x := UInt8.ofNat ps[j].k.size) (h.at hj) rfl hn
  have e2 : t[szL (ps.take j)] = UInt8.ofNat ps[j].k.size := e
  rw [e2]
  exact small_u8 (by have := (h.ok _ (List.getElem_mem hj)).2.1; omega)
theorem Leaf.item_len (h : Leaf t ps z) {j : Nat} (hj : j < ps.length) (hn : szL (ps.take j) + 1 < t.size) : (t[szL (ps.take j) + 1]).toNat = ps[j].i.size := by
  rw [get_of_drop (t := t) (a := szL (ps.take j)) (b := 1) (x := UInt8.ofNat ps[j].i.size) (h.at hj) rfl hn]
  exact small_u8 (by have := (h.ok _ (List.getElem_mem hj)).2.2; omega)
theorem extract_of_drop {t : ByteArray} {a b c : Nat} {l m r : List UInt8} (h : t.data.toList.drop a = l ++ (m ++ r)) (hb : b = a + l.length) (hc : c = b + m.length) : t.extract b c = ⟨m.toArray⟩ := by
  apply ByteArray.ext
  apply Array.toList_inj.1
  rw [ByteArray.data_extract, Array.toList_extract, List.extract_eq_take_drop]
  show (t.data.toList.drop b).take (c - b) = m
  have : t.data.toList.drop b = m ++ r := by
    rw [hb, ← List.drop_drop, h, List.drop_left]
  rw [this, show c - b = m.length by omega, List.take_left]
theorem mk_toList (b : ByteArray) : (⟨b.data.toList.toArray⟩ : ByteArray) = b := by cases b; simp
theorem Leaf.key (h : Leaf t ps z) {j : Nat} (hj : j < ps.length) : t.extract (szL (ps.take j) + 2) (szL (ps.take j) + 2 + ps[j].k.size) = ps[j].k := by
  have e := h.at hj
  rw [show ps[j].enc = [UInt8.ofNat ps[j].k.size, UInt8.ofNat ps[j].i.size] ++ (ps[j].k.data.toList ++ ps[j].i.data.toList) from rfl, List.append_assoc, List.append_assoc] at e
  rw [extract_of_drop (b := szL (ps.take j) + 2) e rfl (by rw [Array.length_toList]; rfl), mk_toList]
theorem Leaf.item (h : Leaf t ps z) {j : Nat} (hj : j < ps.length) : t.extract (szL (ps.take j) + 2 + ps[j].k.size) (szL (ps.take j) + 2 + ps[j].k.size + ps[j].i.size) = ps[j].i := by
  have e := h.at hj
  rw [show ps[j].enc = ([UInt8.ofNat ps[j].k.size, UInt8.ofNat ps[j].i.size] ++ ps[j].k.data.toList) ++ ps[j].i.data.toList from rfl, List.append_assoc] at e
  rw [extract_of_drop e (by rw [List.length_append, Array.length_toList]; show _ = _ + (2 + ps[j].k.size); omega) (by rw [Array.length_toList]; rfl), mk_toList]
/-- behind the last pair -/
theorem Leaf.tail (h : Leaf t ps z) (hn : szL ps < t.size) : t[szL ps] = 0 := by
  have e : t.data.toList.drop (szL ps) = List.replicate z 0 := by rw [h.data, ← encL_len, List.drop_left]
  have hz := h.size
  exact get_of_drop (b := 0) (x := 0) e (by rw [List.getElem?_replicate, if_pos (by omega)]) hn
end
end Go.Proofs.YtjgdnainhoipgaaGreatDoor
namespace Go.Proofs.YtjgdnainhoipgaaGreatDoor
open Go.RowKit

theorem run_byte (t : ByteArray) (n : Nat) (hn : n < t.size) (b : Nat) (hb : (t[n]).toNat = b) (w : World) : (Instr.index 9 (.string t) (.int .i64 n)).run Tryz.prog w = .ok (.int .u8 b) w := by
  have h1 : (n : Int) < (t.size : Int) := by omega
  subst hb
  simp [Instr.index, run_underlying Tryz.underlying9, asIntOf, go_sem, hn]

theorem run_piece (t : ByteArray) (a b : Nat) (h1 : a ≤ b) (h2 : b ≤ t.size) (x y : Int) (hx : x = a) (hy : y = b) (p : ByteArray) (hp : t.extract a b = p) (w : World) : (Instr.slice 9 (.string t) (some (.int .i64 x)) (some (.int .i64 y)) none).run Tryz.prog w = .ok (.string p) w := by
  subst hx hy
  rw [run_slice_string w 9 t .i64 .i64 a b Tryz.underlying9 (by omega) (by omega) (by omega)]
  simp [hp]

set_option maxRecDepth 100000 in
set_option maxHeartbeats 4000000 in
theorem each_any {fid : Nat} {caps : Array Value} {t : ByteArray} {ps : List Pr} {z : Nat} (Inv : Nat → World → Prop) (Out : World → Prop) (eg : ∀ args w, (callFunc fid args).run Tryz.prog w = .ok (.enter fid args) w) (hL : Leaf t ps z) (hdrew : ∀ j w, Inv j w → Inv j w.drew)
    (hcb : ∀ j (hj : j < ps.length) (w : World), Inv j w → Calls Tryz.prog fid (#[.agg #[.string ps[j].k, .string ps[j].i], .int .i64 (szL (ps.take (j + 1)) : Nat)] ++ caps) w fun e w' => ∃ b, e = .returned (.bool b) ∧ (if b then Inv (j + 1) w' else Out w'))
    (w : World) (h0 : Inv 0 w) :
    Calls Tryz.prog 126 #[.string t, .func (.func fid) #[] caps] w fun e w' => ∃ b, e = .returned (.bool b) ∧ (if b then Inv ps.length w' else Out w') := by
  have HL : Hid _ := hL
  have HC : Hid _ := hcb
  have HI : Hid (Inv 0 w) := h0
  have hsm := hL.small
  have HSZ : Hid _ := hL.size
  clear hcb h0 hL
  go_enter Tryz.func126, Tryz.ntmps126
  go_wp2_with fail
  go_loopw [5] (fun i wr => ∃ k : Nat, k ≤ ps.length ∧ i = .int .i64 (szL (ps.take k) : Nat) ∧ Hid (Inv k wr)) (fun i _ => t.size + 1 - (intOf i).toNat)
  case atStart => exact ⟨0, Nat.zero_le _, rfl, HI⟩
  case round =>
    clear HI
    obtain ⟨k, hk, rfl, HI⟩ := hrel
    by_cases hlt : k < ps.length
    · have r := HL.out.room hlt
      have ok := HL.out.ok _ (List.getElem_mem hlt)
      have kl := HL.out.key_len hlt (by unfold Pr.sz at r; omega)
      have il := HL.out.item_len hlt (by unfold Pr.sz at r; omega)
      have ke := HL.out.key hlt
      have ie := HL.out.item hlt
      have cb := HC.out k hlt
      rw [szL_take_succ hlt] at cb
      have HS : Hid (szL (ps.take (k + 1)) = szL (ps.take k) + ps[k].sz) := szL_take_succ hlt
      unfold Pr.Ok at ok
      obtain ⟨ok1, ok2, ok3⟩ := ok
      have r2 : szL (ps.take k) + (2 + ps[k].k.size + ps[k].i.size) ≤ t.size := r
      have b0 := run_byte t (szL (ps.take k)) (by omega) ps[k].k.size kl
      have b1 : ∀ w, (Instr.index 9 (.string t) (.int .i64 ((szL (ps.take k) : Int) + 1))).run Tryz.prog w = .ok (.int .u8 ps[k].i.size) w := fun w => run_byte t (szL (ps.take k) + 1) (by omega) ps[k].i.size il w
      have HS : Hid (szL (ps.take (k + 1)) = szL (ps.take k) + (2 + ps[k].k.size + ps[k].i.size)) := HS.out
      have CB : Hid (∀ (w : World), Inv k w → Calls Tryz.prog fid (#[.agg #[.string ps[k].k, .string ps[k].i], .int .i64 (szL (ps.take k) + (2 + ps[k].k.size + ps[k].i.size) : Nat)] ++ caps) w fun e w' => ∃ b, e = .returned (.bool b) ∧ (if b then Inv (k + 1) w' else Out w')) := cb
      clear kl il r cb
      generalize ps[k].k = xk at *
      generalize ps[k].i = xi at *
      generalize szL (ps.take k) = at0 at *
      have s0 := run_piece t (at0 + 2) (at0 + 2 + xk.size) (by omega) (by omega) ((at0 : Int) + 2) ((at0 : Int) + 2 + (xk.size : Int)) (by omega) (by omega) xk ke
      have s1 := run_piece t (at0 + 2 + xk.size) (at0 + 2 + xk.size + xi.size) (by omega) (by omega) ((at0 : Int) + 2 + (xk.size : Int)) ((at0 : Int) + 2 + (xk.size : Int) + (xi.size : Int)) (by omega) (by omega) xi ie
      have hcst : Hid (((at0 + (2 + xk.size + xi.size) : Nat) : Int) = (at0 : Int) + 2 + (xk.size : Int) + (xi.size : Int)) := by show _ = _; omega
      rw [hcst.out] at CB
      clear ie ke
      go_wp2_with fail
      have HI : Hid (Inv k wr.drew) := hdrew _ _ HI.out
      have hw2 : IntKind.i64.wrap ((at0 : Int) + 2) = (at0 : Int) + 2 := by simp [IntKind.wrap, IntKind.signed, IntKind.bits]; omega
      go_region_held3 (fun _ => True) (exact trivial) (first | (refine (CB.out _ HI.out).mono ?_; rintro _ w2 ⟨b, rfl, h2⟩; have H2 : Hid (if b then Inv (k + 1) w2 else Out w2) := h2; clear h2))
      cases b
      · go_wp2
        go_ret
        exact ⟨false, rfl, H2.out⟩
      · go_wp2_with fail
        go_roundw
        case rel => exact ⟨k + 1, by omega, by rw [HS.out, ← hcst.out], H2.out⟩
        case measure => simp [intOf]; omega
    · obtain rfl : k = ps.length := by omega
      have e1 : szL (ps.take ps.length) = szL ps := by rw [List.take_length]
      rw [e1]
      have hsz := HSZ.out
      by_cases h2 : szL ps + 2 ≤ t.size
      · have b0 := run_byte t (szL ps) (by omega) 0 (by rw [HL.out.tail (by omega)]; rfl)
        clear hsz
        have h3 : (szL ps : Int) + 2 ≤ (t.size : Int) := by omega
        have h4 : (szL ps : Int) < 5000 := by omega
        go_wp2
        go_ret
        first | exact ⟨true, rfl, HI.out⟩ | exact .inr ⟨rfl, HI.out⟩
      · have h3 : ¬ (szL ps : Int) + 2 ≤ (t.size : Int) := by omega
        have h4 : (szL ps : Int) < 5000 := by omega
        clear hsz
        go_wp2
        go_ret
        first | exact ⟨true, rfl, HI.out⟩ | exact .inr ⟨rfl, HI.out⟩
end Go.Proofs.YtjgdnainhoipgaaGreatDoor
namespace Go.Proofs
open Go.Shelf
def Tryz.laysM316_ren : Go.Shelf.Ren := ⟨fun | 316 => 85 | n => n, fun | 9 => 9 | 3 => 3 | 4 => 4 | 37 => 128 | 0 => 0 | 127 => 195 | 5 => 5 | n => n, fun | n => n⟩
theorem Tryz.laysM316 : Go.Proofs.LaysM.n316 Tryz.prog Tryz.laysM316_ren := {
  mixed := by kernel_rfl
  f316 := Tryz.func85.trans (congrArg some (by kernel_rfl))
  t0 := Tryz.underlying0
  a0 := Tryz.isAgg0
  z0 := Tryz.sizeOf0
  v0 := Tryz.zeroValue0
  t3 := Tryz.underlying3
  a3 := Tryz.isAgg3
  z3 := Tryz.sizeOf3
  v3 := Tryz.zeroValue3
  t4 := Tryz.underlying4
  a4 := Tryz.isAgg4
  z4 := Tryz.sizeOf4
  v4 := Tryz.zeroValue4
  t9 := Tryz.underlying9
  a9 := Tryz.isAgg9
  z9 := Tryz.sizeOf9
  v9 := Tryz.zeroValue9
  t37 := Tryz.underlying128
  a37 := Tryz.isAgg128
  z37 := Tryz.sizeOf128
  v37 := Tryz.zeroValue128
  t127 := Tryz.underlying195
  a127 := Tryz.isAgg195
  z127 := Tryz.sizeOf195
  v127 := Tryz.zeroValue195
  t5 := Tryz.underlying5
  a5 := Tryz.isAgg5
  z5 := Tryz.sizeOf5
  v5 := Tryz.zeroValue5
  i0 := by kernel_rfl
  i3 := by kernel_rfl
  i4 := by kernel_rfl
  i5 := by kernel_rfl
  i9 := by kernel_rfl
  i37 := by kernel_rfl
  i127 := by kernel_rfl }
def Tryz.lays99_ren : Go.Shelf.Ren := ⟨fun | 99 => 99 | 206 => 135 | n => n, fun | 9 => 9 | 4 => 4 | 3 => 3 | n => n, fun | n => n⟩
theorem Tryz.lays99 : Go.Proofs.Lays.n99 Tryz.prog Tryz.lays99_ren := {
  mixed := by kernel_rfl
  f99 := Tryz.func99.trans (congrArg some (by kernel_rfl))
  f206 := Tryz.func135.trans (congrArg some (by kernel_rfl))
  t3 := Tryz.underlying3
  a3 := Tryz.isAgg3
  z3 := Tryz.sizeOf3
  v3 := Tryz.zeroValue3
  t4 := Tryz.underlying4
  a4 := Tryz.isAgg4
  z4 := Tryz.sizeOf4
  v4 := Tryz.zeroValue4
  t9 := Tryz.underlying9
  a9 := Tryz.isAgg9
  z9 := Tryz.sizeOf9
  v9 := Tryz.zeroValue9 }
def Tryz.lays105_ren : Go.Shelf.Ren := ⟨fun | 105 => 119 | 212 => 159 | 99 => 99 | 165 => 160 | 166 => 161 | 170 => 162 | 169 => 163 | 263 => 181 | 264 => 182 | 206 => 135 | 240 => 183 | 241 => 184 | 276 => 190 | 277 => 191 | n => n, fun | 9 => 9 | 3 => 3 | 4 => 4 | 20 => 20 | 0 => 0 | 46 => 135 | 109 => 240 | 5 => 5 | 72 => 244 | 76 => 55 | 51 => 248 | 146 => 249 | 53 => 150 | 148 => 261 | 70 => 242 | 37 => 128 | 75 => 27 | 127 => 195 | 164 => 168 | 80 => 247 | n => n, fun | n => n⟩
theorem Tryz.lays105 : Go.Proofs.Lays.n105 Tryz.prog Tryz.lays105_ren := {
  mixed := by kernel_rfl
  f99 := Tryz.func99.trans (congrArg some (by kernel_rfl))
  f105 := Tryz.func119.trans (congrArg some (by kernel_rfl))
  f165 := Tryz.func160.trans (congrArg some (by kernel_rfl))
  f166 := Tryz.func161.trans (congrArg some (by kernel_rfl))
  f169 := Tryz.func163.trans (congrArg some (by kernel_rfl))
  f170 := Tryz.func162.trans (congrArg some (by kernel_rfl))
  f206 := Tryz.func135.trans (congrArg some (by kernel_rfl))
  f212 := Tryz.func159.trans (congrArg some (by kernel_rfl))
  f240 := Tryz.func183.trans (congrArg some (by kernel_rfl))
  f241 := Tryz.func184.trans (congrArg some (by kernel_rfl))
  f263 := Tryz.func181.trans (congrArg some (by kernel_rfl))
  f264 := Tryz.func182.trans (congrArg some (by kernel_rfl))
  f276 := Tryz.func190.trans (congrArg some (by kernel_rfl))
  f277 := Tryz.func191.trans (congrArg some (by kernel_rfl))
  t0 := Tryz.underlying0
  a0 := Tryz.isAgg0
  z0 := Tryz.sizeOf0
  v0 := Tryz.zeroValue0
  t3 := Tryz.underlying3
  a3 := Tryz.isAgg3
  z3 := Tryz.sizeOf3
  v3 := Tryz.zeroValue3
  t4 := Tryz.underlying4
  a4 := Tryz.isAgg4
  z4 := Tryz.sizeOf4
  v4 := Tryz.zeroValue4
  t5 := Tryz.underlying5
  a5 := Tryz.isAgg5
  z5 := Tryz.sizeOf5
  v5 := Tryz.zeroValue5
  t9 := Tryz.underlying9
  a9 := Tryz.isAgg9
  z9 := Tryz.sizeOf9
  v9 := Tryz.zeroValue9
  t20 := Tryz.underlying20
  a20 := Tryz.isAgg20
  z20 := Tryz.sizeOf20
  v20 := Tryz.zeroValue20
  t37 := Tryz.underlying128
  a37 := Tryz.isAgg128
  z37 := Tryz.sizeOf128
  v37 := Tryz.zeroValue128
  t46 := Tryz.underlying135
  a46 := Tryz.isAgg135
  z46 := Tryz.sizeOf135
  v46 := Tryz.zeroValue135
  t51 := Tryz.underlying248
  a51 := Tryz.isAgg248
  z51 := Tryz.sizeOf248
  v51 := Tryz.zeroValue248
  t53 := Tryz.underlying150
  a53 := Tryz.isAgg150
  z53 := Tryz.sizeOf150
  v53 := Tryz.zeroValue150
  t70 := Tryz.underlying242
  a70 := Tryz.isAgg242
  z70 := Tryz.sizeOf242
  v70 := Tryz.zeroValue242
  t72 := Tryz.underlying244
  a72 := Tryz.isAgg244
  z72 := Tryz.sizeOf244
  v72 := Tryz.zeroValue244
  t75 := Tryz.underlying27
  a75 := Tryz.isAgg27
  z75 := Tryz.sizeOf27
  v75 := Tryz.zeroValue27
  t76 := Tryz.underlying55
  a76 := Tryz.isAgg55
  z76 := Tryz.sizeOf55
  v76 := Tryz.zeroValue55
  t109 := Tryz.underlying240
  a109 := Tryz.isAgg240
  z109 := Tryz.sizeOf240
  v109 := Tryz.zeroValue240
  t127 := Tryz.underlying195
  a127 := Tryz.isAgg195
  z127 := Tryz.sizeOf195
  v127 := Tryz.zeroValue195
  t146 := Tryz.underlying249
  a146 := Tryz.isAgg249
  z146 := Tryz.sizeOf249
  v146 := Tryz.zeroValue249
  t148 := Tryz.underlying261
  a148 := Tryz.isAgg261
  z148 := Tryz.sizeOf261
  v148 := Tryz.zeroValue261
  t164 := Tryz.underlying168
  a164 := Tryz.isAgg168
  z164 := Tryz.sizeOf168
  v164 := Tryz.zeroValue168 }
end Go.Proofs
namespace Go.Proofs
open Go.Shelf Go.RowKit
theorem Tryz.Builder_Extra_105 : Builder.Extra Tryz.prog Tryz.lays105_ren := {
  sizeBuilder := by kernel_rfl
  liesBuilder := by kernel_rfl
  t5 := Tryz.underlying5
  a5 := Tryz.isAgg5
  z5 := Tryz.sizeOf5
  v5 := Tryz.zeroValue5
  infoByte := by kernel_rfl
  cellsByte := by kernel_rfl
  sizeByte := by kernel_rfl
  neB5 := by decide }
end Go.Proofs
namespace Go.Proofs.YtjgdnainhoipgaaGreatDoor
open Go.Shelf Go.RowKit
theorem lib_clone (s : ByteArray) (w : World) (hlim : s.size ≤ 281474976710656) :
    Calls Tryz.prog 85 #[.string s] w fun e w' => e = .returned (.string s) ∧ Below w.heap.size w w' := Any.stringslite_Clone Tryz.laysM316 s w hlim
theorem lib_repeat (s : ByteArray) (c : Nat) (w : World) (hc : c ≤ 9223372036854775807) (hlen : s.size * c ≤ 140737488355328) :
    Calls Tryz.prog 119 #[.string s, .int .i64 c] w fun e w' => e = .returned (.string ⟨(Lib.repeatL s.data.toList c).toArray⟩) ∧ Below w.heap.size w w' := Any.strings_Repeat Tryz.lays105 Tryz.Builder_Extra_105 s c w hc hlen
end Go.Proofs.YtjgdnainhoipgaaGreatDoor
namespace Go.Proofs.YtjgdnainhoipgaaGreatDoor
open Go.RowKit

/-- a page of noughts -/
def zeros : ByteArray := ⟨(List.replicate 1024 (0 : UInt8)).toArray⟩
theorem zeros_size : zeros.size = 1024 := by
  show (List.replicate 1024 (0 : UInt8)).toArray.size = 1024
  rw [List.size_toArray, List.length_replicate]

theorem not_empty {s : ByteArray} (h : s.size = 1024) : s.toList.isEmpty = false := by
  rw [ByteArray.toList_eq]
  cases hl : s.data.toList with
  | nil => have : s.size = s.data.toList.length := by simp
           rw [hl, h] at this; cases this
  | cons a l => rfl

/-- block b is a disk with these pages -/
structure DiskIs (b : Nat) (pg : Nat → ByteArray) (ends : Bool) (left torn : Int) (w : World) : Prop where
  page : ∀ k, k < 4001 → (w.cell? ⟨b, k, none⟩ = some (.string (pg k)) ∧ (pg k).size = 1024) ∨ (w.cell? ⟨b, k, none⟩ = some (.string ⟨#[]⟩) ∧ pg k = zeros)
  ends : w.cell? ⟨b, 4001, none⟩ = some (.bool ends)
  left : w.cell? ⟨b, 4002, none⟩ = some (.int .i64 left)
  torn : w.cell? ⟨b, 4003, none⟩ = some (.int .i64 torn)
  free : ∀ k, w.frozen? ⟨b, k, none⟩ = false

theorem grown_of_below {w w' : World} (h : Below w.heap.size w w') (row : Option Nat) : w.grownBy w' row := ⟨h.os, h.tape, h.output, h.size, fun k hk _ => h.block k hk⟩

theorem DiskIs.lt {b : Nat} {pg : Nat → ByteArray} {ends : Bool} {left torn : Int} {w : World} (h : DiskIs b pg ends left torn w) : b < w.heap.size := World.block_lt_of_cell? w _ h.ends

theorem DiskIs.size {b : Nat} {pg : Nat → ByteArray} {ends : Bool} {left torn : Int} {w : World} (h : DiskIs b pg ends left torn w) (k : Nat) (hk : k < 4001) : (pg k).size = 1024 := by
  rcases h.page k hk with ⟨_, h1⟩ | ⟨_, h1⟩
  · exact h1
  · rw [h1, zeros_size]

theorem DiskIs.block {b : Nat} {pg : Nat → ByteArray} {ends : Bool} {left torn : Int} {w w' : World} (h : DiskIs b pg ends left torn w) (hb : w'.heap[b]? = w.heap[b]?) : DiskIs b pg ends left torn w' := by
  have c : ∀ k, w'.cell? ⟨b, k, none⟩ = w.cell? ⟨b, k, none⟩ := fun k => World.cell?_of_block hb
  refine ⟨fun k hk => ?_, ?_, ?_, ?_, fun k => ?_⟩
  · rw [c]; exact h.page k hk
  · rw [c]; exact h.ends
  · rw [c]; exact h.left
  · rw [c]; exact h.torn
  · exact (World.frozen?_of_block (a := ⟨b, k, none⟩) hb).trans (h.free k)

theorem DiskIs.grown {b : Nat} {pg : Nat → ByteArray} {ends : Bool} {left torn : Int} {w w' : World} {row : Option Nat} (h : DiskIs b pg ends left torn w) (hg : w.grownBy w' row) (hne : some b ≠ row) : DiskIs b pg ends left torn w' :=
  h.block (hg.block b h.lt hne)

theorem DiskIs.below {b : Nat} {pg : Nat → ByteArray} {ends : Bool} {left torn : Int} {w w' : World} (h : DiskIs b pg ends left torn w) (hb : Below w.heap.size w w') : DiskIs b pg ends left torn w' :=
  h.block (hb.block b h.lt)

theorem DiskIs.drew {b : Nat} {pg : Nat → ByteArray} {ends : Bool} {left torn : Int} {w : World} (h : DiskIs b pg ends left torn w) : DiskIs b pg ends left torn w.drew := h.block rfl

theorem there_yes (k : Nat) (w : World) (hk : k < 4001) : Calls Tryz.prog 78 #[.int .i64 k] w fun e w' => e = .returned (.bool true) ∧ w' = w := by
  have h1 : (k : Int) < 4001 := by omega
  go_enter Tryz.func78, Tryz.ntmps78
  go_wp2
  go_ret
  exact ⟨ret_bool (by simp), rfl⟩

theorem clone_any (s : ByteArray) (w : World) (hs : s.size ≤ 1024) : Calls Tryz.prog 57 #[.string s] w fun e w' => e = .returned (.string s) ∧ Below w.heap.size w w' := by
  go_enter Tryz.func57, Tryz.ntmps57
  go_wp2_with fail
  refine (lib_clone s w (by omega)).mono ?_
  rintro _ w1 ⟨rfl, hb⟩
  go_wp2
  go_ret
  exact ⟨rfl, hb⟩

theorem zeros_any (w : World) : Calls Tryz.prog 119 #[.string ⟨#[0]⟩, .int .i64 1024] w fun e w' => e = .returned (.string zeros) ∧ Below w.heap.size w w' := by
  have h := lib_repeat ⟨#[0]⟩ 1024 w (by omega) (by show 1 * 1024 ≤ _; omega)
  have e : Lib.repeatL (ByteArray.mk #[0]).data.toList 1024 = List.replicate 1024 0 := by
    show Lib.repeatL [0] 1024 = _
    have h1 : ([0] : List UInt8) = List.replicate 1 0 := rfl
    rw [h1, Lib.repeatL_replicate, Nat.mul_one]
  rw [e] at h
  exact h

set_option maxHeartbeats 400000 in
theorem whole_any {b : Nat} {pg : Nat → ByteArray} {ends : Bool} {left torn : Int} {w : World} (h : DiskIs b pg ends left torn w) (k : Nat) (hk : k < 4001) :
    Calls Tryz.prog 79 #[.pointer (some ⟨b, 0, none⟩), .int .i64 k] w fun e w' => e = .returned (.string (pg k)) ∧ Below w.heap.size w w' := by
  have h1 : (k : Int) < 4001 := by omega
  rcases h.page k hk with ⟨c, hs⟩ | ⟨c, hz⟩
  · clear h
    have hne := not_empty hs
    generalize pg k = s at *
    go_enter Tryz.func79, Tryz.ntmps79
    go_wp2
    go_ret
    exact ⟨rfl, Below.refl _ _⟩
  · rw [hz]
    clear h
    go_enter Tryz.func79, Tryz.ntmps79
    go_wp2_with fail
    refine (zeros_any w).mono ?_
    rintro _ w1 ⟨rfl, hb⟩
    go_wp2
    go_ret
    exact ⟨rfl, hb⟩
end Go.Proofs.YtjgdnainhoipgaaGreatDoor
namespace Go.Proofs.YtjgdnainhoipgaaGreatDoor
open Go.RowKit

/-- the pages, with one laid anew -/
def upd (pg : Nat → ByteArray) (k : Nat) (s : ByteArray) : Nat → ByteArray := fun i => if i = k then s else pg i

section
variable {b : Nat} {pg : Nat → ByteArray} {ends : Bool} {left torn : Int} {w : World}

theorem grownBy_set (W : World) (b o : Nat) (v : Value) : W.grownBy (W.setCell ⟨b, o, none⟩ v) (some b) :=
  ⟨rfl, rfl, rfl, by simp [World.setCell], fun k _ hk => Below.heap_setCell W ⟨b, o, none⟩ v k (fun e => hk (by rw [e]))⟩

/-- torn bytes, cut to 0 to 1024 -/
def clip (t : Int) : Int := min (max t 0) 1024

theorem read_yes (h : DiskIs b pg ends left torn w) (k : Nat) (hk : k < 4001) :
    Calls Tryz.prog 50 #[.pointer (some ⟨b, 0, none⟩), .int .i64 k] w fun e w' => e = .returned (.tuple #[.string (pg k), .nilIface]) ∧ Below w.heap.size w w' := by
  have hs : (pg k).size ≤ 1024 := Nat.le_of_eq (h.size k hk)
  have HD : Hid (DiskIs b pg ends left torn w) := h
  clear h
  go_enter Tryz.func50, Tryz.ntmps50
  go_wp2_with fail
  refine (there_yes k w hk).mono ?_
  rintro _ _ ⟨rfl, rfl⟩
  go_wp2_with fail
  refine (whole_any HD.out k hk).mono ?_
  rintro _ w1 ⟨rfl, hb1⟩
  go_wp2_with fail
  refine (clone_any _ w1 hs).mono ?_
  rintro _ w2 ⟨rfl, hb2⟩
  go_wp2
  go_ret2
  exact ⟨rfl, hb1.trans (hb2.mono hb1.size)⟩

/-- what copy lays of a text -/
theorem run_copy_str {P : Program} (w : World) (dT sT ty elem : TypeId) (g o dLen dCap : Nat) (s : ByteArray)
    (hu : P.underlying dT = some (.slice elem)) (hs : (P.info? elem).map (·.size) = some 1) (hle : s.size ≤ dLen) (hc : ∀ j, j < s.size → (w.cell? ⟨g, o + j, none⟩).isSome = true) (hf : ∀ j, j < s.size → w.frozen? ⟨g, o + j, none⟩ = false) :
    (Builtin.copy_ #[dT, sT] ty #[.slice (some ⟨g, o, none⟩) dLen dCap, .string s]).run P w = .ok (goInt s.size) (w.setCells g o (Lib.byteCells s.data.toList)) := by
  have hlen : (Lib.byteCells s.data.toList).length = s.size := by rw [Lib.byteCells_length, ← Lib.size_eq]
  have hst := run_storeCells_cells (P := P) g o (Lib.byteCells s.data.toList) 0 w (by rw [hlen]; simpa using hc) (by rw [hlen]; simpa using hf) (Lib.byteCells_one _)
  have hmin : Nat.min s.size dLen = s.size := Nat.min_eq_left hle
  have htk : List.take s.size (List.map (fun b : UInt8 => Value.int IntKind.u8 (b.toNat : Int)) s.data.toList) = Lib.byteCells s.data.toList := by
    rw [List.take_of_length_le (by rw [List.length_map, ← Lib.size_eq]; exact Nat.le_refl _)]
    rfl
  simp only [Nat.add_zero] at hst
  cases hq : P.info? elem with
  | none => simp [hq] at hs
  | some i =>
    simp [Builtin.copy_, run_underlying hu, Builtin.lenOf, Builtin.firstCells, sizeOf, typeInfo, hq, hmin]
    rw [htk, hst]
    simp [Result.andThen]

/-- a page of which torn bytes were written -/
def tornPage (s old : ByteArray) (t : Nat) : ByteArray := ⟨(s.data.toList.take t ++ old.data.toList.drop t).toArray⟩


end
end Go.Proofs.YtjgdnainhoipgaaGreatDoor
namespace Go.Proofs.YtjgdnainhoipgaaGreatDoor
open Go.RowKit
section
variable {b : Nat} {pg : Nat → ByteArray} {ends : Bool} {left torn : Int} {w : World}

end
end Go.Proofs.YtjgdnainhoipgaaGreatDoor
namespace Go.Proofs.YtjgdnainhoipgaaGreatDoor
open Go.RowKit

/-- what a disk has -/
structure St where
  pg : Nat → ByteArray
  ends : Bool
  left : Int
  torn : Nat

structure St.Ok (s : St) : Prop where
  torn : s.torn ≤ 1024
  low : s.ends = true → 0 ≤ s.left
  high : s.left ≤ 9223372036854775807

/-- whether there is power -/
def St.pow (s : St) : Bool := !s.ends || decide (0 < s.left)

def inside (k : Int) : Bool := decide (0 ≤ k) && decide (k < 4001)

/-- what a write of a whole page tells -/
def St.code (s : St) (k : Int) : Int := if inside k then (if s.pow then 0 else 14) else 2
/-- what it leaves -/
def St.wr (s : St) (k : Int) (p : ByteArray) : St :=
  if inside k then
    (if s.pow then ⟨upd s.pg k.toNat p, s.ends, if s.ends then s.left - 1 else s.left, s.torn⟩
     else ⟨upd s.pg k.toNat (tornPage p (s.pg k.toNat) s.torn), s.ends, s.left, 0⟩)
  else s

def St.cut (s : St) (writes t : Int) : St := ⟨s.pg, decide (0 ≤ writes), writes, (clip t).toNat⟩

theorem St.Ok.wr {s : St} (h : s.Ok) (k : Int) (p : ByteArray) : (s.wr k p).Ok := by
  obtain ⟨pg, ends, left, torn⟩ := s
  have h1 := h.torn
  have h2 := h.low
  have h3 := h.high
  simp only at h1 h2 h3
  unfold St.wr
  split
  · split
    · rename_i hp
      cases ends
      · exact ⟨h1, (fun e => by cases e), h3⟩
      · have : 0 < left := by simpa [St.pow] using hp
        exact ⟨h1, fun _ => by show 0 ≤ left - 1; omega, by show left - 1 ≤ _; omega⟩
    · exact ⟨Nat.zero_le _, h2, h3⟩
  · exact h

theorem clip_le (t : Int) : 0 ≤ clip t ∧ clip t ≤ 1024 := by unfold clip; omega
theorem St.Ok.cut {s : St} (writes t : Int) (h : writes ≤ 9223372036854775807) : (s.cut writes t).Ok := by
  have := clip_le t
  exact ⟨by show (clip t).toNat ≤ 1024; omega, fun e => by simpa [St.cut] using e, h⟩

/-- block b is the program's disk in this state -/
def Prg (b : Nat) (s : St) (w : World) : Prop := DiskIs b s.pg s.ends s.left s.torn w
theorem page_of_sizes {b : Nat} {s : St} {w : World} (h : Prg b s w) (k : Nat) (hk : k < 4001) : (s.pg k).size = 1024 := DiskIs.size h k hk

theorem zero44 : Tryz.zeroCells45.toList = List.replicate 4001 (.string ⟨#[]⟩) ++ [.bool false, .int .i64 0, .int .i64 0] := by kernel_rfl

/-- a disk's zero value -/
theorem disk_new (w : World) : Prg w.heap.size ⟨fun _ => zeros, false, 0, 0⟩ (w.alloc (.cells Tryz.zeroCells45 45)) := by
  have hn : (w.alloc (.cells Tryz.zeroCells45 45)).heap[w.heap.size]? = some (.cells Tryz.zeroCells45 45) := heap_alloc_new w _
  have hc : ∀ k : Nat, (w.alloc (.cells Tryz.zeroCells45 45)).cell? ⟨w.heap.size, k, none⟩ = Tryz.zeroCells45[k]? := fun k => by simp only [World.cell?, hn]; simp
  have hl : ∀ k : Nat, Tryz.zeroCells45[k]? = (List.replicate 4001 (Value.string ⟨#[]⟩) ++ [Value.bool false, Value.int .i64 0, Value.int .i64 0])[k]? := fun (k : Nat) => by rw [← zero44, Array.getElem?_toList]
  refine ⟨fun k hk => .inr ⟨?_, rfl⟩, ?_, ?_, ?_, fun k => ?_⟩
  · rw [hc, hl, List.getElem?_append_left (by rw [List.length_replicate]; exact hk), List.getElem?_replicate, if_pos hk]
  · rw [hc, hl, List.getElem?_append_right (by rw [List.length_replicate]; omega), List.length_replicate]; rfl
  · rw [hc, hl, List.getElem?_append_right (by rw [List.length_replicate]; omega), List.length_replicate]; rfl
  · rw [hc, hl, List.getElem?_append_right (by rw [List.length_replicate]; omega), List.length_replicate]; rfl
  · simp only [World.frozen?, hn]; simp
end Go.Proofs.YtjgdnainhoipgaaGreatDoor
