/- Part 6 of 30. -/
import Derived.Test.YtmabfbffpedfnaaGreatDoorK05
import Derived.Test.YtmabfbffpedfnaaGreatDoorProg
import Derived.Shelf.Strings.BuilderK
import Derived.Shelf.Strings.Builder1
import Derived.Shelf.LaysM
import Derived.Shelf.Strconv.Itoa3
import Derived.Shelf.Strconv.Itoa4
import Derived.Shelf.Strconv.Clone
import Derived.Shelf.LaysC
import Derived.Shelf.Strconv.AtoiAll
import Derived.Shelf.Strconv.ParseIntPublic10
import Derived.Shelf.Strings.Replace
import Derived.Lib.AtoiAll
import Derived.Lib.ItoaNum
namespace Go.Proofs.YtmabfbffpedfnaaGreatDoor
open Go.RowKit

theorem Fr.row {X : Nat → Obj → Prop} {w w' : World} {N T sz n : Nat} {v : Value} {xs : List Value} (hX : ∀ k c fz, X k (.cells c T fz)) (ho : w.ownsRow N T sz v n xs) (hg : w.grownBy w' v.ownBlock) : Fr X w w' := fun k o hk hx => by
  rw [hg.block k (Array.getElem?_eq_some_iff.1 hk).1 ?_]
  · exact hk
  · intro e
    rcases ho.2 with ⟨rfl, _⟩ | ⟨g, cap, cur, rfl, h2, h3, _⟩
    · cases e
    · have e' : k = g := Option.some.inj e
      subst e'
      rw [h3] at hk
      cases hk
      exact hx (hX _ _ _)
/-- two lists, pair by pair -/
inductive All2 {α β : Type} (R : α → β → Prop) : List α → List β → Prop
  | nil : All2 R [] []
  | cons {a : α} {b : β} {l : List α} {m : List β} (h : R a b) (t : All2 R l m) : All2 R (a :: l) (b :: m)
theorem All2.mono {α β : Type} {R Q : α → β → Prop} {l : List α} {m : List β} (h : All2 R l m) (hq : ∀ a b, R a b → Q a b) : All2 Q l m := by
  induction h with
  | nil => exact .nil
  | cons h _ ih => exact .cons (hq _ _ h) ih
theorem All2.snoc {α β : Type} {R : α → β → Prop} {l : List α} {m : List β} (h : All2 R l m) {a : α} {b : β} (hab : R a b) : All2 R (l ++ [a]) (m ++ [b]) := by
  induction h with
  | nil => exact .cons hab .nil
  | cons h _ ih => exact .cons h ih
/-- a row of such things that the call owns -/
def RowOf {α : Type} (N T sz : Nat) (E : α → List Value → Prop) (w : World) (v : Value) (L : List α) : Prop :=
  ∃ cs : List (List Value), All2 E L cs ∧ w.ownsRow N T sz v L.length cs.flatten
theorem RowOf.nil {α : Type} (N T sz : Nat) (E : α → List Value → Prop) (w : World) : RowOf N T sz E w (.slice none 0 0) [] := ⟨[], .nil, World.ownsRow_nil _ _ _ _⟩
theorem own_fr {N T sz n : Nat} {X : Nat → Obj → Prop} {w w' : World} {v : Value} {xs : List Value} (h : w.ownsRow N T sz v n xs) (hf : Fr X w w') (hX : ∀ k cs, N ≤ k → w.heap[k]? = some (.cells cs T (0, 0)) → ¬ X k (.cells cs T (0, 0))) : w'.ownsRow N T sz v n xs := by
  refine ⟨h.1, ?_⟩
  rcases h.2 with h3 | ⟨g, cap, cur, e1, e2, e3, e4⟩
  · exact .inl h3
  · exact .inr ⟨g, cap, cur, e1, e2, hf _ _ e3 (hX g cur e2 e3), e4⟩
theorem RowOf.fr {α : Type} {N T sz : Nat} {E E' : α → List Value → Prop} {X : Nat → Obj → Prop} {w w' : World} {v : Value} {L : List α} (h : RowOf N T sz E w v L) (hf : Fr X w w') (hX : ∀ k cs, N ≤ k → w.heap[k]? = some (.cells cs T (0, 0)) → ¬ X k (.cells cs T (0, 0))) (hE : ∀ a c, E a c → E' a c) : RowOf N T sz E' w' v L := by
  obtain ⟨cs, h1, h2⟩ := h
  exact ⟨cs, h1.mono hE, own_fr h2 hf hX⟩
theorem own_slice {w : World} {N T sz n : Nat} {v : Value} {xs : List Value} (h : w.ownsRow N T sz v n xs) : ∃ a c, v = .slice a n c := by
  rcases h.2 with ⟨rfl, rfl⟩ | ⟨g, cap, cur, rfl, _⟩
  · exact ⟨none, 0, rfl⟩
  · exact ⟨_, cap, rfl⟩
theorem own_grownN {A N T sz n : Nat} {w w' : World} {v : Value} {xs : List Value} (hN : A < N) (h : w.ownsRow N T sz v n xs) (hg : w.grownBy w' (some A)) : w'.ownsRow N T sz v n xs :=
  own_fr (X := fun k _ => k = A) h (Fr.of_grown (fun _ => rfl) hg) (fun k _ hk _ e => by omega)
/-- blocks of two types may change -/
def XT (T T' : Nat) : Nat → Obj → Prop := fun _ o => ∃ c fz, o = .cells c T fz ∨ o = .cells c T' fz
/-- what holds of an element's cells goes on holding -/
def StaysJ (A T T' : Nat) (J : World → Prop) : Prop := (∀ w w', w.grownBy w' (some A) → J w → J w') ∧ (∀ w w', Fr (XT T T') w w' → J w → J w')
theorem staysT (A T T' : Nat) : StaysJ A T T' (fun _ => True) := ⟨fun _ _ _ h => h, fun _ _ _ h => h⟩
def Stays {α : Type} (A T T' : Nat) (E : World → α → List Value → Prop) : Prop := (∀ w w' a c, w.grownBy w' (some A) → E w a c → E w' a c) ∧ (∀ w w' a c, Fr (XT T T') w w' → E w a c → E w' a c)
theorem ExIs.xt {n T T' : Nat} {w w' : World} (hT : T ≠ 75 ∧ T' ≠ 75) (hf : Fr (XT T T') w w') {q : Ex} {p : Option Addr} (h : ExIs n w p q) : ExIs n w' p q :=
  ExIs.fr hf (fun k cs fz _ _ => by
    rintro ⟨c, fz', e | e⟩
    · cases e; exact hT.1 rfl
    · cases e; exact hT.2 rfl) q h
theorem Blk.fr {b T : Nat} {cs : Array Value} {X : Nat → Obj → Prop} {w w' : World} (h : Blk b cs T w) (hf : Fr X w w') (hX : ¬ X b (.cells cs T (0, 0))) : Blk b cs T w' := hf _ _ h hX
/-- the state between the elements of a row: it stands in cell i of block S -/
structure Acc {α : Type} (c A S x : Nat) (w0 : World) (cf : Value → Array Value) (T' T sz : Nat) (E : World → α → List Value → Prop) (J : World → Prop) (L : List α) (l : List KT) (w : World) : Prop where
  rd : RdIs A l w
  hx : Blk x #[.pointer (some ⟨A, 0, none⟩)] 117 w
  nx : x ≠ A
  xS : x ≠ S
  st : ∃ v, Blk S (cf v) T' w ∧ RowOf w0.heap.size T sz (E w) w v L
  gr : w0.grownBy w (some A)
  lo : A < w0.heap.size
  S0 : w0.heap.size ≤ S
  cnt : L.length + l.length ≤ c
  side : J w
theorem Acc.grown {α : Type} {c c' A S x : Nat} {w0 : World} {cf : Value → Array Value} {T' T sz : Nat} {E : World → α → List Value → Prop} {J : World → Prop} {L : List α} {l l' : List KT} {w w' : World} (h : Acc c A S x w0 cf T' T sz E J L l w) (hE : Stays A T T' E) (hJ : StaysJ A T T' J) (hr : RdIs A l' w') (hg : w.grownBy w' (some A)) (hc : L.length + l'.length ≤ c') : Acc c' A S x w0 cf T' T sz E J L l' w' := by
  obtain ⟨v, h1, cs, h2, h3⟩ := h.st
  have hS : S ≠ A := by have := h.S0; have := h.lo; omega
  exact ⟨hr, h.hx.keep h.nx hg, h.nx, h.xS, ⟨v, h1.keep hS hg, cs, h2.mono (fun a b hab => hE.1 _ _ a b hg hab), own_grownN h.lo h3 hg⟩, h.gr.trans hg, h.lo, h.S0, hc, hJ.1 _ _ hg h.side⟩
theorem grown_append {A N T sz n : Nat} {w0 w w' : World} {v : Value} {xs : List Value} (h : w0.grownBy w (some A)) (hN : w0.heap.size ≤ N) (ho : w.ownsRow N T sz v n xs) (hg : w.grownBy w' v.ownBlock) : w0.grownBy w' (some A) :=
  ⟨hg.os.trans h.os, hg.tape.trans h.tape, hg.output.trans h.output, Nat.le_trans h.size hg.size, fun k hk hne => by
    rw [hg.block k (Nat.lt_of_lt_of_le hk h.size) (fun e => by have := (ho.lt k e.symm).1; omega)]
    exact h.block k hk hne⟩
/-- one more -/
theorem Acc.snoc {α : Type} {c A S x : Nat} {w0 : World} {cf : Value → Array Value} {T' T sz : Nat} {E : World → α → List Value → Prop} {J : World → Prop} {L : List α} {l l' : List KT} {w w10 w3 : World} {v v' : Value} {cs : List (List Value)} {o : Obj} {i : Nat} {a : α} {cn : List Value}
    (h : Acc c A S x w0 cf T' T sz E J L l w) (hE : Stays A T T' E) (hJ : StaysJ A T T' J) (hT : T ≠ 117 ∧ T' ≠ T)
    (hst : Blk S (cf v) T' w) (hcs : All2 (E w) L cs) (hown : w.ownsRow w0.heap.size T sz v L.length cs.flatten) (hg : w.grownBy w10 (some A)) (hr : RdIs A l' w10) (ha : E w10 a cn)
    (hg3 : (w10.alloc o).grownBy w3 v.ownBlock) (ho3 : w3.ownsRow w0.heap.size T sz v' (L.length + 1) (cs.flatten ++ cn)) (hup : (cf v).setIfInBounds i v' = cf v') (hl : l'.length ≤ l.length) :
    Acc (c + 1) A S x w0 cf T' T sz E J (L ++ [a]) l' (w3.setCell ⟨S, i, none⟩ v') := by
  have hS0 := h.S0
  have hlo := h.lo
  have hbA : Below w10.heap.size w10 (w10.alloc o) := (Below.refl _ _).alloc (Nat.le_refl _) _
  have hown10 := own_grownN hlo hown hg
  have hownA := own_below hown10 hbA
  have hf3 : Fr (XT T T') w10 w3 := (Fr.of_below hbA).trans (Fr.row (fun _ _ _ => ⟨_, _, .inl rfl⟩) hownA hg3)
  have hfr3 : Fr (fun _ o => ∃ c fz, o = .cells c T fz) w10 w3 := (Fr.of_below hbA).trans (Fr.row (fun _ _ _ => ⟨_, _, rfl⟩) hownA hg3)
  have hst10 := hst.keep (by omega : S ≠ A) hg
  have hst3 := hst10.fr hfr3 (by rintro ⟨c, fz, e⟩; cases e; exact hT.2 rfl)
  have hx3 := (h.hx.keep h.nx hg).fr hfr3 (by rintro ⟨c, fz, e⟩; cases e; exact hT.1 rfl)
  have hfS : Fr (XT T T') w3 (w3.setCell ⟨S, i, none⟩ v') := fun k ob hk hx => by
    by_cases e : k = S
    · subst e
      have h3 : w3.heap[k]? = _ := hst3
      rw [h3] at hk
      cases hk
      exact absurd ⟨_, _, .inr rfl⟩ hx
    · rw [Below.heap_setCell w3 ⟨S, i, none⟩ v' k (fun e' => e (by simpa using e'))]; exact hk
  have hlow : ∀ k, k ≤ A → w3.heap[k]? = w10.heap[k]? := fun k hk => by
    rw [hg3.block k (by have := hr.lt; simp; omega) (fun e => ?_)]
    · exact hbA.block k (by have := hr.lt; omega)
    · have := (hownA.lt k e.symm).1
      omega
  refine ⟨(hr.keep hlow).set (by omega) i v', hx3.other (fun e => h.xS e.symm) i v', h.nx, h.xS, ⟨v', ?_, cs ++ [cn], ?_, ?_⟩, ?_, hlo, hS0, ?_, hJ.2 _ _ hfS (hJ.2 _ _ hf3 (hJ.1 _ _ hg h.side))⟩
  · have := hst3.set i v'
    rw [hup] at this
    exact this
  · exact All2.snoc (hcs.mono fun a b hab => hE.2 _ _ a b hfS (hE.2 _ _ a b hf3 (hE.1 _ _ a b hg hab))) (hE.2 _ _ a cn hfS (hE.2 _ _ a cn hf3 ha))
  · have e : (cs ++ [cn]).flatten = cs.flatten ++ cn := by simp
    rw [e, List.length_append, List.length_singleton]
    refine own_fr (X := fun k _ => k = S) ho3 (Fr.set (fun _ => rfl) i v') (fun k cs' _ hk e' => ?_)
    have h3 : w3.heap[S]? = _ := hst3
    rw [e', h3] at hk
    cases hk
    exact hT.2 rfl
  · exact grown_new (grown_append ((h.gr.trans hg).trans (grown_alloc _ _ _)) (Nat.le_refl _) hownA hg3) hS0 i v'
  · have := h.cnt
    rw [List.length_append, List.length_singleton]
    omega
theorem news_two (w : World) (a b : Value) (t : TypeId) : ∀ j u, ([a, b] : List Value)[j]? = some u → (w.alloc (.cells #[a, b] t)).cell? ((⟨w.heap.size, 0, none⟩ : Addr).add j) = some u := by
  intro j u hj
  rw [Go.WideShapes.add_plain]
  have hj2 : j = 0 ∨ j = 1 := by
    have := (List.getElem?_eq_some_iff.1 hj).1
    simp at this
    omega
  rcases hj2 with rfl | rfl <;> (simp at hj; subst hj; simp)
theorem news_one (w : World) (a : Value) (t : TypeId) : ∀ j u, ([a] : List Value)[j]? = some u → (w.alloc (.cells #[a] t)).cell? ((⟨w.heap.size, 0, none⟩ : Addr).add j) = some u := by
  intro j u hj
  rw [Go.WideShapes.add_plain]
  have hj2 : j = 0 := by
    have := (List.getElem?_eq_some_iff.1 hj).1
    simp at this
    omega
  subst hj2
  simp at hj
  subst hj
  simp
theorem news_four (w : World) (a b c d : Value) (t : TypeId) : ∀ j u, ([a, b, c, d] : List Value)[j]? = some u → (w.alloc (.cells #[a, b, c, d] t)).cell? ((⟨w.heap.size, 0, none⟩ : Addr).add j) = some u := by
  intro j u hj
  rw [Go.WideShapes.add_plain]
  have hj2 : j = 0 ∨ j = 1 ∨ j = 2 ∨ j = 3 := by
    have := (List.getElem?_eq_some_iff.1 hj).1
    simp at this
    omega
  rcases hj2 with rfl | rfl | rfl | rfl <;> (simp at hj; subst hj; simp)
/-- an item's cells, a rank's, an expression's, a column's -/
def EI (n : Nat) (w : World) (it : Int × Ex) (c : List Value) : Prop := ∃ p, c = [.int .i64 it.1, .pointer p] ∧ ExIs n w p it.2
def ER (n : Nat) (w : World) (it : Ex × Bool) (c : List Value) : Prop := ∃ p, c = [.pointer p, .bool it.2] ∧ ExIs n w p it.1
def EP (n : Nat) (w : World) (e : Ex) (c : List Value) : Prop := ∃ p, c = [.pointer p] ∧ ExIs n w p e
def EC (_ : World) (x : Colm) (c : List Value) : Prop := c = [.string x.nm, .int .i64 x.k, .bool x.mu, .bool x.wo]
def ERw (n N : Nat) (w : World) (L : List Ex) (c : List Value) : Prop := ∃ v, c = [v] ∧ RowOf N 26 1 (EP n w) w v L
theorem EI_stays {n A T T' : Nat} (hn : A ≤ n) (hT : T ≠ 75 ∧ T' ≠ 75) : Stays A T T' (EI n) := ⟨fun _ _ _ _ hg ⟨p, e, hx⟩ => ⟨p, e, ExIs.grownN hn hg hx⟩, fun _ _ _ _ hf ⟨p, e, hx⟩ => ⟨p, e, ExIs.xt hT hf hx⟩⟩
theorem ER_stays {n A T T' : Nat} (hn : A ≤ n) (hT : T ≠ 75 ∧ T' ≠ 75) : Stays A T T' (ER n) := ⟨fun _ _ _ _ hg ⟨p, e, hx⟩ => ⟨p, e, ExIs.grownN hn hg hx⟩, fun _ _ _ _ hf ⟨p, e, hx⟩ => ⟨p, e, ExIs.xt hT hf hx⟩⟩
theorem EP_stays {n A T T' : Nat} (hn : A ≤ n) (hT : T ≠ 75 ∧ T' ≠ 75) : Stays A T T' (EP n) := ⟨fun _ _ _ _ hg ⟨p, e, hx⟩ => ⟨p, e, ExIs.grownN hn hg hx⟩, fun _ _ _ _ hf ⟨p, e, hx⟩ => ⟨p, e, ExIs.xt hT hf hx⟩⟩
theorem EC_stays {A T T' : Nat} : Stays A T T' EC := ⟨fun _ _ _ _ _ h => h, fun _ _ _ _ _ h => h⟩
theorem ERw_stays {n N A T T' : Nat} (hn : A ≤ n) (hN : A < N) (hT : (T ≠ 75 ∧ T' ≠ 75) ∧ T ≠ 26 ∧ T' ≠ 26) : Stays A T T' (ERw n N) :=
  ⟨fun _ _ _ _ hg ⟨v, e, hr⟩ => ⟨v, e, hr.fr (X := fun k _ => k = A) (Fr.of_grown (fun _ => rfl) hg) (fun k _ hk _ e => by omega) (fun a c h => (EP_stays hn hT.1).1 _ _ a c hg h)⟩,
   fun _ _ _ _ hf ⟨v, e, hr⟩ => ⟨v, e, hr.fr hf (fun k cs _ _ => by
      rintro ⟨c, fz', e | e⟩
      · cases e; exact hT.2.1 rfl
      · cases e; exact hT.2.2 rfl) (fun a c h => (EP_stays hn hT.1).2 _ _ a c hf h)⟩⟩
theorem infoItem : (Tryz.prog.info? 146).map (fun i => (i.zero, i.size, i.bytes)) = some (some (.agg #[.int .i64 0, .pointer none]), 2, 16) := by kernel_rfl
theorem infoRank : (Tryz.prog.info? 149).map (fun i => (i.zero, i.size, i.bytes)) = some (some (.agg #[.pointer none, .bool false]), 2, 16) := by kernel_rfl
theorem infoPE : (Tryz.prog.info? 26).map (fun i => (i.zero, i.size, i.bytes)) = some (some (.pointer none), 1, 8) := by kernel_rfl
theorem infoCol : (Tryz.prog.info? 29).map (fun i => (i.zero, i.size, i.bytes)) = some (some (.agg #[.string ⟨#[]⟩, .int .i64 0, .bool false, .bool false]), 4, 32) := by kernel_rfl
theorem infoSl : (Tryz.prog.info? 58).map (fun i => (i.zero, i.size, i.bytes)) = some (some (.slice none 0 0), 1, 24) := by kernel_rfl
end Go.Proofs.YtmabfbffpedfnaaGreatDoor
namespace Go.Proofs.YtmabfbffpedfnaaGreatDoor
open Go.RowKit

/-- what a statement's cells hold -/
structure SV where
  kind : Int
  table : ByteArray
  other : ByteArray
  cols : Value
  name : ByteArray
  rows : Value
  sets : Value
  on : Option Addr
  wh : Option Addr
  items : Value
  grp : Option Addr
  ord : Value
  lim : Int
def SV.cells (s : SV) : Array Value := #[.int .i64 s.kind, .string s.table, .string s.other, s.cols, .string s.name, s.rows, s.sets, .pointer s.on, .pointer s.wh, s.items, .pointer s.grp, s.ord, .int .i64 s.lim]
/-- its rows are rows -/
structure SV.Rows (s : SV) : Prop where
  cols : ∃ a n c, s.cols = .slice a n c
  rows : ∃ a n c, s.rows = .slice a n c
  sets : ∃ a n c, s.sets = .slice a n c
  items : ∃ a n c, s.items = .slice a n c
  ord : ∃ a n c, s.ord = .slice a n c
def svOf (k : Int) (t : ByteArray) : SV := ⟨k, t, ⟨#[]⟩, .slice none 0 0, ⟨#[]⟩, .slice none 0 0, .slice none 0 0, none, none, .slice none 0 0, none, .slice none 0 0, -1⟩
def svZ : SV := ⟨0, ⟨#[]⟩, ⟨#[]⟩, .slice none 0 0, ⟨#[]⟩, .slice none 0 0, .slice none 0 0, none, none, .slice none 0 0, none, .slice none 0 0, 0⟩
theorem svOf_rows (k : Int) (t : ByteArray) : (svOf k t).Rows := ⟨⟨_, _, _, rfl⟩, ⟨_, _, _, rfl⟩, ⟨_, _, _, rfl⟩, ⟨_, _, _, rfl⟩, ⟨_, _, _, rfl⟩⟩
theorem svZ_rows : svZ.Rows := ⟨⟨_, _, _, rfl⟩, ⟨_, _, _, rfl⟩, ⟨_, _, _, rfl⟩, ⟨_, _, _, rfl⟩, ⟨_, _, _, rfl⟩⟩
theorem SV.Rows.one {s : SV} (h : s.Rows) : s.cells.all (·.oneCell') = true := by
  obtain ⟨⟨a, n, c, h1⟩, ⟨a2, n2, c2, h2⟩, ⟨a3, n3, c3, h3⟩, ⟨a4, n4, c4, h4⟩, ⟨a5, n5, c5, h5⟩⟩ := h
  unfold SV.cells
  rw [h1, h2, h3, h4, h5]
  rw [List.all_toArray]
  rfl
theorem s30 (s : SV) : (Tryz.prog.info? 62).map (·.size) = some s.cells.size := by
  have h : (Tryz.prog.info? 62).map (·.size) = some 13 := by kernel_rfl
  rw [h]; rfl
theorem Blk.there {b T : Nat} {cs : Array Value} {w : World} (h : Blk b cs T w) {n : Nat} (hn : cs.size = n) : w.there b 0 n := fun j hj => by
  refine ⟨?_, ?_⟩
  · rw [h.cell (0 + j), Nat.zero_add]
    simp [hn, hj]
  · exact h.free _
theorem Blk.range {b T : Nat} {cs : Array Value} {w : World} (h : Blk b cs T w) : w.rangeAt b 0 cs.toList := fun j v hj => by
  rw [h.cell (0 + j), Nat.zero_add, ← hj]; simp
def setA (a : Array Value) : Nat → List Value → Array Value
  | _, [] => a
  | o, v :: r => setA (a.setIfInBounds o v) (o + 1) r
theorem Blk.sets {b T : Nat} (vs : List Value) : ∀ {cs : Array Value} {w : World} (o : Nat), Blk b cs T w → Blk b (setA cs o vs) T (w.setCells b o vs) := by
  induction vs with
  | nil => intro cs w o h; exact h
  | cons v r ih => intro cs w o h; exact ih (o + 1) (h.set o v)
theorem setA_cells (s s' : SV) : setA s.cells 0 s'.cells.toList = s'.cells := by simp [setA, SV.cells]
theorem Blk.stored {b T : Nat} {s s' : SV} {w : World} (h : Blk b s.cells T w) : Blk b s'.cells T (w.setCells b 0 s'.cells.toList) := by
  have := Blk.sets (T := T) s'.cells.toList 0 h
  rw [setA_cells] at this
  exact this
theorem Blk.othersN {b c T : Nat} {cs : Array Value} (vs : List Value) : ∀ {w : World} (o : Nat), Blk c cs T w → b ≠ c → Blk c cs T (w.setCells b o vs) := by
  induction vs with
  | nil => intro w o h _; exact h
  | cons v r ih => intro w o h hb; exact ih (o + 1) (h.other hb o v) hb
theorem RdIs.setsN {A b : Nat} {l : List KT} (vs : List Value) : ∀ {w : World} (o : Nat), RdIs A l w → A < b → RdIs A l (w.setCells b o vs) := by
  induction vs with
  | nil => intro w o h _; exact h
  | cons v r ih => intro w o h hb; exact ih (o + 1) (h.set hb o v) hb
theorem grown_sets {A b : Nat} {w0 : World} (vs : List Value) : ∀ {w : World} (o : Nat), w0.grownBy w (some A) → w0.heap.size ≤ b → w0.grownBy (w.setCells b o vs) (some A) := by
  induction vs with
  | nil => intro w o h _; exact h
  | cons v r ih => intro w o h hb; exact ih (o + 1) (grown_new h hb o v) hb
theorem below_sets {n b : Nat} {w0 : World} (vs : List Value) : ∀ {w : World} (o : Nat), Below n w0 w → n ≤ b → Below n w0 (w.setCells b o vs) := by
  induction vs with
  | nil => intro w o h _; exact h
  | cons v r ih => intro w o h hb; exact ih (o + 1) (h.setCell hb v) hb
theorem fr_sets {b T : Nat} (vs : List Value) : ∀ {cs : Array Value} {w : World} (o : Nat), Blk b cs T w → Fr (fun _ ob => ∃ c fz, ob = .cells c T fz) w (w.setCells b o vs) := by
  induction vs with
  | nil => intro cs w o _; exact Fr.refl _ _
  | cons v r ih =>
    intro cs w o h
    refine Fr.trans (w1 := w.setCell ⟨b, o, none⟩ v) ?_ (ih (o + 1) (h.set o v))
    intro k ob hk hx
    by_cases e : k = b
    · subst e
      have h' : w.heap[k]? = _ := h
      rw [h'] at hk
      cases hk
      exact absurd ⟨_, _, rfl⟩ hx
    · rw [Below.heap_setCell w ⟨b, o, none⟩ v k (fun e' => e (by simpa using e'))]; exact hk
theorem load30 {b : Nat} {s : SV} {w : World} (h : Blk b s.cells 62 w) : (loadVar 62 ⟨b, 0, none⟩).run Tryz.prog w = .ok (.agg s.cells) w := by
  have := run_loadVar_mid (P := Tryz.prog) w b 0 62 s.cells.toList _ h.range Tryz.underlying62 rfl (s30 s)
  simpa using this
set_option maxRecDepth 100000 in
set_option maxHeartbeats 4000000 in
theorem of_any (k : Int) (t : ByteArray) (w : World) : Calls Tryz.prog 83 #[.int .i64 k, .string t] w fun e w' => e = .returned (.agg (svOf k t).cells) ∧ Below w.heap.size w w' := by
  have hk : Blk w.heap.size svZ.cells 62 (w.alloc (.cells svZ.cells 62)) := Blk.new _ _ _
  have HK : Hid (Blk w.heap.size svZ.cells 62 (w.alloc (.cells svZ.cells 62))) := hk
  clear hk
  go_enter Tryz.func83, Tryz.ntmps83
  go_wp2_with (refine wpList_store_mid rfl 62 _ _ rfl _ 0 (svOf k t).cells rfl rfl (HK.out.there rfl) (s30 _) (svOf_rows k t).one ?_)
  refine bodyPost_ret (v := .agg (svOf k t).cells) (results_c Tryz.results83 _ _ _ rfl ?_) rfl ?_
  · exact load30 HK.out.stored
  · exact ⟨rfl, below_sets _ 0 ((Below.refl _ _).alloc (Nat.le_refl _) _) (Nat.le_refl _)⟩
end Go.Proofs.YtmabfbffpedfnaaGreatDoor
namespace Go.Proofs.YtmabfbffpedfnaaGreatDoor
open Go.RowKit

/-- a writer that has written so far -/
def Wr (b : Nat) (l : List UInt8) (w : World) : Prop := Lib.IsBuilderF 0 5 b b (Lib.byteCells l) w
/-- what a writer's step keeps -/
structure WK (b : Nat) (w w' : World) : Prop where
  below : Below b w w'
  kept : Lib.OthersKept 5 (some b) w w'
theorem WK.refl (b : Nat) (w : World) : WK b w w := ⟨Below.refl _ _, Lib.OthersKept.refl _ _ _⟩
theorem WK.trans {b : Nat} {u v w : World} (h : WK b u v) (k : WK b v w) : WK b u w := ⟨h.below.trans k.below, h.kept.trans k.kept⟩
theorem WK.alloc {b : Nat} {u w : World} (h : WK b u w) (hb : b ≤ w.heap.size) (o : Obj) : WK b u (w.alloc o) := ⟨h.below.alloc hb _, h.kept.alloc _⟩
theorem WK.drew {b : Nat} {u w : World} (h : WK b u w) : WK b u w.drew := ⟨h.below.drew, h.kept.drew⟩
theorem WK.blk {b c Ty : Nat} {cs : Array Value} {w w' : World} (h : WK b w w') (hk : Blk c cs Ty w) (hc : c ≠ b) (hT : Ty ≠ 5) : Blk c cs Ty w' := h.kept c _ hk (fun e => hc (Option.some.inj e)) (fun _ _ e => by cases e; exact hT rfl)
theorem Wr.lt {b : Nat} {l : List UInt8} {w : World} (h : Wr b l w) : b < w.heap.size := by
  rcases h with ⟨_, v, h, _⟩ | ⟨_, v, h, _⟩ <;> exact (Array.getElem?_eq_some_iff.1 h).1
theorem ownF_alloc {w : World} {B n : Nat} {e : TypeId} {v : Value} {xs : List Value} (h : w.ownsRowF B e 1 v n xs) (o : Obj) : (w.alloc o).ownsRowF B e 1 v n xs := by
  refine ⟨h.1, ?_⟩
  rcases h.2 with h2 | ⟨g, cap, cur, fz, h1, h2, h3, h4⟩
  · exact .inl h2
  · exact .inr ⟨g, cap, cur, fz, h1, h2, (heap_alloc_old _ _ (Array.getElem?_eq_some_iff.1 h3).1).trans h3, h4⟩
theorem Wr.alloc {b : Nat} {l : List UInt8} {w : World} (h : Wr b l w) (o : Obj) : Wr b l (w.alloc o) := by
  have hlt := h.lt
  rcases h with ⟨h0, v, h1, h2, h3⟩ | ⟨h0, v, h1, h2, h3⟩
  · exact .inl ⟨h0, v, (heap_alloc_old _ _ hlt).trans h1, ownF_alloc h2 o, h3⟩
  · exact .inr ⟨h0, v, (heap_alloc_old _ _ hlt).trans h1, ownF_alloc h2 o, h3⟩
theorem Wr.drew {b : Nat} {l : List UInt8} {w : World} (h : Wr b l w) : Wr b l w.drew := h
end Go.Proofs.YtmabfbffpedfnaaGreatDoor
namespace Go.Proofs.YtmabfbffpedfnaaGreatDoor
open Go.RowKit

/-- the sign and the level of a code that is of two -/
def pairR (ps : List (Int × ByteArray × Int)) (c : Int) : ByteArray × Int × Bool := match ps.find? (fun p => decide (p.1 = c)) with
  | some p => (p.2.1, p.2.2, true)
  | none => (⟨#[]⟩, 0, false)
def lvlC (c : Int) : Int := if c = 4 then 3 else if c = 5 ∨ c = 17 then 4 else if c = 3 then 7 else if (pairR pairL c).2.2 then (pairR pairL c).2.1 else 8
end Go.Proofs.YtmabfbffpedfnaaGreatDoor
namespace Go.Proofs.YtmabfbffpedfnaaGreatDoor
open Go.Shelf
def Tryz.laysM316_ren : Go.Shelf.Ren := ⟨fun | 316 => 47 | n => n, fun | 9 => 9 | 3 => 3 | 4 => 4 | 37 => 124 | 0 => 0 | 127 => 125 | 5 => 5 | n => n, fun | n => n⟩
theorem Tryz.laysM316 : Go.Proofs.LaysM.n316 Tryz.prog Tryz.laysM316_ren := {
  mixed := by kernel_rfl
  f316 := Tryz.func47.trans (congrArg some (by kernel_rfl))
  t0 := Tryz.underlying0
  a0 := Tryz.isAgg0
  z0 := Tryz.sizeOf0
  v0 := Tryz.zeroValue0
  t3 := Tryz.underlying3
  a3 := Tryz.isAgg3
  z3 := Tryz.sizeOf3
  v3 := Tryz.zeroValue3
  t4 := Tryz.underlying4
  a4 := Tryz.isAgg4
  z4 := Tryz.sizeOf4
  v4 := Tryz.zeroValue4
  t9 := Tryz.underlying9
  a9 := Tryz.isAgg9
  z9 := Tryz.sizeOf9
  v9 := Tryz.zeroValue9
  t37 := Tryz.underlying124
  a37 := Tryz.isAgg124
  z37 := Tryz.sizeOf124
  v37 := Tryz.zeroValue124
  t127 := Tryz.underlying125
  a127 := Tryz.isAgg125
  z127 := Tryz.sizeOf125
  v127 := Tryz.zeroValue125
  t5 := Tryz.underlying5
  a5 := Tryz.isAgg5
  z5 := Tryz.sizeOf5
  v5 := Tryz.zeroValue5
  i0 := by kernel_rfl
  i3 := by kernel_rfl
  i4 := by kernel_rfl
  i5 := by kernel_rfl
  i9 := by kernel_rfl
  i37 := by kernel_rfl
  i127 := by kernel_rfl }
open Go.RowKit in
theorem Tryz.stringslite_Clone (s : ByteArray) (w : World) (hlim : s.size ≤ 281474976710656) :
    Calls Tryz.prog 47 #[.string s] w fun e w' => e = .returned (.string s) ∧ Below w.heap.size w w' := Any.stringslite_Clone Tryz.laysM316 s w hlim
def Tryz.laysC172_ren : Go.Shelf.Ren := ⟨fun | 172 => 128 | 244 => 139 | 245 => 140 | 247 => 147 | 279 => 148 | 280 => 149 | 281 => 150 | 282 => 151 | 287 => 156 | 316 => 47 | 171 => 158 | 205 => 157 | 321 => 162 | 322 => 163 | 243 => 164 | 246 => 167 | 283 => 169 | 284 => 170 | 285 => 171 | 286 => 172 | 129 => 177 | 317 => 176 | 318 => 178 | 319 => 179 | 320 => 180 | 337 => 182 | 338 => 183 | n => n, fun | 9 => 9 | 3 => 3 | 75 => 41 | 76 => 156 | 4 => 4 | 5 => 5 | 167 => 174 | 37 => 124 | 0 => 0 | 85 => 175 | 2 => 2 | 168 => 177 | 53 => 185 | 175 => 186 | 46 => 167 | 210 => 189 | 127 => 125 | 145 => 195 | 143 => 193 | 21 => 21 | 171 => 197 | 173 => 200 | 212 => 203 | 51 => 180 | 20 => 20 | 213 => 204 | 232 => 207 | 233 => 208 | 80 => 72 | n => n, fun | 15 => 7 | 16 => 8 | 17 => 9 | 18 => 10 | 19 => 11 | n => n⟩
theorem Tryz.laysC172 : Go.Proofs.LaysC.n172 Tryz.prog Tryz.laysC172_ren := {
  mixed := by kernel_rfl
  f129 := Tryz.func177.trans (congrArg some (by kernel_rfl))
  f171 := Tryz.func158.trans (congrArg some (by kernel_rfl))
  f172 := Tryz.func128.trans (congrArg some (by kernel_rfl))
  f205 := Tryz.func157.trans (congrArg some (by kernel_rfl))
  f243 := Tryz.func164.trans (congrArg some (by kernel_rfl))
  f244 := Tryz.func139.trans (congrArg some (by kernel_rfl))
  f245 := Tryz.func140.trans (congrArg some (by kernel_rfl))
  f246 := Tryz.func167.trans (congrArg some (by kernel_rfl))
  f247 := Tryz.func147.trans (congrArg some (by kernel_rfl))
  f279 := Tryz.func148.trans (congrArg some (by kernel_rfl))
  f280 := Tryz.func149.trans (congrArg some (by kernel_rfl))
  f281 := Tryz.func150.trans (congrArg some (by kernel_rfl))
  f282 := Tryz.func151.trans (congrArg some (by kernel_rfl))
  f283 := Tryz.func169.trans (congrArg some (by kernel_rfl))
  f284 := Tryz.func170.trans (congrArg some (by kernel_rfl))
  f285 := Tryz.func171.trans (congrArg some (by kernel_rfl))
  f286 := Tryz.func172.trans (congrArg some (by kernel_rfl))
  f287 := Tryz.func156.trans (congrArg some (by kernel_rfl))
  f316 := Tryz.func47.trans (congrArg some (by kernel_rfl))
  f317 := Tryz.func176.trans (congrArg some (by kernel_rfl))
  f318 := Tryz.func178.trans (congrArg some (by kernel_rfl))
  f319 := Tryz.func179.trans (congrArg some (by kernel_rfl))
  f320 := Tryz.func180.trans (congrArg some (by kernel_rfl))
  f321 := Tryz.func162.trans (congrArg some (by kernel_rfl))
  f322 := Tryz.func163.trans (congrArg some (by kernel_rfl))
  f337 := Tryz.func182.trans (congrArg some (by kernel_rfl))
  f338 := Tryz.func183.trans (congrArg some (by kernel_rfl))
  t0 := Tryz.underlying0
  a0 := Tryz.isAgg0
  z0 := Tryz.sizeOf0
  v0 := Tryz.zeroValue0
  t2 := Tryz.underlying2
  a2 := Tryz.isAgg2
  z2 := Tryz.sizeOf2
  v2 := Tryz.zeroValue2
  t3 := Tryz.underlying3
  a3 := Tryz.isAgg3
  z3 := Tryz.sizeOf3
  v3 := Tryz.zeroValue3
  t4 := Tryz.underlying4
  a4 := Tryz.isAgg4
  z4 := Tryz.sizeOf4
  v4 := Tryz.zeroValue4
  t5 := Tryz.underlying5
  a5 := Tryz.isAgg5
  z5 := Tryz.sizeOf5
  v5 := Tryz.zeroValue5
  t9 := Tryz.underlying9
  a9 := Tryz.isAgg9
  z9 := Tryz.sizeOf9
  v9 := Tryz.zeroValue9
  t20 := Tryz.underlying20
  a20 := Tryz.isAgg20
  z20 := Tryz.sizeOf20
  v20 := Tryz.zeroValue20
  t21 := Tryz.underlying21
  a21 := Tryz.isAgg21
  z21 := Tryz.sizeOf21
  v21 := Tryz.zeroValue21
  t37 := Tryz.underlying124
  a37 := Tryz.isAgg124
  z37 := Tryz.sizeOf124
  v37 := Tryz.zeroValue124
  t46 := Tryz.underlying167
  a46 := Tryz.isAgg167
  z46 := Tryz.sizeOf167
  v46 := Tryz.zeroValue167
  t51 := Tryz.underlying180
  a51 := Tryz.isAgg180
  z51 := Tryz.sizeOf180
  v51 := Tryz.zeroValue180
  t53 := Tryz.underlying185
  a53 := Tryz.isAgg185
  z53 := Tryz.sizeOf185
  v53 := Tryz.zeroValue185
  t75 := Tryz.underlying41
  a75 := Tryz.isAgg41
  z75 := Tryz.sizeOf41
  v75 := Tryz.zeroValue41
  t76 := Tryz.underlying156
  a76 := Tryz.isAgg156
  z76 := Tryz.sizeOf156
  v76 := Tryz.zeroValue156
  t85 := Tryz.underlying175
  a85 := Tryz.isAgg175
  z85 := Tryz.sizeOf175
  v85 := Tryz.zeroValue175
  t127 := Tryz.underlying125
  a127 := Tryz.isAgg125
  z127 := Tryz.sizeOf125
  v127 := Tryz.zeroValue125
  t143 := Tryz.underlying193
  a143 := Tryz.isAgg193
  z143 := Tryz.sizeOf193
  v143 := Tryz.zeroValue193
  t145 := Tryz.underlying195
  a145 := Tryz.isAgg195
  z145 := Tryz.sizeOf195
  v145 := Tryz.zeroValue195
  t167 := Tryz.underlying174
  a167 := Tryz.isAgg174
  z167 := Tryz.sizeOf174
  v167 := Tryz.zeroValue174
  t168 := Tryz.underlying177
  a168 := Tryz.isAgg177
  z168 := Tryz.sizeOf177
  v168 := Tryz.zeroValue177
  t171 := Tryz.underlying197
  a171 := Tryz.isAgg197
  z171 := Tryz.sizeOf197
  v171 := Tryz.zeroValue197
  t173 := Tryz.underlying200
  a173 := Tryz.isAgg200
  z173 := Tryz.sizeOf200
  v173 := Tryz.zeroValue200
  t175 := Tryz.underlying186
  a175 := Tryz.isAgg186
  z175 := Tryz.sizeOf186
  v175 := Tryz.zeroValue186
  t210 := Tryz.underlying189
  a210 := Tryz.isAgg189
  z210 := Tryz.sizeOf189
  v210 := Tryz.zeroValue189
  t212 := Tryz.underlying203
  a212 := Tryz.isAgg203
  z212 := Tryz.sizeOf203
  v212 := Tryz.zeroValue203
  t213 := Tryz.underlying204
  a213 := Tryz.isAgg204
  z213 := Tryz.sizeOf204
  t232 := Tryz.underlying207
  a232 := Tryz.isAgg207
  z232 := Tryz.sizeOf207
  v232 := Tryz.zeroValue207
  t233 := Tryz.underlying208
  a233 := Tryz.isAgg208
  z233 := Tryz.sizeOf208
  v233 := Tryz.zeroValue208
  g15 := by kernel_rfl
  g16 := by kernel_rfl
  g17 := by kernel_rfl
  g18 := by kernel_rfl
  g19 := by kernel_rfl
  t80 := Tryz.underlying72
  a80 := Tryz.isAgg72
  z80 := Tryz.sizeOf72
  v80 := Tryz.zeroValue72
  i0 := by kernel_rfl
  i2 := by kernel_rfl
  i3 := by kernel_rfl
  i4 := by kernel_rfl
  i5 := by kernel_rfl
  i9 := by kernel_rfl
  i20 := by kernel_rfl
  i21 := by kernel_rfl
  i37 := by kernel_rfl
  i46 := by kernel_rfl
  i51 := by kernel_rfl
  i53 := by kernel_rfl
  i75 := by kernel_rfl
  i76 := by kernel_rfl
  i80 := by kernel_rfl
  i85 := by kernel_rfl
  i127 := by kernel_rfl
  i143 := by kernel_rfl
  i145 := by kernel_rfl
  i167 := by kernel_rfl
  i168 := by kernel_rfl
  i171 := by kernel_rfl
  i173 := by kernel_rfl
  i175 := by kernel_rfl
  i210 := by kernel_rfl
  i212 := by kernel_rfl
  i232 := by kernel_rfl
  i233 := by kernel_rfl
  m15 := by kernel_rfl
  m16 := by kernel_rfl
  m17 := by kernel_rfl
  m18 := by kernel_rfl
  m19 := by kernel_rfl
  c0 := by kernel_rfl
  c2 := by kernel_rfl
  c3 := by kernel_rfl
  c4 := by kernel_rfl
  c5 := by kernel_rfl
  c9 := by kernel_rfl
  c20 := by kernel_rfl
  c21 := by kernel_rfl
  c37 := by kernel_rfl
  c46 := by kernel_rfl
  c51 := by kernel_rfl
  c53 := by kernel_rfl
  c75 := by kernel_rfl
  c76 := by kernel_rfl
  c80 := by kernel_rfl
  c85 := by kernel_rfl
  c127 := by kernel_rfl
  c143 := by kernel_rfl
  c145 := by kernel_rfl
  c167 := by kernel_rfl
  c168 := by kernel_rfl
  c171 := by kernel_rfl
  c173 := by kernel_rfl
  c175 := by kernel_rfl
  c210 := by kernel_rfl
  c212 := by kernel_rfl
  c213 := by kernel_rfl
  c232 := by kernel_rfl
  c233 := by kernel_rfl }
open Go.RowKit in
theorem Tryz.strconv_Atoi_ok (s : ByteArray) (hmax : s.size ≤ 9223372036854775806) (v : Int) (h : Lib.atoiAll s.data.toList = .ok v) (w : World) :
    Calls Tryz.prog 128 #[.string s] w fun e w' => e = .returned (.tuple #[.int .i64 v, .nilIface]) ∧ (w' = w ∨ ∃ t, w' = Lib.bytesWorld w 5 t) := Any.strconv_Atoi_ok Tryz.laysC172 s hmax v h w
def Tryz.laysC174_ren : Go.Shelf.Ren := ⟨fun | 174 => 181 | 247 => 147 | 245 => 140 | 287 => 156 | 279 => 148 | 280 => 149 | 281 => 150 | 282 => 151 | 321 => 162 | 322 => 163 | 316 => 47 | 171 => 158 | 205 => 157 | 243 => 164 | 246 => 167 | 283 => 169 | 284 => 170 | 285 => 171 | 286 => 172 | 129 => 177 | 317 => 176 | 318 => 178 | 319 => 179 | 320 => 180 | 337 => 182 | 338 => 183 | n => n, fun | 9 => 9 | 3 => 3 | 2 => 2 | 75 => 41 | 85 => 175 | 4 => 4 | 167 => 174 | 5 => 5 | 53 => 185 | 175 => 186 | 46 => 167 | 168 => 177 | 37 => 124 | 0 => 0 | 210 => 189 | 21 => 21 | 127 => 125 | 145 => 195 | 143 => 193 | 171 => 197 | 173 => 200 | 212 => 203 | 51 => 180 | 20 => 20 | 213 => 204 | 232 => 207 | 233 => 208 | 80 => 72 | n => n, fun | 15 => 7 | 16 => 8 | 17 => 9 | 18 => 10 | 19 => 11 | n => n⟩
theorem Tryz.laysC174 : Go.Proofs.LaysC.n174 Tryz.prog Tryz.laysC174_ren := {
  mixed := by kernel_rfl
  f129 := Tryz.func177.trans (congrArg some (by kernel_rfl))
  f171 := Tryz.func158.trans (congrArg some (by kernel_rfl))
  f174 := Tryz.func181.trans (congrArg some (by kernel_rfl))
  f205 := Tryz.func157.trans (congrArg some (by kernel_rfl))
  f243 := Tryz.func164.trans (congrArg some (by kernel_rfl))
  f245 := Tryz.func140.trans (congrArg some (by kernel_rfl))
  f246 := Tryz.func167.trans (congrArg some (by kernel_rfl))
  f247 := Tryz.func147.trans (congrArg some (by kernel_rfl))
  f279 := Tryz.func148.trans (congrArg some (by kernel_rfl))
  f280 := Tryz.func149.trans (congrArg some (by kernel_rfl))
  f281 := Tryz.func150.trans (congrArg some (by kernel_rfl))
  f282 := Tryz.func151.trans (congrArg some (by kernel_rfl))
  f283 := Tryz.func169.trans (congrArg some (by kernel_rfl))
  f284 := Tryz.func170.trans (congrArg some (by kernel_rfl))
  f285 := Tryz.func171.trans (congrArg some (by kernel_rfl))
  f286 := Tryz.func172.trans (congrArg some (by kernel_rfl))
  f287 := Tryz.func156.trans (congrArg some (by kernel_rfl))
  f316 := Tryz.func47.trans (congrArg some (by kernel_rfl))
  f317 := Tryz.func176.trans (congrArg some (by kernel_rfl))
  f318 := Tryz.func178.trans (congrArg some (by kernel_rfl))
  f319 := Tryz.func179.trans (congrArg some (by kernel_rfl))
  f320 := Tryz.func180.trans (congrArg some (by kernel_rfl))
  f321 := Tryz.func162.trans (congrArg some (by kernel_rfl))
  f322 := Tryz.func163.trans (congrArg some (by kernel_rfl))
  f337 := Tryz.func182.trans (congrArg some (by kernel_rfl))
  f338 := Tryz.func183.trans (congrArg some (by kernel_rfl))
  t0 := Tryz.underlying0
  a0 := Tryz.isAgg0
  z0 := Tryz.sizeOf0
  v0 := Tryz.zeroValue0
  t2 := Tryz.underlying2
  a2 := Tryz.isAgg2
  z2 := Tryz.sizeOf2
  v2 := Tryz.zeroValue2
  t3 := Tryz.underlying3
  a3 := Tryz.isAgg3
  z3 := Tryz.sizeOf3
  v3 := Tryz.zeroValue3
  t4 := Tryz.underlying4
  a4 := Tryz.isAgg4
  z4 := Tryz.sizeOf4
  v4 := Tryz.zeroValue4
  t5 := Tryz.underlying5
  a5 := Tryz.isAgg5
  z5 := Tryz.sizeOf5
  v5 := Tryz.zeroValue5
  t9 := Tryz.underlying9
  a9 := Tryz.isAgg9
  z9 := Tryz.sizeOf9
  v9 := Tryz.zeroValue9
  t20 := Tryz.underlying20
  a20 := Tryz.isAgg20
  z20 := Tryz.sizeOf20
  v20 := Tryz.zeroValue20
  t21 := Tryz.underlying21
  a21 := Tryz.isAgg21
  z21 := Tryz.sizeOf21
  v21 := Tryz.zeroValue21
  t37 := Tryz.underlying124
  a37 := Tryz.isAgg124
  z37 := Tryz.sizeOf124
  v37 := Tryz.zeroValue124
  t46 := Tryz.underlying167
  a46 := Tryz.isAgg167
  z46 := Tryz.sizeOf167
  v46 := Tryz.zeroValue167
  t51 := Tryz.underlying180
  a51 := Tryz.isAgg180
  z51 := Tryz.sizeOf180
  v51 := Tryz.zeroValue180
  t53 := Tryz.underlying185
  a53 := Tryz.isAgg185
  z53 := Tryz.sizeOf185
  v53 := Tryz.zeroValue185
  t75 := Tryz.underlying41
  a75 := Tryz.isAgg41
  z75 := Tryz.sizeOf41
  v75 := Tryz.zeroValue41
  t85 := Tryz.underlying175
  a85 := Tryz.isAgg175
  z85 := Tryz.sizeOf175
  v85 := Tryz.zeroValue175
  t127 := Tryz.underlying125
  a127 := Tryz.isAgg125
  z127 := Tryz.sizeOf125
  v127 := Tryz.zeroValue125
  t143 := Tryz.underlying193
  a143 := Tryz.isAgg193
  z143 := Tryz.sizeOf193
  v143 := Tryz.zeroValue193
  t145 := Tryz.underlying195
  a145 := Tryz.isAgg195
  z145 := Tryz.sizeOf195
  v145 := Tryz.zeroValue195
  t167 := Tryz.underlying174
  a167 := Tryz.isAgg174
  z167 := Tryz.sizeOf174
  v167 := Tryz.zeroValue174
  t168 := Tryz.underlying177
  a168 := Tryz.isAgg177
  z168 := Tryz.sizeOf177
  v168 := Tryz.zeroValue177
  t171 := Tryz.underlying197
  a171 := Tryz.isAgg197
  z171 := Tryz.sizeOf197
  v171 := Tryz.zeroValue197
  t173 := Tryz.underlying200
  a173 := Tryz.isAgg200
  z173 := Tryz.sizeOf200
  v173 := Tryz.zeroValue200
  t175 := Tryz.underlying186
  a175 := Tryz.isAgg186
  z175 := Tryz.sizeOf186
  v175 := Tryz.zeroValue186
  t210 := Tryz.underlying189
  a210 := Tryz.isAgg189
  z210 := Tryz.sizeOf189
  v210 := Tryz.zeroValue189
  t212 := Tryz.underlying203
  a212 := Tryz.isAgg203
  z212 := Tryz.sizeOf203
  v212 := Tryz.zeroValue203
  t213 := Tryz.underlying204
  a213 := Tryz.isAgg204
  z213 := Tryz.sizeOf204
  t232 := Tryz.underlying207
  a232 := Tryz.isAgg207
  z232 := Tryz.sizeOf207
  v232 := Tryz.zeroValue207
  t233 := Tryz.underlying208
  a233 := Tryz.isAgg208
  z233 := Tryz.sizeOf208
  v233 := Tryz.zeroValue208
  g15 := by kernel_rfl
  g16 := by kernel_rfl
  g17 := by kernel_rfl
  g18 := by kernel_rfl
  g19 := by kernel_rfl
  t80 := Tryz.underlying72
  a80 := Tryz.isAgg72
  z80 := Tryz.sizeOf72
  v80 := Tryz.zeroValue72
  i0 := by kernel_rfl
  i2 := by kernel_rfl
  i3 := by kernel_rfl
  i4 := by kernel_rfl
  i5 := by kernel_rfl
  i9 := by kernel_rfl
  i20 := by kernel_rfl
  i21 := by kernel_rfl
  i37 := by kernel_rfl
  i46 := by kernel_rfl
  i51 := by kernel_rfl
  i53 := by kernel_rfl
  i75 := by kernel_rfl
  i80 := by kernel_rfl
  i85 := by kernel_rfl
  i127 := by kernel_rfl
  i143 := by kernel_rfl
  i145 := by kernel_rfl
  i167 := by kernel_rfl
  i168 := by kernel_rfl
  i171 := by kernel_rfl
  i173 := by kernel_rfl
  i175 := by kernel_rfl
  i210 := by kernel_rfl
  i212 := by kernel_rfl
  i232 := by kernel_rfl
  i233 := by kernel_rfl
  m15 := by kernel_rfl
  m16 := by kernel_rfl
  m17 := by kernel_rfl
  m18 := by kernel_rfl
  m19 := by kernel_rfl
  c0 := by kernel_rfl
  c2 := by kernel_rfl
  c3 := by kernel_rfl
  c4 := by kernel_rfl
  c5 := by kernel_rfl
  c9 := by kernel_rfl
  c20 := by kernel_rfl
  c21 := by kernel_rfl
  c37 := by kernel_rfl
  c46 := by kernel_rfl
  c51 := by kernel_rfl
  c53 := by kernel_rfl
  c75 := by kernel_rfl
  c80 := by kernel_rfl
  c85 := by kernel_rfl
  c127 := by kernel_rfl
  c143 := by kernel_rfl
  c145 := by kernel_rfl
  c167 := by kernel_rfl
  c168 := by kernel_rfl
  c171 := by kernel_rfl
  c173 := by kernel_rfl
  c175 := by kernel_rfl
  c210 := by kernel_rfl
  c212 := by kernel_rfl
  c213 := by kernel_rfl
  c232 := by kernel_rfl
  c233 := by kernel_rfl }
open Go.RowKit in
theorem Tryz.strconv_ParseInt_10_at64_ok (s : ByteArray) (hmax : s.size ≤ 9223372036854775806) (v : Int) (h : Lib.parseIntB 64 s.data.toList = .ok v) (w : World) :
    Calls Tryz.prog 181 #[.string s, .int .i64 10, .int .i64 64] w fun e w' => e = .returned (.tuple #[.int .i64 v, .nilIface]) ∧ (w' = w ∨ ∃ t, w' = Lib.bytesWorld w 5 t) := Any.strconv_ParseInt_10_at64_ok Tryz.laysC174 s hmax v h w
open Go.RowKit in
theorem Tryz.strconv_ParseInt_10_at64_syntax (s : ByteArray) (hlim : s.size ≤ 281474976710656) (h : Lib.parseIntB 64 s.data.toList = .«syntax») (ev : Value) (w : World) (hv : w.cell? ⟨7, 0, none⟩ = some ev) (hev : ev = .nilIface ∨ ∃ te pe, ev = .iface te pe) :
    Calls Tryz.prog 181 #[.string s, .int .i64 10, .int .i64 64] w fun e w' => ∃ N, e = .returned (.tuple #[.int .i64 (0), .iface 177 (.pointer (some ⟨N, 0, none⟩))]) ∧ w.heap.size ≤ N ∧ w'.heap[N]? = some (.cells #[.string ⟨#[80, 97, 114, 115, 101, 73, 110, 116]⟩, .string s, ev] 189 (0, 0)) ∧ Below w.heap.size w w' := Any.strconv_ParseInt_10_at64_syntax Tryz.laysC174 s hlim h ev w hv hev
open Go.RowKit in
theorem Tryz.strconv_ParseInt_10_at64_range (s : ByteArray) (hlim : s.size ≤ 281474976710656) (h : Lib.parseIntB 64 s.data.toList = .range) (ev : Value) (w : World) (hv : w.cell? ⟨8, 0, none⟩ = some ev) (hev : ev = .nilIface ∨ ∃ te pe, ev = .iface te pe) :
    Calls Tryz.prog 181 #[.string s, .int .i64 10, .int .i64 64] w fun e w' => ∃ N, e = .returned (.tuple #[.int .i64 (Lib.intSat 64 s.data.toList), .iface 177 (.pointer (some ⟨N, 0, none⟩))]) ∧ w.heap.size ≤ N ∧ w'.heap[N]? = some (.cells #[.string ⟨#[80, 97, 114, 115, 101, 73, 110, 116]⟩, .string s, ev] 189 (0, 0)) ∧ Below w.heap.size w w' := Any.strconv_ParseInt_10_at64_range Tryz.laysC174 s hlim h ev w hv hev
def Tryz.lays155_ren : Go.Shelf.Ren := ⟨fun | 155 => 82 | 154 => 96 | 138 => 116 | 165 => 117 | 143 => 118 | 166 => 119 | 197 => 120 | 169 => 121 | 195 => 130 | 218 => 131 | 240 => 132 | 241 => 133 | 219 => 134 | 260 => 135 | 276 => 141 | 277 => 142 | 217 => 115 | 225 => 143 | 224 => 144 | 267 => 145 | 266 => 129 | 314 => 152 | n => n, fun | 9 => 9 | 3 => 3 | 4 => 4 | 72 => 154 | 0 => 0 | 76 => 156 | 105 => 158 | 21 => 21 | 5 => 5 | 70 => 152 | 20 => 20 | 37 => 124 | 75 => 41 | 127 => 125 | 164 => 164 | 46 => 167 | 119 => 168 | 139 => 171 | 138 => 170 | 146 => 181 | 51 => 180 | 80 => 72 | n => n, fun | 1 => 3 | 3 => 4 | 4 => 5 | n => n⟩
theorem Tryz.lays155 : Go.Proofs.Lays.n155 Tryz.prog Tryz.lays155_ren := {
  mixed := by kernel_rfl
  f138 := Tryz.func116.trans (congrArg some (by kernel_rfl))
  f143 := Tryz.func118.trans (congrArg some (by kernel_rfl))
  f154 := Tryz.func96.trans (congrArg some (by kernel_rfl))
  f155 := Tryz.func82.trans (congrArg some (by kernel_rfl))
  f165 := Tryz.func117.trans (congrArg some (by kernel_rfl))
  f166 := Tryz.func119.trans (congrArg some (by kernel_rfl))
  f169 := Tryz.func121.trans (congrArg some (by kernel_rfl))
  f195 := Tryz.func130.trans (congrArg some (by kernel_rfl))
  f197 := Tryz.func120.trans (congrArg some (by kernel_rfl))
  f217 := Tryz.func115.trans (congrArg some (by kernel_rfl))
  f218 := Tryz.func131.trans (congrArg some (by kernel_rfl))
  f219 := Tryz.func134.trans (congrArg some (by kernel_rfl))
  f224 := Tryz.func144.trans (congrArg some (by kernel_rfl))
  f225 := Tryz.func143.trans (congrArg some (by kernel_rfl))
  f240 := Tryz.func132.trans (congrArg some (by kernel_rfl))
  f241 := Tryz.func133.trans (congrArg some (by kernel_rfl))
  f260 := Tryz.func135.trans (congrArg some (by kernel_rfl))
  f266 := Tryz.func129.trans (congrArg some (by kernel_rfl))
  f267 := Tryz.func145.trans (congrArg some (by kernel_rfl))
  f276 := Tryz.func141.trans (congrArg some (by kernel_rfl))
  f277 := Tryz.func142.trans (congrArg some (by kernel_rfl))
  f314 := Tryz.func152.trans (congrArg some (by kernel_rfl))
  t0 := Tryz.underlying0
  a0 := Tryz.isAgg0
  z0 := Tryz.sizeOf0
  v0 := Tryz.zeroValue0
  t3 := Tryz.underlying3
  a3 := Tryz.isAgg3
  z3 := Tryz.sizeOf3
  v3 := Tryz.zeroValue3
  t4 := Tryz.underlying4
  a4 := Tryz.isAgg4
  z4 := Tryz.sizeOf4
  v4 := Tryz.zeroValue4
  t5 := Tryz.underlying5
  a5 := Tryz.isAgg5
  z5 := Tryz.sizeOf5
  v5 := Tryz.zeroValue5
  t9 := Tryz.underlying9
  a9 := Tryz.isAgg9
  z9 := Tryz.sizeOf9
  v9 := Tryz.zeroValue9
  t20 := Tryz.underlying20
  a20 := Tryz.isAgg20
  z20 := Tryz.sizeOf20
  v20 := Tryz.zeroValue20
  t21 := Tryz.underlying21
  a21 := Tryz.isAgg21
  z21 := Tryz.sizeOf21
  v21 := Tryz.zeroValue21
  t37 := Tryz.underlying124
  a37 := Tryz.isAgg124
  z37 := Tryz.sizeOf124
  v37 := Tryz.zeroValue124
  t46 := Tryz.underlying167
  a46 := Tryz.isAgg167
  z46 := Tryz.sizeOf167
  v46 := Tryz.zeroValue167
  t51 := Tryz.underlying180
  a51 := Tryz.isAgg180
  z51 := Tryz.sizeOf180
  v51 := Tryz.zeroValue180
  t70 := Tryz.underlying152
  a70 := Tryz.isAgg152
  z70 := Tryz.sizeOf152
  v70 := Tryz.zeroValue152
  t72 := Tryz.underlying154
  a72 := Tryz.isAgg154
  z72 := Tryz.sizeOf154
  v72 := Tryz.zeroValue154
  t75 := Tryz.underlying41
  a75 := Tryz.isAgg41
  z75 := Tryz.sizeOf41
  v75 := Tryz.zeroValue41
  t76 := Tryz.underlying156
  a76 := Tryz.isAgg156
  z76 := Tryz.sizeOf156
  v76 := Tryz.zeroValue156
  t105 := Tryz.underlying158
  a105 := Tryz.isAgg158
  z105 := Tryz.sizeOf158
  v105 := Tryz.zeroValue158
  t119 := Tryz.underlying168
  a119 := Tryz.isAgg168
  z119 := Tryz.sizeOf168
  t127 := Tryz.underlying125
  a127 := Tryz.isAgg125
  z127 := Tryz.sizeOf125
  v127 := Tryz.zeroValue125
  t138 := Tryz.underlying170
  a138 := Tryz.isAgg170
  z138 := Tryz.sizeOf170
  v138 := Tryz.zeroValue170
  t139 := Tryz.underlying171
  a139 := Tryz.isAgg171
  z139 := Tryz.sizeOf171
  v139 := Tryz.zeroValue171
  t146 := Tryz.underlying181
  a146 := Tryz.isAgg181
  z146 := Tryz.sizeOf181
  v146 := Tryz.zeroValue181
  t164 := Tryz.underlying164
  a164 := Tryz.isAgg164
  z164 := Tryz.sizeOf164
  v164 := Tryz.zeroValue164
  g1 := by kernel_rfl
  g3 := by kernel_rfl
  g4 := by kernel_rfl }
theorem Tryz.Builder_Extra_155 : Builder.Extra Tryz.prog Tryz.lays155_ren := {
  sizeBuilder := by kernel_rfl
  liesBuilder := by kernel_rfl
  t5 := Tryz.underlying5
  a5 := Tryz.isAgg5
  z5 := Tryz.sizeOf5
  v5 := Tryz.zeroValue5
  infoByte := by kernel_rfl
  cellsByte := by kernel_rfl
  sizeByte := by kernel_rfl
  neB5 := by decide }
open Go.RowKit Go.Lib in
theorem Tryz.strings_ReplaceAll (s old new : ByteArray) (m : Int) (w : World) (hs : s.size < 4294967281) (hm : w.cell? ⟨3, 0, none⟩ = some (.int .i64 m)) (h1 : 1 ≤ old.size) (hlen : s.size + Lib.countB s old * new.size ≤ 140737488355328) :
    Calls Tryz.prog 82 #[.string s, .string old, .string new] w fun e w' =>
      e = .returned (.string ⟨(Lib.replaceAll s.data.toList old.data.toList new.data.toList).toArray⟩) ∧ Below w.heap.size w w' := Any.strings_ReplaceAll Tryz.lays155 Tryz.Builder_Extra_155 s old new m w hs hm h1 hlen
end Go.Proofs.YtmabfbffpedfnaaGreatDoor
namespace Go.Proofs.YtmabfbffpedfnaaGreatDoor
open Go.RowKit

/-- what digits spell -/
def stepV (a : Nat) (c : UInt8) : Nat := a * 10 + (c.toNat - 48)
def dv (acc : Nat) (l : List UInt8) : Nat := l.foldl stepV acc
theorem dv_nil (acc : Nat) : dv acc [] = acc := rfl
theorem dv_cons (acc : Nat) (c : UInt8) (r : List UInt8) : dv acc (c :: r) = dv (acc * 10 + (c.toNat - 48)) r := List.foldl_cons ..
theorem dv_ge (l : List UInt8) : ∀ acc, acc ≤ dv acc l := by
  induction l with
  | nil => intro acc; exact Nat.le_refl _
  | cons c r ih => intro acc; rw [dv_cons]; exact Nat.le_trans (by omega) (ih (acc * 10 + (c.toNat - 48)))
theorem dg_of {c : UInt8} (h : isDg c = true) : 48 ≤ c.toNat ∧ c.toNat ≤ 57 := by
  simpa [isDg, digN] using h
theorem dv_lt (l : List UInt8) : ∀ acc, (∀ c ∈ l, isDg c = true) → dv acc l < (acc + 1) * 10 ^ l.length := by
  induction l with
  | nil => intro acc _; rw [dv_nil]; simp
  | cons c r ih =>
    intro acc h
    have h1 := dg_of (h c (by simp))
    have h2 := ih (acc * 10 + (c.toNat - 48)) (fun d hd => h d (by simp [hd]))
    rw [dv_cons, List.length_cons, Nat.pow_succ]
    refine Nat.lt_of_lt_of_le h2 ?_
    have h3 : acc * 10 + (c.toNat - 48) + 1 ≤ (acc + 1) * 10 := by omega
    calc (acc * 10 + (c.toNat - 48) + 1) * 10 ^ r.length ≤ ((acc + 1) * 10) * 10 ^ r.length := Nat.mul_le_mul_right _ h3
      _ = (acc + 1) * (10 ^ r.length * 10) := by rw [Nat.mul_assoc, Nat.mul_comm 10]
theorem pu_ok (M : Nat) (hM : M < 18446744073709551616) (l : List UInt8) : ∀ acc, (∀ c ∈ l, isDg c = true) → dv acc l ≤ M → Lib.parseUintM M acc l = .ok (dv acc l) := by
  induction l with
  | nil => intro acc _ _; rfl
  | cons c r ih =>
    intro acc h hl
    have h1 := dg_of (h c (by simp))
    rw [dv_cons] at hl ⊢
    have h2 := dv_ge r (acc * 10 + (c.toNat - 48))
    rw [Lib.parseUintM, if_pos h1, if_neg (by omega), if_neg (by omega)]
    exact ih _ (fun d hd => h d (by simp [hd])) hl
theorem pu10_ok (l : List UInt8) : ∀ acc, (∀ c ∈ l, isDg c = true) → dv acc l ≤ 1000000000000 → Lib.parseUint10 acc l = .ok (dv acc l) := by
  induction l with
  | nil => intro acc _ _; rfl
  | cons c r ih =>
    intro acc h hl
    have h1 := dg_of (h c (by simp))
    rw [dv_cons] at hl ⊢
    have h2 := dv_ge r (acc * 10 + (c.toNat - 48))
    rw [Lib.parseUint10, if_pos h1, if_neg (by omega), if_neg (by omega)]
    exact ih _ (fun d hd => h d (by simp [hd])) hl
theorem digs_of {s : ByteArray} (h : digsB s = true) : 0 < s.size ∧ s.size ≤ 19 ∧ ∀ c ∈ s.data.toList, isDg c = true := by
  unfold digsB at h
  rw [Bool.and_eq_true, Bool.and_eq_true, decide_eq_true_eq, decide_eq_true_eq, List.all_eq_true] at h
  exact ⟨h.1.1, h.1.2, h.2⟩
theorem int_digs {l : List UInt8} (h0 : l ≠ []) (h : ∀ c ∈ l, isDg c = true) (hv : dv 0 l < 9223372036854775808) : Lib.parseIntB 64 l = .ok (dv 0 l) := by
  cases l with
  | nil => exact absurd rfl h0
  | cons c r =>
    have h1 := dg_of (h c (by simp))
    have hp : Lib.parseUintB 64 (c :: r) = .ok (dv 0 (c :: r)) := by
      unfold Lib.parseUintB
      rw [if_neg (by simp)]
      exact pu_ok _ (by decide) _ _ h (by omega)
    have hn : ¬ c.toNat = 45 := by omega
    have hn2 : ¬ (c.toNat = 43 ∨ c.toNat = 45) := by omega
    simp only [Lib.parseIntB]
    rw [if_neg hn2, hp]
    simp only
    rw [if_neg (by omega), if_neg (by omega), if_neg hn]
theorem atoi_digs {l : List UInt8} (h0 : l ≠ []) (h : ∀ c ∈ l, isDg c = true) (hv : dv 0 l ≤ 1000000000000) : Lib.atoiAll l = .ok (dv 0 l) := by
  cases l with
  | nil => exact absurd rfl h0
  | cons c r =>
    have h1 := dg_of (h c (by simp))
    have hp : Lib.parseMag (c :: r) = .ok (dv 0 (c :: r)) := by
      unfold Lib.parseMag
      rw [if_neg (by simp)]
      exact pu10_ok _ _ h hv
    have hn : ¬ c.toNat = 45 := by omega
    have hn2 : ¬ (c.toNat = 43 ∨ c.toNat = 45) := by omega
    simp only [Lib.atoiAll]
    rw [if_neg hn2, hp]
    simp only
    rw [if_neg (by omega), if_neg (by omega), if_neg hn]
theorem lim_digs {s : ByteArray} (h : digsB s = true) (h9 : s.size ≤ 9) : Lib.atoiAll s.data.toList = .ok (digV s) ∧ digV s = dv 0 s.data.toList ∧ dv 0 s.data.toList < 1000000000 := by
  obtain ⟨h1, _, h3⟩ := digs_of h
  have hne : s.data.toList ≠ [] := fun e => by
    have h4 := ba_len s
    rw [e, List.length_nil] at h4
    omega
  have hlt := dv_lt s.data.toList 0 h3
  rw [ba_len, Nat.zero_add, Nat.one_mul] at hlt
  have hp : 10 ^ s.size ≤ 1000000000 := Nat.le_trans (Nat.pow_le_pow_right (by decide) h9) (by decide)
  have hb : dv 0 s.data.toList < 1000000000 := by omega
  have e : digV s = dv 0 s.data.toList := by unfold digV; rw [int_digs hne h3 (by omega)]
  exact ⟨by rw [e]; exact atoi_digs hne h3 (by omega), e, hb⟩
end Go.Proofs.YtmabfbffpedfnaaGreatDoor
