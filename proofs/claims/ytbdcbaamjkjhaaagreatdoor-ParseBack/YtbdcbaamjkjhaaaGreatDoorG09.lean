/- Part 9 of 39. -/
import Derived.Test.YtbdcbaamjkjhaaaGreatDoorG08
import Derived.Shelf.Strings.BuilderK
namespace Go.Proofs.YtbdcbaamjkjhaaaGreatDoor
open Go.RowKit

theorem Fr.row {X : Nat → Obj → Prop} {w w' : World} {N T sz n : Nat} {v : Value} {xs : List Value} (hX : ∀ k c fz, X k (.cells c T fz)) (ho : w.ownsRow N T sz v n xs) (hg : w.grownBy w' v.ownBlock) : Fr X w w' := fun k o hk hx => by
  rw [hg.block k (Array.getElem?_eq_some_iff.1 hk).1 ?_]
  · exact hk
  · intro e
    rcases ho.2 with ⟨rfl, _⟩ | ⟨g, cap, cur, rfl, h2, h3, _⟩
    · cases e
    · have e' : k = g := Option.some.inj e
      subst e'
      rw [h3] at hk
      cases hk
      exact hx (hX _ _ _)
/-- two lists, pair by pair -/
inductive All2 {α β : Type} (R : α → β → Prop) : List α → List β → Prop
  | nil : All2 R [] []
  | cons {a : α} {b : β} {l : List α} {m : List β} (h : R a b) (t : All2 R l m) : All2 R (a :: l) (b :: m)
theorem All2.mono {α β : Type} {R Q : α → β → Prop} {l : List α} {m : List β} (h : All2 R l m) (hq : ∀ a b, R a b → Q a b) : All2 Q l m := by
  induction h with
  | nil => exact .nil
  | cons h _ ih => exact .cons (hq _ _ h) ih
theorem All2.snoc {α β : Type} {R : α → β → Prop} {l : List α} {m : List β} (h : All2 R l m) {a : α} {b : β} (hab : R a b) : All2 R (l ++ [a]) (m ++ [b]) := by
  induction h with
  | nil => exact .cons hab .nil
  | cons h _ ih => exact .cons h ih
/-- a row of such things that the call owns -/
def RowOf {α : Type} (N T sz : Nat) (E : α → List Value → Prop) (w : World) (v : Value) (L : List α) : Prop :=
  ∃ cs : List (List Value), All2 E L cs ∧ w.ownsRow N T sz v L.length cs.flatten
theorem RowOf.nil {α : Type} (N T sz : Nat) (E : α → List Value → Prop) (w : World) : RowOf N T sz E w (.slice none 0 0) [] := ⟨[], .nil, World.ownsRow_nil _ _ _ _⟩
theorem own_fr {N T sz n : Nat} {X : Nat → Obj → Prop} {w w' : World} {v : Value} {xs : List Value} (h : w.ownsRow N T sz v n xs) (hf : Fr X w w') (hX : ∀ k cs, N ≤ k → w.heap[k]? = some (.cells cs T (0, 0)) → ¬ X k (.cells cs T (0, 0))) : w'.ownsRow N T sz v n xs := by
  refine ⟨h.1, ?_⟩
  rcases h.2 with h3 | ⟨g, cap, cur, e1, e2, e3, e4⟩
  · exact .inl h3
  · exact .inr ⟨g, cap, cur, e1, e2, hf _ _ e3 (hX g cur e2 e3), e4⟩
theorem RowOf.fr {α : Type} {N T sz : Nat} {E E' : α → List Value → Prop} {X : Nat → Obj → Prop} {w w' : World} {v : Value} {L : List α} (h : RowOf N T sz E w v L) (hf : Fr X w w') (hX : ∀ k cs, N ≤ k → w.heap[k]? = some (.cells cs T (0, 0)) → ¬ X k (.cells cs T (0, 0))) (hE : ∀ a c, E a c → E' a c) : RowOf N T sz E' w' v L := by
  obtain ⟨cs, h1, h2⟩ := h
  exact ⟨cs, h1.mono hE, own_fr h2 hf hX⟩
theorem own_slice {w : World} {N T sz n : Nat} {v : Value} {xs : List Value} (h : w.ownsRow N T sz v n xs) : ∃ a c, v = .slice a n c := by
  rcases h.2 with ⟨rfl, rfl⟩ | ⟨g, cap, cur, rfl, _⟩
  · exact ⟨none, 0, rfl⟩
  · exact ⟨_, cap, rfl⟩
theorem own_grownN {A N T sz n : Nat} {w w' : World} {v : Value} {xs : List Value} (hN : A < N) (h : w.ownsRow N T sz v n xs) (hg : w.grownBy w' (some A)) : w'.ownsRow N T sz v n xs :=
  own_fr (X := fun k _ => k = A) h (Fr.of_grown (fun _ => rfl) hg) (fun k _ hk _ e => by omega)
/-- blocks of two types may change -/
def XT (T T' : Nat) : Nat → Obj → Prop := fun _ o => ∃ c fz, o = .cells c T fz ∨ o = .cells c T' fz
/-- what holds of an element's cells goes on holding -/
def StaysJ (A T T' : Nat) (J : World → Prop) : Prop := (∀ w w', w.grownBy w' (some A) → J w → J w') ∧ (∀ w w', Fr (XT T T') w w' → J w → J w')
theorem staysT (A T T' : Nat) : StaysJ A T T' (fun _ => True) := ⟨fun _ _ _ h => h, fun _ _ _ h => h⟩
def Stays {α : Type} (A T T' : Nat) (E : World → α → List Value → Prop) : Prop := (∀ w w' a c, w.grownBy w' (some A) → E w a c → E w' a c) ∧ (∀ w w' a c, Fr (XT T T') w w' → E w a c → E w' a c)
theorem ExIs.xt {n T T' : Nat} {w w' : World} (hT : T ≠ 48 ∧ T' ≠ 48) (hf : Fr (XT T T') w w') {q : Ex} {p : Option Addr} (h : ExIs n w p q) : ExIs n w' p q :=
  ExIs.fr hf (fun k cs fz _ _ => by
    rintro ⟨c, fz', e | e⟩
    · cases e; exact hT.1 rfl
    · cases e; exact hT.2 rfl) q h
theorem Blk.fr {b T : Nat} {cs : Array Value} {X : Nat → Obj → Prop} {w w' : World} (h : Blk b cs T w) (hf : Fr X w w') (hX : ¬ X b (.cells cs T (0, 0))) : Blk b cs T w' := hf _ _ h hX
/-- the state between the elements of a row: it stands in cell i of block S -/
structure Acc {α : Type} (c A S x : Nat) (w0 : World) (cf : Value → Array Value) (T' T sz : Nat) (E : World → α → List Value → Prop) (J : World → Prop) (L : List α) (l : List KT) (w : World) : Prop where
  rd : RdIs A l w
  hx : Blk x #[.pointer (some ⟨A, 0, none⟩)] 104 w
  nx : x ≠ A
  xS : x ≠ S
  st : ∃ v, Blk S (cf v) T' w ∧ RowOf w0.heap.size T sz (E w) w v L
  gr : w0.grownBy w (some A)
  lo : A < w0.heap.size
  S0 : w0.heap.size ≤ S
  cnt : L.length + l.length ≤ c
  side : J w
theorem Acc.grown {α : Type} {c c' A S x : Nat} {w0 : World} {cf : Value → Array Value} {T' T sz : Nat} {E : World → α → List Value → Prop} {J : World → Prop} {L : List α} {l l' : List KT} {w w' : World} (h : Acc c A S x w0 cf T' T sz E J L l w) (hE : Stays A T T' E) (hJ : StaysJ A T T' J) (hr : RdIs A l' w') (hg : w.grownBy w' (some A)) (hc : L.length + l'.length ≤ c') : Acc c' A S x w0 cf T' T sz E J L l' w' := by
  obtain ⟨v, h1, cs, h2, h3⟩ := h.st
  have hS : S ≠ A := by have := h.S0; have := h.lo; omega
  exact ⟨hr, h.hx.keep h.nx hg, h.nx, h.xS, ⟨v, h1.keep hS hg, cs, h2.mono (fun a b hab => hE.1 _ _ a b hg hab), own_grownN h.lo h3 hg⟩, h.gr.trans hg, h.lo, h.S0, hc, hJ.1 _ _ hg h.side⟩
theorem grown_append {A N T sz n : Nat} {w0 w w' : World} {v : Value} {xs : List Value} (h : w0.grownBy w (some A)) (hN : w0.heap.size ≤ N) (ho : w.ownsRow N T sz v n xs) (hg : w.grownBy w' v.ownBlock) : w0.grownBy w' (some A) :=
  ⟨hg.os.trans h.os, hg.tape.trans h.tape, hg.output.trans h.output, Nat.le_trans h.size hg.size, fun k hk hne => by
    rw [hg.block k (Nat.lt_of_lt_of_le hk h.size) (fun e => by have := (ho.lt k e.symm).1; omega)]
    exact h.block k hk hne⟩
/-- one more -/
theorem Acc.snoc {α : Type} {c A S x : Nat} {w0 : World} {cf : Value → Array Value} {T' T sz : Nat} {E : World → α → List Value → Prop} {J : World → Prop} {L : List α} {l l' : List KT} {w w10 w3 : World} {v v' : Value} {cs : List (List Value)} {o : Obj} {i : Nat} {a : α} {cn : List Value}
    (h : Acc c A S x w0 cf T' T sz E J L l w) (hE : Stays A T T' E) (hJ : StaysJ A T T' J) (hT : T ≠ 104 ∧ T' ≠ T)
    (hst : Blk S (cf v) T' w) (hcs : All2 (E w) L cs) (hown : w.ownsRow w0.heap.size T sz v L.length cs.flatten) (hg : w.grownBy w10 (some A)) (hr : RdIs A l' w10) (ha : E w10 a cn)
    (hg3 : (w10.alloc o).grownBy w3 v.ownBlock) (ho3 : w3.ownsRow w0.heap.size T sz v' (L.length + 1) (cs.flatten ++ cn)) (hup : (cf v).setIfInBounds i v' = cf v') (hl : l'.length ≤ l.length) :
    Acc (c + 1) A S x w0 cf T' T sz E J (L ++ [a]) l' (w3.setCell ⟨S, i, none⟩ v') := by
  have hS0 := h.S0
  have hlo := h.lo
  have hbA : Below w10.heap.size w10 (w10.alloc o) := (Below.refl _ _).alloc (Nat.le_refl _) _
  have hown10 := own_grownN hlo hown hg
  have hownA := own_below hown10 hbA
  have hf3 : Fr (XT T T') w10 w3 := (Fr.of_below hbA).trans (Fr.row (fun _ _ _ => ⟨_, _, .inl rfl⟩) hownA hg3)
  have hfr3 : Fr (fun _ o => ∃ c fz, o = .cells c T fz) w10 w3 := (Fr.of_below hbA).trans (Fr.row (fun _ _ _ => ⟨_, _, rfl⟩) hownA hg3)
  have hst10 := hst.keep (by omega : S ≠ A) hg
  have hst3 := hst10.fr hfr3 (by rintro ⟨c, fz, e⟩; cases e; exact hT.2 rfl)
  have hx3 := (h.hx.keep h.nx hg).fr hfr3 (by rintro ⟨c, fz, e⟩; cases e; exact hT.1 rfl)
  have hfS : Fr (XT T T') w3 (w3.setCell ⟨S, i, none⟩ v') := fun k ob hk hx => by
    by_cases e : k = S
    · subst e
      have h3 : w3.heap[k]? = _ := hst3
      rw [h3] at hk
      cases hk
      exact absurd ⟨_, _, .inr rfl⟩ hx
    · rw [Below.heap_setCell w3 ⟨S, i, none⟩ v' k (fun e' => e (by simpa using e'))]; exact hk
  have hlow : ∀ k, k ≤ A → w3.heap[k]? = w10.heap[k]? := fun k hk => by
    rw [hg3.block k (by have := hr.lt; simp; omega) (fun e => ?_)]
    · exact hbA.block k (by have := hr.lt; omega)
    · have := (hownA.lt k e.symm).1
      omega
  refine ⟨(hr.keep hlow).set (by omega) i v', hx3.other (fun e => h.xS e.symm) i v', h.nx, h.xS, ⟨v', ?_, cs ++ [cn], ?_, ?_⟩, ?_, hlo, hS0, ?_, hJ.2 _ _ hfS (hJ.2 _ _ hf3 (hJ.1 _ _ hg h.side))⟩
  · have := hst3.set i v'
    rw [hup] at this
    exact this
  · exact All2.snoc (hcs.mono fun a b hab => hE.2 _ _ a b hfS (hE.2 _ _ a b hf3 (hE.1 _ _ a b hg hab))) (hE.2 _ _ a cn hfS (hE.2 _ _ a cn hf3 ha))
  · have e : (cs ++ [cn]).flatten = cs.flatten ++ cn := by simp
    rw [e, List.length_append, List.length_singleton]
    refine own_fr (X := fun k _ => k = S) ho3 (Fr.set (fun _ => rfl) i v') (fun k cs' _ hk e' => ?_)
    have h3 : w3.heap[S]? = _ := hst3
    rw [e', h3] at hk
    cases hk
    exact hT.2 rfl
  · exact grown_new (grown_append ((h.gr.trans hg).trans (grown_alloc _ _ _)) (Nat.le_refl _) hownA hg3) hS0 i v'
  · have := h.cnt
    rw [List.length_append, List.length_singleton]
    omega
theorem news_two (w : World) (a b : Value) (t : TypeId) : ∀ j u, ([a, b] : List Value)[j]? = some u → (w.alloc (.cells #[a, b] t)).cell? ((⟨w.heap.size, 0, none⟩ : Addr).add j) = some u := by
  intro j u hj
  rw [Go.WideShapes.add_plain]
  have hj2 : j = 0 ∨ j = 1 := by
    have := (List.getElem?_eq_some_iff.1 hj).1
    simp at this
    omega
  rcases hj2 with rfl | rfl <;> (simp at hj; subst hj; simp)
theorem news_one (w : World) (a : Value) (t : TypeId) : ∀ j u, ([a] : List Value)[j]? = some u → (w.alloc (.cells #[a] t)).cell? ((⟨w.heap.size, 0, none⟩ : Addr).add j) = some u := by
  intro j u hj
  rw [Go.WideShapes.add_plain]
  have hj2 : j = 0 := by
    have := (List.getElem?_eq_some_iff.1 hj).1
    simp at this
    omega
  subst hj2
  simp at hj
  subst hj
  simp
theorem news_four (w : World) (a b c d : Value) (t : TypeId) : ∀ j u, ([a, b, c, d] : List Value)[j]? = some u → (w.alloc (.cells #[a, b, c, d] t)).cell? ((⟨w.heap.size, 0, none⟩ : Addr).add j) = some u := by
  intro j u hj
  rw [Go.WideShapes.add_plain]
  have hj2 : j = 0 ∨ j = 1 ∨ j = 2 ∨ j = 3 := by
    have := (List.getElem?_eq_some_iff.1 hj).1
    simp at this
    omega
  rcases hj2 with rfl | rfl | rfl | rfl <;> (simp at hj; subst hj; simp)
/-- an item's cells, a rank's, an expression's, a column's -/
def EI (n : Nat) (w : World) (it : Int × Ex) (c : List Value) : Prop := ∃ p, c = [.int .i64 it.1, .pointer p] ∧ ExIs n w p it.2
def ER (n : Nat) (w : World) (it : Ex × Bool) (c : List Value) : Prop := ∃ p, c = [.pointer p, .bool it.2] ∧ ExIs n w p it.1
def EP (n : Nat) (w : World) (e : Ex) (c : List Value) : Prop := ∃ p, c = [.pointer p] ∧ ExIs n w p e
def EC (_ : World) (x : Colm) (c : List Value) : Prop := c = [.string x.nm, .int .i64 x.k, .bool x.mu, .bool x.wo]
def ERw (n N : Nat) (w : World) (L : List Ex) (c : List Value) : Prop := ∃ v, c = [v] ∧ RowOf N 26 1 (EP n w) w v L
theorem EI_stays {n A T T' : Nat} (hn : A ≤ n) (hT : T ≠ 48 ∧ T' ≠ 48) : Stays A T T' (EI n) := ⟨fun _ _ _ _ hg ⟨p, e, hx⟩ => ⟨p, e, ExIs.grownN hn hg hx⟩, fun _ _ _ _ hf ⟨p, e, hx⟩ => ⟨p, e, ExIs.xt hT hf hx⟩⟩
theorem ER_stays {n A T T' : Nat} (hn : A ≤ n) (hT : T ≠ 48 ∧ T' ≠ 48) : Stays A T T' (ER n) := ⟨fun _ _ _ _ hg ⟨p, e, hx⟩ => ⟨p, e, ExIs.grownN hn hg hx⟩, fun _ _ _ _ hf ⟨p, e, hx⟩ => ⟨p, e, ExIs.xt hT hf hx⟩⟩
theorem EP_stays {n A T T' : Nat} (hn : A ≤ n) (hT : T ≠ 48 ∧ T' ≠ 48) : Stays A T T' (EP n) := ⟨fun _ _ _ _ hg ⟨p, e, hx⟩ => ⟨p, e, ExIs.grownN hn hg hx⟩, fun _ _ _ _ hf ⟨p, e, hx⟩ => ⟨p, e, ExIs.xt hT hf hx⟩⟩
theorem EC_stays {A T T' : Nat} : Stays A T T' EC := ⟨fun _ _ _ _ _ h => h, fun _ _ _ _ _ h => h⟩
theorem ERw_stays {n N A T T' : Nat} (hn : A ≤ n) (hN : A < N) (hT : (T ≠ 48 ∧ T' ≠ 48) ∧ T ≠ 26 ∧ T' ≠ 26) : Stays A T T' (ERw n N) :=
  ⟨fun _ _ _ _ hg ⟨v, e, hr⟩ => ⟨v, e, hr.fr (X := fun k _ => k = A) (Fr.of_grown (fun _ => rfl) hg) (fun k _ hk _ e => by omega) (fun a c h => (EP_stays hn hT.1).1 _ _ a c hg h)⟩,
   fun _ _ _ _ hf ⟨v, e, hr⟩ => ⟨v, e, hr.fr hf (fun k cs _ _ => by
      rintro ⟨c, fz', e | e⟩
      · cases e; exact hT.2.1 rfl
      · cases e; exact hT.2.2 rfl) (fun a c h => (EP_stays hn hT.1).2 _ _ a c hf h)⟩⟩
theorem infoItem : (Tryz.prog.info? 148).map (fun i => (i.zero, i.size, i.bytes)) = some (some (.agg #[.int .i64 0, .pointer none]), 2, 16) := by kernel_rfl
theorem infoRank : (Tryz.prog.info? 151).map (fun i => (i.zero, i.size, i.bytes)) = some (some (.agg #[.pointer none, .bool false]), 2, 16) := by kernel_rfl
theorem infoPE : (Tryz.prog.info? 26).map (fun i => (i.zero, i.size, i.bytes)) = some (some (.pointer none), 1, 8) := by kernel_rfl
theorem infoCol : (Tryz.prog.info? 115).map (fun i => (i.zero, i.size, i.bytes)) = some (some (.agg #[.string ⟨#[]⟩, .int .i64 0, .bool false, .bool false]), 4, 32) := by kernel_rfl
theorem infoSl : (Tryz.prog.info? 25).map (fun i => (i.zero, i.size, i.bytes)) = some (some (.slice none 0 0), 1, 24) := by kernel_rfl
end Go.Proofs.YtbdcbaamjkjhaaaGreatDoor
namespace Go.Proofs.YtbdcbaamjkjhaaaGreatDoor
open Go.RowKit

/-- what a statement's cells hold -/
structure SV where
  kind : Int
  table : ByteArray
  other : ByteArray
  cols : Value
  name : ByteArray
  rows : Value
  sets : Value
  on : Option Addr
  wh : Option Addr
  items : Value
  grp : Option Addr
  ord : Value
  lim : Int
def SV.cells (s : SV) : Array Value := #[.int .i64 s.kind, .string s.table, .string s.other, s.cols, .string s.name, s.rows, s.sets, .pointer s.on, .pointer s.wh, s.items, .pointer s.grp, s.ord, .int .i64 s.lim]
/-- its rows are rows -/
structure SV.Rows (s : SV) : Prop where
  cols : ∃ a n c, s.cols = .slice a n c
  rows : ∃ a n c, s.rows = .slice a n c
  sets : ∃ a n c, s.sets = .slice a n c
  items : ∃ a n c, s.items = .slice a n c
  ord : ∃ a n c, s.ord = .slice a n c
def svOf (k : Int) (t : ByteArray) : SV := ⟨k, t, ⟨#[]⟩, .slice none 0 0, ⟨#[]⟩, .slice none 0 0, .slice none 0 0, none, none, .slice none 0 0, none, .slice none 0 0, -1⟩
def svZ : SV := ⟨0, ⟨#[]⟩, ⟨#[]⟩, .slice none 0 0, ⟨#[]⟩, .slice none 0 0, .slice none 0 0, none, none, .slice none 0 0, none, .slice none 0 0, 0⟩
theorem svOf_rows (k : Int) (t : ByteArray) : (svOf k t).Rows := ⟨⟨_, _, _, rfl⟩, ⟨_, _, _, rfl⟩, ⟨_, _, _, rfl⟩, ⟨_, _, _, rfl⟩, ⟨_, _, _, rfl⟩⟩
theorem svZ_rows : svZ.Rows := ⟨⟨_, _, _, rfl⟩, ⟨_, _, _, rfl⟩, ⟨_, _, _, rfl⟩, ⟨_, _, _, rfl⟩, ⟨_, _, _, rfl⟩⟩
theorem SV.Rows.one {s : SV} (h : s.Rows) : s.cells.all (·.oneCell') = true := by
  obtain ⟨⟨a, n, c, h1⟩, ⟨a2, n2, c2, h2⟩, ⟨a3, n3, c3, h3⟩, ⟨a4, n4, c4, h4⟩, ⟨a5, n5, c5, h5⟩⟩ := h
  unfold SV.cells
  rw [h1, h2, h3, h4, h5]
  rw [List.all_toArray]
  rfl
theorem s30 (s : SV) : (Tryz.prog.info? 30).map (·.size) = some s.cells.size := by
  have h : (Tryz.prog.info? 30).map (·.size) = some 13 := by kernel_rfl
  rw [h]; rfl
theorem Blk.there {b T : Nat} {cs : Array Value} {w : World} (h : Blk b cs T w) {n : Nat} (hn : cs.size = n) : w.there b 0 n := fun j hj => by
  refine ⟨?_, ?_⟩
  · rw [h.cell (0 + j), Nat.zero_add]
    simp [hn, hj]
  · exact h.free _
theorem Blk.range {b T : Nat} {cs : Array Value} {w : World} (h : Blk b cs T w) : w.rangeAt b 0 cs.toList := fun j v hj => by
  rw [h.cell (0 + j), Nat.zero_add, ← hj]; simp
def setA (a : Array Value) : Nat → List Value → Array Value
  | _, [] => a
  | o, v :: r => setA (a.setIfInBounds o v) (o + 1) r
theorem Blk.sets {b T : Nat} (vs : List Value) : ∀ {cs : Array Value} {w : World} (o : Nat), Blk b cs T w → Blk b (setA cs o vs) T (w.setCells b o vs) := by
  induction vs with
  | nil => intro cs w o h; exact h
  | cons v r ih => intro cs w o h; exact ih (o + 1) (h.set o v)
theorem setA_cells (s s' : SV) : setA s.cells 0 s'.cells.toList = s'.cells := by simp [setA, SV.cells]
theorem Blk.stored {b T : Nat} {s s' : SV} {w : World} (h : Blk b s.cells T w) : Blk b s'.cells T (w.setCells b 0 s'.cells.toList) := by
  have := Blk.sets (T := T) s'.cells.toList 0 h
  rw [setA_cells] at this
  exact this
theorem Blk.othersN {b c T : Nat} {cs : Array Value} (vs : List Value) : ∀ {w : World} (o : Nat), Blk c cs T w → b ≠ c → Blk c cs T (w.setCells b o vs) := by
  induction vs with
  | nil => intro w o h _; exact h
  | cons v r ih => intro w o h hb; exact ih (o + 1) (h.other hb o v) hb
theorem RdIs.setsN {A b : Nat} {l : List KT} (vs : List Value) : ∀ {w : World} (o : Nat), RdIs A l w → A < b → RdIs A l (w.setCells b o vs) := by
  induction vs with
  | nil => intro w o h _; exact h
  | cons v r ih => intro w o h hb; exact ih (o + 1) (h.set hb o v) hb
theorem grown_sets {A b : Nat} {w0 : World} (vs : List Value) : ∀ {w : World} (o : Nat), w0.grownBy w (some A) → w0.heap.size ≤ b → w0.grownBy (w.setCells b o vs) (some A) := by
  induction vs with
  | nil => intro w o h _; exact h
  | cons v r ih => intro w o h hb; exact ih (o + 1) (grown_new h hb o v) hb
theorem below_sets {n b : Nat} {w0 : World} (vs : List Value) : ∀ {w : World} (o : Nat), Below n w0 w → n ≤ b → Below n w0 (w.setCells b o vs) := by
  induction vs with
  | nil => intro w o h _; exact h
  | cons v r ih => intro w o h hb; exact ih (o + 1) (h.setCell hb v) hb
theorem fr_sets {b T : Nat} (vs : List Value) : ∀ {cs : Array Value} {w : World} (o : Nat), Blk b cs T w → Fr (fun _ ob => ∃ c fz, ob = .cells c T fz) w (w.setCells b o vs) := by
  induction vs with
  | nil => intro cs w o _; exact Fr.refl _ _
  | cons v r ih =>
    intro cs w o h
    refine Fr.trans (w1 := w.setCell ⟨b, o, none⟩ v) ?_ (ih (o + 1) (h.set o v))
    intro k ob hk hx
    by_cases e : k = b
    · subst e
      have h' : w.heap[k]? = _ := h
      rw [h'] at hk
      cases hk
      exact absurd ⟨_, _, rfl⟩ hx
    · rw [Below.heap_setCell w ⟨b, o, none⟩ v k (fun e' => e (by simpa using e'))]; exact hk
theorem load30 {b : Nat} {s : SV} {w : World} (h : Blk b s.cells 30 w) : (loadVar 30 ⟨b, 0, none⟩).run Tryz.prog w = .ok (.agg s.cells) w := by
  have := run_loadVar_mid (P := Tryz.prog) w b 0 30 s.cells.toList _ h.range Tryz.underlying30 rfl (s30 s)
  simpa using this
set_option maxRecDepth 100000 in
set_option maxHeartbeats 4000000 in
theorem of_any (k : Int) (t : ByteArray) (w : World) : Calls Tryz.prog 88 #[.int .i64 k, .string t] w fun e w' => e = .returned (.agg (svOf k t).cells) ∧ Below w.heap.size w w' := by
  have hk : Blk w.heap.size svZ.cells 30 (w.alloc (.cells svZ.cells 30)) := Blk.new _ _ _
  have HK : Hid (Blk w.heap.size svZ.cells 30 (w.alloc (.cells svZ.cells 30))) := hk
  clear hk
  go_enter Tryz.func88, Tryz.ntmps88
  go_wp2_with (refine wpList_store_mid rfl 30 _ _ rfl _ 0 (svOf k t).cells rfl rfl (HK.out.there rfl) (s30 _) (svOf_rows k t).one ?_)
  refine bodyPost_ret (v := .agg (svOf k t).cells) (results_c Tryz.results88 _ _ _ rfl ?_) rfl ?_
  · exact load30 HK.out.stored
  · exact ⟨rfl, below_sets _ 0 ((Below.refl _ _).alloc (Nat.le_refl _) _) (Nat.le_refl _)⟩
end Go.Proofs.YtbdcbaamjkjhaaaGreatDoor
namespace Go.Proofs.YtbdcbaamjkjhaaaGreatDoor
open Go.RowKit

theorem wr_size : (Tryz.prog.info? 73).map (·.size) = some 2 := by kernel_rfl
theorem wr_lies : liesAt Tryz.prog Tryz.prog.depth 75 (2 / Tryz.prog.cellsOf 75) 0 73 1 = true := by kernel_rfl
theorem wr_byte : (Tryz.prog.info? 5).map (fun i => (i.zero, i.size, i.bytes)) = some (some (.int .u8 0), 1, 1) := by kernel_rfl
set_option maxHeartbeats 1000000 in
set_option maxRecDepth 100000 in
theorem cc_used (b : Nat) (w : World) (h0 : w.cell? ⟨b, 0, none⟩ = some (.pointer (some ⟨b, 0, none⟩))) :
    Calls Tryz.prog 134 #[.pointer (some ⟨b, 0, none⟩)] w fun e w' => e = .returned (.tuple #[]) ∧ w' = w := by
  obtain ⟨j, hj, _⟩ := Option.map_eq_some_iff.1 wr_size
  go_enter Tryz.func134, Tryz.ntmps134
  go_wp2
  try rw [Lib.run_neq_ptr_same w _ Tryz.underlying70 hj]
  go_wp2
  go_end0
  exact ⟨rfl, rfl⟩
set_option maxHeartbeats 1000000 in
set_option maxRecDepth 100000 in
theorem cc_fresh (b : Nat) (w : World) (h0 : w.cell? ⟨b, 0, none⟩ = some (.pointer none)) (hsh : w.shape? b = some (75, 2)) (hfz : w.frozen? ⟨b, 0, none⟩ = false) :
    Calls Tryz.prog 134 #[.pointer (some ⟨b, 0, none⟩)] w fun e w' => e = .returned (.tuple #[]) ∧ w' = w.setCell ⟨b, 0, none⟩ (.pointer (some ⟨b, 0, none⟩)) := by
  obtain ⟨j, hj, hjs⟩ := Option.map_eq_some_iff.1 wr_size
  go_enter Tryz.func134, Tryz.ntmps134
  go_wp2
  rw [Lib.run_to_unsafe w ⟨b, 0, none⟩ Tryz.underlying70 Tryz.underlying123 hj (by rw [hjs]; decide) hsh (Nat.zero_lt_succ 1)]
  simp only [Result.andThen]
  rw [Oper.upon_value]
  go_wp2
  rw [run_callFunc_extern Tryz.func152 (by kernel_rfl) (by kernel_rfl) (by kernel_rfl) (e := Extern.AbiNoEscape.same) (by kernel_rfl)]
  rw [Lib.run_noEscape]
  simp only [Result.andThen]
  rw [Oper.upon_value]
  go_wp2
  rw [Lib.run_from_unsafe w ⟨b, 0, none⟩ Tryz.underlying123 Tryz.underlying70 hj hsh wr_lies]
  simp only [Result.andThen]
  rw [Oper.upon_value]
  go_wp2
  go_end0
  exact ⟨rfl, rfl⟩
theorem cc_any (B b : Nat) (bs : List Value) (w : World) (h : Lib.IsBuilderF 75 5 B b bs w) :
    Calls Tryz.prog 134 #[.pointer (some ⟨b, 0, none⟩)] w fun e w' => e = .returned (.tuple #[]) ∧ (Lib.BuilderAtF 75 5 B b (.pointer (some ⟨b, 0, none⟩)) bs w' ∧ Below B w w' ∧ Lib.OthersKept 5 (some b) w w') := by
  rcases h with h | h
  · refine (cc_fresh b w h.cell0 h.shape h.frozen0).mono ?_
    rintro e w' ⟨rfl, rfl⟩
    exact ⟨rfl, h.used _, (Below.refl B w).setCell (p := ⟨b, 0, none⟩) h.1 _, (Lib.OthersKept.refl _ _ w).setCell ⟨b, 0, none⟩ rfl _⟩
  · refine (cc_used b w h.cell0).mono ?_
    rintro e w' ⟨rfl, rfl⟩
    exact ⟨rfl, h, Below.refl B _, Lib.OthersKept.refl _ _ _⟩
set_option maxHeartbeats 2000000 in
set_option maxRecDepth 100000 in
theorem ws_any (B b : Nat) (bs : List Value) (s : ByteArray) (w : World) (h : Lib.IsBuilderF 75 5 B b bs w) (hlen : bs.length + s.size ≤ 140737488355328) (hBw : B ≤ w.heap.size) :
    Calls Tryz.prog 98 #[.pointer (some ⟨b, 0, none⟩), .string s] w fun e w' => e = .returned (.tuple #[.int .i64 s.size, .nilIface]) ∧ (Lib.BuilderAtF 75 5 B b (.pointer (some ⟨b, 0, none⟩)) (bs ++ Lib.strCells s) w' ∧ Below B w w' ∧ Lib.OthersKept 5 (some b) w w') := by
  obtain ⟨i0, hi, hz0, hz1, hz2⟩ := info_parts wr_byte
  have HH : Hid (Lib.IsBuilderF 75 5 B b bs w) := h
  clear h
  go_enter Tryz.func98, Tryz.ntmps98
  go_wp2_with fail
  refine (cc_any B b bs _ HH.out).mono ?_
  rintro e w1 ⟨rfl, h1, hb1, hk1⟩
  obtain ⟨hB, v, hbk, hown, hne⟩ := h1
  have c0 : w1.cell? ⟨b, 0, none⟩ = some (.pointer (some ⟨b, 0, none⟩)) := by rw [Lib.cell_of_heap hbk]; rfl
  have c1 : w1.cell? ⟨b, 1, none⟩ = some v := by rw [Lib.cell_of_heap hbk]; rfl
  go_wp2_with (at_builtin; refine Lib.wpList_append_own_stringF _ rfl _ _ 71 9 rfl B 5 i0 Tryz.underlying71 Tryz.underlying9 hi hz0 hz1 hz2 _ _ _ rfl hown s rfl ?c3 ?c4 ?c5 ?_)
  case c3 => unfold maxLen; omega
  case c4 => omega
  case c5 => have := hb1.size; omega
  intro v' w2 hown' hgrow _
  have hlt : b < w1.heap.size := by
    rcases Nat.lt_or_ge b w1.heap.size with h' | h'
    · exact h'
    · simp [Array.getElem?_eq_none h'] at hbk
  have hb2 : w2.heap[b]? = some (.cells #[.pointer (some ⟨b, 0, none⟩), v] 75 (0, 0)) := by
    rw [hgrow.block b hlt (fun e => hne e.symm)]
    exact hbk
  have d0 : w2.cell? ⟨b, 0, none⟩ = some (.pointer (some ⟨b, 0, none⟩)) := by rw [Lib.cell_of_heap hb2]; rfl
  have d1 : w2.cell? ⟨b, 1, none⟩ = some v := by rw [Lib.cell_of_heap hb2]; rfl
  have f1 : w2.frozen? ⟨b, 1, none⟩ = false := Lib.frozen_of_heap hb2 1
  obtain ⟨ao, n', cap, rfl⟩ : ∃ ao n' cap, v' = .slice ao n' cap := by
    rcases hown'.2 with ⟨hv, _⟩ | ⟨g, cap, cur, fz, hv, _⟩
    · exact ⟨_, _, _, hv⟩
    · exact ⟨_, _, _, hv⟩
  go_wp2
  go_ret2
  refine ⟨rfl, ?_, ?_, (hk1.grown hgrow (Lib.ownsRowF_kind hown)).setCell ⟨b, 1, none⟩ rfl _⟩
  · exact Lib.BuilderAtF.put (T := 75) (e := 5) hB hb2 (bs' := bs ++ Lib.strCells s) (by simpa [Lib.strCells_length] using hown') (by decide)
  · exact (hb1.grown hgrow (by have := hb1.size; omega) (fun k hk => (hown.lt k hk).1)).setCell (p := ⟨b, 1, none⟩) hB _
end Go.Proofs.YtbdcbaamjkjhaaaGreatDoor
namespace Go.Proofs.YtbdcbaamjkjhaaaGreatDoor
open Go.RowKit

/-- a writer that has written so far -/
def Wr (b : Nat) (l : List UInt8) (w : World) : Prop := Lib.IsBuilderF 75 5 b b (Lib.byteCells l) w
/-- what a writer's step keeps -/
structure WK (b : Nat) (w w' : World) : Prop where
  below : Below b w w'
  kept : Lib.OthersKept 5 (some b) w w'
theorem WK.refl (b : Nat) (w : World) : WK b w w := ⟨Below.refl _ _, Lib.OthersKept.refl _ _ _⟩
theorem WK.trans {b : Nat} {u v w : World} (h : WK b u v) (k : WK b v w) : WK b u w := ⟨h.below.trans k.below, h.kept.trans k.kept⟩
theorem WK.alloc {b : Nat} {u w : World} (h : WK b u w) (hb : b ≤ w.heap.size) (o : Obj) : WK b u (w.alloc o) := ⟨h.below.alloc hb _, h.kept.alloc _⟩
theorem WK.drew {b : Nat} {u w : World} (h : WK b u w) : WK b u w.drew := ⟨h.below.drew, h.kept.drew⟩
theorem WK.blk {b c Ty : Nat} {cs : Array Value} {w w' : World} (h : WK b w w') (hk : Blk c cs Ty w) (hc : c ≠ b) (hT : Ty ≠ 5) : Blk c cs Ty w' := h.kept c _ hk (fun e => hc (Option.some.inj e)) (fun _ _ e => by cases e; exact hT rfl)
theorem Wr.lt {b : Nat} {l : List UInt8} {w : World} (h : Wr b l w) : b < w.heap.size := by
  rcases h with ⟨_, v, h, _⟩ | ⟨_, v, h, _⟩ <;> exact (Array.getElem?_eq_some_iff.1 h).1
theorem ownF_alloc {w : World} {B n : Nat} {e : TypeId} {v : Value} {xs : List Value} (h : w.ownsRowF B e 1 v n xs) (o : Obj) : (w.alloc o).ownsRowF B e 1 v n xs := by
  refine ⟨h.1, ?_⟩
  rcases h.2 with h2 | ⟨g, cap, cur, fz, h1, h2, h3, h4⟩
  · exact .inl h2
  · exact .inr ⟨g, cap, cur, fz, h1, h2, (heap_alloc_old _ _ (Array.getElem?_eq_some_iff.1 h3).1).trans h3, h4⟩
theorem Wr.alloc {b : Nat} {l : List UInt8} {w : World} (h : Wr b l w) (o : Obj) : Wr b l (w.alloc o) := by
  have hlt := h.lt
  rcases h with ⟨h0, v, h1, h2, h3⟩ | ⟨h0, v, h1, h2, h3⟩
  · exact .inl ⟨h0, v, (heap_alloc_old _ _ hlt).trans h1, ownF_alloc h2 o, h3⟩
  · exact .inr ⟨h0, v, (heap_alloc_old _ _ hlt).trans h1, ownF_alloc h2 o, h3⟩
theorem Wr.drew {b : Nat} {l : List UInt8} {w : World} (h : Wr b l w) : Wr b l w.drew := h
/-- all that is put -/
def bytesOf (S : List ByteArray) : List UInt8 := S.flatMap fun s => s.data.toList
theorem bytesOf_append (S U : List ByteArray) : bytesOf (S ++ U) = bytesOf S ++ bytesOf U := List.flatMap_append
theorem bytesOf_one (s : ByteArray) : bytesOf [s] = s.data.toList := by simp [bytesOf]
def strRow (S : List ByteArray) : Array Value := (S.map .string).toArray
set_option maxHeartbeats 2000000 in
theorem write_any (b : Nat) (l : List UInt8) (s : ByteArray) (w : World) (h : Wr b l w) (hlen : l.length + s.size ≤ 1000000) :
    Calls Tryz.prog 98 #[.pointer (some ⟨b, 0, none⟩), .string s] w fun e w' => (∃ v, e = .returned v) ∧ Wr b (l ++ s.data.toList) w' ∧ WK b w w' := by
  refine (ws_any b b (Lib.byteCells l) s w h (by rw [Lib.byteCells_length]; omega) (Nat.le_of_lt h.lt)).mono ?_
  rintro e w' ⟨rfl, h1, h2, h3⟩
  refine ⟨⟨_, rfl⟩, .inr ?_, h2, h3⟩
  have e1 : Lib.byteCells (l ++ s.data.toList) = Lib.byteCells l ++ Lib.strCells s := by rw [Lib.strCells_eq]; simp [Lib.byteCells]
  rw [e1]; exact h1
set_option maxRecDepth 100000 in
set_option maxHeartbeats 4000000 in
theorem put_any (b g : Nat) (l : List UInt8) (S : List ByteArray) (w : World) (h : Wr b l w) (hg : Blk g (strRow S) 9 w) (hne : g ≠ b) (hlen : l.length + (bytesOf S).length ≤ 1000000) (hS : S.length ≤ 1000) :
    Calls Tryz.prog 53 #[.pointer (some ⟨b, 0, none⟩), .slice (some ⟨g, 0, none⟩) S.length S.length] w fun e w' => e = .returned (.tuple #[]) ∧ Wr b (l ++ bytesOf S) w' ∧ WK b w w' := by
  have H : Hid (Wr b l w ∧ Blk g (strRow S) 9 w ∧ g ≠ b ∧ l.length + (bytesOf S).length ≤ 1000000) := ⟨h, hg, hne, hlen⟩
  clear h hg hne hlen
  go_enter Tryz.func53, Tryz.ntmps53
  go_wp2
  go_loopw [8] (fun i wr => ∃ k : Nat, k ≤ S.length ∧ i = .int .i64 k ∧ Hid (Wr b (l ++ bytesOf (S.take k)) wr ∧ Blk g (strRow S) 9 wr ∧ WK b w wr)) (fun i _ => S.length - (intOf i).toNat)
  case atStart => exact ⟨0, Nat.zero_le _, rfl, by simpa [bytesOf] using H.out.1, H.out.2.1, WK.refl _ _⟩
  case round =>
    obtain ⟨k, hk, rfl, hw⟩ := hrel
    by_cases hlt : k < S.length
    · have z : wr.cell? ⟨g, k, none⟩ = some (.string S[k]) := by rw [hw.out.2.1.cell k]; simp [strRow, hlt]
      have hk' : (k : Int) < (S.length : Int) := by omega
      have hsum : bytesOf (S.take (k + 1)) = bytesOf (S.take k) ++ S[k].data.toList := by
        rw [List.take_succ_eq_append_getElem hlt, bytesOf_append, bytesOf_one]
      have hle : (bytesOf (S.take (k + 1))).length ≤ (bytesOf S).length := by
        have e : bytesOf S = bytesOf (S.take (k + 1)) ++ bytesOf (S.drop (k + 1)) := by rw [← bytesOf_append, List.take_append_drop]
        rw [e, List.length_append]; omega
      have HL : Hid ((l ++ bytesOf (S.take k)).length + S[k].size ≤ 1000000) := by
        show _ ≤ _
        have h1 := H.out.2.2.2
        rw [hsum, List.length_append] at hle
        have h2 : S[k].data.toList.length = S[k].size := by rw [Array.length_toList]; rfl
        rw [List.length_append]; omega
      have HS : Hid (l ++ bytesOf (S.take (k + 1)) = (l ++ bytesOf (S.take k)) ++ S[k].data.toList) := by show _ = _; rw [hsum, List.append_assoc]
      clear hsum hle
      generalize S[k] = s at *
      go_wp2_with fail
      refine (write_any b _ s wr hw.out.1 HL.out).mono ?_
      rintro _ w2 ⟨⟨v, rfl⟩, h1, h2⟩
      have HN : Hid (Wr b (l ++ bytesOf (S.take (k + 1))) w2 ∧ Blk g (strRow S) 9 w2 ∧ WK b w w2) := ⟨by rw [HS.out]; exact h1, h2.blk hw.out.2.1 H.out.2.2.1 (by decide), hw.out.2.2.trans h2⟩
      clear h1 h2 hw z
      go_wp2
      go_roundw
      case rel => exact ⟨k + 1, by omega, by go_num, HN⟩
      case measure => simp [intOf]; omega
    · obtain rfl : k = S.length := by omega
      rw [List.take_length] at hw
      go_wp2
      go_end0
      exact ⟨rfl, hw.out.1, hw.out.2.2⟩
end Go.Proofs.YtbdcbaamjkjhaaaGreatDoor
namespace Go.Proofs.YtbdcbaamjkjhaaaGreatDoor
open Go.RowKit

/-- the sign and the level of a code that is of two -/
def pairR (ps : List (Int × ByteArray × Int)) (c : Int) : ByteArray × Int × Bool := match ps.find? (fun p => decide (p.1 = c)) with
  | some p => (p.2.1, p.2.2, true)
  | none => (⟨#[]⟩, 0, false)
theorem pair_step (k : Nat) (hk : k < 11) (c : Int) : pairR (pairL.drop k) c = if decide ((pairL.getD k (0, ⟨#[]⟩, 0)).1 = c) = true then ((pairL.getD k (0, ⟨#[]⟩, 0)).2.1, (pairL.getD k (0, ⟨#[]⟩, 0)).2.2, true) else pairR (pairL.drop (k + 1)) c := by
  have e : pairL.getD k (0, ⟨#[]⟩, 0) = pairL[k]'hk := by simp [List.getD, show k < pairL.length from hk]; rfl
  unfold pairR
  rw [List.drop_eq_getElem_cons (show k < pairL.length from hk), List.find?_cons, e]
  cases decide ((pairL[k]'hk).1 = c) <;> rfl
def lvlC (c : Int) : Int := if c = 4 then 3 else if c = 5 ∨ c = 17 then 4 else if c = 3 then 7 else if (pairR pairL c).2.2 then (pairR pairL c).2.1 else 8
set_option maxRecDepth 100000 in
set_option maxHeartbeats 8000000 in
theorem paired_any (c : Int) (w : World) (hv : w.rangeAt 4 0 pairCells) : Calls Tryz.prog 153 #[.int .i64 c] w fun e w' => e = .returned (.tuple #[.string (pairR pairL c).1, .int .i64 (pairR pairL c).2.1, .bool (pairR pairL c).2.2]) ∧ Below w.heap.size w w' := by
  have H : Hid (w.rangeAt 4 0 pairCells) := hv
  obtain ⟨C, hC⟩ : ∃ C, pairR pairL c = C := ⟨_, rfl⟩
  rw [hC]
  have HC : Hid (pairR (pairL.drop 0) c = C) := hC
  have hsz : (Tryz.prog.info? 198).map (·.size) = some pairCells.length := by kernel_rfl
  clear hv hC
  go_enter Tryz.func153, Tryz.ntmps153
  go_wp2_with (refine wpList_load_mid rfl 198 _ rfl _ 0 rfl pairCells _ H.out Tryz.underlying198 rfl hsz ?_)
  clear hsz
  go_loopw [8] (fun i wr => ∃ k : Nat, k ≤ 11 ∧ i = .int .i64 k ∧ Hid (pairR (pairL.drop k) c = C) ∧ Hid (Below w.heap.size w wr)) (fun i _ => 11 - (intOf i).toNat)
  case atStart => exact ⟨0, Nat.zero_le _, rfl, HC, Below.refl _ _⟩
  case round =>
    clear HC
    obtain ⟨k, hk, rfl, he, HR⟩ := hrel
    obtain ⟨wo, rfl⟩ : ∃ wo, wo = wr := ⟨_, rfl⟩
    by_cases hlt : k < 11
    · have hix := ixP k hlt wo
      have hst := he.out
      rw [pair_step k hlt] at hst
      generalize pairL.getD k (0, ⟨#[]⟩, 0) = m at *
      obtain ⟨mc, ms, ml⟩ := m
      simp only at *
      have hk' : (k : Int) < 11 := by omega
      obtain ⟨b1, hb1⟩ : ∃ b, (mc == c) = b := ⟨_, rfl⟩
      have hb1' : decide (mc = c) = b1 := hb1
      rw [hb1'] at hst
      obtain ⟨W, hW⟩ : ∃ W, wo.alloc (.cells #[.int .i64 mc, .string ms, .int .i64 ml] 197) = W := ⟨_, rfl⟩
      have hbW : Below wo.heap.size wo W := by rw [← hW]; exact (Below.refl _ _).alloc (Nat.le_refl _) _
      have z0 : W.cell? ⟨wo.heap.size, 0, none⟩ = some (.int .i64 mc) := by rw [← hW]; simp [go_sem]
      have z1 : W.drew.cell? ⟨wo.heap.size, 1, none⟩ = some (.string ms) := by rw [← hW]; simp [go_sem]
      have z2 : W.drew.cell? ⟨wo.heap.size, 2, none⟩ = some (.int .i64 ml) := by rw [← hW]; simp [go_sem]
      have HW : Hid (Below w.heap.size w W) := HR.out.trans (hbW.mono HR.out.size)
      clear hb1' he hbW
      cases b1
      · have HS : Hid (pairR (pairL.drop (k + 1)) c = C) := by rw [if_neg (by decide)] at hst; exact hst
        clear hst HR
        go_wp2
        go_roundw
        case rel => exact ⟨k + 1, by omega, by go_num, HS, HW⟩
        case measure => simp [intOf]; omega
      · rw [if_pos rfl] at hst
        subst hst
        clear HR
        go_wp2_with fail
        go_region
        all_goals (go_wp2; go_ret3; exact ⟨rfl, HW.out.drew⟩)
    · obtain rfl : k = 11 := by omega
      have hst := he.out
      have e : pairR (pairL.drop 11) c = (⟨#[]⟩, 0, false) := rfl
      rw [e] at hst
      subst hst
      clear he
      go_wp2
      go_ret3
      exact ⟨rfl, HR.out⟩
end Go.Proofs.YtbdcbaamjkjhaaaGreatDoor
