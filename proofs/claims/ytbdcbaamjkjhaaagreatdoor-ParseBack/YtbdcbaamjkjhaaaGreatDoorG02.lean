/- Part 2 of 39. -/
import Derived.Test.YtbdcbaamjkjhaaaGreatDoorG01
import Derived.Deep.MidRow
namespace Go.Proofs.YtbdcbaamjkjhaaaGreatDoor
open Go.RowKit

/-- tokens in a row that lies below A -/
def RowK (A : Nat) (w : World) (a : Option Addr) (L : List Tok) : Prop :=
  L = [] ∨ ∃ b off, a = some ⟨b, off, none⟩ ∧ b < A ∧ ∀ j (h : j < L.length), w.cell? ⟨b, off + j * 3, none⟩ = some (.int .i64 L[j].k) ∧ w.cell? ⟨b, off + j * 3 + 1, none⟩ = some (.string L[j].t) ∧ w.cell? ⟨b, off + j * 3 + 2, none⟩ = some (.int .i64 (L[j].p : Int))
/-- the signs of two, with their codes and levels -/
def pairL : List (Int × ByteArray × Int) := [(16, ⟨#[111, 114]⟩, 1), (15, ⟨#[97, 110, 100]⟩, 2), (9, ⟨#[61]⟩, 4), (10, ⟨#[60, 62]⟩, 4), (11, ⟨#[60]⟩, 4), (12, ⟨#[60, 61]⟩, 4), (13, ⟨#[62]⟩, 4), (14, ⟨#[62, 61]⟩, 4), (6, ⟨#[43]⟩, 5), (7, ⟨#[45]⟩, 5), (8, ⟨#[42]⟩, 6)]
def nameCells : List Value := keepL.map .string
def pairCells : List Value := pairL.flatMap fun x => [.int .i64 x.1, .string x.2.1, .int .i64 x.2.2]
/-- the variables of the package and of the library, as they are laid -/
structure VrAt (w : World) : Prop where
  nm : w.rangeAt 3 0 nameCells
  pr : w.rangeAt 4 0 pairCells
  sy : ∃ v, w.cell? ⟨9, 0, none⟩ = some v ∧ (v = .nilIface ∨ ∃ t p, v = .iface t p)
  rg : ∃ v, w.cell? ⟨10, 0, none⟩ = some v ∧ (v = .nilIface ∨ ∃ t p, v = .iface t p)
theorem range_keep {w w' : World} {b : Nat} {cs : List Value} (h : w.rangeAt b 0 cs) (hk : ∀ o, w'.cell? ⟨b, o, none⟩ = w.cell? ⟨b, o, none⟩) : w'.rangeAt b 0 cs := fun i hi => by rw [hk]; exact h i hi
theorem VrAt.keep {w w' : World} (h : VrAt w) (hk : ∀ k, k < 13 → w'.heap[k]? = w.heap[k]?) : VrAt w' := by
  have key : ∀ b, b < 13 → ∀ o, w'.cell? ⟨b, o, none⟩ = w.cell? ⟨b, o, none⟩ := fun b hb o => World.cell?_of_block (w := w) (a := ⟨b, o, none⟩) (hk b hb)
  obtain ⟨v, a1, a2⟩ := h.sy
  obtain ⟨u, b1, b2⟩ := h.rg
  exact ⟨range_keep h.nm (fun o => key 3 (by decide) o), range_keep h.pr (fun o => key 4 (by decide) o), ⟨v, by rw [key _ (by decide)]; exact a1, a2⟩, u, by rw [key _ (by decide)]; exact b1, b2⟩
/-- block A is the reader: these tokens are left -/
structure RdIs (A : Nat) (l : List KT) (w : World) : Prop where
  row : ∃ L a c, L.map Tok.kt = l ∧ w.heap[A]? = some (.cells #[.slice a l.length c] 106 (0, 0)) ∧ RowK A w a L ∧ l.length ≤ c
  ok : OkT l
  vr : VrAt w
  lo : 13 ≤ A
theorem RdIs.lt {A : Nat} {l : List KT} {w : World} (h : RdIs A l w) : A < w.heap.size := by
  obtain ⟨L, a, c, _, h1, _⟩ := h.row
  exact (Array.getElem?_eq_some_iff.1 h1).1
theorem grownA_refl (w : World) (r : Option Nat) : w.grownBy w r := ⟨rfl, rfl, rfl, Nat.le_refl _, fun _ _ _ => rfl⟩
theorem grown_of_belowA {w w' : World} (h : Below w.heap.size w w') (row : Option Nat) : w.grownBy w' row := ⟨h.os, h.tape, h.output, h.size, fun k hk _ => h.block k hk⟩
theorem grownA_set (W : World) (b o : Nat) (v : Value) : W.grownBy (W.setCell ⟨b, o, none⟩ v) (some b) :=
  ⟨rfl, rfl, rfl, by simp [World.setCell], fun k _ hk => Below.heap_setCell W ⟨b, o, none⟩ v k (fun e => hk (by rw [e]))⟩
theorem grown_alloc (w : World) (o : Obj) (A : Option Nat) : w.grownBy (w.alloc o) A := grown_of_belowA ((Below.refl _ _).alloc (Nat.le_refl _) _) _
theorem grown_drew (w : World) (A : Option Nat) : w.grownBy w.drew A := grown_of_belowA (Below.refl _ _).drew _
theorem RowK.keep {A : Nat} {w w' : World} {a : Option Addr} {L : List Tok} (h : RowK A w a L) (hb : ∀ k, k < A → w'.heap[k]? = w.heap[k]?) : RowK A w' a L := by
  rcases h with h | ⟨b, off, e, hlt, hc⟩
  · exact .inl h
  · have key : ∀ o, w'.cell? ⟨b, o, none⟩ = w.cell? ⟨b, o, none⟩ := fun o => World.cell?_of_block (w := w) (a := ⟨b, o, none⟩) (hb b hlt)
    exact .inr ⟨b, off, e, hlt, fun i hi => by rw [key, key, key]; exact hc i hi⟩
theorem RdIs.keep {A : Nat} {l : List KT} {w w' : World} (h : RdIs A l w) (hk : ∀ k, k ≤ A → w'.heap[k]? = w.heap[k]?) : RdIs A l w' := by
  obtain ⟨L, a, c, h0, h1, h2, h3⟩ := h.row
  have hlo := h.lo
  exact ⟨⟨L, a, c, h0, by rw [hk A (Nat.le_refl _)]; exact h1, h2.keep (fun k hk' => hk k (by omega)), h3⟩, h.ok, h.vr.keep (fun k hk' => hk k (by omega)), h.lo⟩
theorem RdIs.below {A : Nat} {l : List KT} {w w' : World} (h : RdIs A l w) (hb : Below w.heap.size w w') : RdIs A l w' := h.keep fun k hk => hb.block k (by have := h.lt; omega)
theorem RdIs.set {A b : Nat} {l : List KT} {u : World} (hr : RdIs A l u) (hb : A < b) (o : Nat) (v : Value) : RdIs A l (u.setCell ⟨b, o, none⟩ v) :=
  hr.keep fun k hk => Below.heap_setCell u ⟨b, o, none⟩ v k (fun e => by simp only at e; omega)
/-- its first token -/
theorem RdIs.head {A : Nat} {l : List KT} {w : World} (h : RdIs A l w) : ∃ b off n c p, w.cell? ⟨A, 0, none⟩ = some (.slice (some ⟨b, off, none⟩) (n + 1) c) ∧ w.frozen? ⟨A, 0, none⟩ = false ∧ b < A ∧ n + 1 ≤ c ∧ l.length = n + 1 ∧ n ≤ 300 ∧ w.cell? ⟨b, off, none⟩ = some (.int .i64 (hdT l).1) ∧ w.cell? ⟨b, off + 1, none⟩ = some (.string (hdT l).2) ∧ w.cell? ⟨b, off + 2, none⟩ = some (.int .i64 p) := by
  obtain ⟨L, a, c, h0, h1, h2, h3⟩ := h.row
  have hc := h.ok.cons
  have hlen : l.length = l.tail.length + 1 := by rw [hc]; rfl
  cases L with
  | nil => rw [← h0] at hc; cases hc
  | cons x L =>
    rcases h2 with h2 | ⟨b, off, rfl, hb, hcl⟩
    · cases h2
    · have h4 := hcl 0 (by simp)
      rw [Nat.zero_mul, Nat.add_zero] at h4
      have e : hdT l = x.kt := by rw [← h0]; rfl
      have := h.ok.2
      refine ⟨b, off, l.tail.length, c, x.p, ?_, ?_, hb, by omega, hlen, by omega, ?_, ?_, h4.2.2⟩
      · rw [← hlen]; simp [World.cell?, h1]
      · simp [World.frozen?, h1]
      · rw [e]; exact h4.1
      · rw [e]; exact h4.2.1
/-- the first token is taken -/
theorem RdIs.tail {A : Nat} {l : List KT} {w : World} {b off n c : Nat} (h : RdIs A l w) (hc : w.cell? ⟨A, 0, none⟩ = some (.slice (some ⟨b, off, none⟩) (n + 1) c)) (hk : (hdT l).1 ≠ 5) (a' : Option Addr) (c' : Nat) (ha : a' = some ⟨b, off + 3, none⟩) (hc' : n ≤ c') :
    RdIs A l.tail (w.setCell ⟨A, 0, none⟩ (.slice a' n c')) := by
  obtain ⟨L, a, c0, h0, h1, h2, h3⟩ := h.row
  have hlen : l.length = l.tail.length + 1 := by rw [h.ok.cons]; rfl
  have hc2 : w.cell? ⟨A, 0, none⟩ = some (.slice a l.length c0) := by simp [World.cell?, h1]
  rw [hc2] at hc
  have e1 : a = some ⟨b, off, none⟩ := by injection hc with hc; injection hc
  have e2 : l.length = n + 1 := by injection hc with hc; injection hc
  subst e1
  have hlo := h.lo
  have hkeep : ∀ k, k < A → (w.setCell ⟨A, 0, none⟩ (.slice a' n c')).heap[k]? = w.heap[k]? := fun k hk => Below.heap_setCell w ⟨A, 0, none⟩ _ k (fun e => by simp only at e; omega)
  refine ⟨⟨L.tail, a', c', by rw [← h0, List.map_tail], ?_, ?_, by omega⟩, h.ok.adv hk, h.vr.keep (fun k hk => hkeep k (by omega)), h.lo⟩
  · rw [show l.tail.length = n by omega]
    simp [World.setCell, Array.getElem?_modify, h1]
  · cases L with
    | nil => exact .inl rfl
    | cons x L =>
      rcases h2 with h2 | ⟨b', off', e, hbA, hcell⟩
      · cases h2
      · cases e
        refine .inr ⟨b, off + 3, ha, hbA, fun i hi => ?_⟩
        have key : ∀ o, (w.setCell ⟨A, 0, none⟩ (.slice a' n c')).cell? ⟨b, o, none⟩ = w.cell? ⟨b, o, none⟩ := fun o => World.cell?_of_block (w := w) (a := ⟨b, o, none⟩) (hkeep b hbA)
        have h4 := hcell (i + 1) (by simpa using hi)
        rw [show off + (i + 1) * 3 = off + 3 + i * 3 by omega] at h4
        rw [key, key, key]
        exact h4
def lenCell : Option Value → Nat
  | some (.slice _ n _) => n
  | _ => 0
theorem RdIs.len {A : Nat} {l : List KT} {w : World} (h : RdIs A l w) : lenCell (w.cell? ⟨A, 0, none⟩) = l.length := by
  obtain ⟨L, a, c, _, h1, _⟩ := h.row
  simp [World.cell?, h1, lenCell]
/-- an expression in memory, behind A -/
def ExIs (A : Nat) (w : World) : Option Addr → Ex → Prop
  | p, .nil => p = none
  | p, .node c v nm l r => ∃ B pl pr, p = some ⟨B, 0, none⟩ ∧ A < B ∧ w.heap[B]? = some (.cells #[.int .i64 c, .int .i64 v.k, .int .i64 v.n, .string v.t, .string nm, .pointer pl, .pointer pr] 48 (0, 0)) ∧ ExIs A w pl l ∧ ExIs A w pr r
/-- all blocks but such are as they were -/
def Fr (X : Nat → Obj → Prop) (w w' : World) : Prop := ∀ (k : Nat) (o : Obj), w.heap[k]? = some o → ¬ X k o → w'.heap[k]? = some o
theorem Fr.refl (X : Nat → Obj → Prop) (w : World) : Fr X w w := fun _ _ h _ => h
theorem Fr.trans {X : Nat → Obj → Prop} {w w1 w2 : World} (h : Fr X w w1) (k : Fr X w1 w2) : Fr X w w2 := fun i o hi hx => k i o (h i o hi hx) hx
theorem Fr.mono {X Y : Nat → Obj → Prop} {w w' : World} (h : Fr X w w') (hXY : ∀ k o, X k o → Y k o) : Fr Y w w' := fun k o hk hy => h k o hk (fun hx => hy (hXY k o hx))
theorem Fr.of_below {X : Nat → Obj → Prop} {w w' : World} (h : Below w.heap.size w w') : Fr X w w' := fun k o hk _ => by
  rw [h.block k (Array.getElem?_eq_some_iff.1 hk).1]; exact hk
theorem Fr.of_grown {X : Nat → Obj → Prop} {w w' : World} {A : Nat} (hX : ∀ o, X A o) (h : w.grownBy w' (some A)) : Fr X w w' := fun k o hk hx => by
  rw [h.block k (Array.getElem?_eq_some_iff.1 hk).1 (fun e => by cases e; exact hx (hX o))]; exact hk
theorem Fr.set {X : Nat → Obj → Prop} {w : World} {b : Nat} (hX : ∀ o, X b o) (i : Nat) (v : Value) : Fr X w (w.setCell ⟨b, i, none⟩ v) := fun k o hk hx => by
  rw [Below.heap_setCell w ⟨b, i, none⟩ v k (fun e => by simp only at e; subst e; exact hx (hX o))]; exact hk
theorem ExIs.fr {A : Nat} {X : Nat → Obj → Prop} {w w' : World} (h : Fr X w w') (hX : ∀ k cs fz, A < k → w.heap[k]? = some (.cells cs 48 fz) → ¬ X k (.cells cs 48 fz)) (q : Ex) : ∀ {p : Option Addr}, ExIs A w p q → ExIs A w' p q := by
  induction q with
  | nil => intro p h; exact h
  | node c v nm a b ha hb =>
    intro p hq
    obtain ⟨B, pa, pb, e, h1, h3, qa, qb⟩ := hq
    exact ⟨B, pa, pb, e, h1, h B _ h3 (hX B _ _ h1 h3), ha qa, hb qb⟩
theorem ExIs.grownN {A n : Nat} {w w' : World} (hn : A ≤ n) (hg : w.grownBy w' (some A)) {q : Ex} {p : Option Addr} (h : ExIs n w p q) : ExIs n w' p q :=
  ExIs.fr (X := fun k _ => k = A) (Fr.of_grown (fun _ => rfl) hg) (fun k _ _ hk _ e => by omega) q h
theorem ExIs.mono {n m : Nat} {w : World} (hm : m ≤ n) {q : Ex} : ∀ {p : Option Addr}, ExIs n w p q → ExIs m w p q := by
  induction q with
  | nil => intro p h; exact h
  | node c v nm a b ha hb =>
    intro p h
    obtain ⟨B, pa, pb, e, h1, hc, qa, qb⟩ := h
    exact ⟨B, pa, pb, e, by omega, hc, ha qa, hb qb⟩
theorem ExIs.below {A : Nat} {w w' : World} (hb : Below w.heap.size w w') {q : Ex} {p : Option Addr} (h : ExIs A w p q) : ExIs A w' p q :=
  ExIs.fr (X := fun _ _ => False) (Fr.of_below hb) (fun _ _ _ _ _ e => e) q h
theorem ExIs.box {A : Nat} {w : World} (hA : A < w.heap.size) (c : Int) (v : Vl) (nm : ByteArray) (pl pr : Option Addr) (l r : Ex) (hl : ExIs A w pl l) (hr : ExIs A w pr r) :
    ExIs A (w.alloc (.cells #[.int .i64 c, .int .i64 v.k, .int .i64 v.n, .string v.t, .string nm, .pointer pl, .pointer pr] 48)) (some ⟨w.heap.size, 0, none⟩) (.node c v nm l r) := by
  have hb : Below w.heap.size w (w.alloc (.cells #[.int .i64 c, .int .i64 v.k, .int .i64 v.n, .string v.t, .string nm, .pointer pl, .pointer pr] 48)) := (Below.refl _ _).alloc (Nat.le_refl _) _
  exact ⟨w.heap.size, pl, pr, rfl, hA, heap_alloc_new _ _, hl.below hb, hr.below hb⟩
theorem exNil (A : Nat) (w : World) : ExIs A w none .nil := rfl
/-- what is thrown -/
def Thr (e : Ending) : Prop := ∃ n p : Int, e = .panicked [{ v := .iface 102 (.agg #[.int .i64 n, .int .i64 p]), recovered := false }]
/-- what a reading function tells -/
def Told (A : Nat) (R : Option (Ex × List KT)) (w : World) (e : Ending) (w' : World) : Prop :=
  w.grownBy w' (some A) ∧ ((∃ x l p, R = some (x, l) ∧ e = .returned (.pointer p) ∧ ExIs (w.heap.size - 1) w' p x ∧ RdIs A l w') ∨ (R = none ∧ Thr e))
theorem Told.from {A : Nat} {R : Option (Ex × List KT)} {w W w' : World} {e : Ending} (h : Told A R W e w') (hg : w.grownBy W (some A)) : Told A R w e w' := by
  obtain ⟨h1, h2⟩ := h
  refine ⟨hg.trans h1, ?_⟩
  rcases h2 with ⟨x, l, p, a, b, c, d⟩ | h2
  · exact .inl ⟨x, l, p, a, b, c.mono (by have := hg.size; omega), d⟩
  · exact .inr h2
/-- a new box over what was read -/
theorem box_told {A q0 : Nat} {w0 w : World} (hq : q0 < w0.heap.size) (c : Int) (v : Vl) (nm : ByteArray) (pl pr : Option Addr) (l r : Ex) {t : List KT} (hr : RdIs A t w) (hl : ExIs q0 w pl l) (hrr : ExIs q0 w pr r) (hg : w0.grownBy w (some A)) :
    w0.grownBy (w.alloc (.cells #[.int .i64 c, .int .i64 v.k, .int .i64 v.n, .string v.t, .string nm, .pointer pl, .pointer pr] 48)) (some A) ∧ ExIs q0 (w.alloc (.cells #[.int .i64 c, .int .i64 v.k, .int .i64 v.n, .string v.t, .string nm, .pointer pl, .pointer pr] 48)) (some ⟨w.heap.size, 0, none⟩) (.node c v nm l r) ∧ RdIs A t (w.alloc (.cells #[.int .i64 c, .int .i64 v.k, .int .i64 v.n, .string v.t, .string nm, .pointer pl, .pointer pr] 48)) := by
  have hs := hg.size
  exact ⟨hg.trans (grown_alloc _ _ _), ExIs.box (by omega) c v nm pl pr l r hl hrr, hr.below ((Below.refl _ _).alloc (Nat.le_refl _) _)⟩
end Go.Proofs.YtbdcbaamjkjhaaaGreatDoor
namespace Go.Proofs.YtbdcbaamjkjhaaaGreatDoor
open Go.RowKit

theorem ba_beq (a b : ByteArray) : (a.toList == b.toList) = decide (a = b) := by
  rw [Bool.eq_iff_iff, beq_iff_eq, decide_eq_true_eq]
  exact ⟨fun h => ba_ext (by rw [← ByteArray.toList_eq, ← ByteArray.toList_eq, h]), fun h => by rw [h]⟩
theorem results_c {P : Program} {fn : Func} {p : Tmp} {ty : TypeId} {v : Value} (h : fn.results = #[.cell p ty]) (tmps : Array Value) (w : World) (a : Addr) (hp : tmps.getD p undef = .pointer (some a)) (hl : (loadVar ty a).run P w = .ok v w) :
    (results fn tmps).run P w = .ok v w := by
  have hp' : tmps[p]?.getD undef = .pointer (some a) := by simpa [Array.getD_eq_getD_getElem?] using hp
  simp [results, h, hp', asAddr, hl]
theorem field0 (k p : Int) (t : ByteArray) (w : World) : (Instr.field 100 (.agg #[.int .i64 k, .string t, .int .i64 p]) 0).run Tryz.prog w = .ok (.int .i64 k) w := by kernel_rfl
theorem field1 (k p : Int) (t : ByteArray) (w : World) : (Instr.field 100 (.agg #[.int .i64 k, .string t, .int .i64 p]) 1).run Tryz.prog w = .ok (.string t) w := by kernel_rfl
theorem field2 (k p : Int) (t : ByteArray) (w : World) : (Instr.field 100 (.agg #[.int .i64 k, .string t, .int .i64 p]) 2).run Tryz.prog w = .ok (.int .i64 p) w := by kernel_rfl
set_option maxHeartbeats 2000000 in
theorem now_any (A : Nat) (l : List KT) (w : World) (h : RdIs A l w) : Calls Tryz.prog 52 #[.pointer (some ⟨A, 0, none⟩)] w fun e w' => (∃ p : Int, e = .returned (.agg #[.int .i64 (hdT l).1, .string (hdT l).2, .int .i64 p])) ∧ Below w.heap.size w w' := by
  obtain ⟨W, hW⟩ : ∃ W, w.alloc (.cells #[.int .i64 0, .string ⟨#[]⟩, .int .i64 0] 100) = W := ⟨_, rfl⟩
  have hbW : Below w.heap.size w W := by rw [← hW]; exact (Below.refl _ _).alloc (Nat.le_refl _) _
  have HB : Hid (Below w.heap.size w W) := hbW
  obtain ⟨b, off, n, c, p, h1, _, h2, h3, h4, h5, k0, k1, k2⟩ := (h.below hbW).head
  have hA := h.lt
  have z0 : W.cell? ⟨w.heap.size, 0, none⟩ = some (.int .i64 0) := by rw [← hW]; simp [go_sem]
  have z1 : W.cell? ⟨w.heap.size, 1, none⟩ = some (.string ⟨#[]⟩) := by rw [← hW]; simp [go_sem]
  have z2 : W.cell? ⟨w.heap.size, 2, none⟩ = some (.int .i64 0) := by rw [← hW]; simp [go_sem]
  have f0 : ∀ i, W.frozen? ⟨w.heap.size, i, none⟩ = false := fun i => by
    have := heap_alloc_new w (.cells #[.int .i64 0, .string ⟨#[]⟩, .int .i64 0] 100)
    rw [hW] at this
    simp [World.frozen?, this]
  clear h h4 hbW
  generalize (hdT l).1 = k at *
  generalize (hdT l).2 = t at *
  go_enter Tryz.func52, Tryz.ntmps52
  go_wp2
  refine bodyPost_ret (v := .agg #[.int .i64 k, .string t, .int .i64 p]) (results_c Tryz.results52 _ _ _ rfl ?_) rfl ?_
  · simp [go_sem, z0, z1, z2]
  · exact ⟨⟨p, rfl⟩, (((HB.out.setCell (Nat.le_refl _) _).setCell (Nat.le_refl _) _).setCell (Nat.le_refl _) _)⟩
set_option maxHeartbeats 2000000 in
theorem take_any (A : Nat) (l : List KT) (w : World) (h : RdIs A l w) (hk : (hdT l).1 ≠ 5) : Calls Tryz.prog 97 #[.pointer (some ⟨A, 0, none⟩)] w fun e w' => e = .returned (.tuple #[]) ∧ RdIs A l.tail w' ∧ w.grownBy w' (some A) := by
  have H : Hid (RdIs A l w) := h
  have h2 := h.ok.two hk
  have HK : Hid ((hdT l).1 ≠ 5) := hk
  obtain ⟨b, off, n, c, p, h3, hf, h4, h5, h6, h7, _, _, _⟩ := h.head
  have HC : Hid (w.cell? ⟨A, 0, none⟩ = some (.slice (some ⟨b, off, none⟩) (n + 1) c)) := h3
  have hn1 : 1 ≤ n := by omega
  have hc2 : 1 < c := by omega
  have hnc : n ≤ c - 1 := by omega
  clear h hk h6 h2
  go_enter Tryz.func97, Tryz.ntmps97
  go_wp2
  go_end0
  exact ⟨rfl, H.out.tail HC.out HK.out _ _ rfl hnc, grownA_set _ _ _ _⟩
theorem must_yes (A : Nat) (w : World) : Calls Tryz.prog 51 #[.pointer (some ⟨A, 0, none⟩), .bool true] w fun e w' => e = .returned (.tuple #[]) ∧ w' = w := by
  go_enter Tryz.func51, Tryz.ntmps51
  go_wp2
  go_end0
  exact ⟨rfl, rfl⟩
theorem must_no (A : Nat) (l : List KT) (w : World) (h : RdIs A l w) : Calls Tryz.prog 51 #[.pointer (some ⟨A, 0, none⟩), .bool false] w fun e w' => Thr e ∧ Below w.heap.size w w' := by
  have H : Hid (RdIs A l w) := h
  clear h
  generalize hk : (hdT l).1 = k
  generalize ht : (hdT l).2 = t
  have HE : Hid ((hdT l).1 = k ∧ (hdT l).2 = t) := ⟨hk, ht⟩
  clear hk ht
  have hf := field2 k
  go_enter Tryz.func51, Tryz.ntmps51
  go_wp2_with fail
  refine (now_any A l w H.out).mono ?_
  rintro _ w1 ⟨⟨p, rfl⟩, hb1⟩
  rw [HE.out.1, HE.out.2]
  have HB : Hid (Below w.heap.size w w1) := hb1
  clear hb1
  go_wp2
  exact ⟨rfl, ⟨3, p, rfl⟩, HB.out⟩
theorem most_yes (A : Nat) (n m : Int) (hn : n ≤ m) (w : World) : Calls Tryz.prog 123 #[.pointer (some ⟨A, 0, none⟩), .int .i64 n, .int .i64 m] w fun e w' => e = .returned (.tuple #[]) ∧ w' = w := by
  have d : decide (m < n) = false := decide_eq_false (by omega)
  clear hn
  go_enter Tryz.func123, Tryz.ntmps123
  go_wp2
  go_end0
  exact ⟨rfl, rfl⟩
theorem most_no (A : Nat) (l : List KT) (n m : Int) (hn : m < n) (w : World) (h : RdIs A l w) : Calls Tryz.prog 123 #[.pointer (some ⟨A, 0, none⟩), .int .i64 n, .int .i64 m] w fun e w' => Thr e ∧ Below w.heap.size w w' := by
  have d : decide (m < n) = true := decide_eq_true hn
  have H : Hid (RdIs A l w) := h
  clear h hn
  generalize hk : (hdT l).1 = k
  generalize ht : (hdT l).2 = t
  have HE : Hid ((hdT l).1 = k ∧ (hdT l).2 = t) := ⟨hk, ht⟩
  clear hk ht
  have hf := field2 k
  go_enter Tryz.func123, Tryz.ntmps123
  go_wp2_with fail
  refine (now_any A l w H.out).mono ?_
  rintro _ w1 ⟨⟨p, rfl⟩, hb1⟩
  rw [HE.out.1, HE.out.2]
  have HB : Hid (Below w.heap.size w w1) := hb1
  clear hb1
  go_wp2
  exact ⟨rfl, ⟨4, p, rfl⟩, HB.out⟩
set_option maxHeartbeats 2000000 in
theorem is_any (A : Nat) (l : List KT) (s : ByteArray) (x : Bool) (hx : isT s l = x) (w : World) (h : RdIs A l w) : Calls Tryz.prog 96 #[.pointer (some ⟨A, 0, none⟩), .string s] w fun e w' => e = .returned (.bool x) ∧ Below w.heap.size w w' := by
  have H : Hid (RdIs A l w) := h
  obtain ⟨b1, e1⟩ : ∃ b, decide ((hdT l).2 = s) = b := ⟨_, rfl⟩
  obtain ⟨b2, e2⟩ : ∃ b, ((hdT l).1 == 1) = b := ⟨_, rfl⟩
  obtain ⟨b3, e3⟩ : ∃ b, ((hdT l).1 == 4) = b := ⟨_, rfl⟩
  have HX : Hid (x = ((b2 || b3) && b1)) := by
    show _ = _
    rw [← hx, isT, e1, ← e2, ← e3]; rfl
  have d1 : ((hdT l).2.toList == s.toList) = b1 := by rw [ba_beq]; exact e1
  clear h hx e1
  generalize hk : (hdT l).1 = k at *
  generalize ht : (hdT l).2 = t at *
  have HE : Hid ((hdT l).1 = k ∧ (hdT l).2 = t) := ⟨hk, ht⟩
  clear hk ht
  cases b1 <;> cases b2 <;> cases b3 <;> first
    | (exfalso; rw [beq_iff_eq] at e2 e3; omega)
    | (go_enter Tryz.func96, Tryz.ntmps96
       go_wp2_with fail
       refine (now_any A l w H.out).mono ?_
       rintro _ w1 ⟨⟨p, rfl⟩, hb1⟩
       rw [HE.out.1, HE.out.2]
       have HB : Hid (Below w.heap.size w w1) := hb1
       have HS : Hid (w.heap.size ≤ w1.heap.size) := hb1.size
       clear hb1
       go_wp2
       go_ret
       exact ⟨ret_bool (by rw [HX.out]; rfl), HB.out.alloc HS.out _⟩)
set_option maxHeartbeats 2000000 in
theorem has_any (A : Nat) (l : List KT) (s : ByteArray) (x : Bool) (hx : isT s l = x) (w : World) (h : RdIs A l w) : Calls Tryz.prog 50 #[.pointer (some ⟨A, 0, none⟩), .string s] w fun e w' => e = .returned (.bool x) ∧ RdIs A (if x then l.tail else l) w' ∧ w.grownBy w' (some A) := by
  have H : Hid (RdIs A l w) := h
  have HX : Hid (isT s l = x) := hx
  clear h hx
  cases x
  · go_enter Tryz.func50, Tryz.ntmps50
    go_wp2_with fail
    refine (is_any A l s false HX.out w H.out).mono ?_
    rintro _ w1 ⟨rfl, hb1⟩
    have HB : Hid (Below w.heap.size w w1) := hb1
    clear hb1
    go_wp2
    go_ret
    exact ⟨rfl, H.out.below HB.out, grown_of_belowA HB.out _⟩
  · go_enter Tryz.func50, Tryz.ntmps50
    go_wp2_with fail
    refine (is_any A l s true HX.out w H.out).mono ?_
    rintro _ w1 ⟨rfl, hb1⟩
    have HB : Hid (Below w.heap.size w w1) := hb1
    clear hb1
    go_wp2_with fail
    refine (take_any A l w1 (H.out.below HB.out) (isT_ne HX.out)).mono ?_
    rintro _ w2 ⟨rfl, hr2, hg2⟩
    have HR : Hid (RdIs A l.tail w2 ∧ w.grownBy w2 (some A)) := ⟨hr2, (grown_of_belowA HB.out _).trans hg2⟩
    clear hr2 hg2
    go_wp2
    go_ret
    exact ⟨rfl, HR.out⟩
/-- what need tells -/
def ToldU (A : Nat) (R : Option (List KT)) (w : World) (e : Ending) (w' : World) : Prop :=
  w.grownBy w' (some A) ∧ ((∃ l, R = some l ∧ e = .returned (.tuple #[]) ∧ RdIs A l w') ∨ (R = none ∧ Thr e))
set_option maxHeartbeats 2000000 in
theorem need_any (A : Nat) (l : List KT) (s : ByteArray) (w : World) (h : RdIs A l w) : Calls Tryz.prog 90 #[.pointer (some ⟨A, 0, none⟩), .string s] w fun e w' => ToldU A (needF s l) w e w' := by
  have H : Hid (RdIs A l w) := h
  obtain ⟨x, hx⟩ : ∃ x, isT s l = x := ⟨_, rfl⟩
  have HX : Hid (isT s l = x) := hx
  have HN : Hid (needF s l = if x then some l.tail else none) := by show needF s l = _; unfold needF; rw [hx]
  clear h hx
  go_enter Tryz.func90, Tryz.ntmps90
  go_wp2_with fail
  refine (has_any A l s x HX.out w H.out).mono ?_
  rintro _ w1 ⟨rfl, hr1, hg1⟩
  have HR : Hid (RdIs A (if x then l.tail else l) w1 ∧ w.grownBy w1 (some A)) := ⟨hr1, hg1⟩
  clear hr1 hg1
  cases x
  · go_wp2_with fail
    refine (must_no A _ w1 HR.out.1).mono ?_
    rintro _ w2 ⟨⟨n, p, rfl⟩, hb2⟩
    have HB : Hid (w.grownBy w2 (some A)) := HR.out.2.trans (grown_of_belowA hb2 _)
    clear hb2
    go_wp2
    exact ⟨rfl, HB.out, .inr ⟨HN.out, n, p, rfl⟩⟩
  · go_wp2_with fail
    refine (must_yes A w1).mono ?_
    rintro _ w2 ⟨rfl, rfl⟩
    go_wp2
    go_end0
    exact ⟨HR.out.2, .inl ⟨_, HN.out, rfl, HR.out.1⟩⟩
end Go.Proofs.YtbdcbaamjkjhaaaGreatDoor
namespace Go.Proofs.YtbdcbaamjkjhaaaGreatDoor
open Go.RowKit

theorem ixP (k : Nat) (hk : k < 11) (W : World) : (Instr.index 198 (.agg pairCells.toArray) (.int .i64 (k : Int))).run Tryz.prog W = .ok (.agg #[.int .i64 (pairL.getD k (0, ⟨#[]⟩, 0)).1, .string (pairL.getD k (0, ⟨#[]⟩, 0)).2.1, .int .i64 (pairL.getD k (0, ⟨#[]⟩, 0)).2.2]) W :=
  match k, hk with
  | 0, _ => by kernel_rfl
  | 1, _ => by kernel_rfl
  | 2, _ => by kernel_rfl
  | 3, _ => by kernel_rfl
  | 4, _ => by kernel_rfl
  | 5, _ => by kernel_rfl
  | 6, _ => by kernel_rfl
  | 7, _ => by kernel_rfl
  | 8, _ => by kernel_rfl
  | 9, _ => by kernel_rfl
  | 10, _ => by kernel_rfl
  | n + 11, h => absurd h (by omega)
/-- the code whose sign of this level stands there -/
def betA (ps : List (Int × ByteArray × Int)) (lv : Int) (l : List KT) : Int := match ps.find? (fun p => decide (p.2.2 = lv) && isT p.2.1 l) with
  | some p => p.1
  | none => 0
theorem bet_step (k : Nat) (hk : k < 11) (lv : Int) (l : List KT) : betA (pairL.drop k) lv l = if (decide ((pairL.getD k (0, ⟨#[]⟩, 0)).2.2 = lv) && isT (pairL.getD k (0, ⟨#[]⟩, 0)).2.1 l) = true then (pairL.getD k (0, ⟨#[]⟩, 0)).1 else betA (pairL.drop (k + 1)) lv l := by
  have e : pairL.getD k (0, ⟨#[]⟩, 0) = pairL[k]'hk := by simp [List.getD, show k < pairL.length from hk]; rfl
  unfold betA
  rw [List.drop_eq_getElem_cons (show k < pairL.length from hk), List.find?_cons, e]
  cases decide ((pairL[k]'hk).2.2 = lv) && isT (pairL[k]'hk).2.1 l <;> rfl
theorem code_pos (k : Nat) (hk : k < 11) : (pairL.getD k (0, ⟨#[]⟩, 0)).1 ≠ 0 :=
  match k, hk with
  | 0, _ => by decide
  | 1, _ => by decide
  | 2, _ => by decide
  | 3, _ => by decide
  | 4, _ => by decide
  | 5, _ => by decide
  | 6, _ => by decide
  | 7, _ => by decide
  | 8, _ => by decide
  | 9, _ => by decide
  | 10, _ => by decide
  | n + 11, h => absurd h (by omega)
/-- what between tells -/
def ToldB (A : Nat) (C : Int) (l : List KT) (w : World) (e : Ending) (w' : World) : Prop :=
  e = .returned (.int .i64 C) ∧ w.grownBy w' (some A) ∧ RdIs A (if C = 0 then l else l.tail) w'
set_option maxRecDepth 100000 in
set_option maxHeartbeats 8000000 in
theorem between_any (A : Nat) (l : List KT) (lv : Int) (w : World) (h : RdIs A l w) : Calls Tryz.prog 164 #[.pointer (some ⟨A, 0, none⟩), .int .i64 lv] w fun e w' => ToldB A (betA pairL lv l) l w e w' := by
  have H : Hid (RdIs A l w) := h
  obtain ⟨C, hC⟩ : ∃ C, betA pairL lv l = C := ⟨_, rfl⟩
  rw [hC]
  have HC : Hid (betA (pairL.drop 0) lv l = C) := hC
  have hsz : (Tryz.prog.info? 198).map (·.size) = some pairCells.length := by kernel_rfl
  clear h hC
  go_enter Tryz.func164, Tryz.ntmps164
  go_wp2_with (refine wpList_load_mid rfl 198 _ rfl _ 0 rfl pairCells _ H.out.vr.pr Tryz.underlying198 rfl hsz ?_)
  clear hsz
  go_loopw [8] (fun i wr => ∃ k : Nat, k ≤ 11 ∧ i = .int .i64 k ∧ Hid (betA (pairL.drop k) lv l = C) ∧ Hid (RdIs A l wr ∧ w.grownBy wr (some A))) (fun i _ => 11 - (intOf i).toNat)
  case atStart => exact ⟨0, Nat.zero_le _, rfl, HC, H.out, grownA_refl _ _⟩
  case round =>
    clear HC
    obtain ⟨k, hk, rfl, he, HR⟩ := hrel
    obtain ⟨wo, rfl⟩ : ∃ wo, wo = wr := ⟨_, rfl⟩
    by_cases hlt : k < 11
    · have hix := ixP k hlt wo
      have hst := he.out
      have hcp := code_pos k hlt
      rw [bet_step k hlt] at hst
      generalize pairL.getD k (0, ⟨#[]⟩, 0) = m at *
      obtain ⟨mc, ms, ml⟩ := m
      simp only at *
      have hk' : (k : Int) < 11 := by omega
      obtain ⟨b1, hb1⟩ : ∃ b, (ml == lv) = b := ⟨_, rfl⟩
      have hb1' : decide (ml = lv) = b1 := hb1
      rw [hb1'] at hst
      obtain ⟨W, hW⟩ : ∃ W, wo.alloc (.cells #[.int .i64 mc, .string ms, .int .i64 ml] 197) = W := ⟨_, rfl⟩
      have hbW : Below wo.heap.size wo W := by rw [← hW]; exact (Below.refl _ _).alloc (Nat.le_refl _) _
      have hzW : W.heap.size = wo.heap.size + 1 := by rw [← hW]; simp
      have z0 : W.cell? ⟨wo.heap.size, 0, none⟩ = some (.int .i64 mc) := by rw [← hW]; simp [go_sem]
      have z1 : W.cell? ⟨wo.heap.size, 1, none⟩ = some (.string ms) := by rw [← hW]; simp [go_sem]
      have z2 : W.cell? ⟨wo.heap.size, 2, none⟩ = some (.int .i64 ml) := by rw [← hW]; simp [go_sem]
      have HW : Hid (RdIs A l W ∧ w.grownBy W (some A)) := ⟨HR.out.1.below hbW, HR.out.2.trans (grown_of_belowA hbW _)⟩
      have hAo := HR.out.1.lt
      have HZ : Hid (∀ wx, W.grownBy wx (some A) → wx.cell? ⟨wo.heap.size, 0, none⟩ = some (.int .i64 mc)) := fun wx hg => by
        rw [World.cell?_of_block (w := W) (a := ⟨wo.heap.size, 0, none⟩) (hg.block wo.heap.size (by omega) (fun e => by cases e; omega))]; exact z0
      clear hb1' he hbW
      cases b1
      · have HS : Hid (betA (pairL.drop (k + 1)) lv l = C) := by rw [Bool.false_and, if_neg (by decide)] at hst; exact hst
        clear hst HR
        go_wp2
        go_roundw
        case rel => exact ⟨k + 1, by omega, by go_num, HS, HW⟩
        case measure => simp [intOf]; omega
      · obtain ⟨b2, hb2⟩ : ∃ b, isT ms l = b := ⟨_, rfl⟩
        have HT : Hid (isT ms l = b2) := hb2
        rw [hb2, Bool.true_and] at hst
        clear hb2 HR
        go_wp2_with fail
        refine (has_any A l ms b2 HT.out W HW.out.1).mono ?_
        rintro _ w2 ⟨rfl, hr2, hg2⟩
        have H2 : Hid (RdIs A (if b2 then l.tail else l) w2 ∧ w.grownBy w2 (some A)) := ⟨hr2, HW.out.2.trans hg2⟩
        have y0 := HZ.out w2 hg2
        clear hr2 hg2
        cases b2
        · have HS : Hid (betA (pairL.drop (k + 1)) lv l = C) := by rw [if_neg (by decide)] at hst; exact hst
          clear hst
          go_wp2
          go_roundw
          case rel => exact ⟨k + 1, by omega, by go_num, HS, H2⟩
          case measure => simp [intOf]; omega
        · have e : mc = C := by rw [if_pos rfl] at hst; exact hst
          clear hst
          subst e
          go_wp2
          go_ret
          exact ⟨rfl, H2.out.2, by rw [if_neg hcp]; exact H2.out.1⟩
    · obtain rfl : k = 11 := by omega
      have e : 0 = C := by rw [← he.out]; rfl
      subst e
      clear he
      go_wp2
      go_ret
      exact ⟨rfl, HR.out.2, HR.out.1⟩
/-- a level's signs -/
def SgOf (lv : Int) (sg : List (ByteArray × Int)) : Prop := ∀ l, (∃ s, sg.find? (fun s => isT s.1 l) = some s ∧ betA pairL lv l = s.2 ∧ s.2 ≠ 0) ∨ (sg.find? (fun s => isT s.1 l) = none ∧ betA pairL lv l = 0)
theorem sg_or : SgOf 1 orS := fun l => by
  cases h : isT ⟨#[111, 114]⟩ l <;> simp [betA, pairL, orS, h]
theorem sg_and : SgOf 2 andS := fun l => by
  cases h : isT ⟨#[97, 110, 100]⟩ l <;> simp [betA, pairL, andS, h]
theorem sg_cmp : SgOf 4 cmpS := fun l => by
  cases h1 : isT ⟨#[61]⟩ l <;> cases h2 : isT ⟨#[60, 62]⟩ l <;> cases h3 : isT ⟨#[60]⟩ l <;> cases h4 : isT ⟨#[60, 61]⟩ l <;> cases h5 : isT ⟨#[62]⟩ l <;> cases h6 : isT ⟨#[62, 61]⟩ l <;> simp [betA, pairL, cmpS, h1, h2, h3, h4, h5, h6]
theorem sg_sum : SgOf 5 sumS := fun l => by
  cases h1 : isT ⟨#[43]⟩ l <;> cases h2 : isT ⟨#[45]⟩ l <;> simp [betA, pairL, sumS, h1, h2]
theorem sg_mul : SgOf 6 mulS := fun l => by
  cases h : isT ⟨#[42]⟩ l <;> simp [betA, pairL, mulS, h]
theorem bet_any {lv : Int} {sg : List (ByteArray × Int)} (hs : SgOf lv sg) (A : Nat) (l : List KT) (w : World) (h : RdIs A l w) : Calls Tryz.prog 164 #[.pointer (some ⟨A, 0, none⟩), .int .i64 lv] w fun e w' =>
    w.grownBy w' (some A) ∧ ((∃ s, sg.find? (fun s => isT s.1 l) = some s ∧ s.2 ≠ 0 ∧ e = .returned (.int .i64 s.2) ∧ RdIs A l.tail w') ∨ (sg.find? (fun s => isT s.1 l) = none ∧ e = .returned (.int .i64 0) ∧ RdIs A l w')) := by
  refine (between_any A l lv w h).mono ?_
  rintro e w' ⟨rfl, hg, hr⟩
  refine ⟨hg, ?_⟩
  rcases hs l with ⟨s, h1, h2, h3⟩ | ⟨h1, h2⟩
  · rw [h2, if_neg h3] at hr
    exact .inl ⟨s, h1, h3, by rw [h2], hr⟩
  · rw [h2, if_pos rfl] at hr
    exact .inr ⟨h1, by rw [h2], hr⟩
end Go.Proofs.YtbdcbaamjkjhaaaGreatDoor
namespace Go.Proofs.YtbdcbaamjkjhaaaGreatDoor
open Go.RowKit

theorem keep_cell {A : Nat} {w w' : World} (hg : w.grownBy w' (some A)) {b o : Nat} {v : Value} (hb : b < w.heap.size) (hA : b ≠ A) (h : w.cell? ⟨b, o, none⟩ = some v) : w'.cell? ⟨b, o, none⟩ = some v := by
  rw [World.cell?_of_block (w := w) (a := ⟨b, o, none⟩) (hg.block b hb (fun e => by cases e; exact hA rfl))]; exact h
/-- the boxes of the reader and of how deep it stands -/
structure BoxAt (A x y n : Nat) (w : World) : Prop where
  cx : w.cell? ⟨x, 0, none⟩ = some (.pointer (some ⟨A, 0, none⟩))
  cy : w.cell? ⟨y, 0, none⟩ = some (.int .i64 (n : Int))
  lx : x < w.heap.size
  ly : y < w.heap.size
  nx : x ≠ A
  ny : y ≠ A
theorem BoxAt.grown {A x y n : Nat} {w w' : World} (h : BoxAt A x y n w) (hg : w.grownBy w' (some A)) : BoxAt A x y n w' :=
  ⟨keep_cell hg h.lx h.nx h.cx, keep_cell hg h.ly h.ny h.cy, Nat.lt_of_lt_of_le h.lx hg.size, Nat.lt_of_lt_of_le h.ly hg.size, h.nx, h.ny⟩
theorem box_new {A : Nat} {w : World} (n : Nat) (hA : A < w.heap.size) : BoxAt A w.heap.size (w.heap.size + 1) n ((w.alloc (.cells #[.pointer (some ⟨A, 0, none⟩)] 104)).alloc (.cells #[.int .i64 (n : Int)] 3)) := by
  have h1 : (w.alloc (.cells #[.pointer (some ⟨A, 0, none⟩)] 104)).cell? ⟨w.heap.size, 0, none⟩ = some (.pointer (some ⟨A, 0, none⟩)) := by simp [go_sem]
  have hb : Below (w.alloc (.cells #[.pointer (some ⟨A, 0, none⟩)] 104)).heap.size (w.alloc (.cells #[.pointer (some ⟨A, 0, none⟩)] 104)) ((w.alloc (.cells #[.pointer (some ⟨A, 0, none⟩)] 104)).alloc (.cells #[.int .i64 (n : Int)] 3)) := (Below.refl _ _).alloc (Nat.le_refl _) _
  have h2 : ((w.alloc (.cells #[.pointer (some ⟨A, 0, none⟩)] 104)).alloc (.cells #[.int .i64 (n : Int)] 3)).cell? ⟨(w.alloc (.cells #[.pointer (some ⟨A, 0, none⟩)] 104)).heap.size, 0, none⟩ = some (.int .i64 (n : Int)) := by simp [go_sem]
  have e : (w.alloc (.cells #[.pointer (some ⟨A, 0, none⟩)] 104)).heap.size = w.heap.size + 1 := by simp
  rw [e] at h2
  exact ⟨(hb.cell (p := ⟨w.heap.size, 0, none⟩) (by simp)).trans h1, h2, by simp; omega, by simp, by omega, by omega⟩
theorem chain_stop {F : Rf Ex} {sg : List (ByteArray × Int)} {l : List KT} (h : sg.find? (fun s => isT s.1 l) = none) (f : Nat) (e : Ex) : chainL F sg f e l = some (e, l) := by
  cases f with
  | zero => rfl
  | succ f => rw [chainL, h]
theorem chain_step {F : Rf Ex} (hF : Reads F) {sg : List (ByteArray × Int)} {l : List KT} (hl : OkT l) {s : ByteArray × Int} (h : sg.find? (fun s => isT s.1 l) = some s) (e : Ex) : chainL F sg l.length e l = (F l.tail).bind fun x => chainL F sg x.2.length (.two s.2 e x.1) x.2 := by
  have h1 : l.length = l.tail.length + 1 := by rw [hl.cons]; rfl
  rw [h1, chainL, h]
  cases hb : F l.tail with
  | none => rfl
  | some y =>
    have h3 := hF _ (hl.seen (find_is h)) y hb
    exact chainL_fuel hF sg _ _ _ _ h3.1 h3.2 (Nat.le_refl _)
/-- the state at the head of a chain's loop -/
def ChSt (A q0 : Nat) (F : Rf Ex) (sg : List (ByteArray × Int)) (w0 : World) (R : Option (Ex × List KT)) (c : Int) (p : Option Addr) (e : Ex) (l : List KT) (w : World) : Prop :=
  (c = 0 ∧ R = some (e, l) ∨ c ≠ 0 ∧ R = (F l).bind fun x => chainL F sg x.2.length (.two c e x.1) x.2) ∧ ExIs q0 w p e ∧ RdIs A l w ∧ w0.grownBy w (some A)
theorem ch_of {A q0 : Nat} {F : Rf Ex} (hF : Reads F) {sg : List (ByteArray × Int)} {w0 w w' : World} {R : Option (Ex × List KT)} {p : Option Addr} {e : Ex} {l : List KT} {en : Ending} (hq : A ≤ q0) (hR : chainL F sg l.length e l = R) (hx : ExIs q0 w p e) (hl : OkT l) (h0 : w0.grownBy w (some A)) (hg : w.grownBy w' (some A))
    (h : (∃ s, sg.find? (fun s => isT s.1 l) = some s ∧ s.2 ≠ 0 ∧ en = .returned (.int .i64 s.2) ∧ RdIs A l.tail w') ∨ (sg.find? (fun s => isT s.1 l) = none ∧ en = .returned (.int .i64 0) ∧ RdIs A l w')) :
    ∃ (c : Int) (l' : List KT), en = .returned (.int .i64 c) ∧ ChSt A q0 F sg w0 R c p e l' w' ∧ 2 * l'.length + (if c = 0 then 0 else 1) ≤ 2 * l.length := by
  rcases h with ⟨s, h1, h2, h3, h4⟩ | ⟨h1, h3, h4⟩
  · have := hl.cons
    have hlen : l.length = l.tail.length + 1 := by rw [this]; rfl
    exact ⟨s.2, l.tail, h3, ⟨.inr ⟨h2, by rw [← hR]; exact chain_step hF hl h1 e⟩, ExIs.grownN hq hg hx, h4, h0.trans hg⟩, by rw [if_neg h2]; omega⟩
  · exact ⟨0, l, h3, ⟨.inl ⟨rfl, by rw [← hR]; exact chain_stop h1 _ e⟩, ExIs.grownN hq hg hx, h4, h0.trans hg⟩, by simp⟩
end Go.Proofs.YtbdcbaamjkjhaaaGreatDoor
namespace Go.Proofs.YtbdcbaamjkjhaaaGreatDoor
open Go.RowKit

set_option maxRecDepth 100000 in
set_option maxHeartbeats 8000000 in
theorem chain_e (A x y n : Nat) (F : Rf Ex) (hF : Reads F) (hB : ∀ l w, RdIs A l w → BoxAt A x y n w → Calls Tryz.prog 148 #[.pointer (some ⟨x, 0, none⟩), .pointer (some ⟨y, 0, none⟩)] w fun e w' => Told A (F l) w e w')
    {lv : Int} {sg : List (ByteArray × Int)} (hs : SgOf lv sg) (l : List KT) (w : World) (h : RdIs A l w) (hb : BoxAt A x y n w) :
    Calls Tryz.prog 147 #[.pointer (some ⟨A, 0, none⟩), .int .i64 lv, .func (.func 148) #[] #[.pointer (some ⟨x, 0, none⟩), .pointer (some ⟨y, 0, none⟩)]] w fun e w' => Told A (chainF F sg l) w e w' := by
  have HB : Hid (∀ l w, RdIs A l w → BoxAt A x y n w → Calls Tryz.prog 148 #[.pointer (some ⟨x, 0, none⟩), .pointer (some ⟨y, 0, none⟩)] w fun e w' => Told A (F l) w e w') := hB
  have HF : Hid (Reads F) := hF
  have HSg : Hid (SgOf lv sg) := hs
  have H : Hid (RdIs A l w ∧ BoxAt A x y n w) := ⟨h, hb⟩
  obtain ⟨q0, hq0⟩ : ∃ q0, w.heap.size - 1 = q0 := ⟨_, rfl⟩
  have HQ : Hid (A ≤ q0 ∧ q0 < w.heap.size) := by have := h.lt; exact ⟨by omega, by omega⟩
  obtain ⟨R, hR⟩ : ∃ R, chainF F sg l = R := ⟨_, rfl⟩
  have HR : Hid ((F l).bind (fun x => chainL F sg x.2.length x.1 x.2) = R) := hR
  unfold Told
  rw [hR, hq0]
  clear h hb hF hs hB hR
  have HQe : Hid (w.heap.size - 1 = q0) := hq0
  clear hq0
  go_enter Tryz.func147, Tryz.ntmps147
  go_wp2_with fail
  refine (HB.out l w H.out.1 H.out.2).mono ?_
  rintro en w1 ⟨hg1, hc⟩
  rw [HQe.out] at hc
  have HG1 : Hid (w.grownBy w1 (some A)) := hg1
  clear hg1
  rcases hc with ⟨e1, l1, p1, hF1, rfl, hx1, hr1⟩ | ⟨hF1, n1, m1, rfl⟩
  · have HR1 : Hid (chainL F sg l1.length e1 l1 = R) := by
      have := HR.out
      rw [hF1] at this
      exact this
    have HX1 : Hid (ExIs q0 w1 p1 e1 ∧ RdIs A l1 w1) := ⟨hx1, hr1⟩
    clear hF1 hx1 hr1 HR
    go_wp2_with fail
    refine (bet_any HSg.out A l1 w1 HX1.out.2).mono ?_
    rintro en w2 ⟨hg2, hc⟩
    obtain ⟨c, l2, rfl, hst, _⟩ := ch_of HF.out HQ.out.1 HR1.out HX1.out.1 HX1.out.2.ok HG1.out hg2 hc
    have HS : Hid (ChSt A q0 F sg w R c p1 e1 l2 w2) := hst
    clear hst hg2 hc HX1 HR1 HG1
    go_wp2
    go_loopw [7, 8] (fun v7 v8 wr => ∃ (c : Int) (p : Option Addr) (e' : Ex) (l' : List KT), v7 = .pointer p ∧ v8 = .int .i64 c ∧ Hid (ChSt A q0 F sg w R c p e' l' wr)) (fun _ v8 wr => 2 * lenCell (wr.cell? ⟨A, 0, none⟩) + (if intOf v8 = 0 then 0 else 1))
    case atStart => exact ⟨c, p1, e1, l2, rfl, rfl, HS⟩
    case round =>
      clear HS
      obtain ⟨c, p, e', l', rfl, rfl, HS⟩ := hrel
      obtain ⟨wo, rfl⟩ : ∃ wo, wo = wr := ⟨_, rfl⟩
      have HLen : Hid (lenCell (wo.cell? ⟨A, 0, none⟩) = l'.length) := HS.out.2.2.1.len
      rcases HS.out.1 with ⟨hc0, hRe⟩ | ⟨hc0, hRe⟩
      · subst hc0
        have HE : Hid (R = some (e', l')) := hRe
        clear hRe
        go_wp2
        go_ret
        exact ⟨HS.out.2.2.2, .inl ⟨e', l', p, HE.out, rfl, HS.out.2.1, HS.out.2.2.1⟩⟩
      · have d0 : (c != 0) = true := by simpa using hc0
        have HE : Hid (R = (F l').bind fun x => chainL F sg x.2.length (.two c e' x.1) x.2) := hRe
        have HC0 : Hid (c ≠ 0) := hc0
        clear hRe hc0
        go_wp2_with fail
        refine (HB.out l' wo HS.out.2.2.1 (H.out.2.grown HS.out.2.2.2)).mono ?_
        rintro en w3 ⟨hg3, hc⟩
        have HG3 : Hid (w.grownBy w3 (some A)) := HS.out.2.2.2.trans hg3
        have HX3 : Hid (ExIs q0 w3 p e') := ExIs.grownN HQ.out.1 hg3 HS.out.2.1
        rcases hc with ⟨e3, l3, p3, hF3, rfl, hx3, hr3⟩ | ⟨hF3, n3, m3, rfl⟩
        · have HL3 : Hid (l3.length ≤ l'.length) := (HF.out l' HS.out.2.2.1.ok _ hF3).2
          have HR3 : Hid (chainL F sg l3.length (.two c e' e3) l3 = R) := by
            show _ = _
            rw [HE.out, hF3]; rfl
          have HB3 : Hid _ := box_told (w0 := w) HQ.out.2 c .none ⟨#[]⟩ p p3 e' e3 hr3 HX3.out (hx3.mono (by have := HS.out.2.2.2.size; have := HQe.out; omega)) HG3.out
          clear hF3 hx3 hr3 hg3
          go_wp2_with fail
          refine (bet_any HSg.out A l3 _ HB3.out.2.2).mono ?_
          rintro en w4 ⟨hg4, hc⟩
          obtain ⟨c4, l4, rfl, hst, hme⟩ := ch_of HF.out HQ.out.1 HR3.out HB3.out.2.1 HB3.out.2.2.ok HB3.out.1 hg4 hc
          have HS4 : Hid (ChSt A q0 F sg w R c4 (some ⟨w3.heap.size, 0, none⟩) (.two c e' e3) l4 w4) := hst
          have HM : Hid (2 * lenCell (w4.cell? ⟨A, 0, none⟩) + (if c4 = 0 then 0 else 1) < 2 * lenCell (wo.cell? ⟨A, 0, none⟩) + (if c = 0 then 0 else 1)) := by
            show _ < _
            rw [hst.2.2.1.len, HLen.out, if_neg HC0.out]
            have := HL3.out
            omega
          clear hst hg4 hc hme
          go_wp2
          go_roundw
          case rel => exact ⟨c4, _, _, l4, rfl, rfl, HS4⟩
          case measure => exact HM.out
        · clear hg3
          go_wp2
          exact ⟨by first | rfl | trivial, HG3.out, .inr ⟨by rw [HE.out, hF3]; rfl, n3, m3, rfl⟩⟩
  · go_wp2
    exact ⟨by first | rfl | trivial, HG1.out, .inr ⟨by rw [← HR.out, hF1]; rfl, n1, m1, rfl⟩⟩
end Go.Proofs.YtbdcbaamjkjhaaaGreatDoor
namespace Go.Proofs.YtbdcbaamjkjhaaaGreatDoor
open Go.RowKit

set_option maxRecDepth 100000 in
set_option maxHeartbeats 8000000 in
theorem chain_b (A x y n : Nat) (F : Rf Ex) (hF : Reads F) (hB : ∀ l w, RdIs A l w → BoxAt A x y n w → Calls Tryz.prog 165 #[.pointer (some ⟨x, 0, none⟩), .pointer (some ⟨y, 0, none⟩)] w fun e w' => Told A (F l) w e w')
    {lv : Int} {sg : List (ByteArray × Int)} (hs : SgOf lv sg) (l : List KT) (w : World) (h : RdIs A l w) (hb : BoxAt A x y n w) :
    Calls Tryz.prog 147 #[.pointer (some ⟨A, 0, none⟩), .int .i64 lv, .func (.func 165) #[] #[.pointer (some ⟨x, 0, none⟩), .pointer (some ⟨y, 0, none⟩)]] w fun e w' => Told A (chainF F sg l) w e w' := by
  have HB : Hid (∀ l w, RdIs A l w → BoxAt A x y n w → Calls Tryz.prog 165 #[.pointer (some ⟨x, 0, none⟩), .pointer (some ⟨y, 0, none⟩)] w fun e w' => Told A (F l) w e w') := hB
  have HF : Hid (Reads F) := hF
  have HSg : Hid (SgOf lv sg) := hs
  have H : Hid (RdIs A l w ∧ BoxAt A x y n w) := ⟨h, hb⟩
  obtain ⟨q0, hq0⟩ : ∃ q0, w.heap.size - 1 = q0 := ⟨_, rfl⟩
  have HQ : Hid (A ≤ q0 ∧ q0 < w.heap.size) := by have := h.lt; exact ⟨by omega, by omega⟩
  obtain ⟨R, hR⟩ : ∃ R, chainF F sg l = R := ⟨_, rfl⟩
  have HR : Hid ((F l).bind (fun x => chainL F sg x.2.length x.1 x.2) = R) := hR
  unfold Told
  rw [hR, hq0]
  clear h hb hF hs hB hR
  have HQe : Hid (w.heap.size - 1 = q0) := hq0
  clear hq0
  go_enter Tryz.func147, Tryz.ntmps147
  go_wp2_with fail
  refine (HB.out l w H.out.1 H.out.2).mono ?_
  rintro en w1 ⟨hg1, hc⟩
  rw [HQe.out] at hc
  have HG1 : Hid (w.grownBy w1 (some A)) := hg1
  clear hg1
  rcases hc with ⟨e1, l1, p1, hF1, rfl, hx1, hr1⟩ | ⟨hF1, n1, m1, rfl⟩
  · have HR1 : Hid (chainL F sg l1.length e1 l1 = R) := by
      have := HR.out
      rw [hF1] at this
      exact this
    have HX1 : Hid (ExIs q0 w1 p1 e1 ∧ RdIs A l1 w1) := ⟨hx1, hr1⟩
    clear hF1 hx1 hr1 HR
    go_wp2_with fail
    refine (bet_any HSg.out A l1 w1 HX1.out.2).mono ?_
    rintro en w2 ⟨hg2, hc⟩
    obtain ⟨c, l2, rfl, hst, _⟩ := ch_of HF.out HQ.out.1 HR1.out HX1.out.1 HX1.out.2.ok HG1.out hg2 hc
    have HS : Hid (ChSt A q0 F sg w R c p1 e1 l2 w2) := hst
    clear hst hg2 hc HX1 HR1 HG1
    go_wp2
    go_loopw [7, 8] (fun v7 v8 wr => ∃ (c : Int) (p : Option Addr) (e' : Ex) (l' : List KT), v7 = .pointer p ∧ v8 = .int .i64 c ∧ Hid (ChSt A q0 F sg w R c p e' l' wr)) (fun _ v8 wr => 2 * lenCell (wr.cell? ⟨A, 0, none⟩) + (if intOf v8 = 0 then 0 else 1))
    case atStart => exact ⟨c, p1, e1, l2, rfl, rfl, HS⟩
    case round =>
      clear HS
      obtain ⟨c, p, e', l', rfl, rfl, HS⟩ := hrel
      obtain ⟨wo, rfl⟩ : ∃ wo, wo = wr := ⟨_, rfl⟩
      have HLen : Hid (lenCell (wo.cell? ⟨A, 0, none⟩) = l'.length) := HS.out.2.2.1.len
      rcases HS.out.1 with ⟨hc0, hRe⟩ | ⟨hc0, hRe⟩
      · subst hc0
        have HE : Hid (R = some (e', l')) := hRe
        clear hRe
        go_wp2
        go_ret
        exact ⟨HS.out.2.2.2, .inl ⟨e', l', p, HE.out, rfl, HS.out.2.1, HS.out.2.2.1⟩⟩
      · have d0 : (c != 0) = true := by simpa using hc0
        have HE : Hid (R = (F l').bind fun x => chainL F sg x.2.length (.two c e' x.1) x.2) := hRe
        have HC0 : Hid (c ≠ 0) := hc0
        clear hRe hc0
        go_wp2_with fail
        refine (HB.out l' wo HS.out.2.2.1 (H.out.2.grown HS.out.2.2.2)).mono ?_
        rintro en w3 ⟨hg3, hc⟩
        have HG3 : Hid (w.grownBy w3 (some A)) := HS.out.2.2.2.trans hg3
        have HX3 : Hid (ExIs q0 w3 p e') := ExIs.grownN HQ.out.1 hg3 HS.out.2.1
        rcases hc with ⟨e3, l3, p3, hF3, rfl, hx3, hr3⟩ | ⟨hF3, n3, m3, rfl⟩
        · have HL3 : Hid (l3.length ≤ l'.length) := (HF.out l' HS.out.2.2.1.ok _ hF3).2
          have HR3 : Hid (chainL F sg l3.length (.two c e' e3) l3 = R) := by
            show _ = _
            rw [HE.out, hF3]; rfl
          have HB3 : Hid _ := box_told (w0 := w) HQ.out.2 c .none ⟨#[]⟩ p p3 e' e3 hr3 HX3.out (hx3.mono (by have := HS.out.2.2.2.size; have := HQe.out; omega)) HG3.out
          clear hF3 hx3 hr3 hg3
          go_wp2_with fail
          refine (bet_any HSg.out A l3 _ HB3.out.2.2).mono ?_
          rintro en w4 ⟨hg4, hc⟩
          obtain ⟨c4, l4, rfl, hst, hme⟩ := ch_of HF.out HQ.out.1 HR3.out HB3.out.2.1 HB3.out.2.2.ok HB3.out.1 hg4 hc
          have HS4 : Hid (ChSt A q0 F sg w R c4 (some ⟨w3.heap.size, 0, none⟩) (.two c e' e3) l4 w4) := hst
          have HM : Hid (2 * lenCell (w4.cell? ⟨A, 0, none⟩) + (if c4 = 0 then 0 else 1) < 2 * lenCell (wo.cell? ⟨A, 0, none⟩) + (if c = 0 then 0 else 1)) := by
            show _ < _
            rw [hst.2.2.1.len, HLen.out, if_neg HC0.out]
            have := HL3.out
            omega
          clear hst hg4 hc hme
          go_wp2
          go_roundw
          case rel => exact ⟨c4, _, _, l4, rfl, rfl, HS4⟩
          case measure => exact HM.out
        · clear hg3
          go_wp2
          exact ⟨by first | rfl | trivial, HG3.out, .inr ⟨by rw [HE.out, hF3]; rfl, n3, m3, rfl⟩⟩
  · go_wp2
    exact ⟨by first | rfl | trivial, HG1.out, .inr ⟨by rw [← HR.out, hF1]; rfl, n1, m1, rfl⟩⟩
end Go.Proofs.YtbdcbaamjkjhaaaGreatDoor
