/- Texts of the proof of FinderPlays: Fva, Fst, Shc, Gcn, WBase. -/
import Derived.Test.YtabcficlnhajeaaGreatDoorF18
import Derived.Lib.Bytealg
import Derived.Lib.IndexMore
import Derived.Shelf.Strings.Builder1
import Derived.Shelf.LaysM
import Derived.Shelf.Strings.Search1
import Derived.Shelf.Strings.Search2
import Derived.Shelf.Strings.Search3
import Derived.Shelf.Strings.Cut
import Derived.Shelf.Strings.Prefix
import Derived.Ground.Names2Prog
import Derived.Shelf.Slices.CompactS
import Derived.Test.YtabcficlnhajeaaGreatDoorProg
import Derived.BigQuiet
import Derived.Deep.DeepCutAuto
import Derived.Laws.AppendOwnNone
import Derived.Laws.IdiomStrings
namespace Go.Proofs.YtabcficlnhajeaaGreatDoor
open Go.RowKit Go.Maps

theorem str_long (x y : ByteArray) (h : x.size + y.size ≤ 140737488360000) : Op.stringOp .add x y = pure (.string (x ++ y)) := by
  have hn : ¬ (((x.size + y.size : Nat) : Int) > IntKind.i64.max) := by
    have : IntKind.i64.max = 9223372036854775807 := by decide
    omega
  simp only [Op.stringOp, if_neg hn]
theorem size_zero {s : ByteArray} (h : s.size = 0) : s = ⟨#[]⟩ := by
  cases s with
  | mk d => congr; exact Array.eq_empty_of_size_eq_zero h
theorem indexByte_none : ∀ (l : List UInt8) (c : UInt8), (0 ≤ Lib.indexByte l c ↔ c ∈ l) ∧ -1 ≤ Lib.indexByte l c
  | [], c => by simp [Lib.indexByte]
  | b :: l, c => by
    have ih := indexByte_none l c
    unfold Lib.indexByte
    by_cases h : b = c
    · subst h; simp
    · have hb : (b == c) = false := by simpa using h
      rw [hb]
      simp only [Bool.false_eq_true, if_false, beq_iff_eq, List.mem_cons]
      by_cases h1 : Lib.indexByte l c = -1
      · rw [if_pos h1]
        refine ⟨⟨fun h => absurd h (by decide), fun hm => ?_⟩, by decide⟩
        rcases hm with hm | hm
        · exact absurd hm.symm h
        · have := ih.1.2 hm; omega
      · rw [if_neg h1]
        have h2 := ih.2
        refine ⟨⟨fun _ => .inr (ih.1.1 (by omega)), fun _ => by omega⟩, by omega⟩
theorem byteI_small {n : Nat} (h : n < 256) : (byteI (n : Int)).toNat = n := by
  have := byteI_toNat (n : Int)
  rw [wrap_u8, Int.emod_eq_of_lt (by omega) (by omega)] at this
  omega
theorem byteI_succ {i : Nat} (h : i < 255) : (byteI ((i : Int) + 1)).toNat = i + 1 := byteI_small (n := i + 1) (by omega)
theorem byteI_ne {i : Nat} (h : i < 255) : byteI ((i : Int) + 1) ≠ 0 := fun e => by
  have := byteI_succ h
  rw [e] at this
  simp at this
/-- names in order: so are the keys -/
theorem lt_zero : ∀ (a b : List UInt8), a < b → (0 : UInt8) ∉ b → ∀ x y, a ++ 0 :: x < b ++ 0 :: y
  | [], [], h, _, _, _ => absurd h (List.lt_irrefl _)
  | [], c :: b, _, h0, x, y => by
    simp only [List.nil_append, List.cons_append]
    rw [List.cons_lt_cons_iff]
    refine .inl ?_
    have : c ≠ 0 := fun e => h0 (by rw [e]; simp)
    rw [UInt8.lt_iff_toNat_lt]
    have h2 : c.toNat ≠ 0 := fun e => this (UInt8.toNat_inj.1 (by rw [e]; rfl))
    show (0 : UInt8).toNat < _
    have : (0 : UInt8).toNat = 0 := rfl
    omega
  | a :: al, [], h, _, _, _ => absurd h (List.not_lt_nil _)
  | a :: al, b :: bs, h, h0, x, y => by
    simp only [List.cons_append]
    rw [List.cons_lt_cons_iff] at h ⊢
    rcases h with h | ⟨rfl, h⟩
    · exact .inl h
    · exact .inr ⟨rfl, lt_zero al bs h (fun e => h0 (by simp [e])) x y⟩
/-- what begins with a name and its end is that table's -/
theorem pre_zero : ∀ (n m x : List UInt8), (0 : UInt8) ∉ m → (0 : UInt8) ∉ x → (n ++ [0]).isPrefixOf (m ++ 0 :: x) = true → n = m
  | [], [], _, _, _, _ => rfl
  | [], c :: m, x, h0, _, h => by
    simp [List.isPrefixOf] at h
    exact absurd h (fun e => h0 (by rw [← e]; simp))
  | b :: n, [], x, _, hx, h => by
    simp only [List.nil_append, List.cons_append, List.isPrefixOf, Bool.and_eq_true] at h
    have h2 := List.isPrefixOf_iff_prefix.1 h.2
    exact absurd (h2.subset (by simp)) hx
  | b :: n, c :: m, x, h0, hx, h => by
    simp only [List.cons_append, List.isPrefixOf, Bool.and_eq_true, beq_iff_eq] at h
    rw [h.1, pre_zero n m x (fun e => h0 (by simp [e])) hx h.2]
theorem pre_self : ∀ (a x : List UInt8), a.isPrefixOf (a ++ x) = true := fun a x => List.isPrefixOf_iff_prefix.2 (List.prefix_append a x)
theorem append_lt : ∀ (a x y : List UInt8), x < y → a ++ x < a ++ y
  | [], _, _, h => h
  | c :: a, x, y, h => by
    simp only [List.cons_append]
    rw [List.cons_lt_cons_iff]
    exact .inr ⟨rfl, append_lt a x y h⟩
theorem bl_asymm {x y : ByteArray} (h : bl x y = true) : bl y x = false := by
  cases h2 : bl y x
  · rfl
  · have := bl_trans h h2
    rw [bl_irrefl] at this; cases this
/-- two rows in order that have the same -/
theorem sorted_ext : ∀ (a b : List Pr), a.Pairwise (fun a b => bl a.k b.k = true) → b.Pairwise (fun a b => bl a.k b.k = true) → (∀ x, x ∈ a ↔ x ∈ b) → a = b
  | [], [], _, _, _ => rfl
  | [], y :: b, _, _, h => absurd ((h y).2 (by simp)) (by simp)
  | x :: a, [], _, _, h => absurd ((h x).1 (by simp)) (by simp)
  | x :: a, y :: b, ha, hb, h => by
    rw [List.pairwise_cons] at ha hb
    have hxy : x = y := by
      rcases List.mem_cons.1 ((h x).1 (by simp)) with e | h1
      · exact e
      · rcases List.mem_cons.1 ((h y).2 (by simp)) with e | h2
        · exact e.symm
        · have e1 := hb.1 x h1
          have e2 := ha.1 y h2
          rw [bl_asymm e1] at e2; cases e2
    subst hxy
    rw [sorted_ext a b ha.2 hb.2 (fun z => ?_)]
    constructor
    · intro hz
      rcases List.mem_cons.1 ((h z).1 (by simp [hz])) with e | h1
      · have := ha.1 z hz
        rw [e, bl_irrefl] at this; cases this
      · exact h1
    · intro hz
      rcases List.mem_cons.1 ((h z).2 (by simp [hz])) with e | h1
      · have := hb.1 z hz
        rw [e, bl_irrefl] at this; cases this
      · exact h1
theorem prefix_run : ∀ (p a b : List UInt8), ¬ a < p → a < b → p.isPrefixOf b = true → p.isPrefixOf a = true
  | [], a, b, _, _, _ => rfl
  | x :: p, [], b, h1, _, _ => absurd (List.nil_lt_cons x p) h1
  | x :: p, y :: a, [], _, h2, _ => absurd h2 (List.not_lt_nil _)
  | x :: p, y :: a, z :: b, h1, h2, h3 => by
    simp only [List.isPrefixOf, Bool.and_eq_true, beq_iff_eq] at h3 ⊢
    obtain ⟨rfl, h3⟩ := h3
    rw [List.cons_lt_cons_iff] at h1 h2
    rcases h2 with h2 | ⟨rfl, h2⟩
    · exact absurd (.inl h2) h1
    · exact ⟨rfl, prefix_run p a b (fun h => h1 (.inr ⟨rfl, h⟩)) h2 h3⟩
theorem prefix_not_lt : ∀ (p a : List UInt8), p.isPrefixOf a = true → ¬ a < p
  | [], a, _ => List.not_lt_nil _
  | x :: p, [], h => by simp [List.isPrefixOf] at h
  | x :: p, y :: a, h => by
    simp only [List.isPrefixOf, Bool.and_eq_true, beq_iff_eq] at h
    obtain ⟨rfl, h⟩ := h
    rw [List.cons_lt_cons_iff]
    rintro (h1 | ⟨_, h1⟩)
    · exact UInt8.lt_irrefl _ h1
    · exact prefix_not_lt p a h h1
theorem walkP (s : ByteArray) : ∀ (l : List Pr) (k : Nat), l.Pairwise (fun a b => bl a.k b.k = true) → walkL (pfx s) s k l = l.filter (fun x => pfx s 0 x.k)
  | [], k, _ => rfl
  | x :: r, k, h => by
    rw [List.pairwise_cons] at h
    unfold walkL
    rw [List.filter_cons]
    cases hb : bl x.k s
    · cases hp : pfx s k x.k
      · have hp0 : pfx s 0 x.k = false := hp
        rw [hp0]
        have e : List.filter (fun x => pfx s 0 x.k) r = [] := by
          refine List.filter_eq_nil_iff.2 fun y hy hpy => ?_
          have h2 := h.1 y hy
          rw [bl_iff] at h2
          have h1 : ¬ x.k.data.toList < s.data.toList := fun e => by rw [← bl_iff, hb] at e; cases e
          have := prefix_run s.data.toList x.k.data.toList y.k.data.toList h1 h2 hpy
          unfold pfx Lib.hasPrefix at hp
          rw [this] at hp; cases hp
        rw [e]
        simp
      · have hp0 : pfx s 0 x.k = true := hp
        rw [hp0, walkP s r (k + 1) h.2]
        simp
    · have hp0 : pfx s 0 x.k = false := by
        cases hp : pfx s 0 x.k
        · rfl
        · exact absurd ((bl_iff _ _).1 hb) (prefix_not_lt _ _ hp)
      rw [hp0, walkP s r k h.2]
      simp
/-- Cut, at a key -/
theorem index_zero (x : List UInt8) : ∀ m : List UInt8, (0 : UInt8) ∉ m → Lib.index (m ++ 0 :: x) [0] = (m.length : Int)
  | [], _ => by simp [Lib.index, List.isPrefixOf]
  | b :: m, h => by
    have hb : (0 == b) = false := by
      cases e : ((0 : UInt8) == b)
      · rfl
      · exact absurd (show (0 : UInt8) ∈ b :: m by rw [eq_of_beq e]; simp) h
    have ih := index_zero x m (fun e => h (by simp [e]))
    have h3 : ((m.length : Int) == -1) = false := by
      cases e : ((m.length : Int) == -1)
      · rfl
      · have := eq_of_beq e; omega
    rw [List.cons_append, Lib.index, ih, h3]
    simp [List.isPrefixOf, hb]
theorem cut_zero (m x : List UInt8) (h : (0 : UInt8) ∉ m) : Lib.cut (m ++ 0 :: x) [0] = (m, x, true) := by
  unfold Lib.cut
  rw [index_zero x m h, if_pos (by omega)]
  simp
theorem flat_at {α : Type} {f : α → List Value} {k : Nat} (hf : ∀ x, (f x).length = k) : ∀ (l : List α) (i j : Nat) (hi : i < l.length), j < k → (l.flatMap f)[k * i + j]? = (f l[i])[j]?
  | [], i, j, hi, _ => absurd hi (by simp)
  | x :: r, 0, j, _, hj => by rw [List.flatMap_cons, Nat.mul_zero, Nat.zero_add, List.getElem?_append_left (by rw [hf]; exact hj)]; rfl
  | x :: r, i + 1, j, hi, hj => by
    rw [List.flatMap_cons, List.getElem?_append_right (by rw [hf, Nat.mul_succ]; omega), hf, show k * (i + 1) + j - k = k * i + j by rw [Nat.mul_succ]; omega]
    exact flat_at hf r i j (by simpa using hi) hj
theorem flat_len {α : Type} {f : α → List Value} {k : Nat} (hf : ∀ x, (f x).length = k) : ∀ (l : List α), (l.flatMap f).length = l.length * k
  | [] => by simp
  | x :: r => by rw [List.flatMap_cons, List.length_append, hf, flat_len hf r, List.length_cons, Nat.succ_mul]; omega
theorem index_many {t e : TypeId} {k : Nat} (ht : Tryz.prog.underlying t = some (.slice e)) (he : Tryz.prog.elem t = e) (hs : (sizeOf e).run Tryz.prog = fun w => .ok k w) (g n cap i : Nat) (hi : i < n) (wx : World) : (Instr.indexAt t (.slice (some ⟨g, 0, none⟩) n cap) (.int .i64 (i : Nat))).run Tryz.prog wx = .ok (.pointer (some ⟨g, k * i, none⟩)) wx := by
  subst he
  rw [run_indexAt_slice (h := ht), if_pos ⟨by omega, by omega⟩, hs]
  simp [Result.andThen, add_pl, Nat.mul_comm]
section
variable {B : Nat} {v : Value} {w w' : World}
theorem row_slice {e : TypeId} {size n : Nat} {xs : List Value} (h : w.ownsRow B e size v n xs) : ∃ a c, v = .slice a n c := by
  rcases h.2 with ⟨e1, e2⟩ | ⟨g, cap, cur, e1, _⟩
  · exact ⟨none, 0, by rw [e1, e2]⟩
  · exact ⟨_, cap, e1⟩
theorem row_max {e : TypeId} {size n : Nat} {xs : List Value} (h : w.ownsRow B e size v n xs) : n ≤ 9223372036854775807 := by
  rcases h.2 with ⟨_, e2⟩ | ⟨g, cap, cur, _, _, _, h4, h5, _⟩
  · omega
  · simp only [maxLen] at h5; omega
theorem row_below {e : TypeId} {size n : Nat} {xs : List Value} (h : w.ownsRow B e size v n xs) (hb : Below w.heap.size w w') : w'.ownsRow B e size v n xs := row_only h (below_only hb (fun _ => False)) (fun _ e => e.elim)
end
structure VarN (B : Nat) (l : List Value) (w : World) : Prop where
  cell : ∀ i (hi : i < l.length), w.cell? ⟨B, i, none⟩ = some l[i]
  free : ∀ i, w.frozen? ⟨B, i, none⟩ = false
  pos : 0 < l.length
section
variable {B C o : Nat} {l : List Value} {u : Value} {w w' : World}
theorem VarN.lt (h : VarN B l w) : B < w.heap.size := World.block_lt_of_cell? w _ (h.cell 0 h.pos)
theorem VarN.block (h : VarN B l w) (hb : w'.heap[B]? = w.heap[B]?) : VarN B l w' :=
  ⟨fun i hi => by have := h.cell i hi; simp only [World.cell?] at this ⊢; rw [hb]; exact this, fun i => by have := h.free i; simp only [World.frozen?] at this ⊢; rw [hb]; exact this, h.pos⟩
theorem VarN.below (h : VarN B l w) (hb : Below w.heap.size w w') : VarN B l w' := h.block (hb.block _ h.lt)
theorem VarN.only {S : Nat → Prop} (h : VarN B l w) (ho : Only S w w') (hS : ¬ S B) : VarN B l w' := h.block (ho.block B h.lt hS)
theorem VarN.drew (h : VarN B l w) : VarN B l w.drew := h.block rfl
theorem VarN.set (h : VarN B l w) (i : Nat) (v : Value) : VarN B (l.set i v) (w.setCell ⟨B, i, none⟩ v) := by
  refine ⟨fun j hj => ?_, fun j => by rw [World.frozen?_setCell]; exact h.free j, by rw [List.length_set]; exact h.pos⟩
  rw [List.length_set] at hj
  by_cases e : i = j
  · subst e
    rw [World.cell?_setCell_same _ _ _ (h.cell i hj)]; simp
  · rw [World.cell?_setCell_other _ _ _ _ (fun e' => e (by cases e'; rfl)), h.cell j hj]; simp [e]
theorem VarN.far (h : VarN B l w) (hne : B ≠ C) : VarN B l (w.setCell ⟨C, o, none⟩ u) :=
  ⟨fun i hi => by rw [World.cell?_setCell_other _ _ _ _ (fun e => hne (by cases e; rfl))]; exact h.cell i hi, fun i => by rw [World.frozen?_setCell]; exact h.free i, h.pos⟩
theorem VarN.new (w : World) (a : Array Value) (t : TypeId) (h : 0 < a.size) : VarN w.heap.size a.toList (w.alloc (.cells a t)) := by
  have hn : (w.alloc (.cells a t)).heap[w.heap.size]? = Option.some (.cells a t) := heap_alloc_new w _
  refine ⟨fun i hi => ?_, fun i => by simp only [World.frozen?, hn]; simp, by rw [Array.length_toList]; exact h⟩
  simp only [World.cell?, hn]
  rw [Array.length_toList] at hi
  simp [hi]
theorem VarN.c3 {a b c : Value} (h : VarN B [a, b, c] w) : w.cell? ⟨B, 0, none⟩ = some a ∧ w.cell? ⟨B, 1, none⟩ = some b ∧ w.cell? ⟨B, 2, none⟩ = some c := ⟨h.cell 0 (by simp), h.cell 1 (by simp), h.cell 2 (by simp)⟩
theorem VarN.c4 {a b c d : Value} (h : VarN B [a, b, c, d] w) : w.cell? ⟨B, 0, none⟩ = some a ∧ w.cell? ⟨B, 1, none⟩ = some b ∧ w.cell? ⟨B, 2, none⟩ = some c ∧ w.cell? ⟨B, 3, none⟩ = some d := ⟨h.cell 0 (by simp), h.cell 1 (by simp), h.cell 2 (by simp), h.cell 3 (by simp)⟩
theorem VarN.get {j : Nat} {v : Value} (h : VarN B l w) (hv : l[j]? = some v) : w.cell? ⟨B, 0 + j, none⟩ = some v := by
  have hj : j < l.length := (List.getElem?_eq_some_iff.1 hv).1
  rw [Nat.zero_add, h.cell j hj]
  rw [List.getElem?_eq_getElem hj] at hv
  exact hv
end
theorem row_set1 {B b o : Nat} {e : TypeId} {size n : Nat} {v u : Value} {xs : List Value} {w : World} (h : w.ownsRow B e size v n xs) (hb : ∀ k, v.ownBlock = some k → k ≠ b) : (w.setCell ⟨b, o, none⟩ u).ownsRow B e size v n xs := by
  have hG : w.grownBy (w.setCell ⟨b, o, none⟩ u) (some b) := ⟨rfl, rfl, rfl, by simp, fun k _ hk => heap_setCell_other w ⟨b, o, none⟩ k u (fun e => hk (by simp [e]))⟩
  refine World.ownsRow.kept h hG ?_
  cases e : v.ownBlock with
  | none => exact .inl rfl
  | some k => exact .inr (fun e2 => hb k e (Option.some.inj e2))
end Go.Proofs.YtabcficlnhajeaaGreatDoor
namespace Go.Proofs.YtabcficlnhajeaaGreatDoor
open Go.RowKit Go.Maps

/-- a finder, its tree, its pager -/
structure Fs (bf bt bp bd bm N : Nat) (up : Nat → Bool) (V : Pst) (T : Tr) (w : World) : Prop where
  c : Own1 bf (.pointer (some ⟨bt, 0, none⟩)) w
  t : Tt bt bp 3 w
  tw : Tw bp bd bm N sd0 up 1 V w
  a : TrAt V 3 T
  so : Sole V T
  ne : bt ≠ bp ∧ bt ≠ bm
  nc : bf ≠ bp ∧ bf ≠ bm
section
variable {bf bt bp bd bm N Z : Nat} {up : Nat → Bool} {V : Pst} {T : Tr} {M M' : Pr → Prop} {w w' : World}
theorem Fs.count (h : Fs bf bt bp bd bm N up V T w) : countU V.used 2000 ≤ 60 := by
  rw [h.so.count h.a]; exact h.a.pages_le
theorem Fs.below (h : Fs bf bt bp bd bm N up V T w) (hb : Below w.heap.size w w') : Fs bf bt bp bd bm N up V T w' :=
  ⟨h.c.below hb, h.t.below hb, h.tw.below hb, h.a, h.so, h.ne, h.nc⟩
theorem Fs.lay {V' : Pst} {N' : Nat} {T' : Tr} (h : Fs bf bt bp bd bm N up V T w) (h1 : LayR V V' 3 T T') (h2 : Tw bp bd bm N' sd0 up 1 V' w') (h4 : Only (fun b => b = bp ∨ b = bm) w w') : Fs bf bt bp bd bm N' up V' T' w' :=
  ⟨h.c.only h4 (fun e => by rcases e with e | e; exact h.nc.1 e; exact h.nc.2 e), h.t.only h4 (fun e => by rcases e with e | e; exact h.ne.1 e; exact h.ne.2 e), h2, h1.at_, h.so.lay h1, h.ne, h.nc⟩
theorem Fs.sorted (h : Fs bf bt bp bd bm N up V T w) : T.all.Pairwise (fun a b => bl a.k b.k = true) := h.a.ok.sorted
/-- the pairs, as a set -/
def PrS (bf bt bp bd bm N Z : Nat) (M : Pr → Prop) (w : World) : Prop := ∃ N1 up V T, N1 ≤ N ∧ Fs bf bt bp bd bm N1 up V T w ∧ szL T.all ≤ Z ∧ ∀ x, x ∈ T.all ↔ M x
theorem PrS.below (h : PrS bf bt bp bd bm N Z M w) (hb : Below w.heap.size w w') : PrS bf bt bp bd bm N Z M w' := by
  obtain ⟨N1, up, V, T, h1, h2, h3⟩ := h
  exact ⟨N1, up, V, T, h1, h2.below hb, h3⟩
theorem PrS.iff (h : PrS bf bt bp bd bm N Z M w) (hM : ∀ x, M x ↔ M' x) : PrS bf bt bp bd bm N Z M' w := by
  obtain ⟨N1, up, V, T, h1, h2, h3, h4⟩ := h
  exact ⟨N1, up, V, T, h1, h2, h3, fun x => (h4 x).trans (hM x)⟩
theorem PrS.mono {N' Z' : Nat} (h : PrS bf bt bp bd bm N Z M w) (hN : N ≤ N') (hZ : Z ≤ Z') : PrS bf bt bp bd bm N' Z' M w := by
  obtain ⟨N1, up, V, T, h1, h2, h3, h4⟩ := h
  exact ⟨N1, up, V, T, by omega, h2, by omega, h4⟩
theorem PrS.own (h : PrS bf bt bp bd bm N Z M w) : Own1 bf (.pointer (some ⟨bt, 0, none⟩)) w := by
  obtain ⟨N1, up, V, T, h1, h2, h3, h4⟩ := h
  exact h2.c
theorem PrS.nec (h : PrS bf bt bp bd bm N Z M w) : bf ≠ bp ∧ bf ≠ bm := by
  obtain ⟨N1, up, V, T, h1, h2, h3, h4⟩ := h
  exact h2.nc
theorem sorted_ne {A C : List Pr} {y z : Pr} (hs : (A ++ [y] ++ C).Pairwise (fun a b => bl a.k b.k = true)) (hz : z ∈ A ++ C) : z ≠ y := by
  rintro rfl
  rw [List.append_assoc, List.pairwise_append] at hs
  obtain ⟨_, h2, h3⟩ := hs
  rw [List.singleton_append, List.pairwise_cons] at h2
  rcases List.mem_append.1 hz with hz | hz
  · have := h3 z hz z (by simp)
    rw [bl_irrefl] at this; cases this
  · have := h2.1 z hz
    rw [bl_irrefl] at this; cases this
theorem put1 (h : PrS bf bt bp bd bm N Z M w) (x : Pr) (hx : x.Ok) (hZ : Z + x.sz ≤ 30000) (hN : N + 60 < 1000000) :
    Calls Tryz.prog 48 #[.pointer (some ⟨bt, 0, none⟩), .string x.k, .string x.i] w fun e w' => e = .returned .nilIface ∧ PrS bf bt bp bd bm (N + 40) (Z + x.sz) (fun y => y = x ∨ (M y ∧ y.k ≠ x.k)) w' ∧ Only (fun b => b = bp ∨ b = bm) w w' := by
  obtain ⟨N1, up, V, T, h1, h2, h3, h4⟩ := h
  have hc := h2.count
  refine (put_any h2.t h2.tw h2.ne h2.a x hx (by omega) (by omega)).mono ?_
  rintro e w' ⟨A, mid, C, hr, hg⟩
  have hsz : szL T.all = szL A + szL mid + szL C := by rw [hr.all, szL_append, szL_append]
  have hs1 : szL [x] = x.sz := rfl
  rcases hg with ⟨hbig, _⟩ | ⟨_, rfl, V', N', T', g3, g4, g5, g6, g7⟩
  · rw [szL_append, szL_append, hs1] at hbig
    omega
  · refine ⟨rfl, ⟨N', up, V', T', by omega, h2.lay g4 g5 g7, ?_, fun y => ?_⟩, g7⟩
    · rw [g3, szL_append, szL_append, hs1]; omega
    · show _ ↔ y = x ∨ M y ∧ y.k ≠ x.k
      rw [g3, ← h4 y, hr.all]
      constructor
      · intro hy
        simp only [List.mem_append, List.mem_singleton] at hy
        rcases hy with (hy | hy) | hy
        · exact .inr ⟨by simp [hy], bl_ne (hr.less y hy)⟩
        · exact .inl hy
        · exact .inr ⟨by simp [hy], fun e => bl_ne (hr.more y hy) e.symm⟩
      · rintro (rfl | ⟨hy, hk⟩)
        · simp
        · simp only [List.mem_append] at hy
          rcases hy with (hy | hy) | hy
          · simp [hy]
          · rcases hr.mid_ with e | ⟨z, e, hz⟩
            · rw [e] at hy; cases hy
            · rw [e] at hy
              obtain rfl := List.mem_singleton.1 hy
              exact absurd hz hk
          · simp [hy]
theorem drop1 (h : PrS bf bt bp bd bm N Z M w) (y : Pr) (hy : M y) (hN : N + 60 < 1000000) :
    Calls Tryz.prog 54 #[.pointer (some ⟨bt, 0, none⟩), .string y.k] w fun e w' => e = .returned .nilIface ∧ PrS bf bt bp bd bm (N + 40) Z (fun z => M z ∧ z ≠ y) w' ∧ Only (fun b => b = bp ∨ b = bm) w w' := by
  obtain ⟨N1, up, V, T, h1, h2, h3, h4⟩ := h
  have hc := h2.count
  have hyT := (h4 y).2 hy
  obtain ⟨A, C, hall0⟩ := List.append_of_mem hyT
  have hall : T.all = A ++ [y] ++ C := by rw [hall0]; simp
  have hs : (A ++ [y] ++ C).Pairwise (fun a b => bl a.k b.k = true) := by rw [← hall]; exact h2.sorted
  refine (drop_any h2.t h2.tw h2.ne h2.a y.k (by omega) (by omega)).mono ?_
  rintro e w' (⟨hno, _⟩ | ⟨A', y', C', ha', hk', hg⟩)
  · exact absurd rfl (hno y hyT)
  · obtain ⟨rfl, _, rfl⟩ := sorted_at (hall.symm.trans ha') hs hk'.symm
    rcases hg with ⟨hbig, _⟩ | ⟨_, rfl, V', N', T', g3, g4, g5, g6, g7⟩
    · have hsm : szL T.all ≤ 30000 := h2.a.ok.sum
      rw [hall] at hsm
      rw [szL_append, szL_append] at hsm hbig
      simp only [szL] at hbig
      omega
    · have g3' : T'.all = A ++ C := by rw [g3]; simp
      refine ⟨rfl, ⟨N', up, V', T', by omega, h2.lay g4 g5 g7, ?_, fun z => ?_⟩, g7⟩
      · rw [g3', szL_append]
        rw [hall, szL_append, szL_append] at h3
        omega
      · show _ ↔ M z ∧ z ≠ y
        rw [g3', ← h4 z, hall]
        constructor
        · intro hz
          exact ⟨by rcases List.mem_append.1 hz with hz | hz <;> simp [hz], sorted_ne hs hz⟩
        · rintro ⟨hz, hne⟩
          simp only [List.mem_append, List.mem_singleton] at hz
          rcases hz with (hz | hz) | hz
          · simp [hz]
          · exact absurd hz hne
          · simp [hz]
end
end Go.Proofs.YtabcficlnhajeaaGreatDoor
namespace Go.Proofs
open Go.Shelf
def Tryz.lays144_ren : Go.Shelf.Ren := ⟨fun | 144 => 36 | 143 => 67 | 219 => 95 | 217 => 55 | 225 => 127 | 224 => 128 | 267 => 129 | 266 => 84 | 314 => 184 | n => n, fun | 9 => 9 | 4 => 4 | 3 => 3 | 5 => 5 | 46 => 35 | 146 => 257 | 51 => 232 | n => n, fun | 1 => 2 | n => n⟩
theorem Tryz.lays144 : Go.Proofs.Lays.n144 Tryz.prog Tryz.lays144_ren := {
  mixed := by kernel_rfl
  f143 := Tryz.func67.trans (congrArg some (by kernel_rfl))
  f144 := Tryz.func36.trans (congrArg some (by kernel_rfl))
  f217 := Tryz.func55.trans (congrArg some (by kernel_rfl))
  f219 := Tryz.func95.trans (congrArg some (by kernel_rfl))
  f224 := Tryz.func128.trans (congrArg some (by kernel_rfl))
  f225 := Tryz.func127.trans (congrArg some (by kernel_rfl))
  f266 := Tryz.func84.trans (congrArg some (by kernel_rfl))
  f267 := Tryz.func129.trans (congrArg some (by kernel_rfl))
  f314 := Tryz.func184.trans (congrArg some (by kernel_rfl))
  t3 := Tryz.underlying3
  a3 := Tryz.isAgg3
  z3 := Tryz.sizeOf3
  v3 := Tryz.zeroValue3
  t4 := Tryz.underlying4
  a4 := Tryz.isAgg4
  z4 := Tryz.sizeOf4
  v4 := Tryz.zeroValue4
  t5 := Tryz.underlying5
  a5 := Tryz.isAgg5
  z5 := Tryz.sizeOf5
  v5 := Tryz.zeroValue5
  t9 := Tryz.underlying9
  a9 := Tryz.isAgg9
  z9 := Tryz.sizeOf9
  v9 := Tryz.zeroValue9
  t46 := Tryz.underlying35
  a46 := Tryz.isAgg35
  z46 := Tryz.sizeOf35
  v46 := Tryz.zeroValue35
  t51 := Tryz.underlying232
  a51 := Tryz.isAgg232
  z51 := Tryz.sizeOf232
  v51 := Tryz.zeroValue232
  t146 := Tryz.underlying257
  a146 := Tryz.isAgg257
  z146 := Tryz.sizeOf257
  v146 := Tryz.zeroValue257
  g1 := by kernel_rfl }
open Go.RowKit Go.Lib in
/-- strings.Contains: "Contains reports whether substr is within s.": AT A substr OF ONE BYTE c: IT RETURNS 'decide (0 ≤ Lib.indexByte s c)'; the world is as it was. (LAID: no walk: one application.) -/
theorem Tryz.strings_Contains_one (s : ByteArray) (c : UInt8) (w : World) :
    Calls Tryz.prog 36 #[.string s, .string ⟨#[c]⟩] w fun e w' => e = .returned (.bool (decide (0 ≤ Lib.indexByte s.data.toList c))) ∧ w' = w := Any.strings_Contains_one Tryz.lays144 s c w
def Tryz.lays145_ren : Go.Shelf.Ren := ⟨fun | 145 => 75 | 220 => 109 | 219 => 95 | 217 => 55 | 225 => 127 | 224 => 128 | 267 => 129 | 266 => 84 | 314 => 184 | n => n, fun | 9 => 9 | 4 => 4 | 59 => 152 | 3 => 3 | 5 => 5 | 46 => 35 | 146 => 257 | 51 => 232 | n => n, fun | 1 => 2 | n => n⟩
theorem Tryz.lays145 : Go.Proofs.Lays.n145 Tryz.prog Tryz.lays145_ren := {
  mixed := by kernel_rfl
  f145 := Tryz.func75.trans (congrArg some (by kernel_rfl))
  f217 := Tryz.func55.trans (congrArg some (by kernel_rfl))
  f219 := Tryz.func95.trans (congrArg some (by kernel_rfl))
  f220 := Tryz.func109.trans (congrArg some (by kernel_rfl))
  f224 := Tryz.func128.trans (congrArg some (by kernel_rfl))
  f225 := Tryz.func127.trans (congrArg some (by kernel_rfl))
  f266 := Tryz.func84.trans (congrArg some (by kernel_rfl))
  f267 := Tryz.func129.trans (congrArg some (by kernel_rfl))
  f314 := Tryz.func184.trans (congrArg some (by kernel_rfl))
  t3 := Tryz.underlying3
  a3 := Tryz.isAgg3
  z3 := Tryz.sizeOf3
  v3 := Tryz.zeroValue3
  t4 := Tryz.underlying4
  a4 := Tryz.isAgg4
  z4 := Tryz.sizeOf4
  v4 := Tryz.zeroValue4
  t5 := Tryz.underlying5
  a5 := Tryz.isAgg5
  z5 := Tryz.sizeOf5
  v5 := Tryz.zeroValue5
  t9 := Tryz.underlying9
  a9 := Tryz.isAgg9
  z9 := Tryz.sizeOf9
  v9 := Tryz.zeroValue9
  t46 := Tryz.underlying35
  a46 := Tryz.isAgg35
  z46 := Tryz.sizeOf35
  v46 := Tryz.zeroValue35
  t51 := Tryz.underlying232
  a51 := Tryz.isAgg232
  z51 := Tryz.sizeOf232
  v51 := Tryz.zeroValue232
  t59 := Tryz.underlying152
  a59 := Tryz.isAgg152
  z59 := Tryz.sizeOf152
  v59 := Tryz.zeroValue152
  t146 := Tryz.underlying257
  a146 := Tryz.isAgg257
  z146 := Tryz.sizeOf257
  v146 := Tryz.zeroValue257
  g1 := by kernel_rfl }
open Go.RowKit Go.Lib in
/-- strings.Cut: "Cut slices s around the first instance of sep, returning the text before and after sep. The found result reports whether sep appears in s. If sep does not appear in s, cut returns s, "", false.": IT RETURNS 'Lib.cut s sep'; the world is as it was but for the count of draws. (LAID: no walk: one application.) -/
theorem Tryz.strings_Cut (s sep : ByteArray) (m : Int) (w : World) (hs : s.size < 4294967281) (hm : w.cell? ⟨2, 0, none⟩ = some (.int .i64 m)) :
    Calls Tryz.prog 75 #[.string s, .string sep] w fun e w' => e = .returned (.tuple #[.string ⟨(Lib.cut s.data.toList sep.data.toList).1.toArray⟩, .string ⟨(Lib.cut s.data.toList sep.data.toList).2.1.toArray⟩, .bool (Lib.cut s.data.toList sep.data.toList).2.2]) ∧ ∃ n, w' = w.drewN n := Any.strings_Cut Tryz.lays145 s sep m w hs hm
def Tryz.lays100_ren : Go.Shelf.Ren := ⟨fun | 100 => 69 | 207 => 96 | n => n, fun | 9 => 9 | 4 => 4 | 3 => 3 | n => n, fun | n => n⟩
theorem Tryz.lays100 : Go.Proofs.Lays.n100 Tryz.prog Tryz.lays100_ren := {
  mixed := by kernel_rfl
  f100 := Tryz.func69.trans (congrArg some (by kernel_rfl))
  f207 := Tryz.func96.trans (congrArg some (by kernel_rfl))
  t3 := Tryz.underlying3
  a3 := Tryz.isAgg3
  z3 := Tryz.sizeOf3
  v3 := Tryz.zeroValue3
  t4 := Tryz.underlying4
  a4 := Tryz.isAgg4
  z4 := Tryz.sizeOf4
  v4 := Tryz.zeroValue4
  t9 := Tryz.underlying9
  a9 := Tryz.isAgg9
  z9 := Tryz.sizeOf9
  v9 := Tryz.zeroValue9 }
open Go.RowKit Go.Lib in
/-- strings.HasSuffix: "HasSuffix reports whether the string s ends with suffix.": IT RETURNS 'Lib.hasSuffix s suffix'; the world is as it was. ('hs': no Go string is longer: a caller has it of every string that it was handed.) (LAID: no walk: one application.) -/
theorem Tryz.strings_HasSuffix (s p : ByteArray) (w : World) (hs : s.size ≤ 9223372036854775807) :
    Calls Tryz.prog 69 #[.string s, .string p] w fun e w' => e = .returned (.bool (Lib.hasSuffix s.data.toList p.data.toList)) ∧ w' = w := Any.strings_HasSuffix Tryz.lays100 s p w hs
def Tryz.lays194_ren : Go.Shelf.Ren := ⟨fun | 194 => 61 | n => n, fun | 31 => 59 | 9 => 9 | 3 => 3 | 4 => 4 | 0 => 0 | n => n, fun | n => n⟩
theorem Tryz.lays194 : Go.Proofs.Lays.n194 Tryz.prog Tryz.lays194_ren := {
  mixed := by kernel_rfl
  f194 := Tryz.func61.trans (congrArg some (by kernel_rfl))
  t0 := Tryz.underlying0
  a0 := Tryz.isAgg0
  z0 := Tryz.sizeOf0
  v0 := Tryz.zeroValue0
  t3 := Tryz.underlying3
  a3 := Tryz.isAgg3
  z3 := Tryz.sizeOf3
  v3 := Tryz.zeroValue3
  t4 := Tryz.underlying4
  a4 := Tryz.isAgg4
  z4 := Tryz.sizeOf4
  v4 := Tryz.zeroValue4
  t9 := Tryz.underlying9
  a9 := Tryz.isAgg9
  z9 := Tryz.sizeOf9
  v9 := Tryz.zeroValue9
  t31 := Tryz.underlying59
  a31 := Tryz.isAgg59
  z31 := Tryz.sizeOf59
  v31 := Tryz.zeroValue59 }
open Go.RowKit Go.Lib Go.Sort in
/-- slices.Compact at []string, over an array: the library's two loops are walked. (LAID: no walk: one application.) -/
theorem Tryz.slices_Compact_string_arr (blk off cap : Nat) (d : Array (List UInt8)) (w : World) (hH : Holds encStr w blk off d) (hsz : d.size ≤ 9223372036854775807) (hcap : d.size ≤ cap) :
    Calls Tryz.prog 61 #[.slice (some ⟨blk, off, none⟩) d.size cap] w fun e w' => e = .returned (.slice (some ⟨blk, off, none⟩) (compactUpTo d d.size).length cap) ∧ ∃ q, w' = putRow encStr (Sort.ahead w q) blk off (compactUpTo d d.size ++ List.replicate (d.size - (compactUpTo d d.size).length) []).toArray := Any.slices_Compact_string_arr Tryz.lays194 blk off cap d w hH hsz hcap
open Go.RowKit Go.Lib Go.Sort in
/-- slices.Compact at []string: "Compact replaces consecutive runs of equal elements with a single copy. This is like the uniq command found on Unix. Compact modifies the contents of the slice s and returns the modified slice, which may have a smaller length. Compact zeroes the elements between the new length and the original length. The result preserves the nilness of s.": IT RETURNS THE SLICE CUT TO 'Lib.compact zs'; ITS CELLS HOLD 'Lib.compact zs', THEN ZERO VALUES up to the old length; all else is as it was, but for the count of draws. IN THE WORDS OF slices.Sort's CONTRACT ('Holds', 'putRow'): so the everyday 'slices.Sort(xs); xs = slices.Compact(xs)' goes from the one contract to the other. It asks 'zs.length ≤ cap' (every slice's: the reslicing 's[:k]' looks at it). Length 0, nil: '.._empty'. (LAID: no walk: one application.) -/
theorem Tryz.slices_Compact_string (blk off cap : Nat) (zs : List (List UInt8)) (w : World) (hH : Holds encStr w blk off zs.toArray) (hsz : zs.length ≤ 9223372036854775807) (hcap : zs.length ≤ cap) :
    Calls Tryz.prog 61 #[.slice (some ⟨blk, off, none⟩) zs.length cap] w fun e w' => e = .returned (.slice (some ⟨blk, off, none⟩) (Lib.compact zs).length cap) ∧ ∃ q, w' = putRow encStr (Sort.ahead w q) blk off (Lib.compact zs ++ List.replicate (zs.length - (Lib.compact zs).length) []).toArray := Any.slices_Compact_string Tryz.lays194 blk off cap zs w hH hsz hcap
open Go.RowKit Go.Lib Go.Sort in
/-- The same at a slice of length 0, a nil one too: it comes back as it is. (LAID: no walk: one application.) -/
theorem Tryz.slices_Compact_string_empty (a : Option Addr) (cap : Nat) (w : World) :
    Calls Tryz.prog 61 #[.slice a 0 cap] w fun e w' => e = .returned (.slice a 0 cap) ∧ w' = w := Any.slices_Compact_string_empty Tryz.lays194 a cap w
end Go.Proofs
namespace Go.Proofs.YtabcficlnhajeaaGreatDoor
open Go.RowKit Go.Maps

def startF (nm s : ByteArray) : ByteArray := nm ++ ⟨#[0]⟩ ++ s
/-- four bytes of a row -/
def rowB (r : Nat) : List UInt8 := [byteI ((r : Int) / 16777216), byteI ((r : Int) / 65536), byteI ((r : Int) / 256), byteI (r : Int)]
def keyF (nm s : ByteArray) (r : Nat) : ByteArray := startF nm s ++ ⟨#[0]⟩ ++ ⟨(rowB r).toArray⟩
theorem startF_list (nm s : ByteArray) : (startF nm s).data.toList = nm.data.toList ++ 0 :: s.data.toList := by simp [startF]
theorem startF_size (nm s : ByteArray) : (startF nm s).size = nm.size + 1 + s.size := by unfold startF; rw [ByteArray.size_append, ByteArray.size_append]; rfl
theorem keyF_list (nm s : ByteArray) (r : Nat) : (keyF nm s r).data.toList = nm.data.toList ++ 0 :: (s.data.toList ++ 0 :: rowB r) := by simp [keyF, startF]
theorem keyF_size (nm s : ByteArray) (r : Nat) : (keyF nm s r).size = nm.size + s.size + 6 := by
  unfold keyF
  rw [ByteArray.size_append, ByteArray.size_append, startF_size]
  show nm.size + 1 + s.size + 1 + 4 = _
  omega
theorem startF_any (nm s : ByteArray) (hn : nm.size ≤ 1000) (hs : s.size ≤ 1000) (w : World) : Calls Tryz.prog 56 #[.string nm, .string s] w fun e w' => e = .returned (.string (startF nm s)) ∧ w' = w := by
  have h1 := str_long nm ⟨#[0]⟩ (by show nm.size + 1 ≤ _; omega)
  have h2 := str_long (nm ++ ⟨#[0]⟩) s (by rw [ByteArray.size_append]; show nm.size + 1 + s.size ≤ _; omega)
  go_enter Tryz.func56, Tryz.ntmps56
  go_wp2
  go_ret
  exact ⟨rfl, rfl⟩
theorem urow4 (w : World) (a b c d : UInt8) {p q r s : Int} (h1 : p = (a.toNat : Int)) (h2 : q = (b.toNat : Int)) (h3 : r = (c.toNat : Int)) (h4 : s = (d.toNat : Int)) : URow 0 (.slice (some ⟨w.heap.size, 0, none⟩) 4 4) [a, b, c, d] (w.alloc (.cells #[.int .u8 p, .int .u8 q, .int .u8 r, .int .u8 s] 5)) := by
  subst h1 h2 h3 h4
  exact World.ownsRow_lit (base := 0) (e := 5) (size := 1) w #[.int .u8 (a.toNat : Nat), .int .u8 (b.toNat : Nat), .int .u8 (c.toNat : Nat), .int .u8 (d.toNat : Nat)] 4 (Nat.zero_le _) (by decide) rfl
set_option maxRecDepth 100000 in
set_option maxHeartbeats 1000000 in
theorem keyF_any (nm s : ByteArray) (r : Nat) (hn : nm.size ≤ 1000) (hs : s.size ≤ 1000) (w : World) : Calls Tryz.prog 41 #[.string nm, .string s, .int .i64 (r : Nat)] w fun e w' => e = .returned (.string (keyF nm s r)) ∧ Below w.heap.size w w' := by
  have h1 := str_long (startF nm s) ⟨#[0]⟩ (by rw [startF_size]; show nm.size + 1 + s.size + 1 ≤ _; omega)
  have h2 := str_long (startF nm s ++ ⟨#[0]⟩) ⟨(rowB r).toArray⟩ (by rw [ByteArray.size_append, startF_size]; show nm.size + 1 + s.size + 1 + 4 ≤ _; omega)
  have b0 := byteI_toNat ((r : Int) / 16777216)
  have b1 := byteI_toNat ((r : Int) / 65536)
  have b2 := byteI_toNat ((r : Int) / 256)
  have b3 := byteI_toNat (r : Int)
  have HB : Hid (Below w.heap.size w (w.alloc (.cells #[.int .u8 ((byteI ((r : Int) / 16777216)).toNat : Int), .int .u8 ((byteI ((r : Int) / 65536)).toNat : Int), .int .u8 ((byteI ((r : Int) / 256)).toNat : Int), .int .u8 ((byteI (r : Int)).toNat : Int)] 5)).drew) := ((Below.refl _ w).alloc (Nat.le_refl _) _).drew
  have C0 : Hid ((convert 139 9 (.slice (some ⟨w.heap.size, 0, none⟩) 4 4)).run Tryz.prog (w.alloc (.cells #[.int .u8 ((byteI ((r : Int) / 16777216)).toNat : Int), .int .u8 ((byteI ((r : Int) / 65536)).toNat : Int), .int .u8 ((byteI ((r : Int) / 256)).toNat : Int), .int .u8 ((byteI (r : Int)).toNat : Int)] 5)).drew = .ok (.string ⟨(rowB r).toArray⟩) (w.alloc (.cells #[.int .u8 ((byteI ((r : Int) / 16777216)).toNat : Int), .int .u8 ((byteI ((r : Int) / 65536)).toNat : Int), .int .u8 ((byteI ((r : Int) / 256)).toNat : Int), .int .u8 ((byteI (r : Int)).toNat : Int)] 5)).drew) := text_of (World.ownsRow.drew (urow4 w _ _ _ _ rfl rfl rfl rfl)) (by simp [rowB])
  go_enter Tryz.func41, Tryz.ntmps41
  go_wp2_with fail
  clear b0 b1 b2 b3
  go_region_held3 (fun wx => (convert 139 9 (.slice (some ⟨w.heap.size, 0, none⟩) 4 4)).run Tryz.prog wx = .ok (.string ⟨(rowB r).toArray⟩) wx) (exact C0.out) (first | (go_at_call 56; refine (startF_any nm s hn hs _).mono ?_; rintro _ w9 ⟨rfl, h9⟩; obtain rfl := h9.symm; clear h9))
  go_wp2
  go_ret
  exact ⟨rfl, HB.out⟩
/-- what may not be: a name -/
def nameBad (nm : ByteArray) : Bool := decide (nm.size = 0) || decide (16 < nm.size) || decide ((0 : UInt8) ∈ nm.data.toList)
/-- what check tells -/
def chkE (nm : ByteArray) (r : Int) : Int := if nameBad nm then 1 else if r < 1 ∨ 1073741824 < r then 2 else 0
theorem size_zero_list {nm : ByteArray} (h : nm.size = 0) : nm.toList = [] := by
  rw [ByteArray.toList_eq, size_zero h]
theorem size_pos_list {nm : ByteArray} (h : ¬ nm.size = 0) : ¬ nm.toList = [] := by
  rw [ByteArray.toList_eq]
  intro e
  exact h (by show nm.data.size = 0; rw [← Array.length_toList, e]; rfl)
theorem in_iff (nm : ByteArray) : decide (0 ≤ Lib.indexByte nm.data.toList 0) = decide ((0 : UInt8) ∈ nm.data.toList) := by
  by_cases h : (0 : UInt8) ∈ nm.data.toList
  · rw [decide_eq_true h, decide_eq_true ((indexByte_none _ _).1.2 h)]
  · rw [decide_eq_false h, decide_eq_false (fun e => h ((indexByte_none _ _).1.1 e))]
set_option maxHeartbeats 1000000 in
theorem checkG_any (nm : ByteArray) (r : Int) (w : World) : Calls Tryz.prog 16 #[.string nm, .int .i64 r] w fun e w' => e = .returned (errV (chkE nm r)) ∧ w' = w := by
  have hE1 : ∀ n : Int, n ≠ 0 → errV n = .iface 30 (.int .i64 n) := fun n hn => by unfold errV; rw [if_neg hn]
  have hE0 : errV 0 = .nilIface := rfl
  by_cases h0 : nm.size = 0
  · have hl := size_zero_list h0
    have hc : chkE nm r = 1 := by simp [chkE, nameBad, h0]
    rw [hc, hE1 1 (by decide)]
    obtain rfl := size_zero h0
    clear h0 hc hE1 hE0
    go_enter Tryz.func16, Tryz.ntmps16
    go_wp2
    go_ret
    exact ⟨rfl, rfl⟩
  · have hl := size_pos_list h0
    have hq : nm.toList.isEmpty = false := List.isEmpty_eq_false_iff.2 hl
    by_cases h1 : 16 < nm.size
    · have i1 : (16 : Int) < (nm.size : Int) := by omega
      have hc : chkE nm r = 1 := by simp [chkE, nameBad, h1]
      rw [hc, hE1 1 (by decide)]
      clear h0 hc h1 hE1 hE0 hl
      go_enter Tryz.func16, Tryz.ntmps16
      go_wp2
      go_ret
      exact ⟨rfl, rfl⟩
    · have i1 : ¬ (16 : Int) < (nm.size : Int) := by omega
      by_cases h2 : (0 : UInt8) ∈ nm.data.toList
      · have hc : chkE nm r = 1 := by simp [chkE, nameBad, h2]
        rw [hc, hE1 1 (by decide)]
        have hd := in_iff nm
        rw [decide_eq_true h2] at hd
        clear h0 hc h1 h2 hE1 hE0 hl
        go_enter Tryz.func16, Tryz.ntmps16
        go_wp2_with fail
        refine (Tryz.strings_Contains_one nm 0 w).mono ?_
        rintro _ w9 ⟨rfl, h9⟩
        obtain rfl := h9.symm
        rw [hd]
        clear h9 hd
        go_wp2
        go_ret
        exact ⟨rfl, rfl⟩
      · have hb : nameBad nm = false := by simp only [nameBad, decide_eq_false h0, decide_eq_false h1, decide_eq_false h2, Bool.or_self]
        have hd := in_iff nm
        rw [decide_eq_false h2] at hd
        by_cases h3 : r < 1
        · have hc : chkE nm r = 2 := by rw [chkE, hb, if_neg (by decide), if_pos (.inl h3)]
          rw [hc, hE1 2 (by decide)]
          clear h0 hc h1 h2 hE1 hE0 hl hb
          go_enter Tryz.func16, Tryz.ntmps16
          go_wp2_with fail
          refine (Tryz.strings_Contains_one nm 0 w).mono ?_
          rintro _ w9 ⟨rfl, h9⟩
          obtain rfl := h9.symm
          rw [hd]
          clear h9 hd
          go_wp2
          go_ret
          exact ⟨rfl, rfl⟩
        · by_cases h4 : 1073741824 < r
          · have hc : chkE nm r = 2 := by rw [chkE, hb, if_neg (by decide), if_pos (.inr h4)]
            rw [hc, hE1 2 (by decide)]
            clear h0 hc h1 h2 hE1 hE0 hl hb
            go_enter Tryz.func16, Tryz.ntmps16
            go_wp2_with fail
            refine (Tryz.strings_Contains_one nm 0 w).mono ?_
            rintro _ w9 ⟨rfl, h9⟩
            obtain rfl := h9.symm
            rw [hd]
            clear h9 hd
            go_wp2
            go_ret
            exact ⟨rfl, rfl⟩
          · have hc : chkE nm r = 0 := by rw [chkE, hb, if_neg (by decide), if_neg (by omega)]
            rw [hc, hE0]
            clear h0 hc h1 h2 hE1 hE0 hl hb
            go_enter Tryz.func16, Tryz.ntmps16
            go_wp2_with fail
            refine (Tryz.strings_Contains_one nm 0 w).mono ?_
            rintro _ w9 ⟨rfl, h9⟩
            obtain rfl := h9.symm
            rw [hd]
            clear h9 hd
            go_wp2
            go_ret
            exact ⟨rfl, rfl⟩
theorem overF_any (bt : Nat) (w : World) : Calls Tryz.prog 5 #[.pointer (some ⟨bt, 0, none⟩)] w fun e w' => e = .returned (.tuple #[.pointer (some ⟨w.heap.size, 0, none⟩), .nilIface]) ∧ w' = w.alloc (.cells #[.pointer (some ⟨bt, 0, none⟩)] 53) := by
  go_enter Tryz.func5, Tryz.ntmps5
  go_wp2
  go_ret2
  exact ⟨rfl, rfl⟩
theorem over_nil (w : World) : Calls Tryz.prog 5 #[.pointer none] w fun e w' => e = .returned (.tuple #[.pointer none, .iface 30 (.int .i64 7)]) ∧ w' = w := by
  go_enter Tryz.func5, Tryz.ntmps5
  go_wp2
  go_ret2
  exact ⟨rfl, rfl⟩
end Go.Proofs.YtabcficlnhajeaaGreatDoor

