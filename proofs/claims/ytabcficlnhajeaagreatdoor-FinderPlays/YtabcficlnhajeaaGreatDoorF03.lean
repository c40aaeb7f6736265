/- Texts of the proof of FinderPlays: Bld, Mk2, Bck, Wfl, Wnm, Whd, Whw, Cmt0, Cal0, Ttw, Trp. -/
import Derived.Test.YtabcficlnhajeaaGreatDoorF02
import Derived.Laws.Tables
namespace Go.Proofs.YtabcficlnhajeaaGreatDoor
open Go.RowKit Go.Maps

/-- a mark, in cells -/
def markL (used : Nat → Bool) (rp rn : Nat → Int) (m : Nat) (c : Int) : List Value := stateL used rp rn m ++ [.int .i64 c]
theorem markL_len (used : Nat → Bool) (rp rn : Nat → Int) (m : Nat) (c : Int) : (markL used rp rn m c).length = 2018 := by rw [markL, List.length_append, stateL_len]; rfl
theorem markL_one (used : Nat → Bool) (rp rn : Nat → Int) (m : Nat) (c : Int) : ∀ v ∈ markL used rp rn m c, v.oneCell' = true := fun v hv => by
  rcases List.mem_append.1 hv with h | h
  · exact stateL_one _ _ _ _ v h
  · rw [List.mem_singleton.1 h]; rfl
theorem fold_get (off : Nat) : ∀ (vs : List Value) (n : Nat) (A : Array Value) (k : Nat), off + n + vs.length ≤ A.size →
    ((vs.zipIdx n).foldl (fun cs x => cs.setIfInBounds (off + x.2) x.1) A)[k]? = (if off + n ≤ k ∧ k < off + n + vs.length then vs[k - (off + n)]? else A[k]?) ∧ ((vs.zipIdx n).foldl (fun cs x => cs.setIfInBounds (off + x.2) x.1) A).size = A.size
  | [], n, A, k, _ => by simp; omega
  | v :: r, n, A, k, h => by
    rw [List.zipIdx_cons, List.foldl_cons]
    have h1 : off + (n + 1) + r.length ≤ (A.setIfInBounds (off + n) v).size := by rw [Array.size_setIfInBounds]; simp only [List.length_cons] at h; omega
    obtain ⟨e1, e2⟩ := fold_get off r (n + 1) (A.setIfInBounds (off + n) v) k h1
    refine ⟨?_, by rw [e2, Array.size_setIfInBounds]⟩
    rw [e1]
    simp only [List.length_cons] at h ⊢
    by_cases c1 : off + (n + 1) ≤ k ∧ k < off + (n + 1) + r.length
    · rw [if_pos c1, if_pos (by omega), show k - (off + n) = (k - (off + (n + 1))) + 1 by omega, List.getElem?_cons_succ]
    · rw [if_neg c1]
      by_cases c2 : k = off + n
      · subst c2
        rw [if_pos (by omega), Nat.sub_self, List.getElem?_cons_zero, Array.getElem?_setIfInBounds_self_of_lt (by omega)]
      · rw [if_neg (by omega), Array.getElem?_setIfInBounds_ne (by omega)]

theorem fill_fold (S : List Value) (off : Nat) (A : Array Value) : S.toArray.zipIdx.foldl (fun cs (c, j) => cs.setIfInBounds (off + j) c) A = (S.zipIdx 0).foldl (fun cs x => cs.setIfInBounds (off + x.2) x.1) A := by
  rw [← Array.foldl_toList, Array.toList_zipIdx]
/-- one part laid -/
theorem fill_cons (place : Nat → Option (Nat × Nat)) (A : Array Value) (i : Nat) (v : Value) (rest : List (Nat × Value)) (vs : List Value) (off size : Nat) (hp : place i = some (off, size)) (hv : v.cells = vs.toArray) (hs : vs.length = size) (hA : off + size ≤ A.size) :
    Instr.fill place A ((i, v) :: rest) = Instr.fill place ((vs.zipIdx 0).foldl (fun cs x => cs.setIfInBounds (off + x.2) x.1) A) rest := by
  rw [Instr.fill, hp, hv]
  simp only
  rw [if_neg (by simp [hs]; omega), fill_fold]
theorem info46n : (Tryz.prog.info? 88).map (·.size) = some 2017 := by kernel_rfl
theorem info3n : (Tryz.prog.info? 3).map (·.size) = some 1 := by kernel_rfl
theorem cells_agg (A : Array Value) : (Value.agg A).cells = A := rfl

end Go.Proofs.YtabcficlnhajeaaGreatDoor
namespace Go.Proofs.YtabcficlnhajeaaGreatDoor
open Go.RowKit Go.Maps

section
variable {bp bd bm n : Nat} {p : Pg} {s : St} {w : World} {f : Nat → Option ByteArray}
end
end Go.Proofs.YtabcficlnhajeaaGreatDoor
namespace Go.Proofs.YtabcficlnhajeaaGreatDoor
open Go.RowKit Go.Maps

/-- a pager as it was noted -/
def Pg.back (p q : Pg) : Pg := { p with used := q.used, rp := q.rp, rn := q.rn, chg := q.chg }

section
variable {bp bd bm n : Nat} {p : Pg} {s : St} {w : World} {f : Nat → Option ByteArray}
theorem Cells.setState {q : Pg} {m : Nat} (h : Cells bp bd bm p w) : Cells bp bd m (p.back q) (w.setCells bp 2001 (stateL q.used q.rp q.rn m)) := by
  refine (h.row.setN 2001 (stateL q.used q.rp q.rn m) (by rw [stateL_len]; omega)).cells fun k hk => ?_
  have hl := stateL_len q.used q.rp q.rn m
  by_cases h1 : 2001 ≤ k ∧ k < 4018
  · obtain ⟨j, rfl⟩ : ∃ j, k = 2001 + j := ⟨k - 2001, by omega⟩
    exact over_in _ _ _ (stateL_get (p.back q) bd m (by omega))
  · rw [over_out _ _ _ (by omega)]
    unfold cellOf
    by_cases a0 : k = 0
    · rw [if_pos a0, if_pos a0]
    rw [if_neg a0, if_neg a0]
    by_cases a1 : k < 2001
    · rw [if_pos a1, if_pos a1]; rfl
    rw [if_neg a1, if_neg a1, if_neg (show ¬ k < 4001 by omega), if_neg (show ¬ k < 4001 by omega), if_neg (show ¬ k < 4017 by omega), if_neg (show ¬ k < 4017 by omega), if_neg (show ¬ k = 4017 by omega), if_neg (show ¬ k = 4017 by omega)]; rfl

end
end Go.Proofs.YtabcficlnhajeaaGreatDoor
namespace Go.Proofs.YtabcficlnhajeaaGreatDoor
open Go.RowKit Go.Maps

/-- a page of bytes in memory -/
structure BRow (B : Nat) (g : Nat → Nat) (w : World) : Prop where
  cell : ∀ j, j < 1024 → w.cell? ⟨B, j, none⟩ = some (.int .u8 (g j))
  free : ∀ j, w.frozen? ⟨B, j, none⟩ = false
  small : ∀ j, g j < 256
theorem BRow.lt {B : Nat} {g : Nat → Nat} {w : World} (h : BRow B g w) : B < w.heap.size := World.block_lt_of_cell? w _ (h.cell 0 (by omega))
theorem BRow.block {B : Nat} {g : Nat → Nat} {w w' : World} (h : BRow B g w) (hb : w'.heap[B]? = w.heap[B]?) : BRow B g w' :=
  ⟨fun k hk => (World.cell?_of_block hb).trans (h.cell k hk), fun k => (World.frozen?_of_block (a := ⟨B, k, none⟩) hb).trans (h.free k), h.small⟩
theorem BRow.set {B : Nat} {g : Nat → Nat} {w : World} (h : BRow B g w) (o : Nat) (ho : o < 1024) (x : Nat) (hx : x < 256) : BRow B (fun j => if j = o then x else g j) (w.setCell ⟨B, o, none⟩ (.int .u8 x)) := by
  refine ⟨fun j hj => ?_, fun j => by rw [World.frozen?_setCell]; exact h.free j, fun j => ?_⟩
  · by_cases e : j = o
    · subst e
      rw [World.cell?_setCell_same _ _ _ (h.cell j hj), if_pos rfl]
    · rw [World.cell?_setCell_other _ _ _ _ (fun e' => e (by injection e' with e1 e2; omega)), h.cell j hj, if_neg e]
  · show (if j = o then x else g j) < 256
    split
    · exact hx
    · exact h.small j

theorem or_bit2 : ∀ (v : Fin 256) (i : Fin 8), bits BinOp.or IntKind.u8 (v.val : Int) (2 ^ i.val % 256) = ((v.val ||| 2 ^ i.val : Nat) : Int) ∧ (v.val ||| 2 ^ i.val) < 256 := by decide +kernel
theorem or_at (v : Nat) (hv : v < 256) (i : Nat) (hi : i < 8) : bits BinOp.or IntKind.u8 (v : Int) (2 ^ i % 256) = ((v ||| 2 ^ i : Nat) : Int) ∧ (v ||| 2 ^ i) < 256 := or_bit2 ⟨v, hv⟩ ⟨i, hi⟩

end Go.Proofs.YtabcficlnhajeaaGreatDoor
namespace Go.Proofs.YtabcficlnhajeaaGreatDoor
open Go.RowKit Go.Maps

theorem info_parts {α β γ : Type} {o : Option TypeInfo} {f : TypeInfo → α} {g : TypeInfo → β} {k : TypeInfo → γ} {a : α} {b : β} {c : γ} (h : o.map (fun i => (f i, g i, k i)) = some (a, b, c)) : ∃ i, o = some i ∧ f i = a ∧ g i = b ∧ k i = c := by
  cases o with
  | none => cases h
  | some i => simp at h; exact ⟨i, rfl, h.1, h.2.1, h.2.2⟩
/-- a page of noughts, made -/
theorem made_page (w : World) : ∃ w', (Instr.makeSlice 139 (.int .i64 1024) (.int .i64 1024)).run Tryz.prog w = .ok (.slice (some ⟨w.heap.size, 0, none⟩) 1024 1024) w' ∧ Below w.heap.size w w' ∧ BRow w.heap.size (fun _ => 0) w' := by
  obtain ⟨i0, hi, hz0, hz1, hz2⟩ := info_parts info5
  have h := run_make (P := Tryz.prog) w 139 5 i0 (.int .u8 0) Tryz.underlying139 hi hz0 .i64 .i64 1024 1024 (by omega) (Int.le_refl _) (by rw [hz2]; omega) (by omega)
  rw [hz1] at h
  have hn' := heap_alloc_new w (.cells (madeCells (Value.int .u8 0).cells 1024) 5)
  refine ⟨_, h, (Below.refl _ w).alloc (Nat.le_refl _) _, fun j hj => ?_, fun j => ?_, fun j => by decide⟩
  · simp only [World.cell?, Nat.mul_one, show (1024 : Int).toNat = 1024 from rfl, hn']
    simp [madeCells, hj, Value.cells, Nat.mod_one]
  · simp only [World.frozen?, Nat.mul_one, show (1024 : Int).toNat = 1024 from rfl, hn']
    simp
/-- a page's text -/
def bytesOf (g : Nat → Nat) : List UInt8 := (List.range 1024).map fun j => UInt8.ofNat (g j)
theorem bytesOf_len (g : Nat → Nat) : (bytesOf g).length = 1024 := by simp [bytesOf]
theorem bytesOf_getD (g : Nat → Nat) {j : Nat} (hj : j < 1024) : (bytesOf g).getD j 0 = UInt8.ofNat (g j) := by
  simp [bytesOf, List.getD_eq_getElem?_getD, List.getElem?_map, List.getElem?_range hj]
theorem BRow.text {B : Nat} {g : Nat → Nat} {w : World} (h : BRow B g w) : (convert 139 9 (.slice (some ⟨B, 0, none⟩) 1024 1024)).run Tryz.prog w = .ok (.string ⟨(bytesOf g).toArray⟩) w := by
  have := run_convert_bytes_back (P := Tryz.prog) w 139 9 5 ⟨B, 0, none⟩ 1024 (bytesOf g) Tryz.underlying139 Tryz.underlying5 Tryz.underlying9 (fun j hj => by
    rw [bytesOf_len] at hj
    rw [Addr.add_lit, Nat.zero_add, h.cell j hj]
    have hs := h.small j
    simp [bytesOf, Nat.mod_eq_of_lt hs])
  rw [bytesOf_len] at this
  exact this

end Go.Proofs.YtabcficlnhajeaaGreatDoor
namespace Go.Proofs.YtabcficlnhajeaaGreatDoor
open Go.RowKit Go.Maps

/-- what is known within writeHead: three rows that were laid, and the page -/
structure W4 (w wr : World) (F G R : List Value) (g : Nat → Nat) : Prop where
  used : wr.rangeAt w.heap.size 0 F
  upper : wr.rangeAt (w.heap.size + 1) 0 G
  roots : wr.rangeAt (w.heap.size + 1 + 1) 0 R
  page : BRow (w.heap.size + 1 + 1 + 1) g wr
  below : Below w.heap.size w wr
section
variable {w wr wx : World} {F G R : List Value} {g g' : Nat → Nat}
theorem W4.size (h : W4 w wr F G R g) : w.heap.size + 4 ≤ wr.heap.size := by have := h.page.lt; omega
theorem rangeAt_block {B o : Nat} {L : List Value} {w w' : World} (h : w.rangeAt B o L) (hb : w'.heap[B]? = w.heap[B]?) : w'.rangeAt B o L := fun j v hj => by
  rw [World.cell?_of_block (a := ⟨B, o + j, none⟩) hb]; exact h j v hj
theorem W4.later (h : W4 w wr F G R g) (hb : Below wr.heap.size wr wx) : W4 w wx F G R g := by
  have := h.size
  exact ⟨rangeAt_block h.used (hb.block _ (by omega)), rangeAt_block h.upper (hb.block _ (by omega)), rangeAt_block h.roots (hb.block _ (by omega)), h.page.block (hb.block _ (by omega)), h.below.trans (hb.mono (by omega))⟩
theorem W4.turn (h : W4 w wr F G R g) (ho : Only (fun b => b = w.heap.size + 1 + 1 + 1) wr wx) (hp : BRow (w.heap.size + 1 + 1 + 1) g' wx) : W4 w wx F G R g' := by
  have := h.size
  refine ⟨rangeAt_block h.used (ho.block _ (by omega) (by omega)), rangeAt_block h.upper (ho.block _ (by omega) (by omega)), rangeAt_block h.roots (ho.block _ (by omega) (by omega)), hp, Only.below h.below ho (by omega) (fun i hi => by omega)⟩
theorem W4.drew (h : W4 w wr F G R g) : W4 w wr.drew F G R g := ⟨rangeAt_block h.used rfl, rangeAt_block h.upper rfl, rangeAt_block h.roots rfl, h.page.block rfl, h.below.drew⟩
end
theorem W4.start (w : World) (F G R : List Value) : ∃ w1, (Instr.makeSlice 139 (.int .i64 1024) (.int .i64 1024)).run Tryz.prog (((w.alloc (.cells F.toArray 82)).alloc (.cells G.toArray 82)).alloc (.cells R.toArray 85)) = .ok (.slice (some ⟨w.heap.size + 1 + 1 + 1, 0, none⟩) 1024 1024) w1 ∧ W4 w w1 F G R (fun _ => 0) := by
  have row : ∀ (B : Nat) (L : List Value) (t : TypeId) (wz : World), wz.heap[B]? = some (.cells L.toArray t) → wz.rangeAt B 0 L := fun B L t wz hB j v hj => by
    rw [Nat.zero_add, cell_of_row _ _ _ _ _ _ hB]; simpa using hj
  have s1 : (w.alloc (.cells F.toArray 82)).heap.size = w.heap.size + 1 := World.size_alloc _ _
  have s2 : ((w.alloc (.cells F.toArray 82)).alloc (.cells G.toArray 82)).heap.size = w.heap.size + 1 + 1 := by rw [World.size_alloc, s1]
  have s3 : (((w.alloc (.cells F.toArray 82)).alloc (.cells G.toArray 82)).alloc (.cells R.toArray 85)).heap.size = w.heap.size + 1 + 1 + 1 := by rw [World.size_alloc, s2]
  have r1 := row _ F 82 _ (heap_alloc_new w (.cells F.toArray 82))
  have r2 := row _ G 82 _ (heap_alloc_new (w.alloc (.cells F.toArray 82)) (.cells G.toArray 82))
  have r3 := row _ R 85 _ (heap_alloc_new ((w.alloc (.cells F.toArray 82)).alloc (.cells G.toArray 82)) (.cells R.toArray 85))
  rw [s1] at r2
  rw [s2] at r3
  have b1 : Below w.heap.size w (w.alloc (.cells F.toArray 82)) := (Below.refl _ _).alloc (Nat.le_refl _) _
  have b2 : Below (w.heap.size + 1) (w.alloc (.cells F.toArray 82)) ((w.alloc (.cells F.toArray 82)).alloc (.cells G.toArray 82)) := by rw [← s1]; exact (Below.refl _ _).alloc (Nat.le_refl _) _
  have b3 : Below (w.heap.size + 1 + 1) ((w.alloc (.cells F.toArray 82)).alloc (.cells G.toArray 82)) (((w.alloc (.cells F.toArray 82)).alloc (.cells G.toArray 82)).alloc (.cells R.toArray 85)) := by rw [← s2]; exact (Below.refl _ _).alloc (Nat.le_refl _) _
  obtain ⟨w1, h1, h2, h3⟩ := made_page (((w.alloc (.cells F.toArray 82)).alloc (.cells G.toArray 82)).alloc (.cells R.toArray 85))
  rw [s3] at h1 h2 h3
  refine ⟨w1, h1, ?_, ?_, ?_, h3, b1.trans ((b2.mono (by omega)).trans ((b3.mono (by omega)).trans (h2.mono (by omega))))⟩
  · exact rangeAt_block (rangeAt_block (rangeAt_block r1 (b2.block _ (by omega))) (b3.block _ (by omega))) (h2.block _ (by omega))
  · exact rangeAt_block (rangeAt_block r2 (b3.block _ (by omega))) (h2.block _ (by omega))
  · exact rangeAt_block r3 (h2.block _ (by omega))

theorem root_part (rp rn : Nat → Int) : ∀ (k : Nat), k < 8 → (rootsL rp rn).toArray.extract (k * 2) (k * 2 + 2) = #[Value.int .i64 (rp k), Value.int .i64 (rn k)]
  | 0, _ => rfl
  | 1, _ => rfl
  | 2, _ => rfl
  | 3, _ => rfl
  | 4, _ => rfl
  | 5, _ => rfl
  | 6, _ => rfl
  | 7, _ => rfl
  | k + 8, h => absurd h (by omega)
/-- a root out of a row of them -/
theorem run_index_root (A : Array Value) (x y : Int) (k : Nat) (hk : k < 8) (he : A.extract (k * 2) (k * 2 + 2) = #[.int .i64 x, .int .i64 y]) (w : World) : (Instr.index 85 (.agg A) (.int .i64 k)).run Tryz.prog w = .ok (.agg #[.int .i64 x, .int .i64 y]) w := by
  simp [Instr.index, run_underlying Tryz.underlying85, asIntOf, part, Tryz.sizeOf84, Tryz.isAgg84, go_sem]
  rw [if_pos hk, he]
end Go.Proofs.YtabcficlnhajeaaGreatDoor
namespace Go.Proofs.YtabcficlnhajeaaGreatDoor
open Go.RowKit Go.Maps

/-- what the bytes of a head say -/
structure IsHead (used upper : Nat → Bool) (rp rn : Nat → Int) (g : Nat → Nat) : Prop where
  used : ∀ k, k < 2000 → (g (k / 8)).testBit (k % 8) = used k
  upper : ∀ k, k < 2000 → (g (250 + k / 8)).testBit (k % 8) = upper k
  page : ∀ i, i < 8 → ((g (500 + 4 * i) * 256 + g (501 + 4 * i) : Nat) : Int) = rp i
  note : ∀ i, i < 8 → ((g (502 + 4 * i) * 256 + g (503 + 4 * i) : Nat) : Int) = rn i

end Go.Proofs.YtabcficlnhajeaaGreatDoor
namespace Go.Proofs.YtabcficlnhajeaaGreatDoor
open Go.RowKit Go.Maps

/-- the turn -/
def tb (pg : Nat → ByteArray) : Bool := (pg 4000).data.toList.getD 0 0 != 0
theorem headOf_tb (pg : Nat → ByteArray) : headOf pg = pg (placeF 0 (tb pg)) := rfl
theorem placeF_inj {k j : Nat} {a b : Bool} (hk : k < 2000) (hj : j < 2000) (h : placeF k a = placeF j b) : k = j ∧ a = b := by
  unfold placeF at h
  cases a <;> cases b <;> simp at h <;> first | exact ⟨by omega, rfl⟩ | omega
theorem placeF_turn {k : Nat} (hk : k < 2000) (a : Bool) : placeF k a ≠ 4000 := by unfold placeF; split <;> omega

/-- a pager that may be -/
structure Pg.Ok (p : Pg) : Prop where
  zero : p.used 0 = false
  chg : ∀ k t, p.chg k = some t → p.used k = true ∧ k < 2000 ∧ t.size = 1024
  rp : ∀ i, i < 8 → 0 ≤ p.rp i ∧ p.rp i < 65536
  rn : ∀ i, i < 8 → 0 ≤ p.rn i ∧ p.rn i < 65536
theorem Pg.Ok.none0 {p : Pg} (h : p.Ok) : p.chg 0 = none := by
  cases e : p.chg 0 with
  | none => rfl
  | some t => have := (h.chg 0 t e).1; rw [h.zero] at this; cases this

/-- its places are the disk's -/
structure Lies (p : Pg) (pg : Nat → ByteArray) : Prop where
  upper : ∀ k, k < 2000 → p.upper k = upperOf (headOf pg) k
  turn : p.upper 0 = tb pg

/-- what a page has, if it is in use -/
def Pg.view (p : Pg) (pg : Nat → ByteArray) (k : Nat) : Option ByteArray := if k < 2000 ∧ p.used k = true then some (p.text pg k) else none
theorem Pg.view_yes {p : Pg} {pg : Nat → ByteArray} {k : Nat} (hk : k < 2000) (h : p.used k = true) : p.view pg k = some (p.text pg k) := if_pos ⟨hk, h⟩
theorem Pg.view_no {p : Pg} {pg : Nat → ByteArray} {k : Nat} (h : p.used k = false) : p.view pg k = none := if_neg (fun e => by rw [h] at e; cases e.2)
theorem Pg.view_congr {p q : Pg} {pg pg' : Nat → ByteArray} (hu : ∀ k, k < 2000 → p.used k = q.used k) (ht : ∀ k, k < 2000 → q.used k = true → p.text pg k = q.text pg' k) (k : Nat) : p.view pg k = q.view pg' k := by
  unfold Pg.view
  by_cases hk : k < 2000
  · rw [hu k hk]
    by_cases h : q.used k = true
    · rw [if_pos ⟨hk, h⟩, if_pos ⟨hk, h⟩, ht k hk h]
    · rw [if_neg (fun e => h e.2), if_neg (fun e => h e.2)]
  · rw [if_neg (fun e => hk e.1), if_neg (fun e => hk e.1)]

/-- where pages lie behind a commit -/
def Pg.up (p : Pg) (k : Nat) : Bool := if k = 0 ∨ (p.chg k).isSome = true then !p.upper k else p.upper k
/-- a pager behind a commit -/
def Pg.done (p : Pg) : Pg := { p with upper := p.up, chg := fun _ => none, commits := p.commits + 1 }
theorem Pg.up_zero (p : Pg) : p.up 0 = !p.upper 0 := if_pos (.inl rfl)
theorem Pg.up_chg {p : Pg} {k : Nat} {t : ByteArray} (h : p.chg k = some t) : p.up k = !p.upper k := if_pos (.inr (by rw [h]; rfl))
theorem Pg.up_not {p : Pg} {k : Nat} (h0 : k ≠ 0) (h : p.chg k = none) : p.up k = p.upper k := if_neg (fun e => by
  rcases e with e | e
  · exact h0 e
  · rw [h] at e; cases e)

/-- all is committed -/
structure Done (p : Pg) (pg pg' : Nat → ByteArray) : Prop where
  turn : tb pg' = !p.upper 0
  head : ∃ g : Nat → Nat, pg' (placeF 0 (!p.upper 0)) = ⟨(bytesOf g).toArray⟩ ∧ IsHead p.used p.up p.rp p.rn g ∧ ∀ j, g j < 256
  page : ∀ k t, p.chg k = some t → pg' (placeF k (!p.upper k)) = t
  rest : ∀ k, 0 < k → k < 2000 → p.chg k = none → pg' (placeF k (p.upper k)) = pg (placeF k (p.upper k))
/-- nothing of what was committed has changed -/
structure Kept (p : Pg) (pg pg' : Nat → ByteArray) : Prop where
  turn : tb pg' = tb pg
  page : ∀ k, k < 2000 → pg' (placeF k (p.upper k)) = pg (placeF k (p.upper k))

theorem byte_of {g : Nat → Nat} (hg : ∀ j, g j < 256) {j : Nat} (hj : j < 1024) : ((bytesOf g).getD j 0).toNat = g j := by
  rw [bytesOf_getD g hj, UInt8.toNat_ofNat']
  exact Nat.mod_eq_of_lt (hg j)
section
variable {used upper : Nat → Bool} {rp rn : Nat → Int} {g : Nat → Nat}
theorem head_used (h : IsHead used upper rp rn g) (hg : ∀ j, g j < 256) (h0 : used 0 = false) {k : Nat} (hk : k < 2000) : usedOf ⟨(bytesOf g).toArray⟩ k = used k := by
  unfold usedOf bitOf
  simp only []
  rw [byte_of hg (by omega), h.used k hk]
  by_cases e : k = 0
  · subst e; rw [h0]; rfl
  · rw [decide_eq_true (by omega), Bool.true_and]
theorem head_upper (h : IsHead used upper rp rn g) (hg : ∀ j, g j < 256) {k : Nat} (hk : k < 2000) : upperOf ⟨(bytesOf g).toArray⟩ k = upper k := by
  unfold upperOf bitOf
  simp only []
  rw [byte_of hg (by omega), show (k + 2000) / 8 = 250 + k / 8 by omega, show (k + 2000) % 8 = k % 8 by omega, h.upper k hk]
theorem head_rp (h : IsHead used upper rp rn g) (hg : ∀ j, g j < 256) {i : Nat} (hi : i < 8) : rpOf ⟨(bytesOf g).toArray⟩ i = rp i := by
  unfold rpOf numOf
  simp only []
  rw [byte_of hg (by omega), byte_of hg (by omega), show 500 + 4 * i + 1 = 501 + 4 * i by omega, h.page i hi]
theorem head_rn (h : IsHead used upper rp rn g) (hg : ∀ j, g j < 256) {i : Nat} (hi : i < 8) : rnOf ⟨(bytesOf g).toArray⟩ i = rn i := by
  unfold rnOf numOf
  simp only []
  rw [byte_of hg (by omega), byte_of hg (by omega), show 502 + 4 * i + 1 = 503 + 4 * i by omega, h.note i hi]
end

/-- what is loaded may be -/
theorem loaded_ok (pg : Nat → ByteArray) (c : Int) (d : Bool) : (loaded pg c d).Ok :=
  ⟨rfl, fun _ _ h => (by cases h), fun i _ => numOf_lt _ _, fun i _ => numOf_lt _ _⟩
theorem loaded_lies {pg : Nat → ByteArray} (c : Int) (d : Bool) (h : upperOf (headOf pg) 0 = tb pg) : Lies (loaded pg c d) pg := ⟨fun _ _ => rfl, h⟩
theorem Lies.good {p : Pg} {pg : Nat → ByteArray} (h : Lies p pg) : upperOf (headOf pg) 0 = tb pg := by rw [← h.upper 0 (by omega), h.turn]

section
variable {p : Pg} {pg pg' : Nat → ByteArray}
theorem Done.headIs (h : Done p pg pg') : ∃ g : Nat → Nat, headOf pg' = ⟨(bytesOf g).toArray⟩ ∧ IsHead p.used p.up p.rp p.rn g ∧ ∀ j, g j < 256 := by
  obtain ⟨g, h1, h2, h3⟩ := h.head
  exact ⟨g, by rw [headOf_tb, h.turn, h1], h2, h3⟩
theorem Done.lies (h : Done p pg pg') : Lies p.done pg' := by
  obtain ⟨g, h1, h2, h3⟩ := h.headIs
  refine ⟨fun k hk => ?_, ?_⟩
  · rw [h1, head_upper h2 h3 hk]; rfl
  · rw [h.turn]; exact p.up_zero
theorem Done.text (h : Done p pg pg') (ho : p.Ok) {k : Nat} (hk : k < 2000) (hu : p.used k = true) : pg' (placeF k (p.up k)) = p.text pg k := by
  have h0 : k ≠ 0 := fun e => by rw [e, ho.zero] at hu; cases hu
  unfold Pg.text
  cases e : p.chg k with
  | none => rw [Pg.up_not h0 e, h.rest k (by omega) hk e]; rfl
  | some t => rw [Pg.up_chg e, h.page k t e]; rfl
theorem Done.view (h : Done p pg pg') (ho : p.Ok) (k : Nat) : p.done.view pg' k = p.view pg k := by
  refine Pg.view_congr (p := p.done) (q := p) (fun _ _ => rfl) (fun j hj hu => ?_) k
  show pg' (placeF j (p.up j)) = _
  exact h.text ho hj hu
theorem Done.loaded_view (h : Done p pg pg') (ho : p.Ok) (c : Int) (d : Bool) (k : Nat) : (loaded pg' c d).view pg' k = p.view pg k := by
  obtain ⟨g, h1, h2, h3⟩ := h.headIs
  refine Pg.view_congr (fun j hj => ?_) (fun j hj hu => ?_) k
  · show usedOf (headOf pg') j = _
    rw [h1, head_used h2 h3 ho.zero hj]
  · show pg' (placeF j (upperOf (headOf pg') j)) = _
    rw [h1, head_upper h2 h3 hj]
    exact h.text ho hj hu
theorem Done.loaded_rp (h : Done p pg pg') (c : Int) (d : Bool) {i : Nat} (hi : i < 8) : (loaded pg' c d).rp i = p.rp i := by
  obtain ⟨g, h1, h2, h3⟩ := h.headIs
  show rpOf (headOf pg') i = _
  rw [h1, head_rp h2 h3 hi]
theorem Done.loaded_rn (h : Done p pg pg') (c : Int) (d : Bool) {i : Nat} (hi : i < 8) : (loaded pg' c d).rn i = p.rn i := by
  obtain ⟨g, h1, h2, h3⟩ := h.headIs
  show rnOf (headOf pg') i = _
  rw [h1, head_rn h2 h3 hi]
theorem Done.ok (ho : p.Ok) : p.done.Ok := ⟨ho.zero, fun _ _ h => (by cases h), ho.rp, ho.rn⟩

theorem Kept.headOf (h : Kept p pg pg') (hl : Lies p pg) : headOf pg' = Go.Proofs.YtabcficlnhajeaaGreatDoor.headOf pg := by
  rw [headOf_tb, headOf_tb, h.turn, ← hl.turn, h.page 0 (by omega)]
theorem Kept.loaded (h : Kept p pg pg') (hl : Lies p pg) (c : Int) (d : Bool) : loaded pg' c d = Go.Proofs.YtabcficlnhajeaaGreatDoor.loaded pg c d := by
  unfold Go.Proofs.YtabcficlnhajeaaGreatDoor.loaded
  rw [h.headOf hl]
theorem Kept.loaded_view (h : Kept p pg pg') (hl : Lies p pg) (c : Int) (d : Bool) (k : Nat) : (Go.Proofs.YtabcficlnhajeaaGreatDoor.loaded pg' c d).view pg' k = (Go.Proofs.YtabcficlnhajeaaGreatDoor.loaded pg c d).view pg k := by
  rw [h.loaded hl]
  refine Pg.view_congr (fun _ _ => rfl) (fun j hj _ => ?_) k
  show pg' (placeF j (upperOf (Go.Proofs.YtabcficlnhajeaaGreatDoor.headOf pg) j)) = pg (placeF j (upperOf (Go.Proofs.YtabcficlnhajeaaGreatDoor.headOf pg) j))
  rw [← hl.upper j hj, h.page j hj]
theorem Kept.good (h : Kept p pg pg') (hl : Lies p pg) : upperOf (Go.Proofs.YtabcficlnhajeaaGreatDoor.headOf pg') 0 = tb pg' := by rw [h.headOf hl, h.turn, hl.good]
end

section
variable {p : Pg} {pg : Nat → ByteArray}
theorem Pg.Ok.write (h : p.Ok) {j : Nat} (hj : j < 2000) (hu : p.used j = true) (t : ByteArray) (ht : t.size = 1024) : (p.write j t).Ok := by
  refine ⟨h.zero, fun k s hs => ?_, h.rp, h.rn⟩
  change (if k = j then some t else p.chg k) = some s at hs
  split at hs
  · rename_i e; subst e; cases hs; exact ⟨hu, hj, ht⟩
  · exact h.chg k s hs
theorem Pg.Ok.free (h : p.Ok) (j : Nat) : (p.free j).Ok := by
  refine ⟨?_, fun k s hs => ?_, h.rp, h.rn⟩
  · show (if 0 = j then false else p.used 0) = false
    split
    · rfl
    · exact h.zero
  · change (if k = j then none else p.chg k) = some s at hs
    split at hs
    · cases hs
    · rename_i e
      refine ⟨?_, (h.chg k s hs).2⟩
      show (if k = j then false else p.used k) = true
      rw [if_neg e]; exact (h.chg k s hs).1
theorem Pg.Ok.alloc (h : p.Ok) {j : Nat} (h0 : 0 < j) (hj : j < 2000) : (p.alloc j).Ok := by
  refine ⟨?_, fun k s hs => ?_, h.rp, h.rn⟩
  · show (if 0 = j then true else p.used 0) = false
    rw [if_neg (by omega)]; exact h.zero
  · change (if k = j then some zeros else p.chg k) = some s at hs
    show (if k = j then true else p.used k) = true ∧ _
    split at hs
    · rename_i e; subst e; cases hs; exact ⟨if_pos rfl, hj, zeros_size⟩
    · rename_i e; rw [if_neg e]; exact h.chg k s hs
theorem Pg.Ok.setRoot (h : p.Ok) (i : Nat) {k t : Int} (hk : inB k 2000 = true) (ht : inB t 65536 = true) : (p.setRoot i k t).Ok := by
  have hk' : 0 ≤ k ∧ k < 2000 := by simpa [inB] using hk
  have ht' : 0 ≤ t ∧ t < 65536 := by simpa [inB] using ht
  refine ⟨h.zero, h.chg, fun j hj => ?_, fun j hj => ?_⟩
  · show 0 ≤ (if j = i then k else p.rp j) ∧ (if j = i then k else p.rp j) < 65536
    split
    · omega
    · exact h.rp j hj
  · show 0 ≤ (if j = i then t else p.rn j) ∧ (if j = i then t else p.rn j) < 65536
    split
    · omega
    · exact h.rn j hj
theorem Pg.Ok.back {q : Pg} (hq : q.Ok) : (p.back q).Ok := ⟨hq.zero, hq.chg, hq.rp, hq.rn⟩

theorem view_write {j : Nat} (hj : j < 2000) (hu : p.used j = true) (t : ByteArray) : (p.write j t).view pg = put (p.view pg) j (some t) := by
  funext k
  unfold put
  by_cases e : k = j
  · subst e
    rw [if_pos rfl, Pg.view_yes (p := p.write k t) hj hu]
    show some ((if k = k then some t else p.chg k).getD _) = _
    rw [if_pos rfl]; rfl
  · rw [if_neg e]
    unfold Pg.view
    have : (p.write j t).text pg k = p.text pg k := by
      show (if k = j then some t else p.chg k).getD _ = _
      rw [if_neg e]; rfl
    rw [this]; rfl
theorem view_free (j : Nat) : (p.free j).view pg = put (p.view pg) j none := by
  funext k
  unfold put
  by_cases e : k = j
  · subst e
    rw [if_pos rfl]
    exact Pg.view_no (by show (if k = k then false else p.used k) = false; rw [if_pos rfl])
  · rw [if_neg e]
    unfold Pg.view
    have h1 : (p.free j).text pg k = p.text pg k := by
      show (if k = j then none else p.chg k).getD _ = _
      rw [if_neg e]; rfl
    have h2 : (p.free j).used k = p.used k := by
      show (if k = j then false else p.used k) = _
      rw [if_neg e]
    rw [h1, h2]
theorem view_alloc {j : Nat} (hj : j < 2000) : (p.alloc j).view pg = put (p.view pg) j (some zeros) := by
  funext k
  unfold put
  by_cases e : k = j
  · subst e
    rw [if_pos rfl, Pg.view_yes hj (by show (if k = k then true else p.used k) = true; rw [if_pos rfl])]
    show some ((if k = k then some zeros else p.chg k).getD _) = _
    rw [if_pos rfl]; rfl
  · rw [if_neg e]
    unfold Pg.view
    have h1 : (p.alloc j).text pg k = p.text pg k := by
      show (if k = j then some zeros else p.chg k).getD _ = _
      rw [if_neg e]; rfl
    have h2 : (p.alloc j).used k = p.used k := by
      show (if k = j then true else p.used k) = _
      rw [if_neg e]
    rw [h1, h2]
theorem view_setRoot (i : Nat) (k t : Int) : (p.setRoot i k t).view pg = p.view pg := rfl
end
end Go.Proofs.YtabcficlnhajeaaGreatDoor
namespace Go.Proofs.YtabcficlnhajeaaGreatDoor
open Go.RowKit Go.Maps

/-- a number's last byte -/
def byteI (x : Int) : UInt8 := UInt8.ofNat (x % 256).toNat
/-- the pages below one -/
def pagesT (v : Nat → Option ByteArray) : Nat → ByteArray
  | 0 => ⟨#[]⟩
  | k + 1 => match v k with
    | none => pagesT v k
    | some t => pagesT v k ++ (⟨#[byteI (k : Int)]⟩ ++ t)
/-- the roots below one, behind the pages -/
def rootsT (v : Nat → Option ByteArray) (a b : Nat → Int) : Nat → ByteArray
  | 0 => pagesT v 60
  | i + 1 => rootsT v a b i ++ ⟨#[byteI (a i / 256), byteI (a i), byteI (b i / 256), byteI (b i)]⟩
/-- all of it -/
def allT (v : Nat → Option ByteArray) (a b : Nat → Int) : ByteArray := rootsT v a b 8 ++ ⟨#[byteI ((1 + countU (fun k => (v k).isSome) 2000 : Nat) : Int)]⟩
/-- of a pager -/
def Pg.all (p : Pg) (pg : Nat → ByteArray) : ByteArray := allT (p.view pg) p.rp p.rn

theorem pagesT_none {v : Nat → Option ByteArray} {k : Nat} (h : v k = none) : pagesT v (k + 1) = pagesT v k := by rw [pagesT, h]
theorem pagesT_some {v : Nat → Option ByteArray} {k : Nat} {t : ByteArray} (h : v k = some t) : pagesT v (k + 1) = pagesT v k ++ (⟨#[byteI (k : Int)]⟩ ++ t) := by rw [pagesT, h]
theorem pagesT_size {v : Nat → Option ByteArray} (hv : ∀ k t, v k = some t → t.size = 1024) : ∀ k, (pagesT v k).size ≤ 1025 * k
  | 0 => by show 0 ≤ _; omega
  | k + 1 => by
    have ih := pagesT_size hv k
    cases e : v k with
    | none => rw [pagesT_none e]; omega
    | some t =>
      have ht := hv k t e
      rw [pagesT_some e, ByteArray.size_append, ByteArray.size_append, ht]
      show _ + (1 + 1024) ≤ _
      omega
theorem rootsT_size {v : Nat → Option ByteArray} (hv : ∀ k t, v k = some t → t.size = 1024) (a b : Nat → Int) : ∀ i, (rootsT v a b i).size ≤ 1025 * 60 + 4 * i
  | 0 => pagesT_size hv 60
  | i + 1 => by
    have ih := rootsT_size hv a b i
    rw [rootsT, ByteArray.size_append]
    show _ + 4 ≤ _
    omega
theorem pagesT_congr {v v' : Nat → Option ByteArray} (h : ∀ k, v k = v' k) (k : Nat) : pagesT v k = pagesT v' k := by
  have : v = v' := funext h
  rw [this]
theorem rootsT_congr {v : Nat → Option ByteArray} {a b a' b' : Nat → Int} (ha : ∀ i, i < 8 → a i = a' i) (hb : ∀ i, i < 8 → b i = b' i) : ∀ i, i ≤ 8 → rootsT v a b i = rootsT v a' b' i
  | 0, _ => rfl
  | i + 1, hi => by rw [rootsT, rootsT, rootsT_congr ha hb i (by omega), ha i (by omega), hb i (by omega)]
theorem allT_congr {v v' : Nat → Option ByteArray} {a b a' b' : Nat → Int} (h : ∀ k, v k = v' k) (ha : ∀ i, i < 8 → a i = a' i) (hb : ∀ i, i < 8 → b i = b' i) : allT v a b = allT v' a' b' := by
  obtain rfl : v = v' := funext h
  unfold allT
  rw [rootsT_congr ha hb 8 (Nat.le_refl _)]
theorem countU_like {f g : Nat → Bool} : ∀ n, (∀ k, k < n → f k = g k) → countU f n = countU g n
  | 0, _ => rfl
  | n + 1, h => by rw [countU, countU, countU_like n (fun k hk => h k (by omega)), h n (by omega)]

section
variable {p : Pg} {pg pg' : Nat → ByteArray}
theorem Pg.view_is {k : Nat} (hk : k < 2000) : (p.view pg k).isSome = p.used k := by
  unfold Pg.view
  by_cases e : p.used k = true
  · rw [if_pos ⟨hk, e⟩, e]; rfl
  · rw [if_neg (fun h => e h.2)]
    cases h : p.used k
    · rfl
    · exact absurd h e
theorem Pg.count (p : Pg) (pg : Nat → ByteArray) : countU (fun k => (p.view pg k).isSome) 2000 = countU p.used 2000 := countU_like 2000 (fun _ hk => Pg.view_is hk)

/-- behind a commit all is as it was ahead of it -/
theorem Done.all (h : Done p pg pg') (ho : p.Ok) : p.done.all pg' = p.all pg := allT_congr (fun k => h.view ho k) (fun _ _ => rfl) (fun _ _ => rfl)
theorem Done.loaded_all (h : Done p pg pg') (ho : p.Ok) (c : Int) (d : Bool) : (loaded pg' c d).all pg' = p.all pg :=
  allT_congr (fun k => h.loaded_view ho c d k) (fun _ hi => h.loaded_rp c d hi) (fun _ hi => h.loaded_rn c d hi)
theorem Kept.loaded_all (h : Kept p pg pg') (hl : Lies p pg) (c : Int) (d : Bool) : (Go.Proofs.YtabcficlnhajeaaGreatDoor.loaded pg' c d).all pg' = (Go.Proofs.YtabcficlnhajeaaGreatDoor.loaded pg c d).all pg := by
  refine allT_congr (fun k => h.loaded_view hl c d k) (fun i _ => ?_) (fun i _ => ?_)
  · rw [h.loaded hl]
  · rw [h.loaded hl]
end
end Go.Proofs.YtabcficlnhajeaaGreatDoor
namespace Go.Proofs.YtabcficlnhajeaaGreatDoor
open Go.RowKit Go.Maps

/-- pages and roots -/
structure Pst where
  used : Nat → Bool
  tx : Nat → ByteArray
  rp : Nat → Int
  rn : Nat → Int
def Pst.write (V : Pst) (k : Nat) (t : ByteArray) : Pst := { V with tx := fun i => if i = k then t else V.tx i }
def Pst.alloc (V : Pst) (k : Nat) : Pst := { V with used := fun i => if i = k then true else V.used i, tx := fun i => if i = k then zeros else V.tx i }
def Pst.free (V : Pst) (k : Nat) : Pst := { V with used := fun i => if i = k then false else V.used i }
def Pst.setRoot (V : Pst) (i : Nat) (k t : Int) : Pst := { V with rp := fun j => if j = i then k else V.rp j, rn := fun j => if j = i then t else V.rn j }
/-- a pager has just that -/
structure Match (p : Pg) (pg : Nat → ByteArray) (V : Pst) : Prop where
  used : p.used = V.used
  text : ∀ k, k < 2000 → V.used k = true → p.text pg k = V.tx k
  rp : ∀ i, i < 8 → p.rp i = V.rp i
  rn : ∀ i, i < 8 → p.rn i = V.rn i
section
variable {p : Pg} {pg : Nat → ByteArray} {V : Pst}
theorem Match.write (h : Match p pg V) (k : Nat) (t : ByteArray) : Match (p.write k t) pg (V.write k t) := by
  refine ⟨h.used, fun j hj hu => ?_, h.rp, h.rn⟩
  show (if j = k then some t else p.chg j).getD _ = (if j = k then t else V.tx j)
  by_cases e : j = k
  · rw [if_pos e, if_pos e]; rfl
  · rw [if_neg e, if_neg e]; exact h.text j hj hu
theorem Match.alloc (h : Match p pg V) (k : Nat) : Match (p.alloc k) pg (V.alloc k) := by
  refine ⟨by show (fun i => if i = k then true else p.used i) = _; rw [h.used]; rfl, fun j hj hu => ?_, h.rp, h.rn⟩
  show (if j = k then some zeros else p.chg j).getD _ = (if j = k then zeros else V.tx j)
  by_cases e : j = k
  · rw [if_pos e, if_pos e]; rfl
  · rw [if_neg e, if_neg e]
    change (if j = k then true else V.used j) = true at hu
    rw [if_neg e] at hu
    exact h.text j hj hu
theorem Match.free (h : Match p pg V) (k : Nat) : Match (p.free k) pg (V.free k) := by
  refine ⟨by show (fun i => if i = k then false else p.used i) = _; rw [h.used]; rfl, fun j hj hu => ?_, h.rp, h.rn⟩
  change (if j = k then false else V.used j) = true at hu
  show (if j = k then none else p.chg j).getD _ = V.tx j
  by_cases e : j = k
  · rw [if_pos e] at hu; cases hu
  · rw [if_neg e] at hu
    rw [if_neg e]; exact h.text j hj hu
theorem Match.setRoot (h : Match p pg V) (i : Nat) (k t : Int) : Match (p.setRoot i k t) pg (V.setRoot i k t) := by
  refine ⟨h.used, h.text, fun j hj => ?_, fun j hj => ?_⟩
  · show (if j = i then k else p.rp j) = (if j = i then k else V.rp j)
    rw [h.rp j hj]
  · show (if j = i then t else p.rn j) = (if j = i then t else V.rn j)
    rw [h.rn j hj]
end
/-- a pager in memory, and its disk -/
structure Tw (bp bd bm N : Nat) (s : St) (up : Nat → Bool) (cm : Int) (V : Pst) (w : World) : Prop where
  ex : ∃ p : Pg, PagerIs bp bd bm N p w ∧ p.Ok ∧ p.down = false ∧ p.upper = up ∧ p.commits = cm ∧ Match p s.pg V
  prg : Prg bd s w
section
variable {bp bd bm N : Nat} {s : St} {up : Nat → Bool} {cm : Int} {V : Pst} {w wx : World}
theorem Tw.below (h : Tw bp bd bm N s up cm V w) (hb : Below w.heap.size w wx) : Tw bp bd bm N s up cm V wx := by
  obtain ⟨p, h1, h2⟩ := h.ex
  exact ⟨⟨p, h1.below hb, h2⟩, Prg.below h.prg hb⟩
theorem Tw.drew (h : Tw bp bd bm N s up cm V w) : Tw bp bd bm N s up cm V w.drew := by
  obtain ⟨p, h1, h2⟩ := h.ex
  exact ⟨⟨p, h1.drew, h2⟩, Prg.drew h.prg⟩
theorem Tw.mono (h : Tw bp bd bm N s up cm V w) {N' : Nat} (hN : N ≤ N') : Tw bp bd bm N' s up cm V w := by
  obtain ⟨p, h1, h2⟩ := h.ex
  exact ⟨⟨p, h1.mono hN, h2⟩, h.prg⟩
theorem Tw.lt (h : Tw bp bd bm N s up cm V w) : bp < w.heap.size ∧ bm < w.heap.size ∧ bd < w.heap.size := by
  obtain ⟨p, h1, h2⟩ := h.ex
  exact ⟨h1.lt, h1.mlt, DiskIs.lt h.prg⟩
theorem Tw.only {S : Nat → Prop} (h : Tw bp bd bm N s up cm V w) (ho : Only S w wx) (h1 : ¬ S bp) (h2 : ¬ S bm) (h3 : ¬ S bd) : Tw bp bd bm N s up cm V wx := by
  obtain ⟨p, k1, k2⟩ := h.ex
  exact ⟨⟨p, k1.only ho h1 h2, k2⟩, Prg.only h.prg ho h3⟩
/-- no page is that of the head -/
theorem Tw.zero (h : Tw bp bd bm N s up cm V w) : V.used 0 = false := by
  obtain ⟨p, _, h2, _, _, _, h3⟩ := h.ex
  rw [← h3.used]; exact h2.zero
theorem Tw.size (h : Tw bp bd bm N s up cm V w) {k : Nat} (hk : k < 2000) (hu : V.used k = true) : (V.tx k).size = 1024 := by
  obtain ⟨p, _, h2, _, _, _, h3⟩ := h.ex
  rw [← h3.text k hk hu]
  unfold Pg.text
  cases hc : p.chg k with
  | some t => exact (h2.chg k t hc).2.2
  | none => exact page_of_sizes h.prg _ (placeF_lt k hk _)

theorem tw_down (h : Tw bp bd bm N s up cm V w) : Calls Tryz.prog 81 #[.pointer (some ⟨bp, 0, none⟩)] w fun e w' => e = .returned (.bool false) ∧ w' = w := by
  obtain ⟨p, h1, h2, h3, _⟩ := h.ex
  refine (down_any h1.cells).mono ?_
  rintro _ w' ⟨rfl, hw⟩
  exact ⟨by rw [h3], hw⟩
theorem tw_root (h : Tw bp bd bm N s up cm V w) (i : Nat) (hi : i < 8) : Calls Tryz.prog 34 #[.pointer (some ⟨bp, 0, none⟩), .int .i64 i] w fun e w' => e = .returned (.tuple #[.int .i64 (V.rp i), .int .i64 (V.rn i), .nilIface]) ∧ Below w.heap.size w w' := by
  obtain ⟨p, h1, h2, h3, _, _, hm⟩ := h.ex
  refine (root_yes h1.cells i hi).mono ?_
  rintro _ w' ⟨rfl, hw⟩
  exact ⟨by rw [hm.rp i hi, hm.rn i hi], hw⟩
theorem tw_read (h : Tw bp bd bm N s up cm V w) (k : Nat) (hk : k < 2000) (hu : V.used k = true) : Calls Tryz.prog 82 #[.pointer (some ⟨bp, 0, none⟩), .int .i64 k] w fun e w' => e = .returned (.tuple #[.string (V.tx k), .nilIface]) ∧ Below w.heap.size w w' := by
  obtain ⟨p, h1, h2, h3, _, _, hm⟩ := h.ex
  refine (readp_yes h1 h.prg h3 k hk (by rw [hm.used]; exact hu)).mono ?_
  rintro _ w' ⟨rfl, hw⟩
  exact ⟨by rw [hm.text k hk hu], hw⟩
theorem tw_write (h : Tw bp bd bm N s up cm V w) (hN : N < 1000000) (k : Nat) (hk : k < 2000) (hu : V.used k = true) (t : ByteArray) (ht : t.size = 1024) :
    Calls Tryz.prog 191 #[.pointer (some ⟨bp, 0, none⟩), .int .i64 k, .string t] w fun e w' => e = .returned .nilIface ∧ Tw bp bd bm (N + 1) s up cm (V.write k t) w' ∧ Only (fun b => b = bp ∨ b = bm) w w' := by
  obtain ⟨p, h1, h2, h3, h4, h5, hm⟩ := h.ex
  have hu' : p.used k = true := by rw [hm.used]; exact hu
  refine (writep_yes h1 hN h3 k hk hu' t ht).mono ?_
  rintro _ w' ⟨rfl, hP, hO⟩
  exact ⟨rfl, ⟨⟨_, hP, h2.write hk hu' t ht, h3, h4, h5, hm.write k t⟩, Prg.only h.prg hO (fun e => h1.md h.prg e.symm)⟩, hO.mono (fun _ e => .inr e)⟩
theorem tw_free (h : Tw bp bd bm N s up cm V w) (k : Nat) (hk : k < 2000) (hu : V.used k = true) :
    Calls Tryz.prog 189 #[.pointer (some ⟨bp, 0, none⟩), .int .i64 k] w fun e w' => e = .returned .nilIface ∧ Tw bp bd bm N s up cm (V.free k) w' ∧ Only (fun b => b = bp ∨ b = bm) w w' := by
  obtain ⟨p, h1, h2, h3, h4, h5, hm⟩ := h.ex
  refine (freep_yes h1 h3 k hk (by rw [hm.used]; exact hu)).mono ?_
  rintro _ w' ⟨rfl, hP, hO⟩
  exact ⟨rfl, ⟨⟨_, hP, h2.free k, h3, h4, h5, hm.free k⟩, Prg.only h.prg hO (fun e => by rcases e with e | e; exact h1.nd h.prg e.symm; exact h1.md h.prg e.symm)⟩, hO⟩
theorem tw_alloc (h : Tw bp bd bm N s up cm V w) (hN : N < 1000000) (k : Nat) (h0 : 0 < k) (hk : k < 2000) (hu : V.used k = false) (hl : ∀ j, 0 < j → j < k → V.used j = true) :
    Calls Tryz.prog 188 #[.pointer (some ⟨bp, 0, none⟩)] w fun e w' => e = .returned (.tuple #[.int .i64 k, .nilIface]) ∧ Tw bp bd bm (N + 1) s up cm (V.alloc k) w' ∧ Only (fun b => b = bp ∨ b = bm) w w' := by
  obtain ⟨p, h1, h2, h3, h4, h5, hm⟩ := h.ex
  refine (allocp_any h1 hN h3 k h0 hk (by rw [hm.used]; exact hu) (fun j a b => by rw [hm.used]; exact hl j a b)).mono ?_
  rintro _ w' ⟨rfl, hP, hO⟩
  exact ⟨rfl, ⟨⟨_, hP, h2.alloc h0 hk, h3, h4, h5, hm.alloc k⟩, Prg.only h.prg hO (fun e => by rcases e with e | e; exact h1.nd h.prg e.symm; exact h1.md h.prg e.symm)⟩, hO⟩
theorem tw_setRoot (h : Tw bp bd bm N s up cm V w) (i : Nat) (hi : i < 8) (k t : Nat) (hk : k < 2000) (ht : t < 65536) :
    Calls Tryz.prog 150 #[.pointer (some ⟨bp, 0, none⟩), .int .i64 i, .int .i64 k, .int .i64 t] w fun e w' => e = .returned .nilIface ∧ Tw bp bd bm N s up cm (V.setRoot i k t) w' ∧ Only (fun b => b = bp ∨ b = bm) w w' := by
  obtain ⟨p, h1, h2, h3, h4, h5, hm⟩ := h.ex
  have b1 : inB (k : Int) 2000 = true := by unfold inB; simp; omega
  have b2 : inB (t : Int) 65536 = true := by unfold inB; simp; omega
  refine (setRoot_yes h1.cells h3 i hi k t b1 b2).mono ?_
  rintro _ w' ⟨rfl, hC, hO⟩
  exact ⟨rfl, ⟨⟨_, ⟨hC, h1.own.only hO h1.ne⟩, h2.setRoot i b1 b2, h3, h4, h5, hm.setRoot i k t⟩, Prg.only h.prg hO (fun e => h1.nd h.prg e.symm)⟩, hO.mono (fun _ e => .inl e)⟩
end
end Go.Proofs.YtabcficlnhajeaaGreatDoor
namespace Go.Proofs.YtabcficlnhajeaaGreatDoor
open Go.RowKit

/-- a pair -/
structure Pr where
  k : ByteArray
  i : ByteArray
def Pr.Ok (x : Pr) : Prop := 1 ≤ x.k.size ∧ x.k.size ≤ 60 ∧ x.i.size ≤ 100
def Pr.sz (x : Pr) : Nat := 2 + x.k.size + x.i.size
def Pr.enc (x : Pr) : List UInt8 := UInt8.ofNat x.k.size :: UInt8.ofNat x.i.size :: (x.k.data.toList ++ x.i.data.toList)
def encL : List Pr → List UInt8
  | [] => []
  | x :: r => x.enc ++ encL r
def szL : List Pr → Nat
  | [] => 0
  | x :: r => x.sz + szL r
theorem Pr.enc_len (x : Pr) : x.enc.length = x.sz := by
  unfold Pr.enc Pr.sz
  simp only [List.length_cons, List.length_append, Array.length_toList]
  show x.k.size + x.i.size + 1 + 1 = _
  omega
theorem encL_len : ∀ l, (encL l).length = szL l
  | [] => rfl
  | x :: r => by rw [encL, szL, List.length_append, Pr.enc_len, encL_len r]
theorem encL_append : ∀ l m, encL (l ++ m) = encL l ++ encL m
  | [], _ => rfl
  | x :: r, m => by rw [List.cons_append, encL, encL, encL_append r m, List.append_assoc]
theorem szL_append : ∀ l m, szL (l ++ m) = szL l + szL m
  | [], m => by rw [List.nil_append, szL, Nat.zero_add]
  | x :: r, m => by rw [List.cons_append, szL, szL, szL_append r m, Nat.add_assoc]
theorem szL_take_le (l : List Pr) (j : Nat) : szL (l.take j) ≤ szL l := by
  conv => rhs; rw [← List.take_append_drop j l, szL_append]
  omega
theorem szL_take_succ {l : List Pr} {j : Nat} (hj : j < l.length) : szL (l.take (j + 1)) = szL (l.take j) + l[j].sz := by
  rw [List.take_succ_eq_append_getElem hj, szL_append]
  rfl
/-- a leaf's text -/
structure Leaf (t : ByteArray) (ps : List Pr) (z : Nat) : Prop where
  data : t.data.toList = encL ps ++ List.replicate z 0
  ok : ∀ x ∈ ps, x.Ok
  small : t.size ≤ 4096
section
variable {t : ByteArray} {ps : List Pr} {z : Nat}
theorem Leaf.size (h : Leaf t ps z) : t.size = szL ps + z := by
  have := congrArg List.length h.data
  rw [List.length_append, encL_len, List.length_replicate, Array.length_toList] at this
  exact this
/-- the bytes from a pair on -/
theorem Leaf.at (h : Leaf t ps z) {j : Nat} (hj : j < ps.length) : t.data.toList.drop (szL (ps.take j)) = ps[j].enc ++ (encL (ps.drop (j + 1)) ++ List.replicate z 0) := by
  rw [h.data]
  have e : encL ps = encL (ps.take j) ++ (ps[j].enc ++ encL (ps.drop (j + 1))) := by
    conv => lhs; rw [← List.take_append_drop j ps, encL_append, List.drop_eq_getElem_cons hj]
    rfl
  rw [e, List.append_assoc, ← encL_len, List.drop_left, List.append_assoc]
theorem getElem_bytes {t : ByteArray} {n : Nat} (hn : n < t.size) : t[n] = t.data.toList[n]'(by rw [Array.length_toList]; exact hn) := by
  rw [Array.getElem_toList]; rfl
theorem get_of_drop {t : ByteArray} {a b : Nat} {l : List UInt8} {x : UInt8} (h : t.data.toList.drop a = l) (hx : l[b]? = some x) (hn : a + b < t.size) : t[a + b] = x := by
  rw [getElem_bytes hn]
  have := congrArg (·[b]?) h
  simp only [List.getElem?_drop] at this
  rw [hx] at this
  rw [List.getElem?_eq_getElem (by rw [Array.length_toList]; exact hn)] at this
  exact Option.some.inj this
theorem Leaf.room (h : Leaf t ps z) {j : Nat} (hj : j < ps.length) : szL (ps.take j) + ps[j].sz ≤ t.size := by
  rw [h.size, ← szL_take_succ hj]
  have := szL_take_le ps (j + 1)
  omega
theorem small_u8 {n : Nat} (h : n ≤ 200) : (UInt8.ofNat n).toNat = n := by
  rw [UInt8.toNat_ofNat']
  exact Nat.mod_eq_of_lt (by omega)
theorem Leaf.key_len (h : Leaf t ps z) {j : Nat} (hj : j < ps.length) (hn : szL (ps.take j) < t.size) : (t[szL (ps.take j)]).toNat = ps[j].k.size := by
  have e := get_of_drop (t := t) (a := szL (ps.take j)) (b := 0) (x := UInt8.ofNat ps[j].k.size) (h.at hj) rfl hn
  have e2 : t[szL (ps.take j)] = UInt8.ofNat ps[j].k.size := e
  rw [e2]
  exact small_u8 (by have := (h.ok _ (List.getElem_mem hj)).2.1; omega)
theorem Leaf.item_len (h : Leaf t ps z) {j : Nat} (hj : j < ps.length) (hn : szL (ps.take j) + 1 < t.size) : (t[szL (ps.take j) + 1]).toNat = ps[j].i.size := by
  rw [get_of_drop (t := t) (a := szL (ps.take j)) (b := 1) (x := UInt8.ofNat ps[j].i.size) (h.at hj) rfl hn]
  exact small_u8 (by have := (h.ok _ (List.getElem_mem hj)).2.2; omega)
theorem extract_of_drop {t : ByteArray} {a b c : Nat} {l m r : List UInt8} (h : t.data.toList.drop a = l ++ (m ++ r)) (hb : b = a + l.length) (hc : c = b + m.length) : t.extract b c = ⟨m.toArray⟩ := by
  apply ByteArray.ext
  apply Array.toList_inj.1
  rw [ByteArray.data_extract, Array.toList_extract, List.extract_eq_take_drop]
  show (t.data.toList.drop b).take (c - b) = m
  have : t.data.toList.drop b = m ++ r := by
    rw [hb, ← List.drop_drop, h, List.drop_left]
  rw [this, show c - b = m.length by omega, List.take_left]
theorem mk_toList (b : ByteArray) : (⟨b.data.toList.toArray⟩ : ByteArray) = b := by cases b; simp
theorem Leaf.key (h : Leaf t ps z) {j : Nat} (hj : j < ps.length) : t.extract (szL (ps.take j) + 2) (szL (ps.take j) + 2 + ps[j].k.size) = ps[j].k := by
  have e := h.at hj
  rw [show ps[j].enc = [UInt8.ofNat ps[j].k.size, UInt8.ofNat ps[j].i.size] ++ (ps[j].k.data.toList ++ ps[j].i.data.toList) from rfl, List.append_assoc, List.append_assoc] at e
  rw [extract_of_drop (b := szL (ps.take j) + 2) e rfl (by rw [Array.length_toList]; rfl), mk_toList]
theorem Leaf.item (h : Leaf t ps z) {j : Nat} (hj : j < ps.length) : t.extract (szL (ps.take j) + 2 + ps[j].k.size) (szL (ps.take j) + 2 + ps[j].k.size + ps[j].i.size) = ps[j].i := by
  have e := h.at hj
  rw [show ps[j].enc = ([UInt8.ofNat ps[j].k.size, UInt8.ofNat ps[j].i.size] ++ ps[j].k.data.toList) ++ ps[j].i.data.toList from rfl, List.append_assoc] at e
  rw [extract_of_drop e (by rw [List.length_append, Array.length_toList]; show _ = _ + (2 + ps[j].k.size); omega) (by rw [Array.length_toList]; rfl), mk_toList]
/-- behind the last pair -/
theorem Leaf.tail (h : Leaf t ps z) (hn : szL ps < t.size) : t[szL ps] = 0 := by
  have e : t.data.toList.drop (szL ps) = List.replicate z 0 := by rw [h.data, ← encL_len, List.drop_left]
  have hz := h.size
  exact get_of_drop (b := 0) (x := 0) e (by rw [List.getElem?_replicate, if_pos (by omega)]) hn
end
end Go.Proofs.YtabcficlnhajeaaGreatDoor
