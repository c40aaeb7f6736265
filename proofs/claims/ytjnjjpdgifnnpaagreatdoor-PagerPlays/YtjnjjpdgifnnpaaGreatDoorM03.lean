/- Texts of the proof of PagerPlays: Sav0, Pcp, Pal, Pge, As, Set, As2, As3, Place, Is, Srk, Sav1. -/
import Derived.Test.YtjnjjpdgifnnpaaGreatDoorM02
import Derived.Maps.RangeWalk
import Derived.Laws.IdiomStrings
import Derived.Handy
import Derived.LaidEql
import Derived.Stop.Asserts
import Derived.RowKitTokens
namespace Go.Proofs.YtjnjjpdgifnnpaaGreatDoor
open Go.RowKit Go.Maps

/-- with one place turned -/
def flip1 (up : Nat → Bool) (k : Nat) : Nat → Bool := fun i => if i = k then !up k else up i

/-- these pages are written -/
structure SavI (p : Pg) (pg pg' : Nat → ByteArray) (up : Nat → Bool) (done : List Nat) : Prop where
  up : ∀ k, up k = if k ∈ done then !p.upper k else p.upper k
  page : ∀ k t, k ∈ done → p.chg k = some t → pg' (placeF k (!p.upper k)) = t
  rest : ∀ j, (∀ k ∈ done, j ≠ placeF k (!p.upper k)) → pg' j = pg j
  low : ∀ k ∈ done, k < 2000
section
variable {p : Pg} {pg pg' : Nat → ByteArray} {up : Nat → Bool} {done : List Nat} {k : Nat} {t : ByteArray}
theorem SavI.start : SavI p pg pg p.upper [] := ⟨fun k => by simp, fun _ _ h => (by cases h), fun _ _ => rfl, fun _ h => (by cases h)⟩
theorem SavI.not (h : SavI p pg pg' up done) (hk : k ∉ done) : up k = p.upper k := by rw [h.up k, if_neg hk]
theorem SavI.step (h : SavI p pg pg' up done) (hk : k ∉ done) (hl : k < 2000) (ht : p.chg k = some t) : SavI p pg (upd pg' (placeF k (!p.upper k)) t) (flip1 up k) (done ++ [k]) := by
  refine ⟨fun i => ?_, fun i s hi hs => ?_, fun j hj => ?_, fun i hi => ?_⟩
  · unfold flip1
    by_cases e : i = k
    · subst e
      rw [if_pos rfl, if_pos (by simp), h.not hk]
    · rw [if_neg e, h.up i]
      by_cases m : i ∈ done
      · rw [if_pos m, if_pos (by simp [m])]
      · rw [if_neg m, if_neg (by simp [m, e])]
  · unfold upd
    by_cases e : i = k
    · subst e
      rw [if_pos rfl]
      rw [ht] at hs; cases hs; rfl
    · have hi' : i ∈ done := by
        rcases List.mem_append.1 hi with m | m
        · exact m
        · exact absurd (List.mem_singleton.1 m) e
      rw [if_neg (fun e' => e (placeF_inj (h.low i hi') hl e').1)]
      exact h.page i s hi' hs
  · unfold upd
    rw [if_neg (hj k (by simp))]
    exact h.rest j (fun i hi => hj i (by simp [hi]))
  · rcases List.mem_append.1 hi with m | m
    · exact h.low i m
    · rw [List.mem_singleton.1 m]; exact hl
theorem SavI.away (h : SavI p pg pg' up done) (hl : k < 2000) : pg' (placeF k (p.upper k)) = pg (placeF k (p.upper k)) :=
  h.rest _ (fun i hi e => by
    obtain ⟨e1, e2⟩ := placeF_inj hl (h.low i hi) e
    subst e1
    cases hu : p.upper k <;> rw [hu] at e2 <;> cases e2)
theorem SavI.turn (h : SavI p pg pg' up done) : pg' 4000 = pg 4000 := h.rest _ (fun i hi e => placeF_turn (h.low i hi) _ e.symm)
theorem SavI.kept (h : SavI p pg pg' up done) (hl : k < 2000) (X : ByteArray) : Kept p pg (upd pg' (placeF k (!p.upper k)) X) := by
  refine ⟨?_, fun i hi => ?_⟩
  · unfold tb upd
    rw [if_neg (fun e => placeF_turn hl _ e.symm), h.turn]
  · unfold upd
    rw [if_neg (fun e => by
      obtain ⟨e1, e2⟩ := placeF_inj hi hl e
      subst e1
      cases hu : p.upper i <;> rw [hu] at e2 <;> cases e2)]
    exact h.away hi
theorem SavI.all (h : SavI p pg pg' up done) (hk : KeysOf p.chg done) (ho : p.Ok) : flip1 up 0 = p.up := by
  funext i
  have h0 : 0 ∉ done := fun m => by
    have := (hk.2 0).1 m
    rw [ho.none0] at this; cases this
  unfold flip1 Pg.up
  by_cases e : i = 0
  · subst e
    rw [if_pos rfl, if_pos (.inl rfl), h.not h0]
  · rw [if_neg e, h.up i]
    by_cases m : i ∈ done
    · rw [if_pos m, if_pos (.inr ((hk.2 i).1 m))]
    · rw [if_neg m, if_neg (fun x => by
        rcases x with x | x
        · exact e x
        · exact m ((hk.2 i).2 x))]
theorem SavI.whole (h : SavI p pg pg' up done) (hk : KeysOf p.chg done) (ho : p.Ok) (g : Nat → Nat) (hH : IsHead p.used p.up p.rp p.rn g) (hg : ∀ j, g j < 256) (T : ByteArray) (hT : (T.data.toList.getD 0 0 != 0) = !p.upper 0) :
    Done p pg (upd (upd pg' (placeF 0 (!p.upper 0)) ⟨(bytesOf g).toArray⟩) 4000 T) := by
  refine ⟨?_, ⟨g, ?_, hH, hg⟩, fun i s hs => ?_, fun i h0 hi hn => ?_⟩
  · unfold tb
    show ((if 4000 = 4000 then T else _ : ByteArray).data.toList.getD 0 0 != 0) = _
    rw [if_pos rfl]; exact hT
  · show (if placeF 0 (!p.upper 0) = 4000 then T else if placeF 0 (!p.upper 0) = placeF 0 (!p.upper 0) then _ else _) = _
    rw [if_neg (placeF_turn (by omega) _), if_pos rfl]
  · have hl := (ho.chg i s hs).2.1
    have hn0 : i ≠ 0 := fun e => by rw [e, ho.none0] at hs; cases hs
    show (if placeF i (!p.upper i) = 4000 then T else if placeF i (!p.upper i) = placeF 0 (!p.upper 0) then _ else pg' _) = _
    rw [if_neg (placeF_turn hl _), if_neg (fun e => hn0 (placeF_inj hl (by omega) e).1)]
    exact h.page i s ((hk.2 i).2 (by rw [hs]; rfl)) hs
  · show (if placeF i (p.upper i) = 4000 then T else if placeF i (p.upper i) = placeF 0 (!p.upper 0) then _ else pg' _) = _
    rw [if_neg (placeF_turn hi _), if_neg (fun e => by have := (placeF_inj hi (by omega) e).1; omega)]
    exact h.away hi
theorem SavI.kept_turn (h : SavI p pg pg' up done) (X T : ByteArray) (hT : (T.data.toList.getD 0 0 != 0) = tb pg) : Kept p pg (upd (upd pg' (placeF 0 (!p.upper 0)) X) 4000 T) := by
  refine ⟨?_, fun i hi => ?_⟩
  · unfold tb
    show ((if 4000 = 4000 then T else _ : ByteArray).data.toList.getD 0 0 != 0) = _
    rw [if_pos rfl]; exact hT
  · show (if placeF i (p.upper i) = 4000 then T else upd pg' (placeF 0 (!p.upper 0)) X _) = _
    rw [if_neg (placeF_turn hi _)]
    exact (h.kept (k := 0) (by omega) X).page i hi
end
/-- the first byte of a page that is torn -/
theorem torn_first (T old : ByteArray) (t : Nat) (hT : T.size = 1024) : (tornPage T old t).data.toList.getD 0 0 = if t = 0 then old.data.toList.getD 0 0 else T.data.toList.getD 0 0 := by
  have hl : T.data.toList.length = 1024 := by simpa using hT
  show ((T.data.toList.take t ++ old.data.toList.drop t).toArray.toList).getD 0 0 = _
  rw [List.toList_toArray]
  cases t with
  | zero => simp
  | succ t =>
    rw [if_neg (by omega)]
    match hb : T.data.toList with
    | [] => rw [hb] at hl; cases hl
    | a :: r => simp
/-- the first byte of a turn -/
theorem turn_first {g : Nat → Nat} {up : Bool} (h : g 0 = if up then 1 else 0) : ((⟨(bytesOf g).toArray⟩ : ByteArray).data.toList.getD 0 0 != 0) = up := by
  simp only []
  rw [bytesOf_getD g (by omega), h]
  cases up <;> rfl
theorem text_size (g : Nat → Nat) : (⟨(bytesOf g).toArray⟩ : ByteArray).size = 1024 := by
  simp only [ByteArray.size]
  rw [List.size_toArray, bytesOf_len]

/-- a write: it is done, or the power went off in it -/
theorem write_sure {b : Nat} {s : St} {w : World} (h : Prg b s w) (ho : s.Ok) (k : Nat) (hk : k < 4001) (p : ByteArray) (hp : p.size = 1024) :
    Calls Tryz.prog 54 #[.pointer (some ⟨b, 0, none⟩), .int .i64 k, .string p] w fun e w' => ∃ (E : Value) (s' : St), e = .returned E ∧ Prg b s' w' ∧ s'.Ok ∧ s'.ends = s.ends ∧ w.grownBy w' (some b) ∧
      ((E = .nilIface ∧ s'.pg = upd s.pg k p) ∨ (E = .iface 33 (.int .i64 14) ∧ s.ends = true ∧ ∃ t, s'.pg = upd s.pg k (tornPage p (s.pg k) t))) := by
  have hok := ho.wr k p
  obtain ⟨pg, ends, left, torn⟩ := s
  have hin : inside (k : Int) = true := by simp [inside]; omega
  have o1 := ho.torn
  have o2 := ho.low
  have o3 := ho.high
  simp only at o1 o2 o3
  cases ends
  · refine (write_still h k hk p hp).mono ?_
    rintro _ w' ⟨rfl, hd, hg⟩
    have e : (⟨pg, false, left, torn⟩ : St).wr k p = ⟨upd pg k p, false, left, torn⟩ := by simp [St.wr, hin, St.pow]
    rw [e] at hok
    exact ⟨_, ⟨upd pg k p, false, left, torn⟩, rfl, hd, hok, rfl, hg, .inl ⟨rfl, rfl⟩⟩
  · by_cases hl : 0 < left
    · refine (write_less h hl o3 k hk p hp).mono ?_
      rintro _ w' ⟨rfl, hd, hg⟩
      have e : (⟨pg, true, left, torn⟩ : St).wr k p = ⟨upd pg k p, true, left - 1, torn⟩ := by simp [St.wr, hin, St.pow, hl]
      rw [e] at hok
      exact ⟨_, ⟨upd pg k p, true, left - 1, torn⟩, rfl, hd, hok, rfl, hg, .inl ⟨rfl, rfl⟩⟩
    · have h0 : left = 0 := by have := o2 rfl; omega
      subst h0
      refine (write_off torn h o1 k hk p hp).mono ?_
      rintro _ w' ⟨rfl, hd, hg⟩
      have e : (⟨pg, true, 0, torn⟩ : St).wr k p = ⟨upd pg k (tornPage p (pg k) torn), true, 0, 0⟩ := by simp [St.wr, hin, St.pow]
      rw [e] at hok
      exact ⟨_, ⟨upd pg k (tornPage p (pg k) torn), true, 0, 0⟩, rfl, hd, hok, rfl, hg, .inr ⟨rfl, rfl, torn, rfl⟩⟩

set_option maxRecDepth 100000 in
/-- a changed page, looked up -/
theorem look1_sheet {bm n : Nat} {f : Nat → Option ByteArray} {w : World} (hS : Sheets bm n f w) (k : Nat) {t : ByteArray} (ht : f k = some t) :
    (Instr.lookup 44 (.map (some bm)) (.int .i64 k) false).run Tryz.prog w = .ok (.agg #[.string t]) w := by
  obtain ⟨D, hD, hM⟩ := hS
  have hk := (hM.small k t ht).1
  obtain ⟨v, ps, hr, hv⟩ := hD.lookup keyed3 Tryz.underlying44 (zero86 w) (zd := .lit (.string [])) (zp := []) rfl (key_of k hk)
  obtain ⟨s, rfl, hz⟩ := sheetElem_inv hv
  have h1 := congrArg Prod.fst hz
  simp only at h1
  rw [hM.elem k t hk ht] at h1
  injection h1 with h2
  injection h2 with h3
  rw [hr, bytes_inj h3]
theorem field86 (t : ByteArray) (w : World) : (Instr.field 86 (.agg #[.string t]) 0).run Tryz.prog w = .ok (.string t) w := by kernel_rfl
theorem results_ct {P : Program} {fn : Func} {p : Tmp} {ty : TypeId} {q : Tmp} {v : Value} (h : fn.results = #[.cell p ty, .tmp q]) (tmps : Array Value) (w : World) (a : Addr) (hp : tmps.getD p undef = .pointer (some a)) (hl : (loadVar ty a).run P w = .ok v w) (E : Value) (hE : tmps.getD q undef = E) :
    (results fn tmps).run P w = .ok (.tuple #[v, E]) w := by
  have hp' : tmps[p]?.getD undef = .pointer (some a) := by simpa [Array.getD_eq_getD_getElem?] using hp
  have hE' : tmps[q]?.getD undef = E := by simpa [Array.getD_eq_getD_getElem?] using hE
  simp [results, h, hp', hE', asAddr, hl]
end Go.Proofs.YtjnjjpdgifnnpaaGreatDoor
namespace Go.Proofs.YtjnjjpdgifnnpaaGreatDoor
open Go.RowKit Go.Maps

/-- pages, in cells -/
def pagesL (m : Nat) (rp rn : Nat → Int) : List Value := .map (some m) :: rootsL rp rn
theorem pagesL_len (m : Nat) (rp rn : Nat → Int) : (pagesL m rp rn).length = 17 := by show (rootsL rp rn).length + 1 = 17; rw [rootsL_len]
theorem pagesL_one (m : Nat) (rp rn : Nat → Int) : ∀ v ∈ pagesL m rp rn, v.oneCell' = true := fun v hv => by
  rcases List.mem_cons.1 hv with e | e
  · rw [e]; rfl
  · exact rootsL_one _ _ v e
theorem built38 (m : Nat) (rp rn : Nat → Int) : Tryz.prog.built 38 [(0, .map (some m)), (1, .agg (rootsL rp rn).toArray)] = some (pagesL m rp rn).toArray := by kernel_rfl
theorem built38z (m : Nat) : Tryz.prog.built 38 [(0, .map (some m))] = some (pagesL m (fun _ => 0) (fun _ => 0)).toArray := by kernel_rfl
theorem size38 : (Tryz.prog.info? 38).map (·.size) = some 17 := by kernel_rfl
theorem size36 : (Tryz.prog.info? 36).map (·.size) = some 16 := by kernel_rfl
theorem zero38 : ∃ Z : Array Value, (∀ w, (zeroValue 38).run Tryz.prog w = .ok (.agg Z) w) ∧ Z.size = 17 := ⟨_, Tryz.zeroValue38, rfl⟩

/-- a struct that is built -/
theorem wpList_build {P : Program} {ops : Array Oper} {rest : List Oper} {o : Oper} {a : Act} {w : World} {Q : Exit → Act → World → Prop} (hg : o.guard = none) (ty : TypeId) (parts : List (Nat × Operand)) (hop : o.op = Op.build ty parts.toArray)
    (vs : List (Nat × Value)) (hv : (parts.map fun x => (x.1, a.eval x.2)) = vs) (v : Value) (hr : (Instr.build ty vs.toArray).run P w = .ok v w) (hK : wpList P ops Q rest (a.put o.dst v) w) : wpList P ops Q (o :: rest) a w := by
  refine wpList_plain hg fun K' hK' => ?_
  unfold Oper.wp
  subst hv
  have e : (parts.toArray.map fun x => (x.1, a.eval x.2)) = (parts.map fun x => (x.1, a.eval x.2)).toArray := by simp
  rw [← e] at hr
  simp only [execOp, hop, Sem.run_bind]
  rw [hr]
  exact hK' _ _ hK
/-- a block of n cells that may be written -/
structure Room (B n : Nat) (w : World) : Prop where
  has : ∀ j, j < n → (w.cell? ⟨B, j, none⟩).isSome = true
  free : ∀ j, w.frozen? ⟨B, j, none⟩ = false
theorem Room.new (w : World) (Z : Array Value) (t n : Nat) (hZ : Z.size = n) : Room w.heap.size n (w.alloc (.cells Z t)) := by
  have hn : (w.alloc (.cells Z t)).heap[w.heap.size]? = some (.cells Z t) := heap_alloc_new w _
  refine ⟨fun j hj => ?_, fun j => by simp only [World.frozen?, hn]; simp⟩
  rw [cell_of_row _ _ _ _ _ _ hn]
  have hl : j < Z.size := by rw [hZ]; exact hj
  simp [hl]
theorem Room.block {B n : Nat} {w w' : World} (h : Room B n w) (hb : w'.heap[B]? = w.heap[B]?) : Room B n w' :=
  ⟨fun j hj => by rw [World.cell?_of_block (a := ⟨B, j, none⟩) hb]; exact h.has j hj, fun j => by rw [World.frozen?_of_block (a := ⟨B, j, none⟩) hb]; exact h.free j⟩
theorem Room.there {B n : Nat} {w : World} (h : Room B n w) {m : Nat} (hm : m = n) : w.there B 0 m := fun j hj => by
  rw [Nat.zero_add]; exact ⟨h.has j (by omega), h.free j⟩
theorem Room.lt {B n : Nat} {w : World} (h : Room B n w) (hn : 0 < n) : B < w.heap.size := by
  obtain ⟨v, hv⟩ := Option.isSome_iff_exists.1 (h.has 0 hn)
  exact World.block_lt_of_cell? w _ hv
theorem row_new (w : World) (L : List Value) (t : Nat) : (w.alloc (.cells L.toArray t)).rangeAt w.heap.size 0 L := fun j v hj => by
  have hn : (w.alloc (.cells L.toArray t)).heap[w.heap.size]? = some (.cells L.toArray t) := heap_alloc_new w _
  rw [Nat.zero_add, cell_of_row _ _ _ _ _ _ hn]
  simpa using hj
theorem rangeAt_blk {B o : Nat} {L : List Value} {w w' : World} (h : w.rangeAt B o L) (hb : w'.heap[B]? = w.heap[B]?) : w'.rangeAt B o L := fun j v hj => by
  rw [World.cell?_of_block (a := ⟨B, o + j, none⟩) hb]; exact h j v hj
theorem range_tail {B o : Nat} {v : Value} {L : List Value} {w : World} (h : w.rangeAt B o (v :: L)) : w.rangeAt B (o + 1) L := fun j x hj => by
  have := h (j + 1) x (by simpa using hj)
  rwa [show o + (j + 1) = o + 1 + j by omega] at this

theorem size_setC2 (b : Nat) : ∀ (vs : List Value) (o : Nat) (w : World), (w.setCells b o vs).heap.size = w.heap.size
  | [], _, _ => rfl
  | v :: r, o, w => (size_setC2 b r (o + 1) (w.setCell ⟨b, o, none⟩ v)).trans (by simp)
/-- what is known while it is copied -/
structure Cpy (w : World) (m n : Nat) (D : DataW Unit) (L M : List Value) (Dout : DataW Unit) (no : Nat) (left : Lit → Bool) (cnt : Nat) (wr : World) : Prop where
  rg : wr.ranges Tryz.prog 3 (plainElem Tryz.prog 9) m (w.heap.size + 4) n D left cnt
  out : wr.ownsMap Tryz.prog 3 (plainElem Tryz.prog 9) (w.heap.size + 2) no Dout
  agree : Agree Dout D left
  count : no + cnt ≤ Maps.size D
  row : wr.rangeAt (w.heap.size + 3) 0 M
  room : Room (w.heap.size + 1) 17 wr
  below : Below w.heap.size w wr
  lt : m < w.heap.size

section
variable {w : World} {m n : Nat} {D : DataW Unit} {L M : List Value} {Dout : DataW Unit} {no : Nat} {left : Lit → Bool} {cnt : Nat} {wr wx : World}
theorem Cpy.sizes (h : Cpy w m n D L M Dout no left cnt wr) : w.heap.size + 5 ≤ wr.heap.size := h.rg.lt
theorem Cpy.next (h : Cpy w m n D L M Dout no left cnt wr) (hg : wr.grownBy wx (some (w.heap.size + 4))) :
    wx.ownsMap Tryz.prog 3 (plainElem Tryz.prog 9) (w.heap.size + 2) no Dout ∧ wx.rangeAt (w.heap.size + 3) 0 M ∧ Room (w.heap.size + 1) 17 wx ∧ Below w.heap.size w wx := by
  have hs := h.sizes
  have hk : ∀ k, k < wr.heap.size → k ≠ w.heap.size + 4 → wx.heap[k]? = wr.heap[k]? := fun k hk hn => hg.block k hk (fun e => hn (by cases e; rfl))
  refine ⟨?_, rangeAt_blk h.row (hk _ (by omega) (by omega)), h.room.block (hk _ (by omega) (by omega)), Only.below h.below (Only.of_grown (S := fun b => b = w.heap.size + 4) hg rfl) h.below.size (fun i e => by omega)⟩
  obtain ⟨es, clock, hb, F, hs', hD⟩ := h.out
  exact ⟨es, clock, (hk _ (by omega) (by omega)).trans hb, F, hs', hD⟩
theorem Cpy.put {kl : Lit} {c : ByteArray} {w7 : World} {cnt' : Nat} (h : Cpy w m n D L M Dout no left cnt wr) (hrg : w7.ranges Tryz.prog 3 (plainElem Tryz.prog 9) m (w.heap.size + 4) n D (fun z => left z && !z.sameKey kl) cnt') (hg : wr.grownBy w7 (some (w.heap.size + 4))) (hlt : cnt' < cnt)
    (hk : WideAt.IsKeyLit kl) (hat : ∀ zd, D.atKey kl zd = .lit (.string c.data.toList)) (hown : wx.ownsMap Tryz.prog 3 (plainElem Tryz.prog 9) (w.heap.size + 2) (no + 1) (Dout.put kl (.lit (.string c.data.toList)))) (hg2 : w7.grownBy wx (some (w.heap.size + 2))) :
    Cpy w m n D L M (Dout.put kl (.lit (.string c.data.toList))) (no + 1) (fun z => left z && !z.sameKey kl) cnt' wx := by
  obtain ⟨h1, h2, h3, h4⟩ := h.next hg
  have hs : w.heap.size + 5 ≤ w7.heap.size := hrg.lt
  have hl := h.lt
  have hk' : ∀ k, k < w7.heap.size → k ≠ w.heap.size + 2 → wx.heap[k]? = w7.heap[k]? := fun k hk hn => hg2.block k hk (fun e => hn (by cases e; rfl))
  have hIs : IsMap Dout := by
    obtain ⟨es, e, _⟩ := h.out.canon keyed3
    exact ⟨es, e⟩
  have := h.count
  exact ⟨hrg.kept hg2 (fun e => by cases e; omega) (fun e => by injection e with e; omega), hown, agree_step h.agree hIs hk hat, by omega, rangeAt_blk h2 (hk' _ (by omega) (by omega)), h3.block (hk' _ (by omega) (by omega)), Only.below h4 (Only.of_grown (S := fun b => b = w.heap.size + 2) hg2 rfl) h4.size (fun i e => by omega), h.lt⟩
end
set_option maxRecDepth 100000 in
set_option maxHeartbeats 1600000 in
theorem copy_any {m n : Nat} {f : Nat → Option ByteArray} {w : World} (h : Texts m n f w) (rp rn : Nat → Int) :
    Calls Tryz.prog 7 #[.agg (pagesL m rp rn).toArray] w fun e w' => ∃ m', e = .returned (.agg (pagesL m' rp rn).toArray) ∧ w.heap.size ≤ m' ∧ Texts m' 2000 f w' ∧ Below w.heap.size w w' := by
  obtain ⟨Z, hz, sZ⟩ := zero38
  obtain ⟨D, hown, hM⟩ := h
  have hlt := hown.lt
  have hsz : Maps.size D ≤ 2000 := by rw [hM.count (hown.canon keyed3)]; exact countU_le _ _
  obtain ⟨L, hL⟩ : ∃ L, pagesL m rp rn = L := ⟨_, rfl⟩
  obtain ⟨R, hR⟩ : ∃ R, rootsL rp rn = R := ⟨_, rfl⟩
  obtain ⟨M, hMM⟩ : ∃ M, pagesL (w.heap.size + 2) rp rn = M := ⟨_, rfl⟩
  have sL : (Tryz.prog.info? 38).map (·.size) = some L.length := by rw [← hL, pagesL_len]; exact size38
  have sM : (Tryz.prog.info? 38).map (·.size) = some M.length := by rw [← hMM, pagesL_len]; exact size38
  have sM2 : (Tryz.prog.info? 38).map (·.size) = some M.toArray.size := by rw [List.size_toArray]; exact sM
  have sR : (Tryz.prog.info? 36).map (·.size) = some R.length := by rw [← hR, rootsL_len]; exact size36
  have oM := all_oneCell_toArray (show ∀ v ∈ M, v.oneCell' = true by rw [← hMM]; exact pagesL_one _ _ _)
  have hbu : Tryz.prog.built 38 [(0, .map (some (w.heap.size + 2))), (1, .agg R.toArray)] = some M.toArray := by rw [← hR, ← hMM]; exact built38 _ _ _
  have hru := fun wx => run_build (P := Tryz.prog) wx 38 #[(0, .map (some (w.heap.size + 2))), (1, .agg R.toArray)] M.toArray hbu
  have hmm := @run_makeMap Tryz.prog
  rw [hL]
  have HB : Hid (rootsL rp rn = R ∧ pagesL (w.heap.size + 2) rp rn = M ∧ pagesL m rp rn = L) := ⟨hR, hMM, hL⟩
  -- the worlds
  obtain ⟨w1, hw1⟩ : ∃ w1, w.alloc (.cells L.toArray 38) = w1 := ⟨_, rfl⟩
  obtain ⟨w2, hw2⟩ : ∃ w2, w1.alloc (.cells Z 38) = w2 := ⟨_, rfl⟩
  obtain ⟨w3, hw3⟩ : ∃ w3, w2.alloc (.map #[] 0) = w3 := ⟨_, rfl⟩
  obtain ⟨w4, hw4⟩ : ∃ w4, w3.alloc (.cells Z 38) = w4 := ⟨_, rfl⟩
  have z1 : w1.heap.size = w.heap.size + 1 := by rw [← hw1, World.size_alloc]
  have z2 : w2.heap.size = w.heap.size + 2 := by rw [← hw2, World.size_alloc, z1]
  have z3 : w3.heap.size = w.heap.size + 3 := by rw [← hw3, World.size_alloc, z2]
  have z4 : w4.heap.size = w.heap.size + 4 := by rw [← hw4, World.size_alloc, z3]
  have b1 : Below w.heap.size w w1 := by rw [← hw1]; exact (Below.refl _ _).alloc (Nat.le_refl _) _
  have b2 : Below w1.heap.size w1 w2 := by rw [← hw2]; exact (Below.refl _ _).alloc (Nat.le_refl _) _
  have b3 : Below w2.heap.size w2 w3 := by rw [← hw3]; exact (Below.refl _ _).alloc (Nat.le_refl _) _
  have b4 : Below w3.heap.size w3 w4 := by rw [← hw4]; exact (Below.refl _ _).alloc (Nat.le_refl _) _
  have hsL : w1.rangeAt w.heap.size 0 L := by rw [← hw1]; exact row_new w L 38
  have hsL2 : w2.rangeAt w.heap.size 0 L := rangeAt_blk hsL (b2.block _ (by omega))
  have hsL3 : w3.rangeAt w.heap.size 0 L := rangeAt_blk hsL2 (b3.block _ (by omega))
  have hsR : w3.rangeAt w.heap.size 1 R := by
    have h9 := hsL3
    rw [← hL] at h9
    rw [← hR]
    exact range_tail h9
  have hr2 : Room (w.heap.size + 1) 17 w2 := by rw [← hw2, ← z1]; exact Room.new w1 Z 38 17 sZ
  have hr4 : Room (w.heap.size + 3) 17 w4 := by rw [← hw4, ← z3]; exact Room.new w3 Z 38 17 sZ
  have hm3 : w3.ownsMap (H := Unit) Tryz.prog 3 (plainElem Tryz.prog 9) (w.heap.size + 2) 0 (.map []) := by rw [← hw3, ← z2]; exact World.ownsMap_made _ _ _ _
  have HSR : Hid _ := hsR
  have HT4 : Hid (w4.there (w.heap.size + 3) 0 M.toArray.size) := hr4.there (by rw [List.size_toArray, ← hMM, pagesL_len])
  have hc0 : ∀ wx : World, wx.heap[w.heap.size]? = w1.heap[w.heap.size]? → wx.cell? ⟨w.heap.size, 0, none⟩ = some (.map (some m)) := fun wx hx => by
    have h9 := rangeAt_blk hsL hx
    have := h9 0 (.map (some m)) (by rw [← hL]; rfl)
    simpa using this
  have b5 : Below (w.heap.size + 3) w4 (w4.setCells (w.heap.size + 3) 0 M) := Below.setCells' (Nat.le_refl _) _ _ _ (Below.refl _ _)
  have q5 := hc0 (w4.setCells (w.heap.size + 3) 0 M) ((b5.block _ (by omega)).trans ((b4.block _ (by omega)).trans ((b3.block _ (by omega)).trans (b2.block _ (by omega)))))
  have HR5 : Hid ((w4.setCells (w.heap.size + 3) 0 M).rangeAt (w.heap.size + 3) 0 M) := World.rangeAt_setCells_same _ _ _ _ (by have := HT4.out; rw [List.size_toArray] at this; exact this)
  have HW5 : Hid (Below w.heap.size w (w4.setCells (w.heap.size + 3) 0 M)) := (b1.trans ((b2.mono (by omega)).trans ((b3.mono (by omega)).trans (b4.mono (by omega))))).trans (b5.mono (by omega))
  have HO5 : Hid ((w4.setCells (w.heap.size + 3) 0 M).ownsMap (H := Unit) Tryz.prog 3 (plainElem Tryz.prog 9) (w.heap.size + 2) 0 (.map [])) := by
    obtain ⟨es, clock, hb, F, hs, hD⟩ := hm3
    exact ⟨es, clock, (b5.block _ (by omega)).trans ((b4.block _ (by omega)).trans hb), F, hs, hD⟩
  have HN5 : Hid ((w4.setCells (w.heap.size + 3) 0 M).ownsMap Tryz.prog 3 (plainElem Tryz.prog 9) m n D) := by
    obtain ⟨es, clock, hb, F, hs, hD⟩ := hown
    exact ⟨es, clock, (HW5.out.block _ hlt).trans hb, F, hs, hD⟩
  have HRm : Hid (Room (w.heap.size + 1) 17 (w4.setCells (w.heap.size + 3) 0 M)) := hr2.block ((b5.block _ (by omega)).trans ((b4.block _ (by omega)).trans (b3.block _ (by omega))))
  have HZ5 : Hid ((w4.setCells (w.heap.size + 3) 0 M).heap.size = w.heap.size + 4) := by rw [Hid, ← z4]; exact size_setC2 _ _ _ _
  have HZZ : Hid (w1.heap.size = w.heap.size + 1 ∧ w2.heap.size = w.heap.size + 2 ∧ w3.heap.size = w.heap.size + 3) := ⟨z1, z2, z3⟩
  clear b1 b2 b3 b4 b5 hsL hsL2 hsL3 hsR hr2 hr4 hm3 hc0 hown hL hR hMM hbu
  go_enter Tryz.func7, Tryz.ntmps7
  go_wp2_with (first | (refine wpList_build rfl 38 _ rfl [(0, .map (some (w.heap.size + 2))), (1, .agg R.toArray)] rfl (.agg M.toArray) (hru _) ?_) | (refine wpList_load_mid rfl 36 _ rfl w.heap.size 1 rfl R _ HSR.out Tryz.underlying36 rfl sR ?_) | (refine wpList_store_mid rfl 38 _ _ rfl (w.heap.size + 3) 0 M.toArray rfl rfl HT4.out sM2 oM ?_) | (at_range; refine wpList_range_own _ rfl _ 34 rfl 3 9 keyed3 Tryz.underlying34 _ m n D rfl HN5.out ?_; intro w6 hrg6 hg6 hs6))
  rw [HZ5.out] at hrg6 hs6
  rw [HZ5.out]
  go_frame
  have HC : Hid (Cpy w m n D L M (.map []) 0 (Maps.has D) (Maps.size D) w6) := by
    have hk : ∀ k, k < w.heap.size + 4 → w6.heap[k]? = (w4.setCells (w.heap.size + 3) 0 M).heap[k]? := fun k hk => hg6.block k (by rw [HZ5.out]; exact hk) (by simp)
    refine ⟨hrg6, ?_, agree_start D, by omega, rangeAt_blk HR5.out (hk _ (by omega)), HRm.out.block (hk _ (by omega)), Only.below HW5.out (Only.of_below (S := fun _ => False) ⟨hg6.os, hg6.tape, hg6.output, hg6.size, fun k h => hk k (by rw [← HZ5.out]; exact h)⟩) HW5.out.size (fun _ e => e.elim), hlt⟩
    obtain ⟨es, clock, hb, F, hs', hD⟩ := HO5.out
    exact ⟨es, clock, (hk _ (by omega)).trans hb, F, hs', hD⟩
  clear hrg6 hg6 hs6 HR5 HW5 HO5 HN5 HRm HZ5 HZZ HSR HT4 q5 hru hmm hz sL sR
  go_loopw [] (fun wr => ∃ (left : Lit → Bool) (cnt : Nat) (Dout : DataW Unit) (no : Nat), Hid (Cpy w m n D L M Dout no left cnt wr)) (fun wr => wr.rangeLeft m (w.heap.size + 4))
  case atStart => exact ⟨_, _, _, _, HC⟩
  case round =>
    clear HC
    obtain ⟨left, cnt, Dout, no, HC⟩ := hrel
    have hrg := HC.out.rg
    have q0 : wr.cell? ⟨w.heap.size + 3, 0, none⟩ = some (.map (some (w.heap.size + 2))) := by
      have := HC.out.row 0 (.map (some (w.heap.size + 2))) (by rw [← HB.out.2.1]; rfl)
      simpa using this
    go_wp2_with (at_next; refine wpList_next_ranges_is _ rfl _ rfl 3 9 .i64 keyed3 Tryz.underlying3 Tryz.underlying9 m _ n D left cnt rfl hrg ?_ ?_)
    · intro _ hl
      have hE : Dout = D := agree_end HC.out.agree hl (HC.out.out.canon keyed3) (hrg.owns.canon keyed3)
      have HTx : Hid (Texts (w.heap.size + 2) 2000 f wr) := ⟨D, by rw [← hE]; exact HC.out.out.mono (by have := HC.out.count; omega), hM⟩
      have HRw : Hid (wr.rangeAt (w.heap.size + 3) 0 M) := HC.out.row
      have hT : wr.there (w.heap.size + 1) 0 M.toArray.size := HC.out.room.there (by rw [List.size_toArray, ← HB.out.2.1, pagesL_len])
      have HT : Hid _ := hT
      have l3 := run_loadVar_mid (P := Tryz.prog) (wr.setCells (w.heap.size + 1) 0 M) (w.heap.size + 1) 0 38 M _ (World.rangeAt_setCells_same _ _ _ _ (by rw [List.size_toArray] at hT; exact hT)) Tryz.underlying38 rfl sM
      have HF : Hid (Below w.heap.size w (wr.setCells (w.heap.size + 1) 0 M)) := Below.setCells' (by omega) _ _ _ HC.out.below
      have HT2 : Hid (Texts (w.heap.size + 2) 2000 f (wr.setCells (w.heap.size + 1) 0 M)) := HTx.out.only (Only.setCells (w.heap.size + 1) M 0 wr) (by omega)
      clear hT hE hl hrg HTx HC
      go_wp2_with (first | (refine wpList_load_mid rfl 38 _ rfl (w.heap.size + 3) 0 rfl M _ HRw.out Tryz.underlying38 rfl sM ?_) | (refine wpList_store_mid rfl 38 _ _ rfl (w.heap.size + 1) 0 M.toArray rfl rfl HT.out sM2 oM ?_))
      exact bodyPost_ret (v := .agg M.toArray) (results_cell_of Tryz.results7 _ _ _ rfl l3) rfl ⟨w.heap.size + 2, by rw [HB.out.2.1], by omega, HT2.out, HF.out⟩
    · intro x c w7 cnt7 hwx hwc hlx hat hrg7 hlt7 hg7 hs7 hen
      obtain ⟨o7, r7, m7, b7⟩ := HC.out.next hg7
      have q7 : w7.cell? ⟨w.heap.size + 3, 0, none⟩ = some (.map (some (w.heap.size + 2))) := by
        have := r7 0 (.map (some (w.heap.size + 2))) (by rw [← HB.out.2.1]; rfl)
        simpa using this
      have hno : no < maxLen := by have := HC.out.count; unfold maxLen; omega
      have HO7 : Hid _ := o7
      have HR7 : Hid (w7.ranges Tryz.prog 3 (plainElem Tryz.prog 9) m (w.heap.size + 4) n D (fun z => left z && !z.sameKey (.int .i64 x)) cnt7) := hrg7
      have HA : Hid (∀ zd, D.atKey (.int .i64 x) zd = .lit (.string c.data.toList)) := hat
      have HL7 : Hid (cnt7 < cnt) := hlt7
      have HG7 : Hid (wr.grownBy w7 (some (w.heap.size + 4))) := hg7
      clear o7 r7 m7 b7 hat hlt7 hg7 hs7 hrg7 hlx
      go_wp2_with (at_mapUpdate; refine wpList_mapUpdate_own _ rfl _ _ _ 34 rfl 3 9 keyed3 Tryz.underlying34 _ (w.heap.size + 2) no Dout rfl HO7.out hno _ _ _ rfl rfl (keyOf_int_mk Tryz.underlying3 hwx) _ [] (plainElem_string Tryz.underlying9 hwc) ?_; intro w8 hown8 hg8)
      have HC8 : Hid (Cpy w m n D L M (Dout.put (.int .i64 x) (.lit (.string c.data.toList))) (no + 1) (fun z => left z && !z.sameKey (.int .i64 x)) cnt7 w8) := HC.out.put HR7.out HG7.out HL7.out trivial HA.out hown8 hg8
      clear hown8 hg8 hen q7 q0
      go_frame
      go_roundw
      case rel => exact ⟨_, _, _, _, HC8⟩
      case measure => rw [HC8.out.rg.left_eq, hrg.left_eq]; exact HL7.out
end Go.Proofs.YtjnjjpdgifnnpaaGreatDoor
namespace Go.Proofs.YtjnjjpdgifnnpaaGreatDoor
open Go.RowKit Go.Maps

set_option maxRecDepth 100000 in
set_option maxHeartbeats 1600000 in
theorem refAlloc_any {m n b : Nat} {f : Nat → Option ByteArray} {w : World} (h : Texts m n f w) (hn : n < 1000000) (hc : w.cell? ⟨b, 0, none⟩ = some (.map (some m))) (k : Nat) (h0 : 0 < k) (hk : k < 2000) (hf : f k = none) (hl : ∀ j, 0 < j → j < k → (f j).isSome = true) :
    Calls Tryz.prog 10 #[.pointer (some ⟨b, 0, none⟩)] w fun e w' => e = .returned (.int .i64 k) ∧ Texts m (n + 1) (put f k (some zeros)) w' ∧ Only (fun x => x = m) w w' := by
  have HT : Hid (Texts m n f w) := h
  have hne := h.ne_cell hc
  clear h
  go_enter Tryz.func10, Tryz.ntmps10
  go_wp2_with fail
  go_loopw [3] (fun i wr => ∃ j : Nat, 0 < j ∧ j ≤ k ∧ i = .int .i64 j ∧ Hid (wr = w)) (fun i _ => k - (intOf i).toNat)
  case atStart => exact ⟨1, by omega, by omega, rfl, rfl⟩
  case round =>
    obtain ⟨j, hj0, hjk, rfl, HE⟩ := hrel
    have := HE.out
    subst this
    have h1 : (j : Int) < 2000 := by omega
    by_cases e : j = k
    · subst e
      go_wp2_with (refine look_text _ rfl _ _ rfl HT.out (j : Int) (wf_nat j (by omega)) rfl rfl ?_; rw [fi_nat, hf])
      have HK : Hid (∀ wx, Only (fun x => x = m) wr wx → wx.cell? ⟨b, 0, none⟩ = some (.map (some m))) := fun wx hx => by rw [hx.cell (World.block_lt_of_cell? wr _ hc) (fun e => hne e.symm)]; exact hc
      have HB0 : Hid (Only (fun x => x = m) wr wr.drew) := (Only.refl _ wr).drew
      go_region_held3 (fun wx => wx.cell? ⟨b, 0, none⟩ = some (.map (some m))) (first | exact HK.out _ HO2.out | exact HK.out _ HO.out | exact HK.out _ HB0.out) (first | (go_at_call 33; refine (zeros_any _).mono ?_; rintro _ wy ⟨rfl, hb⟩; have HO : Hid (Only (fun x => x = m) wr wy) := (Only.of_below ((Below.refl _ wr).drew.trans hb)); obtain ⟨w2, hst, hs2, ho2⟩ := store_text (HT.out.block (Below.block ((Below.refl _ wr).drew.trans hb) _ HT.out.lt)) hn j (by omega) zeros zeros_size; have HO2 : Hid (Only (fun x => x = m) wr w2) := HO.out.trans ho2 (fun _ h => .inl h); have HS2 : Hid _ := hs2; clear hs2 ho2 hb))
      go_wp2
      go_ret
      exact ⟨rfl, HS2.out, HO2.out⟩
    · have hs := hl j hj0 (by omega)
      go_wp2_with (refine look_text _ rfl _ _ rfl HT.out (j : Int) (wf_nat j (by omega)) rfl rfl ?_; rw [fi_nat, hs])
      go_roundw
      case rel => exact ⟨j + 1, by omega, by omega, by go_num, trivial⟩
      case measure => simp [intOf]; omega
end Go.Proofs.YtjnjjpdgifnnpaaGreatDoor
namespace Go.Proofs.YtjnjjpdgifnnpaaGreatDoor
open Go.RowKit

/-- so many of one letter -/
def rep (c : UInt8) (k : Nat) : ByteArray := ⟨(List.replicate k c).toArray⟩
theorem rep_size (c : UInt8) (k : Nat) : (rep c k).size = k := by
  show (List.replicate k c).toArray.size = k
  rw [List.size_toArray, List.length_replicate]

theorem rep_any (c : UInt8) (k : Nat) (hk : k ≤ 1024) (w : World) : Calls Tryz.prog 33 #[.string ⟨#[c]⟩, .int .i64 k] w fun e w' => e = .returned (.string (rep c k)) ∧ Below w.heap.size w w' := by
  have h := lib_repeat ⟨#[c]⟩ k w (by omega) (by show 1 * k ≤ _; omega)
  have e : Lib.repeatL (ByteArray.mk #[c]).data.toList k = List.replicate k c := by
    show Lib.repeatL [c] k = _
    have h1 : ([c] : List UInt8) = List.replicate 1 c := rfl
    rw [h1, Lib.repeatL_replicate, Nat.mul_one]
  rw [e] at h
  exact h

/-- the page of a number -/
def pageOf (n : Int) : ByteArray := rep (UInt8.ofNat ((n / 256) % 256).toNat) (n % 1024).toNat ++ rep (UInt8.ofNat (n % 256).toNat) (1024 - (n % 1024).toNat)

theorem below_step {w W w1 : World} (h : Below w.heap.size w W) (hb : Below W.heap.size W w1) : Below w.heap.size w w1 := h.trans (hb.mono h.size)

theorem one_byte (x : Int) (W : World) (B : Nat) (h : W.cell? ⟨B, 0, none⟩ = some (.int .u8 (IntKind.u8.wrap x))) :
    (convert 89 9 (.slice (some ⟨B, 0, none⟩) 1 1)).run Tryz.prog W = .ok (.string ⟨#[UInt8.ofNat (x % 256).toNat]⟩) W := by
  have e : IntKind.u8.wrap x = ((UInt8.ofNat (x % 256).toNat).toNat : Int) := by
    have h1 : (x % 256).toNat < 256 := by omega
    rw [UInt8.toNat_ofNat']
    simp [IntKind.wrap, IntKind.signed, IntKind.bits]
    omega
  have := run_convert_bytes_back (P := Tryz.prog) W 89 9 5 ⟨B, 0, none⟩ 1 [UInt8.ofNat (x % 256).toNat] Tryz.underlying89 Tryz.underlying5 Tryz.underlying9 (fun j hj => by
    have : j = 0 := by simpa using hj
    subst this
    rw [Addr.add_zero', h, e]
    rfl)
  exact this

theorem page_mod (n : Int) : wrap64 ((IntKind.u64.wrap n).tmod 1024) = (((n % 1024).toNat : Nat) : Int) := by
  simp [IntKind.wrap, IntKind.signed, IntKind.bits]
  have h1 : 0 ≤ n % 18446744073709551616 := by omega
  rw [Int.tmod_eq_emod_of_nonneg h1]
  unfold wrap64
  omega

set_option maxRecDepth 100000 in
set_option maxHeartbeats 1000000 in
theorem page_any (n : Int) (w : World) :
    Calls Tryz.prog 12 #[.int .i64 n] w fun e w' => e = .returned (.string (pageOf n)) ∧ Below w.heap.size w w' := by
  have hk := page_mod n
  have hcA := one_byte (n / 256)
  have hcB := one_byte n
  obtain ⟨k, hkk⟩ : ∃ k, k = (n % 1024).toNat := ⟨_, rfl⟩
  have hp : pageOf n = rep (UInt8.ofNat ((n / 256) % 256).toNat) k ++ rep (UInt8.ofNat (n % 256).toNat) (1024 - k) := by rw [hkk]; rfl
  rw [← hkk] at hk
  have hk2 : IntKind.i64.wrap (1024 - (k : Int)) = ((1024 - k : Nat) : Int) := by
    simp [IntKind.wrap, IntKind.signed, IntKind.bits]
    omega
  have hle : k ≤ 1024 := by omega
  rw [hp]
  clear hp hkk
  generalize UInt8.ofNat (n / 256 % 256).toNat = ca at *
  generalize UInt8.ofNat (n % 256).toNat = cb at *
  have hr1 := rep_size ca k
  have hr2 := rep_size cb (1024 - k)
  have hlt2 : w.heap.size < w.heap.size + 1 + 1 := by omega
  go_enter Tryz.func12, Tryz.ntmps12
  go_wp2_with fail
  simp only [hk]
  clear hk
  go_region_with (go_at_call 33; refine (rep_any _ _ ?_ _).mono ?_; (first | exact hle | omega); rintro _ w1 ⟨rfl, hb1⟩; have hq0 := hb1.cell (p := ⟨w.heap.size, 0, none⟩); have hq1 := hb1.cell (p := ⟨w.heap.size + 1, 0, none⟩); (try simp [hlt2] at hq0); (try simp at hq1); have hbw := below_step (w := w) (by go_grown) hb1; have hbz := hbw.size)
  all_goals (go_wp2; go_ret; exact ⟨rfl, hbw⟩)
theorem pageOf_size (n : Int) : (pageOf n).size = 1024 := by
  unfold pageOf
  rw [ByteArray.size_append, rep_size, rep_size]
  omega
end Go.Proofs.YtjnjjpdgifnnpaaGreatDoor
namespace Go.Proofs.YtjnjjpdgifnnpaaGreatDoor
open Go.RowKit Go.Extern.Stop Go.Stop Go.Extern

theorem Tryz.valueOf68 (t : Addr) (w : World) : (ReflectliteValue.unpack (.iface 99 (.pointer (some t)))).run Tryz.prog w
    = .ok (.agg #[.pointer (some ⟨2, 99, none⟩), .pointer (some ⟨w.heap.size, 0, none⟩), .int .u64 150]) (w.alloc (.cells #[.pointer (some t)] 99)) := by kernel_rfl
theorem Tryz.type68 (a : Addr) (w : World) : (ReflectliteValue.methodAny (ReflectliteValue.valueError "reflectlite.Value.Type" 0) (fun t _ _ _ => ReflectliteType.toType t) #[.agg #[.pointer (some ⟨2, 99, none⟩), .pointer (some a), .int .u64 150]]).run Tryz.prog w
    = .ok (.iface 155 (.agg #[.pointer (some ⟨2, 99, none⟩)])) w := by kernel_rfl
theorem Tryz.methodKind (h : Value) (w : World) : (Go.method 316 155 (.agg #[h]) "Kind").run Tryz.prog w = .ok (119, h) w := by kernel_rfl
theorem Tryz.kind68 (w : World) : ((ReflectliteType.abiMethod fun t => (fun a : Nat => Value.int IntKind.u8 (a : Int)) <$> Rtype.kind t) #[.pointer (some ⟨2, 99, none⟩)]).run Tryz.prog w = .ok (.int .u8 22) w := by kernel_rfl
theorem Tryz.kind24 (w : World) : ((ReflectliteType.abiMethod fun t => (fun a : Nat => Value.int IntKind.u8 (a : Int)) <$> Rtype.kind t) #[.pointer (some ⟨2, 33, none⟩)]).run Tryz.prog w = .ok (.int .u8 2) w := by kernel_rfl
theorem Tryz.parts68 (a : Addr) (w : World) : (ReflectliteValue.parts (.agg #[.pointer (some ⟨2, 99, none⟩), .pointer (some a), .int .u64 150])).run Tryz.prog w = .ok (some (99, a, 150)) w := by kernel_rfl
theorem Tryz.isNil68 (a p : Addr) (W : World) (ha : W.cell? a = some (.pointer (some p))) :
    (ReflectliteValue.method (ReflectliteValue.valueError "reflectlite.Value.IsNil" 0) ReflectliteValue.isNil #[.agg #[.pointer (some ⟨2, 99, none⟩), .pointer (some a), .int .u64 150]]).run Tryz.prog W = .ok (.bool false) W := by
  change Sem.run Tryz.prog (ReflectliteValue.parts (.agg #[.pointer (some ⟨2, 99, none⟩), .pointer (some a), .int .u64 150]) >>= _) W = _
  simp only [Sem.run_bind, Tryz.parts68, Result.andThen]
  simp [ReflectliteValue.isNil, loadVar, isAgg, underlying, Tryz.underlying99, ha, Result.andThen]
theorem Tryz.methodElem (h : Value) (w : World) : (Go.method 316 155 (.agg #[h]) "Elem").run Tryz.prog w = .ok (132, .agg #[h]) w := by kernel_rfl
theorem Tryz.methodImplements (h : Value) (w : World) : (Go.method 316 155 (.agg #[h]) "Implements").run Tryz.prog w = .ok (133, .agg #[h]) w := by kernel_rfl
theorem Tryz.methodAssignableTo (h : Value) (w : World) : (Go.method 316 155 (.agg #[h]) "AssignableTo").run Tryz.prog w = .ok (130, .agg #[h]) w := by kernel_rfl
theorem Tryz.elem68 (w : World) : (ReflectliteType.method ReflectliteType.elem #[.agg #[.pointer (some ⟨2, 99, none⟩)]]).run Tryz.prog w = .ok (.iface 155 (.agg #[.pointer (some ⟨2, 33, none⟩)])) w := by kernel_rfl
theorem Tryz.implements24 (w : World) : (ReflectliteType.relation "Implements" ReflectliteType.implements_ #[.agg #[.pointer (some ⟨2, 33, none⟩)], .iface 155 (.agg #[.pointer (some ⟨2, 29, none⟩)])]).run Tryz.prog w = .ok (.bool true) w := by kernel_rfl
theorem Tryz.typeOf24 (v : Value) (w : World) : (ReflectliteType.typeOf #[.iface 33 v]).run Tryz.prog w = .ok (.iface 155 (.agg #[.pointer (some ⟨2, 33, none⟩)])) w := by kernel_rfl
theorem Tryz.typeOf46 (v : Value) (w : World) : (ReflectliteType.typeOf #[.iface 137 v]).run Tryz.prog w = .ok (.iface 155 (.agg #[.pointer (some ⟨2, 137, none⟩)])) w := by kernel_rfl
theorem Tryz.assignable24 (w : World) : (ReflectliteType.relation "AssignableTo" ReflectliteType.assignableTo #[.agg #[.pointer (some ⟨2, 33, none⟩)], .iface 155 (.agg #[.pointer (some ⟨2, 33, none⟩)])]).run Tryz.prog w = .ok (.bool true) w := by kernel_rfl
theorem Tryz.assignable46 (w : World) : (ReflectliteType.relation "AssignableTo" ReflectliteType.assignableTo #[.agg #[.pointer (some ⟨2, 137, none⟩)], .iface 155 (.agg #[.pointer (some ⟨2, 33, none⟩)])]).run Tryz.prog w = .ok (.bool false) w := by kernel_rfl
theorem Tryz.valueOf24 (n : Int) (w : World) : (ReflectliteValue.unpack (.iface 33 (.int .i64 n))).run Tryz.prog w
    = .ok (.agg #[.pointer (some ⟨2, 33, none⟩), .pointer (some ⟨w.heap.size, 0, none⟩), .int .u64 130]) (w.alloc (.cells #[.int .i64 n] 33)) := by kernel_rfl
theorem Tryz.elemOf68 (w : World) : (Rtype.elem? 99).run Tryz.prog w = .ok (some 33) w := by kernel_rfl
theorem Tryz.mk24 (p : Addr) (w : World) : (ReflectliteValue.mk 33 p ReflectliteValue.flagAddr).run Tryz.prog w = .ok (.agg #[.pointer (some ⟨2, 33, none⟩), .pointer (some p), .int .u64 386]) w := by kernel_rfl
theorem Tryz.elemV68 (a p : Addr) (W : World) (ha : W.cell? a = some (.pointer (some p))) :
    (ReflectliteValue.method (ReflectliteValue.valueError "reflectlite.Value.Elem" 0) ReflectliteValue.elem #[.agg #[.pointer (some ⟨2, 99, none⟩), .pointer (some a), .int .u64 150]]).run Tryz.prog W
      = .ok (.agg #[.pointer (some ⟨2, 33, none⟩), .pointer (some p), .int .u64 386]) W := by
  change Sem.run Tryz.prog (ReflectliteValue.parts (.agg #[.pointer (some ⟨2, 99, none⟩), .pointer (some a), .int .u64 150]) >>= _) W = _
  simp only [Sem.run_bind, Tryz.parts68, Result.andThen]
  simp [ReflectliteValue.elem, loadVar, isAgg, underlying, Tryz.underlying99, ha, Result.andThen, Tryz.elemOf68, Tryz.mk24]
end Go.Proofs.YtjnjjpdgifnnpaaGreatDoor
namespace Go.Proofs.YtjnjjpdgifnnpaaGreatDoor
open Go.RowKit Go.Extern.Stop Go.Stop Go.Extern

theorem Tryz.parts24a (a : Addr) (w : World) : (ReflectliteValue.parts (.agg #[.pointer (some ⟨2, 33, none⟩), .pointer (some a), .int .u64 386])).run Tryz.prog w = .ok (some (33, a, 386)) w := by kernel_rfl
theorem Tryz.parts24 (a : Addr) (w : World) : (ReflectliteValue.parts (.agg #[.pointer (some ⟨2, 33, none⟩), .pointer (some a), .int .u64 130])).run Tryz.prog w = .ok (some (33, a, 130)) w := by kernel_rfl
theorem Tryz.direct24 (w : World) : (Rtype.directlyAssignable 33 33).run Tryz.prog w = .ok true w := by kernel_rfl
theorem Tryz.set24 (ta b : Addr) (n : Int) (old : Value) (W : World) (hb : W.cell? b = some (.int .i64 n)) (ht : W.cell? ta = some old) (hf : W.frozen? ta = false) :
    (ReflectliteValue.set #[.agg #[.pointer (some ⟨2, 33, none⟩), .pointer (some ta), .int .u64 386], .agg #[.pointer (some ⟨2, 33, none⟩), .pointer (some b), .int .u64 130]]).run Tryz.prog W
      = .ok (.tuple #[]) (W.setCell ta (.int .i64 n)) := by
  change Sem.run Tryz.prog (ReflectliteValue.parts (.agg #[.pointer (some ⟨2, 33, none⟩), .pointer (some ta), .int .u64 386]) >>= fun p => ReflectliteValue.parts (.agg #[.pointer (some ⟨2, 33, none⟩), .pointer (some b), .int .u64 130]) >>= _) W = _
  simp only [Sem.run_bind, Tryz.parts24a, Tryz.parts24, Result.andThen]
  simp [ReflectliteValue.flagAddr, loadVar, isAgg, underlying, Tryz.underlying33, hb, Result.andThen, Tryz.direct24, storeVar, Value.cells, storeCells, Addr.add]
  rw [run_store Tryz.prog W ta _ _ (by rfl)]
  simp [ht, hf]
end Go.Proofs.YtjnjjpdgifnnpaaGreatDoor
namespace Go.Proofs.YtjnjjpdgifnnpaaGreatDoor
open Go.RowKit Go.Extern.Stop Go.Stop Go.Extern

set_option maxRecDepth 100000 in
set_option maxHeartbeats 2000000 in
theorem as37_hit (n : Int) (t a : Addr) (old : Value) (w : World) (ha : w.cell? a = some (.pointer (some t))) (ht0 : w.cell? t = some old) (hf0 : w.frozen? t = false) :
    Calls Tryz.prog 62 #[.iface 33 (.int .i64 n), .iface 99 (.pointer (some t)), .agg #[.pointer (some ⟨2, 99, none⟩), .pointer (some a), .int .u64 150], .iface 155 (.agg #[.pointer (some ⟨2, 33, none⟩)])] w
      fun ev w' => ev = .returned (.bool true) ∧ w'.cell? t = some (.int .i64 n) ∧ Below t.block w w' := by
  have h34 := @run_callFunc_extern Tryz.prog 59 _ (fun args => ReflectliteValue.unpack (args.getD 0 (.tuple #[]))) Tryz.func59 (by kernel_rfl) (by kernel_rfl) (by kernel_rfl) (by kernel_rfl)
  have h38 := @run_callFunc_extern Tryz.prog 79 _ ReflectliteType.typeOf Tryz.func79 (by kernel_rfl) (by kernel_rfl) (by kernel_rfl) (by kernel_rfl)
  have h65 := @run_callFunc_extern Tryz.prog 130 _ (ReflectliteType.relation "AssignableTo" ReflectliteType.assignableTo) Tryz.func130 (by kernel_rfl) (by kernel_rfl) (by kernel_rfl) (by kernel_rfl)
  have h39 := @run_callFunc_extern Tryz.prog 80 _ (ReflectliteValue.method (ReflectliteValue.valueError "reflectlite.Value.Elem" 0) ReflectliteValue.elem) Tryz.func80 (by kernel_rfl) (by kernel_rfl) (by kernel_rfl) (by kernel_rfl)
  have h40 := @run_callFunc_extern Tryz.prog 81 _ ReflectliteValue.set Tryz.func81 (by kernel_rfl) (by kernel_rfl) (by kernel_rfl) (by kernel_rfl)
  have tO := Tryz.typeOf24
  have mA := Tryz.methodAssignableTo
  have a24 := Tryz.assignable24
  have v24 := Tryz.valueOf24
  have htl : t.block < w.heap.size := World.block_lt_of_cell? w _ ht0
  have hal : a.block < w.heap.size := World.block_lt_of_cell? w _ ha
  have el := Tryz.elemV68 a t (w.alloc (.cells #[.pointer (some ⟨2, 99, none⟩), .pointer (some a), .int .u64 150] 125)) (by rw [World.cell?_alloc_lt _ _ a hal]; exact ha)
  have st := Tryz.set24 t ⟨w.heap.size + 1, 0, none⟩ n old ((w.alloc (.cells #[.pointer (some ⟨2, 99, none⟩), .pointer (some a), .int .u64 150] 125)).alloc (.cells #[.int .i64 n] 33))
    (by rw [World.cell?_alloc_at _ _ _ _ (by simp)]; rfl)
    (by rw [World.cell?_alloc_lt _ _ t (by simp; omega), World.cell?_alloc_lt _ _ t htl]; exact ht0)
    (by rw [World.frozen?_alloc_old _ _ t (by simp; omega), World.frozen?_alloc_old _ _ t (Nat.ne_of_lt htl)]; exact hf0)
  go_enter Tryz.func62, Tryz.ntmps62
  go_wp2
  refine wp_loop_rounds 1 ?_
  rw [rounds_succ]
  go_wp2
  go_ret
  refine ⟨rfl, World.cell?_setCell_same _ _ _ (u := old) (by rw [World.cell?_alloc_lt _ _ t (by simp; omega), World.cell?_alloc_lt _ _ t htl]; exact ht0), ?_⟩
  exact (((Below.refl t.block w).alloc (Nat.le_of_lt htl) _).alloc (by simp; omega) _).setCell (Nat.le_refl _) _

theorem Tryz.ta91 (b : Nat) (w : World) : (Instr.typeAssert (.iface 137 (.pointer (some ⟨b, 0, none⟩))) 29 160 true).run Tryz.prog w = .ok (.tuple #[.nilIface, .bool false]) w := run_typeAssert_lacksB Tryz.underlying160 (by kernel_rfl) (by kernel_rfl) _ _ w
theorem Tryz.ta60 (b : Nat) (w : World) : (Instr.typeAssert (.iface 137 (.pointer (some ⟨b, 0, none⟩))) 29 140 true).run Tryz.prog w = .ok (.tuple #[.iface 137 (.pointer (some ⟨b, 0, none⟩)), .bool true]) w := by kernel_rfl
theorem Tryz.methodUnwrap (p : Addr) (w : World) : (Go.method 316 137 (.pointer (some p)) "Unwrap").run Tryz.prog w = .ok (128, .pointer (some p)) w := by kernel_rfl

set_option maxHeartbeats 400000 in
theorem unwrap_any (b : Nat) (n : Int) (w : World) (h : w.cell? ⟨b, 0, none⟩ = some (.int .i64 n)) : Calls Tryz.prog 128 #[.pointer (some ⟨b, 0, none⟩)] w fun e w' => e = .returned (.iface 33 (.int .i64 n)) ∧ w' = w := by
  go_enter Tryz.func128, Tryz.ntmps128
  go_wp2
  go_ret
  exact ⟨rfl, rfl⟩

set_option maxRecDepth 100000 in
set_option maxHeartbeats 2000000 in
theorem as37_at (b : Nat) (n : Int) (t a : Addr) (old : Value) (w : World) (ha : w.cell? a = some (.pointer (some t))) (ht0 : w.cell? t = some old) (hf0 : w.frozen? t = false) (hb : w.cell? ⟨b, 0, none⟩ = some (.int .i64 n)) :
    Calls Tryz.prog 62 #[.iface 137 (.pointer (some ⟨b, 0, none⟩)), .iface 99 (.pointer (some t)), .agg #[.pointer (some ⟨2, 99, none⟩), .pointer (some a), .int .u64 150], .iface 155 (.agg #[.pointer (some ⟨2, 33, none⟩)])] w
      fun ev w' => ev = .returned (.bool true) ∧ w'.cell? t = some (.int .i64 n) ∧ Below t.block w w' := by
  have h34 := @run_callFunc_extern Tryz.prog 59 _ (fun args => ReflectliteValue.unpack (args.getD 0 (.tuple #[]))) Tryz.func59 (by kernel_rfl) (by kernel_rfl) (by kernel_rfl) (by kernel_rfl)
  have h38 := @run_callFunc_extern Tryz.prog 79 _ ReflectliteType.typeOf Tryz.func79 (by kernel_rfl) (by kernel_rfl) (by kernel_rfl) (by kernel_rfl)
  have h65 := @run_callFunc_extern Tryz.prog 130 _ (ReflectliteType.relation "AssignableTo" ReflectliteType.assignableTo) Tryz.func130 (by kernel_rfl) (by kernel_rfl) (by kernel_rfl) (by kernel_rfl)
  have h39 := @run_callFunc_extern Tryz.prog 80 _ (ReflectliteValue.method (ReflectliteValue.valueError "reflectlite.Value.Elem" 0) ReflectliteValue.elem) Tryz.func80 (by kernel_rfl) (by kernel_rfl) (by kernel_rfl) (by kernel_rfl)
  have h40 := @run_callFunc_extern Tryz.prog 81 _ ReflectliteValue.set Tryz.func81 (by kernel_rfl) (by kernel_rfl) (by kernel_rfl) (by kernel_rfl)
  have tO := Tryz.typeOf24
  have tO6 := Tryz.typeOf46
  have mA := Tryz.methodAssignableTo
  have mU := Tryz.methodUnwrap
  have a24 := Tryz.assignable24
  have a46 := Tryz.assignable46
  have v24 := Tryz.valueOf24
  have htl : t.block < w.heap.size := World.block_lt_of_cell? w _ ht0
  have hal : a.block < w.heap.size := World.block_lt_of_cell? w _ ha
  have hbl : b < w.heap.size := World.block_lt_of_cell? w _ hb
  have el := Tryz.elemV68 a t (w.alloc (.cells #[.pointer (some ⟨2, 99, none⟩), .pointer (some a), .int .u64 150] 125)) (by rw [World.cell?_alloc_lt _ _ a hal]; exact ha)
  have st := Tryz.set24 t ⟨w.heap.size + 1, 0, none⟩ n old ((w.alloc (.cells #[.pointer (some ⟨2, 99, none⟩), .pointer (some a), .int .u64 150] 125)).alloc (.cells #[.int .i64 n] 33))
    (by rw [World.cell?_alloc_at _ _ _ _ (by simp)]; rfl)
    (by rw [World.cell?_alloc_lt _ _ t (by simp; omega), World.cell?_alloc_lt _ _ t htl]; exact ht0)
    (by rw [World.frozen?_alloc_old _ _ t (by simp; omega), World.frozen?_alloc_old _ _ t (Nat.ne_of_lt htl)]; exact hf0)
  go_enter Tryz.func62, Tryz.ntmps62
  go_wp2
  refine wp_loop_rounds 2 ?_
  rw [rounds_succ]
  have ta1 := Tryz.ta91
  have ta2 := Tryz.ta60
  go_wp2_with fail
  refine (unwrap_any b n _ (by rw [World.cell?_alloc_lt _ _ ⟨b, 0, none⟩ hbl]; exact hb)).mono ?_
  rintro _ _ ⟨rfl, rfl⟩
  go_wp2
  rw [rounds_succ]
  go_wp2
  go_ret
  refine ⟨rfl, World.cell?_setCell_same _ _ _ (u := old) (by rw [World.cell?_alloc_lt _ _ t (by simp; omega), World.cell?_alloc_lt _ _ t htl]; exact ht0), ?_⟩
  exact (((Below.refl t.block w).alloc (Nat.le_of_lt htl) _).alloc (by simp; omega) _).setCell (Nat.le_refl _) _
end Go.Proofs.YtjnjjpdgifnnpaaGreatDoor
namespace Go.Proofs.YtjnjjpdgifnnpaaGreatDoor
open Go.RowKit Go.Extern.Stop Go.Stop Go.Extern

set_option maxRecDepth 100000 in
set_option maxHeartbeats 2000000 in
theorem as31_hit  (n : Int) (t : Addr) (old : Value) (w : World) (hg : w.cell? ⟨0, 0, none⟩ = some (.iface 155 (.agg #[.pointer (some ⟨2, 29, none⟩)]))) (ht0 : w.cell? t = some old) (hf0 : w.frozen? t = false) :
    Calls Tryz.prog 41 #[.iface 33 (.int .i64 n), .iface 99 (.pointer (some t))] w fun ev w' => ev = .returned (.bool true) ∧ w'.cell? t = some (.int .i64 n) ∧ Below t.block w w' := by
  have h34 := @run_callFunc_extern Tryz.prog 59 _ (fun args => ReflectliteValue.unpack (args.getD 0 (.tuple #[]))) Tryz.func59 (by kernel_rfl) (by kernel_rfl) (by kernel_rfl) (by kernel_rfl)
  have h35 := @run_callFunc_extern Tryz.prog 60 _ (ReflectliteValue.methodAny (ReflectliteValue.valueError "reflectlite.Value.Type" 0) (fun t _ _ _ => ReflectliteType.toType t)) Tryz.func60 (by kernel_rfl) (by kernel_rfl) (by kernel_rfl) (by kernel_rfl)
  have h36 := @run_callFunc_extern Tryz.prog 61 _ (ReflectliteValue.method (ReflectliteValue.valueError "reflectlite.Value.IsNil" 0) ReflectliteValue.isNil) Tryz.func61 (by kernel_rfl) (by kernel_rfl) (by kernel_rfl) (by kernel_rfl)
  have h55 := @run_callFunc_extern Tryz.prog 119 _ (ReflectliteType.abiMethod fun t => do pure (.int .u8 (← Rtype.kind t))) Tryz.func119 (by kernel_rfl) (by kernel_rfl) (by kernel_rfl) (by kernel_rfl)
  have h67 := @run_callFunc_extern Tryz.prog 132 _ (ReflectliteType.method ReflectliteType.elem) Tryz.func132 (by kernel_rfl) (by kernel_rfl) (by kernel_rfl) (by kernel_rfl)
  have h68 := @run_callFunc_extern Tryz.prog 133 _ (ReflectliteType.relation "Implements" ReflectliteType.implements_) Tryz.func133 (by kernel_rfl) (by kernel_rfl) (by kernel_rfl) (by kernel_rfl)
  have f34 := Tryz.valueOf68
  have f35 := Tryz.type68
  have mK := Tryz.methodKind
  have mE := Tryz.methodElem
  have mI := Tryz.methodImplements
  have k68 := Tryz.kind68
  have k24 := Tryz.kind24
  have e68 := Tryz.elem68
  have i24 := Tryz.implements24
  have htl : t.block < w.heap.size := World.block_lt_of_cell? w _ ht0
  have hlt : 0 < w.heap.size := World.block_lt_of_cell? w _ hg
  have n36 := Tryz.isNil68 ⟨w.heap.size, 0, none⟩ t ((w.alloc (.cells #[.pointer (some t)] 99)).alloc (.cells #[.pointer (some ⟨2, 99, none⟩), .pointer (some ⟨w.heap.size, 0, none⟩), .int .u64 150] 125)) (by simp)
  have hg2 : ((w.alloc (.cells #[.pointer (some t)] 99)).alloc (.cells #[.pointer (some ⟨2, 99, none⟩), .pointer (some ⟨w.heap.size, 0, none⟩), .int .u64 150] 125)).cell? ⟨0, 0, none⟩ = some (.iface 155 (.agg #[.pointer (some ⟨2, 29, none⟩)])) := by
    rw [World.cell?_alloc_lt _ _ ⟨0, 0, none⟩ (by simp), World.cell?_alloc_lt _ _ ⟨0, 0, none⟩ hlt]; exact hg
  go_enter Tryz.func41, Tryz.ntmps41
  go_wp2_with fail
  refine (as37_hit n t ⟨w.heap.size, 0, none⟩ old _
    (by rw [World.cell?_alloc_lt _ _ ⟨w.heap.size, 0, none⟩ (by simp)]; simp)
    (by rw [World.cell?_alloc_lt _ _ t (by simp; omega), World.cell?_alloc_lt _ _ t htl]; exact ht0)
    (by rw [World.frozen?_alloc_old _ _ t (by simp; omega), World.frozen?_alloc_old _ _ t (Nat.ne_of_lt htl)]; exact hf0)).mono ?_
  rintro _ w1 ⟨rfl, hc, hb1⟩
  go_wp2
  go_ret
  exact ⟨rfl, hc, (((Below.refl t.block w).alloc (Nat.le_of_lt htl) _).alloc (by simp; omega) _).trans hb1⟩

set_option maxRecDepth 100000 in
set_option maxHeartbeats 2000000 in
theorem as31_at (b : Nat) (n : Int) (t : Addr) (old : Value) (w : World) (hg : w.cell? ⟨0, 0, none⟩ = some (.iface 155 (.agg #[.pointer (some ⟨2, 29, none⟩)]))) (ht0 : w.cell? t = some old) (hf0 : w.frozen? t = false) (hb : w.cell? ⟨b, 0, none⟩ = some (.int .i64 n)) :
    Calls Tryz.prog 41 #[.iface 137 (.pointer (some ⟨b, 0, none⟩)), .iface 99 (.pointer (some t))] w fun ev w' => ev = .returned (.bool true) ∧ w'.cell? t = some (.int .i64 n) ∧ Below t.block w w' := by
  have h34 := @run_callFunc_extern Tryz.prog 59 _ (fun args => ReflectliteValue.unpack (args.getD 0 (.tuple #[]))) Tryz.func59 (by kernel_rfl) (by kernel_rfl) (by kernel_rfl) (by kernel_rfl)
  have h35 := @run_callFunc_extern Tryz.prog 60 _ (ReflectliteValue.methodAny (ReflectliteValue.valueError "reflectlite.Value.Type" 0) (fun t _ _ _ => ReflectliteType.toType t)) Tryz.func60 (by kernel_rfl) (by kernel_rfl) (by kernel_rfl) (by kernel_rfl)
  have h36 := @run_callFunc_extern Tryz.prog 61 _ (ReflectliteValue.method (ReflectliteValue.valueError "reflectlite.Value.IsNil" 0) ReflectliteValue.isNil) Tryz.func61 (by kernel_rfl) (by kernel_rfl) (by kernel_rfl) (by kernel_rfl)
  have h55 := @run_callFunc_extern Tryz.prog 119 _ (ReflectliteType.abiMethod fun t => do pure (.int .u8 (← Rtype.kind t))) Tryz.func119 (by kernel_rfl) (by kernel_rfl) (by kernel_rfl) (by kernel_rfl)
  have h67 := @run_callFunc_extern Tryz.prog 132 _ (ReflectliteType.method ReflectliteType.elem) Tryz.func132 (by kernel_rfl) (by kernel_rfl) (by kernel_rfl) (by kernel_rfl)
  have h68 := @run_callFunc_extern Tryz.prog 133 _ (ReflectliteType.relation "Implements" ReflectliteType.implements_) Tryz.func133 (by kernel_rfl) (by kernel_rfl) (by kernel_rfl) (by kernel_rfl)
  have f34 := Tryz.valueOf68
  have f35 := Tryz.type68
  have mK := Tryz.methodKind
  have mE := Tryz.methodElem
  have mI := Tryz.methodImplements
  have k68 := Tryz.kind68
  have k24 := Tryz.kind24
  have e68 := Tryz.elem68
  have i24 := Tryz.implements24
  have htl : t.block < w.heap.size := World.block_lt_of_cell? w _ ht0
  have hlt : 0 < w.heap.size := World.block_lt_of_cell? w _ hg
  have hbl : b < w.heap.size := World.block_lt_of_cell? w _ hb
  have n36 := Tryz.isNil68 ⟨w.heap.size, 0, none⟩ t ((w.alloc (.cells #[.pointer (some t)] 99)).alloc (.cells #[.pointer (some ⟨2, 99, none⟩), .pointer (some ⟨w.heap.size, 0, none⟩), .int .u64 150] 125)) (by simp)
  have hg2 : ((w.alloc (.cells #[.pointer (some t)] 99)).alloc (.cells #[.pointer (some ⟨2, 99, none⟩), .pointer (some ⟨w.heap.size, 0, none⟩), .int .u64 150] 125)).cell? ⟨0, 0, none⟩ = some (.iface 155 (.agg #[.pointer (some ⟨2, 29, none⟩)])) := by
    rw [World.cell?_alloc_lt _ _ ⟨0, 0, none⟩ (by simp), World.cell?_alloc_lt _ _ ⟨0, 0, none⟩ hlt]; exact hg
  go_enter Tryz.func41, Tryz.ntmps41
  go_wp2_with fail
  refine (as37_at b n t ⟨w.heap.size, 0, none⟩ old _
    (by rw [World.cell?_alloc_lt _ _ ⟨w.heap.size, 0, none⟩ (by simp)]; simp)
    (by rw [World.cell?_alloc_lt _ _ t (by simp; omega), World.cell?_alloc_lt _ _ t htl]; exact ht0)
    (by rw [World.frozen?_alloc_old _ _ t (by simp; omega), World.frozen?_alloc_old _ _ t (Nat.ne_of_lt htl)]; exact hf0)
    (by rw [World.cell?_alloc_lt _ _ ⟨b, 0, none⟩ (by simp; omega), World.cell?_alloc_lt _ _ ⟨b, 0, none⟩ hbl]; exact hb)).mono ?_
  rintro _ w1 ⟨rfl, hc, hb1⟩
  go_wp2
  go_ret
  exact ⟨rfl, hc, (((Below.refl t.block w).alloc (Nat.le_of_lt htl) _).alloc (by simp; omega) _).trans hb1⟩
end Go.Proofs.YtjnjjpdgifnnpaaGreatDoor
namespace Go.Proofs.YtjnjjpdgifnnpaaGreatDoor
open Go.RowKit Go.Extern.Stop Go.Stop Go.Extern

def HG (w : World) : Prop := w.cell? ⟨0, 0, none⟩ = some (.iface 155 (.agg #[.pointer (some ⟨2, 29, none⟩)]))
theorem HG.lt {w : World} (h : HG w) : 0 < w.heap.size := World.block_lt_of_cell? w _ h
theorem HG.below {w w' : World} {B : Nat} (h : HG w) (hb : Below B w w') (hB : 0 < B) : HG w' := (hb.cell (p := ⟨0, 0, none⟩) hB).trans h

theorem tell_nil (w : World) : Calls Tryz.prog 27 #[.nilIface] w fun e w' => e = .returned (.int .i64 0) ∧ w' = w := by
  go_enter Tryz.func27, Tryz.ntmps27
  go_wp2
  go_ret
  exact ⟨rfl, rfl⟩

set_option maxRecDepth 100000 in
set_option maxHeartbeats 1000000 in
theorem tell_hit (n : Int) (w : World) (hg : HG w) : Calls Tryz.prog 27 #[.iface 33 (.int .i64 n)] w fun e w' => e = .returned (.int .i64 n) ∧ Below w.heap.size w w' := by
  have hg2 : (w.alloc (.cells #[.int .i64 0] 33)).cell? ⟨0, 0, none⟩ = some (.iface 155 (.agg #[.pointer (some ⟨2, 29, none⟩)])) := by
    rw [World.cell?_alloc_lt _ _ ⟨0, 0, none⟩ hg.lt]; exact hg
  have HGH : Hid _ := hg2
  clear hg2 hg
  go_enter Tryz.func27, Tryz.ntmps27
  go_wp2_with fail
  refine (as31_hit n ⟨w.heap.size, 0, none⟩ (.int .i64 0) _ HGH.out (by simp) (by simp)).mono ?_
  rintro _ w1 ⟨rfl, hc, hb1⟩
  have hb : Below w.heap.size w w1 := ((Below.refl _ w).alloc (Nat.le_refl _) _).trans hb1
  clear hb1
  go_wp2
  go_ret
  exact ⟨rfl, hb⟩

set_option maxRecDepth 100000 in
set_option maxHeartbeats 1000000 in
theorem tell_at (b : Nat) (n : Int) (w : World) (hg : HG w) (hb : w.cell? ⟨b, 0, none⟩ = some (.int .i64 n)) : Calls Tryz.prog 27 #[.iface 137 (.pointer (some ⟨b, 0, none⟩))] w fun e w' => e = .returned (.int .i64 n) ∧ Below w.heap.size w w' := by
  have hg2 : (w.alloc (.cells #[.int .i64 0] 33)).cell? ⟨0, 0, none⟩ = some (.iface 155 (.agg #[.pointer (some ⟨2, 29, none⟩)])) := by
    rw [World.cell?_alloc_lt _ _ ⟨0, 0, none⟩ hg.lt]; exact hg
  have hb2 : (w.alloc (.cells #[.int .i64 0] 33)).cell? ⟨b, 0, none⟩ = some (.int .i64 n) := by
    rw [World.cell?_alloc_lt _ _ ⟨b, 0, none⟩ (World.block_lt_of_cell? w _ hb)]; exact hb
  have HGH : Hid _ := hg2
  have HB : Hid _ := hb2
  clear hg2 hg hb2 hb
  go_enter Tryz.func27, Tryz.ntmps27
  go_wp2_with fail
  refine (as31_at b n ⟨w.heap.size, 0, none⟩ (.int .i64 0) _ HGH.out (by simp) (by simp) HB.out).mono ?_
  rintro _ w1 ⟨rfl, hc, hb1⟩
  have hb : Below w.heap.size w w1 := ((Below.refl _ w).alloc (Nat.le_refl _) _).trans hb1
  clear hb1
  go_wp2
  go_ret
  exact ⟨rfl, hb⟩

theorem Tryz.ta46n (n : Int) (w : World) : (Instr.typeAssert (.iface 33 (.int .i64 n)) 29 137 true).run Tryz.prog w = .ok (.tuple #[.pointer none, .bool false]) w := by kernel_rfl
theorem Tryz.ta60n (n : Int) (w : World) : (Instr.typeAssert (.iface 33 (.int .i64 n)) 29 140 true).run Tryz.prog w = .ok (.tuple #[.nilIface, .bool false]) w := run_typeAssert_lacksB Tryz.underlying140 (by kernel_rfl) (by kernel_rfl) _ _ w
theorem Tryz.ta46y (b : Nat) (w : World) : (Instr.typeAssert (.iface 137 (.pointer (some ⟨b, 0, none⟩))) 29 137 true).run Tryz.prog w = .ok (.tuple #[.pointer (some ⟨b, 0, none⟩), .bool true]) w := by kernel_rfl

set_option maxHeartbeats 1000000 in
theorem place_nil (w : World) : Calls Tryz.prog 43 #[.nilIface] w fun e w' => e = .returned (.tuple #[.int .i64 0, .int .i64 (-1)]) ∧ Below w.heap.size w w' := by
  go_enter Tryz.func43, Tryz.ntmps43
  go_wp2_with (go_at_call 27; refine (tell_nil _).mono ?_; rintro _ _ ⟨rfl, rfl⟩)
  refine wp_loop_rounds 1 ?_
  rw [rounds_succ]
  go_wp2
  go_ret2
  exact ⟨rfl, Below.refl _ _⟩

set_option maxRecDepth 100000 in
set_option maxHeartbeats 1000000 in
theorem place_errno (n : Int) (w : World) (hg : HG w) : Calls Tryz.prog 43 #[.iface 33 (.int .i64 n)] w fun e w' => e = .returned (.tuple #[.int .i64 n, .int .i64 (-1)]) ∧ Below w.heap.size w w' := by
  have t1 := Tryz.ta46n
  have t2 := Tryz.ta60n
  go_enter Tryz.func43, Tryz.ntmps43
  go_wp2_with fail
  refine (tell_hit n _ hg).mono ?_
  rintro _ w1 ⟨rfl, hb⟩
  go_wp2
  refine wp_loop_rounds 1 ?_
  rw [rounds_succ]
  go_wp2
  go_ret2
  exact ⟨rfl, hb⟩

set_option maxRecDepth 100000 in
set_option maxHeartbeats 1000000 in
theorem place_at (b : Nat) (n j : Int) (w : World) (hg : HG w) (h0 : w.cell? ⟨b, 0, none⟩ = some (.int .i64 n)) (h1 : w.cell? ⟨b, 1, none⟩ = some (.int .i64 j)) :
    Calls Tryz.prog 43 #[.iface 137 (.pointer (some ⟨b, 0, none⟩))] w fun e w' => e = .returned (.tuple #[.int .i64 n, .int .i64 j]) ∧ Below w.heap.size w w' := by
  have t1 := Tryz.ta46y
  have hbl : b < w.heap.size := World.block_lt_of_cell? w _ h0
  go_enter Tryz.func43, Tryz.ntmps43
  go_wp2_with fail
  refine (tell_at b n _ hg h0).mono ?_
  rintro _ w1 ⟨rfl, hb⟩
  have k1 : w1.cell? ⟨b, 1, none⟩ = some (.int .i64 j) := (hb.cell (p := ⟨b, 1, none⟩) hbl).trans h1
  go_wp2
  refine wp_loop_rounds 1 ?_
  rw [rounds_succ]
  go_wp2_with fail
  go_region
  go_wp2
  go_ret2
  exact ⟨rfl, hb.drew⟩
end Go.Proofs.YtjnjjpdgifnnpaaGreatDoor
namespace Go.Proofs.YtjnjjpdgifnnpaaGreatDoor
open Go.RowKit

/-- an error is this one, and there -/
def ErrIs (E : Value) (n j : Int) (w : World) : Prop :=
  (E = .nilIface ∧ n = 0 ∧ j = -1) ∨ (∃ b, E = .iface 137 (.pointer (some ⟨b, 0, none⟩)) ∧ w.cell? ⟨b, 0, none⟩ = some (.int .i64 n) ∧ w.cell? ⟨b, 1, none⟩ = some (.int .i64 j)) ∨ (E = .iface 33 (.int .i64 n) ∧ j = -1)

theorem ErrIs.below {E : Value} {n j : Int} {w w' : World} (h : ErrIs E n j w) (hb : Below w.heap.size w w') : ErrIs E n j w' := by
  rcases h with h | ⟨b, h1, h2, h3⟩ | h
  · exact .inl h
  · have hlt := World.block_lt_of_cell? w _ h2
    exact .inr (.inl ⟨b, h1, (hb.cell (p := ⟨b, 0, none⟩) hlt).trans h2, (hb.cell (p := ⟨b, 1, none⟩) hlt).trans h3⟩)
  · exact .inr (.inr h)

theorem placeE_any (E : Value) (n j : Int) (w : World) (hg : HG w) (h : ErrIs E n j w) : Calls Tryz.prog 43 #[E] w fun e w' => e = .returned (.tuple #[.int .i64 n, .int .i64 j]) ∧ Below w.heap.size w w' := by
  rcases h with ⟨rfl, rfl, rfl⟩ | ⟨b, rfl, h2, h3⟩ | ⟨rfl, rfl⟩
  · exact place_nil w
  · exact place_at b n j w hg h2 h3
  · exact place_errno n w hg

set_option maxRecDepth 100000 in
set_option maxHeartbeats 1000000 in
theorem is_any (E : Value) (n j : Int) (w : World) (hg : HG w) (h : ErrIs E n j w) : Calls Tryz.prog 29 #[E, .agg #[.int .i64 n, .int .i64 j]] w fun e w' => e = .returned (.bool true) ∧ Below w.heap.size w w' := by
  have hb0 : Below w.heap.size w (w.alloc (.cells #[.int .i64 n, .int .i64 j] 79)) := (Below.refl _ w).alloc (Nat.le_refl _) _
  have hg2 := hg.below hb0 hg.lt
  have h2 := h.below hb0
  have HH : Hid _ := h2
  clear h h2
  go_enter Tryz.func29, Tryz.ntmps29
  go_wp2_with fail
  refine (placeE_any E n j _ hg2 HH.out).mono ?_
  rintro _ w1 ⟨rfl, hb1⟩
  have q0 := hb1.cell (p := ⟨w.heap.size, 0, none⟩) (by simp)
  have q1 := hb1.cell (p := ⟨w.heap.size, 1, none⟩) (by simp)
  simp at q0 q1
  have hb2 := hb0.trans (hb1.mono (by simp))
  clear hb1 hb0 HH hg2
  go_wp2
  go_ret
  exact ⟨rfl, hb2⟩

theorem refBare_any (n : Int) (w : World) : Calls Tryz.prog 30 #[.int .i64 n] w fun e w' => e = .returned (.agg #[.int .i64 n, .int .i64 (-1)]) ∧ Below w.heap.size w w' := by
  go_enter Tryz.func30, Tryz.ntmps30
  go_wp2
  exact bodyPost_ret (v := .agg #[.int .i64 n, .int .i64 (-1)]) (by simp [results, Tryz.results30, go_sem]) rfl ⟨rfl, (Below.refl _ _).alloc (Nat.le_refl _) _⟩

set_option maxRecDepth 100000 in
set_option maxHeartbeats 1000000 in
theorem bare_any (E : Value) (n : Int) (w : World) (hg : HG w) (h : ErrIs E n (-1) w) : Calls Tryz.prog 6 #[E, .int .i64 n] w fun e w' => e = .returned (.bool true) ∧ Below w.heap.size w w' := by
  have HH : Hid (ErrIs E n (-1) w) := h
  clear h
  go_enter Tryz.func6, Tryz.ntmps6
  go_wp2_with fail
  refine (refBare_any n _).mono ?_
  rintro _ w1 ⟨rfl, hb1⟩
  have hs1 := hb1.size
  go_wp2_with fail
  refine (is_any E n (-1) _ (hg.below hb1 hg.lt) (ErrIs.below HH.out hb1)).mono ?_
  rintro _ w2 ⟨rfl, hb2⟩
  have hb3 := hb1.trans (hb2.mono hs1)
  clear hb1 hb2 HH
  go_wp2
  go_ret
  exact ⟨rfl, hb3⟩
end Go.Proofs.YtjnjjpdgifnnpaaGreatDoor
namespace Go.Proofs
open Go.RowKit Go.Maps Go.Sort Go.Shelf
theorem Tryz.sortsA (m : Nat) : AnyZI.SortsIn Tryz.prog Tryz.sortedA_ren Fence.wide m :=
  ⟨fun blk off cap ss W hH hblk hsz => callsIn_wide.2 (AnyM.slices_Sort_int Tryz.sortA blk off cap ss W hH hblk hsz),
   fun p cap W => callsIn_wide.2 (AnyM.slices_Sort_int_none Tryz.sortA p cap W)⟩
end Go.Proofs
namespace Go.Proofs.YtjnjjpdgifnnpaaGreatDoor
open Go.RowKit Go.Maps Go.Sort Go.Shelf

theorem keys_any (mb : Option Nat) (W : World) : Calls Tryz.prog 53 #[.map mb] W fun e w' => e = .returned (.func (.func 74) #[] #[.pointer (some ⟨W.heap.size, 0, none⟩)]) ∧ w' = W.alloc (.cells #[.map mb] 44) :=
  (callsIn_wide (n := 5)).1 (AnyZI.keys_in Tryz.keysA Fence.wide 5 trivial rfl mb W)

theorem krow_of {w : World} {v : Value} {B : Nat} {ks : List Nat} {zs : List Int} (hz : zs = ks.map fun (k : Nat) => (k : Int)) (h : w.ownsRow B 3 1 v zs.length (zs.map encZ)) : KRow B v ks w := by
  have hl : zs.length = ks.length := by rw [hz, List.length_map]
  rcases h.2 with ⟨rfl, hn⟩ | ⟨g, cap, cur, rfl, hB, hgg, _, _, _, htake⟩
  · refine ⟨none, 0, ?_, .inl ?_⟩
    · rw [← hl, hn]
    · exact List.length_eq_zero_iff.1 (by omega)
  · refine ⟨some ⟨g, 0, none⟩, cap, by rw [hl], .inr ⟨g, rfl, hB, ?_, fun i hi => ?_⟩⟩
    · by_cases e : g < w.heap.size
      · exact e
      · rw [Array.getElem?_eq_none (by omega)] at hgg; cases hgg
    · have h1 : (zs.map encZ)[i]? = some (.int .i64 (ks[i] : Nat)) := by
        rw [hz, List.map_map, List.getElem?_map, List.getElem?_eq_getElem hi]; rfl
      have h2 := h.cells (g := g) rfl i _ h1
      rwa [show (⟨g, 0, none⟩ : Addr).add i = ⟨g, i, none⟩ by unfold Addr.add; split <;> simp_all] at h2

theorem intKeys_nat {D : DataW Unit} {f : Nat → Option ByteArray} (h : MapIs D f) (c : Canon D) {ss : List Int} (hp : ss.Perm (intKeys D)) : ∃ ks : List Nat, KeysOf f ks ∧ ss.mergeSort (fun x y => decide (x ≤ y)) = ks.map fun (k : Nat) => (k : Int) := by
  obtain ⟨es, rfl, hn, hm, hk⟩ := h.keys c
  have hperm : (ss.mergeSort (fun x y => decide (x ≤ y))).Perm (intKeys (.map es)) := (List.mergeSort_perm ss _).trans hp
  have hi : intKeys (.map es) = (es.map fun p => keyN p.1).map fun (k : Nat) => (k : Int) := by
    show (es.map fun p => Go.intOf p.1) = _
    rw [List.map_map]
    refine List.map_congr_left fun p hp' => ?_
    obtain ⟨k, hk', _⟩ := hk p hp'
    show Go.intOf p.1 = ((keyN p.1 : Nat) : Int)
    rw [hk']; rfl
  rw [hi] at hperm
  refine ⟨(ss.mergeSort (fun x y => decide (x ≤ y))).map Int.toNat, ⟨?_, fun k => ?_⟩, ?_⟩
  · have h2 := (hperm.map Int.toNat)
    rw [List.map_map] at h2
    have h3 : (es.map fun p => keyN p.1).map (Int.toNat ∘ fun (k : Nat) => (k : Int)) = es.map fun p => keyN p.1 := by
      rw [List.map_map]; rfl
    rw [h3] at h2
    exact h2.symm.nodup hn
  · rw [← hm k]
    have h2 := (hperm.map Int.toNat)
    rw [List.map_map] at h2
    have h3 : (es.map fun p => keyN p.1).map (Int.toNat ∘ fun (k : Nat) => (k : Int)) = es.map fun p => keyN p.1 := by
      rw [List.map_map]; rfl
    rw [h3] at h2
    exact h2.mem_iff
  · rw [List.map_map]
    refine (List.map_id _).symm.trans (List.map_congr_left fun x hx => ?_)
    have hx2 := hperm.mem_iff.1 hx
    obtain ⟨k, _, rfl⟩ := List.mem_map.1 hx2
    rfl

set_option maxRecDepth 100000 in
set_option maxHeartbeats 1000000 in
theorem sorted_any {bm n : Nat} {f : Nat → Option ByteArray} {w : World} (hS : Sheets bm n f w) :
    Calls Tryz.prog 52 #[.func (.func 74) #[] #[.pointer (some ⟨w.heap.size, 0, none⟩)]] (w.alloc (.cells #[.map (some bm)] 44)) fun e w' => ∃ (v : Value) (ks : List Nat), e = .returned v ∧ KeysOf f ks ∧ KRow (w.heap.size + 1) v ks w' ∧ Below w.heap.size w w' := by
  obtain ⟨D, hown, hM⟩ := hS
  have hbl := hown.lt
  have hcan := hown.canon keyed3
  have hsz : Maps.size D ≤ 2000 := by rw [hM.count hcan]; exact countU_le _ _
  have hseq : SeqGives Fence.wide 2 Tryz.prog 74 #[.pointer (some ⟨w.heap.size, 0, none⟩)] encZ (fun ss => ss.Perm (intKeys D)) (Maps.size D) (w.alloc (.cells #[.map (some bm)] 44)) :=
    AnyZI.keys_gives (ρ := Tryz.keysA_ren) { Tryz.keysA with } Fence.wide _ trivial rfl (by omega) w.heap.size bm n D _ (by simp) (by simp) (by
      obtain ⟨es, clock, hb, Ft, hs, hD⟩ := hown
      exact ⟨es, clock, (Below.heap_alloc _ _ bm hbl).trans hb, Ft, hs, hD⟩)
  have cS := AnyZI.sorted_in Tryz.sortedA Fence.wide 5 trivial trivial trivial trivial rfl (by omega) (Tryz.sortsA _) (enters_of Tryz.func73 (by kernel_rfl) rfl) 74 #[.pointer (some ⟨w.heap.size, 0, none⟩)] trivial (enters_of Tryz.func74 (by kernel_rfl) rfl) _ _ (by unfold maxLen; omega) (by omega) _ hseq
  change CallsIn _ _ Tryz.prog 52 _ _ _ at cS
  refine ((callsIn_wide (n := 5)).1 cS).mono ?_
  rintro e w' ⟨v, ss, rfl, hP, hrow, hnil, hb⟩
  obtain ⟨ks, hK, hks⟩ := intKeys_nat hM hcan hP
  have hl : (ss.mergeSort (fun x y => decide (x ≤ y))).length = ss.length := List.length_mergeSort _
  refine ⟨v, ks, rfl, hK, krow_of hks ?_, ((Below.refl _ w).alloc (Nat.le_refl _) _).trans (hb.mono (by simp))⟩
  rw [hl]
  have h9 := hrow
  rw [World.size_alloc] at h9
  exact h9
end Go.Proofs.YtjnjjpdgifnnpaaGreatDoor
namespace Go.Proofs.YtjnjjpdgifnnpaaGreatDoor
open Go.RowKit Go.Maps

theorem KRow.below {B : Nat} {v : Value} {ks : List Nat} {w w' : World} (h : KRow B v ks w) (hb : ∀ g, B ≤ g → g < w.heap.size → w'.heap[g]? = w.heap[g]?) (hs : w.heap.size ≤ w'.heap.size) : KRow B v ks w' := by
  obtain ⟨ad, cap, hv, h⟩ := h
  refine ⟨ad, cap, hv, ?_⟩
  rcases h with h | ⟨g, h1, h2, h3, h4⟩
  · exact .inl h
  · exact .inr ⟨g, h1, h2, Nat.lt_of_lt_of_le h3 hs, fun i hi => (World.cell?_of_block (hb g h2 h3)).trans (h4 i hi)⟩

theorem KRow.mono {B B' : Nat} {v : Value} {ks : List Nat} {w : World} (h : KRow B v ks w) (hB : B' ≤ B) : KRow B' v ks w := by
  obtain ⟨ad, cap, hv, h⟩ := h
  refine ⟨ad, cap, hv, ?_⟩
  rcases h with h | ⟨g, h1, h2, h3⟩
  · exact .inl h
  · exact .inr ⟨g, h1, Nat.le_trans hB h2, h3⟩
/-- a row's form -/
theorem KRow.open {B : Nat} {ad : Option Addr} {len cap : Nat} {ks : List Nat} {w : World} (h : KRow B (.slice ad len cap) ks w) {i : Nat} (hi : i < ks.length) : ∃ g, ad = some ⟨g, 0, none⟩ ∧ w.cell? ⟨g, i, none⟩ = some (.int .i64 (ks[i] : Nat)) := by
  obtain ⟨ad', cap', hv, h⟩ := h
  cases hv
  rcases h with h | ⟨g, h1, h2, h3, h4⟩
  · subst h; exact absurd hi (by simp)
  · exact ⟨g, h1, h4 i hi⟩
theorem KRow.slice {B : Nat} {v : Value} {ks : List Nat} {w : World} (h : KRow B v ks w) : ∃ ad cap, v = .slice ad ks.length cap := by
  obtain ⟨ad, cap, hv, _⟩ := h
  exact ⟨ad, cap, hv⟩
theorem not_take {ks : List Nat} (h : ks.Nodup) {i : Nat} (hi : i < ks.length) : ks[i] ∉ ks.take i := fun m => by
  obtain ⟨j, hj, e⟩ := List.getElem_of_mem m
  have hj' : j < i := by rw [List.length_take] at hj; omega
  rw [List.getElem_take] at e
  exact (List.pairwise_iff_getElem.1 h) j i (by omega) hi hj' e

theorem KeysOf.len {f : Nat → Option ByteArray} {ks : List Nat} (h : KeysOf f ks) (hf : ∀ k t, f k = some t → k < 2000) : ks.length ≤ 2000 := by
  have hp : ks.Perm ((List.range 2000).filter fun k => (f k).isSome) := (List.perm_ext_iff_of_nodup h.1 (List.nodup_range.filter _)).2 fun k => by
    rw [h.2 k, List.mem_filter, List.mem_range]
    refine ⟨fun hs => ⟨?_, hs⟩, fun hs => hs.2⟩
    obtain ⟨t, ht⟩ := Option.isSome_iff_exists.1 hs
    exact hf k t ht
  rw [hp.length_eq, filter_count]
  exact countU_le _ _

/-- what is read when the head is written -/
structure SavS (bp bd B : Nat) (b : Bool) (F U R : List Value) (wx : World) : Prop where
  disk : wx.cell? ⟨bp, 0, none⟩ = some (.pointer (some ⟨bd, 0, none⟩))
  zero : wx.cell? ⟨B, 0, none⟩ = some (.bool b)
  used : wx.rangeAt bp 2001 F
  upper : wx.rangeAt B 0 U
  roots : wx.rangeAt bp 4001 R
/-- what is known in a save -/
structure SavE (bp bd bm n : Nat) (p : Pg) (s : St) (w : World) (v : Value) (ks : List Nat) (up : Nat → Bool) (st : St) (done : List Nat) (wr : World) : Prop where
  pgr : PagerIs bp bd bm n p wr
  prg : Prg bd st wr
  ok : st.Ok
  ends : st.ends = s.ends
  sav : SavI p s.pg st.pg up done
  bits : Bits w.heap.size up wr
  row : KRow (w.heap.size + 1) v ks wr
  only : Only (fun b => b = bd) w wr
  lt : bd < w.heap.size ∧ bp < w.heap.size ∧ bm < w.heap.size
section
variable {bp bd bm n : Nat} {p : Pg} {s : St} {w : World} {v : Value} {ks : List Nat} {up : Nat → Bool} {st : St} {done : List Nat} {wr wx : World}
theorem SavE.ltB (h : SavE bp bd bm n p s w v ks up st done wr) : w.heap.size < wr.heap.size := World.block_lt_of_cell? wr _ (h.bits.cell 0 (by omega))
theorem SavE.step (h : SavE bp bd bm n p s w v ks up st done wr) (hb : Below wr.heap.size wr wx) : SavE bp bd bm n p s w v ks up st done wx :=
  ⟨h.pgr.below hb, h.prg.below hb, h.ok, h.ends, h.sav, h.bits.block (hb.block _ h.ltB), h.row.below (fun g _ hg => hb.block g hg) hb.size, h.only.trans (Only.of_below (S := fun _ => False) hb) (fun _ e => e.elim), h.lt⟩
theorem SavE.drew (h : SavE bp bd bm n p s w v ks up st done wr) : SavE bp bd bm n p s w v ks up st done wr.drew :=
  ⟨h.pgr.drew, h.prg.drew, h.ok, h.ends, h.sav, h.bits.block rfl, h.row.below (fun _ _ _ => rfl) (Nat.le_refl _), h.only.drew, h.lt⟩
/-- a place is turned, and a page is written -/
theorem SavE.flip (h : SavE bp bd bm n p s w v ks up st done wr) {k : Nat} (hk : k < 2000) (b : Bool) (hb : b = !up k) : Bits w.heap.size (flip1 up k) (wr.setCell ⟨w.heap.size, k, none⟩ (.bool b)) := by
  refine ⟨fun j hj => ?_, fun j => by rw [World.frozen?_setCell]; exact h.bits.free j⟩
  unfold flip1
  by_cases e : j = k
  · subst e
    rw [World.cell?_setCell_same _ _ _ (h.bits.cell j hj), if_pos rfl, hb]
  · rw [World.cell?_setCell_other _ _ _ _ (fun e' => e (by cases e'; rfl)), h.bits.cell j hj, if_neg e]
end

/-- behind the turn, ahead of the write -/
structure SavF (bp bd bm n : Nat) (p : Pg) (s : St) (w : World) (v : Value) (ks : List Nat) (up : Nat → Bool) (st : St) (done : List Nat) (k : Nat) (wr : World) : Prop where
  pgr : PagerIs bp bd bm n p wr
  prg : Prg bd st wr
  ok : st.Ok
  ends : st.ends = s.ends
  sav : SavI p s.pg st.pg up done
  bits : Bits w.heap.size (flip1 up k) wr
  row : KRow (w.heap.size + 1) v ks wr
  only : Only (fun b => b = bd) w wr
  lt : bd < w.heap.size ∧ bp < w.heap.size ∧ bm < w.heap.size
section
variable {bp bd bm n : Nat} {p : Pg} {s : St} {w : World} {v : Value} {ks : List Nat} {up : Nat → Bool} {st st' : St} {done : List Nat} {k : Nat} {wr wx : World}
theorem SavE.flipped (h : SavE bp bd bm n p s w v ks up st done wr) (hk : k < 2000) (b : Bool) (hb : b = !up k) : SavF bp bd bm n p s w v ks up st done k (wr.setCell ⟨w.heap.size, k, none⟩ (.bool b)) := by
  have ho : Only (fun b => b = w.heap.size) wr (wr.setCell ⟨w.heap.size, k, none⟩ (.bool b)) := Only.set w.heap.size k _ wr
  obtain ⟨l1, l2, l3⟩ := h.lt
  refine ⟨h.pgr.only ho (by omega) (by omega), Prg.only (s := st) h.prg ho (by omega), h.ok, h.ends, h.sav, h.flip hk b hb, h.row.below (fun g h1 hg => ho.block g hg (by omega)) ho.size, h.only.trans ho (fun _ e => .inr (by omega)), h.lt⟩
theorem SavF.ltB (h : SavF bp bd bm n p s w v ks up st done k wr) : w.heap.size < wr.heap.size := World.block_lt_of_cell? wr _ (h.bits.cell 0 (by omega))
theorem SavF.step (h : SavF bp bd bm n p s w v ks up st done k wr) (hb : Below wr.heap.size wr wx) : SavF bp bd bm n p s w v ks up st done k wx :=
  ⟨h.pgr.below hb, h.prg.below hb, h.ok, h.ends, h.sav, h.bits.block (hb.block _ h.ltB), h.row.below (fun g _ hg => hb.block g hg) hb.size, h.only.trans (Only.of_below (S := fun _ => False) hb) (fun _ e => e.elim), h.lt⟩
theorem SavF.drew (h : SavF bp bd bm n p s w v ks up st done k wr) : SavF bp bd bm n p s w v ks up st done k wr.drew :=
  ⟨h.pgr.drew, h.prg.drew, h.ok, h.ends, h.sav, h.bits.block rfl, h.row.below (fun _ _ _ => rfl) (Nat.le_refl _), h.only.drew, h.lt⟩
/-- what a save tells -/
def SavT (bd : Nat) (p : Pg) (s : St) (w : World) (up : Nat → Bool) (E : Value) (w' : World) : Prop :=
  ∃ s' : St, Prg bd s' w' ∧ s'.Ok ∧ s'.ends = s.ends ∧ Only (fun b => b = bd) w w' ∧
    ((E = .nilIface ∧ up = p.up ∧ Done p s.pg s'.pg) ∨ (E = .iface 33 (.int .i64 14) ∧ s.ends = true ∧ (Kept p s.pg s'.pg ∨ Done p s.pg s'.pg)))
/-- the pieces that a write leaves as they were -/
structure Wrote (bp bd bm n : Nat) (p : Pg) (s : St) (w : World) (v : Value) (ks : List Nat) (up' : Nat → Bool) (st' : St) (wx : World) : Prop where
  pgr : PagerIs bp bd bm n p wx
  prg : Prg bd st' wx
  ok : st'.Ok
  ends : st'.ends = s.ends
  bits : Bits w.heap.size up' wx
  row : KRow (w.heap.size + 1) v ks wx
  only : Only (fun b => b = bd) w wx
  lt : bd < w.heap.size ∧ bp < w.heap.size ∧ bm < w.heap.size
theorem SavF.wrote (h : SavF bp bd bm n p s w v ks up st done k wr) (hp : Prg bd st' wx) (ho : st'.Ok) (he : st'.ends = st.ends) (hg : wr.grownBy wx (some bd)) : Wrote bp bd bm n p s w v ks (flip1 up k) st' wx := by
  have hO : Only (fun b => b = bd) wr wx := Only.of_grown hg rfl
  obtain ⟨l1, l2, l3⟩ := h.lt
  have n1 := h.pgr.nd h.prg
  have n2 := h.pgr.md h.prg
  exact ⟨h.pgr.only hO n1 n2, hp, ho, he.trans h.ends, h.bits.block (hO.block _ h.ltB (by omega)), h.row.below (fun g h1 hg' => hO.block g hg' (by omega)) hO.size, h.only.trans hO (fun _ e => .inl e), h.lt⟩
theorem Wrote.ltB (h : Wrote bp bd bm n p s w v ks up st wr) : w.heap.size < wr.heap.size := World.block_lt_of_cell? wr _ (h.bits.cell 0 (by omega))
theorem Wrote.drew (h : Wrote bp bd bm n p s w v ks up st wr) : Wrote bp bd bm n p s w v ks up st wr.drew :=
  ⟨h.pgr.drew, h.prg.drew, h.ok, h.ends, h.bits.block rfl, h.row.below (fun _ _ _ => rfl) (Nat.le_refl _), h.only.drew, h.lt⟩
theorem Wrote.step (h : Wrote bp bd bm n p s w v ks up st wr) (hb : Below wr.heap.size wr wx) : Wrote bp bd bm n p s w v ks up st wx :=
  ⟨h.pgr.below hb, h.prg.below hb, h.ok, h.ends, h.bits.block (hb.block _ h.ltB), h.row.below (fun g _ hg => hb.block g hg) hb.size, h.only.trans (Only.of_below (S := fun _ => False) hb) (fun _ e => e.elim), h.lt⟩
theorem Wrote.wrote (h : Wrote bp bd bm n p s w v ks up st wr) (hp : Prg bd st' wx) (ho : st'.Ok) (he : st'.ends = st.ends) (hg : wr.grownBy wx (some bd)) : Wrote bp bd bm n p s w v ks up st' wx := by
  have hO : Only (fun b => b = bd) wr wx := Only.of_grown hg rfl
  obtain ⟨l1, l2, l3⟩ := h.lt
  have n1 := h.pgr.nd h.prg
  have n2 := h.pgr.md h.prg
  exact ⟨h.pgr.only hO n1 n2, hp, ho, he.trans h.ends, h.bits.block (hO.block _ h.ltB (by omega)), h.row.below (fun g h1 hg' => hO.block g hg' (by omega)) hO.size, h.only.trans hO (fun _ e => .inl e), h.lt⟩
theorem Wrote.next (h : Wrote bp bd bm n p s w v ks (flip1 up k) st' wx) (hs : SavI p s.pg st.pg up done) (hk : k ∉ done) (hl : k < 2000) {t : ByteArray} (ht : p.chg k = some t) (hpg : st'.pg = upd st.pg (placeF k (!p.upper k)) t) :
    SavE bp bd bm n p s w v ks (flip1 up k) st' (done ++ [k]) wx :=
  ⟨h.pgr, h.prg, h.ok, h.ends, by rw [hpg]; exact hs.step hk hl ht, h.bits, h.row, h.only, h.lt⟩
/-- the same bits, stored once more -/
theorem Wrote.tells (h : Wrote bp bd bm n p s w v ks up st' wx) (hs : s.ends = true) (hK : Kept p s.pg st'.pg ∨ Done p s.pg st'.pg) (fs : List Value) : SavT bd p s w up (.iface 33 (.int .i64 14)) (wx.setCells w.heap.size 0 fs) := by
  have ho : Only (fun b => b = w.heap.size) wx (wx.setCells w.heap.size 0 fs) := Only.setCells w.heap.size fs 0 wx
  obtain ⟨l1, _, _⟩ := h.lt
  exact ⟨st', Prg.only (s := st') h.prg ho (by omega), h.ok, h.ends, h.only.trans ho (fun _ e => .inr (by omega)), .inr ⟨rfl, hs, hK⟩⟩
theorem Wrote.tellsOk (h : Wrote bp bd bm n p s w v ks up st' wx) (hu : up = p.up) (hK : Done p s.pg st'.pg) (fs : List Value) : SavT bd p s w up .nilIface (wx.setCells w.heap.size 0 fs) := by
  have ho : Only (fun b => b = w.heap.size) wx (wx.setCells w.heap.size 0 fs) := Only.setCells w.heap.size fs 0 wx
  obtain ⟨l1, _, _⟩ := h.lt
  exact ⟨st', Prg.only (s := st') h.prg ho (by omega), h.ok, h.ends, h.only.trans ho (fun _ e => .inr (by omega)), .inl ⟨rfl, hu, hK⟩⟩
end
end Go.Proofs.YtjnjjpdgifnnpaaGreatDoor
