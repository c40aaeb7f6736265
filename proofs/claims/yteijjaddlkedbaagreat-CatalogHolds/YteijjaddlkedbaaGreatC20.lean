/- Texts of the proof of CatalogHolds: Cbk. -/
import Derived.Test.YteijjaddlkedbaaGreatC19
import Derived.Maps.RangeWalk
import Derived.Maps.Ext
import Derived.Maps.OwnOps
import Derived.StringKeys
namespace Go.Proofs.YteijjaddlkedbaaGreat
open Go.RowKit Go.Maps

theorem keyed9 : Keyed Tryz.prog 9 := string_keyed Tryz.underlying9
/-- a key -/
def kl (k : ByteArray) : Lit := .string k.data.toList
theorem kl_inj {a b : ByteArray} (h : kl a = kl b) : a = b := by
  unfold kl at h
  injection h with h
  exact bytes_inj h
theorem kl_ne {a b : ByteArray} (h : a ≠ b) : kl a ≠ kl b := fun e => h (kl_inj e)
theorem kl_key (k : ByteArray) : WideAt.IsKeyLit (kl k) := trivial
theorem kl_of {k : ByteArray} (h : k.size ≤ 140737488351232) : keyOf Tryz.prog 9 (.string k) = some (kl k) := WideMaps.keyOf_string_mk Tryz.underlying9 (Nat.le_trans h (by decide))
theorem kl_inv {v : Value} {l : Lit} (h : keyOf Tryz.prog 9 v = some l) : ∃ s : ByteArray, v = .string s ∧ l = kl s := by
  obtain ⟨s, h1, h2, _⟩ := WideMaps.string_of_keyOf Tryz.underlying9 h
  exact ⟨s, h1, h2⟩
theorem kl_same (k : ByteArray) : (kl k).sameKey (kl k) = true := by unfold kl; simp [Lit.sameKey]
/-- what a number says of the second column -/
def muK (k : Int) : Bool := decide (0 < bits BinOp.and IntKind.i64 k 1)
def woK (k : Int) : Bool := decide (0 < bits BinOp.and IntKind.i64 k 2)
def sB : ByteArray := ⟨#[98]⟩
def colsK (k : Int) : List Col := [⟨sA, 1, false, false, false⟩, ⟨sB, 2, muK k, woK k, false⟩]
theorem name_B : nameB sB = true := by decide
theorem colsK_ok (k : Int) : ColsR (colsK k) := ⟨by simp [colsK], by simp [colsK], fun i hi => by
  have : i = 0 ∨ i = 1 := by simp [colsK] at hi; omega
  rcases this with rfl | rfl
  · exact ⟨name_A, .inl rfl, fun e => (by cases e), fun x hx => (by cases hx)⟩
  · exact ⟨name_B, .inr rfl, fun _ => rfl, fun x hx => by
      have hx' : x ∈ [(⟨sA, 1, false, false, false⟩ : Col)] := hx
      obtain rfl := List.mem_singleton.1 hx'
      show sA ≠ sB
      decide⟩, fun c hc => by
  simp only [colsK, List.mem_cons, List.not_mem_nil, or_false] at hc
  rcases hc with rfl | rfl <;> rfl⟩
/-- the tables by their names -/
structure HasR (D : DataW Unit) (L : List Tb) : Prop where
  has : ∀ nm : ByteArray, Maps.has D (kl nm) = true ↔ ∃ t ∈ L, t.nm = nm
  elem : ∀ t ∈ L, ∃ k : Int, (∀ z, D.atKey (kl t.nm) z = .lit (.int .i64 k)) ∧ t.cs = colsK k
  size : Maps.size D = L.length
theorem HasR.not {D : DataW Unit} {L : List Tb} (h : HasR D L) {nm : ByteArray} (hn : ∀ t ∈ L, t.nm ≠ nm) : Maps.has D (kl nm) = false := by
  cases e : Maps.has D (kl nm) with
  | false => rfl
  | true => obtain ⟨x, hx, hk⟩ := (h.has nm).1 e; exact absurd hk (hn x hx)
theorem HasR.put {D : DataW Unit} {L : List Tb} (h : HasR D L) (ht : Tidy D) {nm : ByteArray} (hn : ∀ t ∈ L, t.nm ≠ nm) (id : Nat) (k : Int) : HasR (D.put (kl nm) (.lit (.int .i64 k))) (insT ⟨id, nm, colsK k⟩ L) := by
  refine ⟨fun j => ?_, fun t htL => ?_, ?_⟩
  · by_cases e : j = nm
    · subst e
      rw [has_put_same ht.isMap (kl_key _)]
      exact ⟨fun _ => ⟨_, (insT_mem _ _ _).2 (.inl rfl), rfl⟩, fun _ => rfl⟩
    · rw [has_put_other (kl_ne e), h.has j]
      constructor
      · rintro ⟨t, htt, hk⟩
        exact ⟨t, (insT_mem _ _ _).2 (.inr htt), hk⟩
      · rintro ⟨t, htt, hk⟩
        rcases (insT_mem _ _ _).1 htt with rfl | htt
        · exact absurd hk.symm e
        · exact ⟨t, htt, hk⟩
  · rcases (insT_mem _ _ _).1 htL with rfl | htL
    · exact ⟨k, fun z => atKey_put_same ht.isMap (kl_key _) _ z, rfl⟩
    · obtain ⟨k', h1, h2⟩ := h.elem t htL
      exact ⟨k', fun z => by rw [atKey_put_other (kl_ne (hn t htL))]; exact h1 z, h2⟩
  · rw [size_put ht, h.not hn, insT_len, h.size]
    rfl
theorem delT_none {L : List Tb} {nm : ByteArray} (h : ∀ t ∈ L, t.nm ≠ nm) : delT L nm = L := List.filter_eq_self.2 fun t ht => by simp [h t ht]
theorem delT_one {L : List Tb} (h : L.Pairwise (fun a b => bl a.nm b.nm = true)) {t : Tb} (ht : t ∈ L) : (delT L t.nm).length + 1 = L.length := by
  induction L with
  | nil => cases ht
  | cons s L ih =>
    rw [List.pairwise_cons] at h
    unfold delT
    rw [List.filter_cons]
    rcases List.mem_cons.1 ht with rfl | ht
    · rw [if_neg (by simp)]
      have hd : ∀ u ∈ L, u.nm ≠ t.nm := fun u hu e => by
        have h1 := h.1 u hu
        rw [e, bl_irrefl] at h1; cases h1
      have := delT_none hd
      unfold delT at this
      rw [this]; rfl
    · have hne : s.nm ≠ t.nm := fun e => by
        have h1 := h.1 t ht
        rw [e, bl_irrefl] at h1; cases h1
      rw [if_pos (by simp [hne]), List.length_cons, List.length_cons]
      have := ih h.2 ht
      unfold delT at this
      omega
theorem HasR.del {D : DataW Unit} {L : List Tb} (h : HasR D L) (ht : Tidy D) (hs : L.Pairwise (fun a b => bl a.nm b.nm = true)) (nm : ByteArray) : HasR (D.del (kl nm)) (delT L nm) := by
  refine ⟨fun j => ?_, fun t htL => ?_, ?_⟩
  · by_cases e : j = nm
    · subst e
      rw [has_del_same]
      constructor
      · intro h; cases h
      · rintro ⟨t, htt, hk⟩
        exact absurd hk (delT_mem.1 htt).2
    · rw [has_del_other (kl_ne e), h.has j]
      constructor
      · rintro ⟨t, htt, hk⟩
        exact ⟨t, delT_mem.2 ⟨htt, by rw [hk]; exact e⟩, hk⟩
      · rintro ⟨t, htt, hk⟩
        exact ⟨t, (delT_mem.1 htt).1, hk⟩
  · obtain ⟨h1, h2⟩ := delT_mem.1 htL
    obtain ⟨k', h3, h4⟩ := h.elem t h1
    exact ⟨k', fun z => by rw [atKey_del_other (kl_ne h2)]; exact h3 z, h4⟩
  · have hsz := size_del (k := kl nm) ht
    by_cases hex : ∃ t ∈ L, t.nm = nm
    · have h1 := (h.has nm).2 hex
      obtain ⟨t, htL, rfl⟩ := hex
      have h2 := delT_one hs htL
      rw [h1, h.size] at hsz
      simp at hsz
      omega
    · have hno : ∀ t ∈ L, t.nm ≠ nm := fun t ht e => hex ⟨t, ht, e⟩
      rw [h.not hno, h.size] at hsz
      rw [delT_none hno]
      simpa using hsz
def HasB (m n : Nat) (L : List Tb) (w : World) : Prop := ∃ D : DataW Unit, w.ownsMap Tryz.prog 9 (plainElem Tryz.prog 3) m n D ∧ HasR D L
section
variable {m n : Nat} {L : List Tb} {w w' : World}
theorem HasB.lt (h : HasB m n L w) : m < w.heap.size := by obtain ⟨D, hD, _⟩ := h; exact hD.lt
theorem HasB.block (h : HasB m n L w) (hb : w'.heap[m]? = w.heap[m]?) : HasB m n L w' := by
  obtain ⟨D, ⟨es, clock, hm, F, hs, hD⟩, hM⟩ := h
  exact ⟨D, ⟨es, clock, hb.trans hm, F, hs, hD⟩, hM⟩
theorem HasB.only {S : Nat → Prop} (h : HasB m n L w) (ho : Only S w w') (hs : ¬ S m) : HasB m n L w' := h.block (ho.block m h.lt hs)
theorem HasB.below (h : HasB m n L w) (hb : Below w.heap.size w w') : HasB m n L w' := h.block (hb.block m h.lt)
theorem HasB.mono {n' : Nat} (h : HasB m n L w) (hn : n ≤ n') : HasB m n' L w := by
  obtain ⟨D, hD, hM⟩ := h
  exact ⟨D, hD.mono hn, hM⟩
theorem HasB.new (w : World) : HasB w.heap.size 0 [] (w.alloc (.map #[] 0)) :=
  ⟨.map [], World.ownsMap_made _ _ _ _, ⟨fun k => ⟨fun h => by simp [has_eq] at h, fun h => by obtain ⟨x, hx, _⟩ := h; cases hx⟩, fun x hx => (by cases hx), rfl⟩⟩
end
section
variable {ops : Array Oper} {rest : List Oper} {o : Oper} {a : Act} {Q : Exit → Act → World → Prop} {m n : Nat} {L : List Tb}
theorem zero3i (w : World) : (zeroValue 3).run Tryz.prog w = .ok (.int .i64 0) w := by kernel_rfl
theorem look_has (w : World) (hg : o.guard = none) (mo x : Operand) (hop : o.op = Op.lookup 41 mo x true) (hS : HasB m n L w) (k : ByteArray) (hk : k.size ≤ 140737488351232) (hm : a.eval mo = .map (some m)) (hx : a.eval x = .string k)
    (hK : ∀ (c : Int) (b : Bool), (b = true ↔ ∃ t ∈ L, t.nm = k) → wpList Tryz.prog ops Q rest (a.put o.dst (.tuple #[.int .i64 c, .bool b])) w) : wpList Tryz.prog ops Q (o :: rest) a w := by
  obtain ⟨D, hD, hM⟩ := hS
  refine wpList_lookup_own_ok w hg mo x 41 hop 9 3 keyed9 Tryz.underlying41 (plainElem Tryz.prog 3) (zero3i w) (.lit (.int .i64 0)) [] (plainElem_int Tryz.underlying3 (by decide)) m n D hm hD _ _ hx (kl_of hk) ?_
  intro v ps hv
  obtain ⟨c, rfl, _⟩ := plainElem_int_inv Tryz.underlying3 hv
  exact hK c _ (hM.has k)
theorem put_has (w : World) (hg : o.guard = none) (mo x v : Operand) (hop : o.op = Op.mapUpdate 41 mo x v) (hS : HasB m n L w) (hn : n < 1000000) (nm : ByteArray) (hnm : nm.size ≤ 140737488351232) (hno : ∀ t ∈ L, t.nm ≠ nm) (id : Nat) (k : Int) (hk0 : 0 ≤ k) (hk1 : k < 1000000) (hm : a.eval mo = .map (some m)) (hx : a.eval x = .string nm) (hv : a.eval v = .int .i64 k)
    (hK : ∀ w', HasB m (n + 1) (insT ⟨id, nm, colsK k⟩ L) w' → Only (fun b => b = m) w w' → wpList Tryz.prog ops Q rest (a.put o.dst undef) w') : wpList Tryz.prog ops Q (o :: rest) a w := by
  obtain ⟨D, hD, hM⟩ := hS
  refine wpList_mapUpdate_own w hg mo x v 41 hop 9 3 keyed9 Tryz.underlying41 (plainElem Tryz.prog 3) m n D hm hD (Nat.lt_trans hn (by decide)) _ _ _ hx hv (kl_of hnm) _ [] (plainElem_int Tryz.underlying3 (WalkArith.wf_i64 (by omega))) ?_
  intro w' h1 h2
  exact hK w' ⟨_, h1, hM.put (hD.tidy keyed9) hno id k⟩ (Only.of_grown h2 rfl)
theorem del_has (w : World) (hg : o.guard = none) (mo x : Operand) (hop : o.op = Op.call { callee := Callee.builtin Builtin.delete, args := #[mo, x], argTypes := #[41, 9] }) (hS : HasB m n L w) (hs : L.Pairwise (fun a b => bl a.nm b.nm = true)) (k : ByteArray) (hk : k.size ≤ 140737488351232) (hm : a.eval mo = .map (some m)) (hx : a.eval x = .string k)
    (hK : ∀ w', HasB m n (delT L k) w' → Only (fun b => b = m) w w' → wpList Tryz.prog ops Q rest (a.put o.dst (.tuple #[])) w') : wpList Tryz.prog ops Q (o :: rest) a w := by
  obtain ⟨D, hD, hM⟩ := hS
  refine wpList_delete_own w hg mo x 41 9 hop 3 keyed9 Tryz.underlying41 (plainElem Tryz.prog 3) m n D hm hD _ _ hx (kl_of hk) ?_
  intro w' h1 h2
  exact hK w' ⟨_, h1, hM.del (hD.tidy keyed9) hs k⟩ (Only.of_grown h2.grown rfl)
theorem next_has (w : World) (hg : o.guard = none) (it : Operand) (hop : o.op = Op.next it false) (b r n : Nat) (D : DataW Unit) (left : Lit → Bool) (cnt : Nat) (hit : a.eval it = .pointer (some ⟨r, 0, none⟩)) (h : w.ranges Tryz.prog 9 (plainElem Tryz.prog 3) b r n D left cnt)
    (hDone : cnt = 0 → (∀ kl, left kl = false) → wpList Tryz.prog ops Q rest (a.put o.dst (.tuple #[.bool false])) w)
    (hMore : ∀ (x : ByteArray) (c : Int) (w' : World) (cnt' : Nat), left (kl x) = true → (∀ zd, D.atKey (kl x) zd = .lit (.int .i64 c)) → w'.ranges Tryz.prog 9 (plainElem Tryz.prog 3) b r n D (fun z => left z && !z.sameKey (kl x)) cnt' → cnt' < cnt →
      w.grownBy w' (some r) → w'.heap.size = w.heap.size → (Instr.entry (.pointer (some ⟨r, 0, none⟩))).run Tryz.prog w' = .ok (.tuple #[.string x, .int .i64 c]) w' → wpList Tryz.prog ops Q rest (a.put o.dst (.tuple #[.bool true, .string x, .int .i64 c])) w') :
    wpList Tryz.prog ops Q (o :: rest) a w :=
  wpList_next_ranges w hg it hop 9 keyed9 (plainElem Tryz.prog 3) Value.string (Value.int .i64) (fun key kl' hkey => by obtain ⟨x, rfl, _⟩ := kl_inv hkey; exact ⟨x, rfl⟩) (fun v y hv => by obtain ⟨c, rfl, _⟩ := plainElem_int_inv Tryz.underlying3 hv; exact ⟨c, rfl⟩)
    b r n D left cnt hit h hDone (fun x c kl' y w' cnt' hkey hlk hv hat hrg hlt hgr hsz hen => by
      obtain ⟨x', ex, rfl⟩ := kl_inv hkey
      cases ex
      obtain ⟨c', ec, rfl, hwc⟩ := plainElem_int_inv Tryz.underlying3 hv
      cases ec
      exact hMore x c w' cnt' hlk hat hrg hlt hgr hsz hen)
end
/-- the numbers that have been told -/
structure IdsR (D : DataW Unit) (l : List Tb) : Prop where
  has : ∀ i : Int, Maps.has D (.int .i64 i) = true ↔ ∃ t ∈ l, (t.id : Int) = i
  size : Maps.size D = l.length
theorem IdsR.put {D : DataW Unit} {l : List Tb} (h : IdsR D l) (ht : Tidy D) {t : Tb} (hn : ∀ s ∈ l, s.id ≠ t.id) (d : DataW Unit) : IdsR (D.put (.int .i64 (t.id : Int)) d) (l ++ [t]) := by
  have hno : Maps.has D (.int .i64 (t.id : Int)) = false := by
    cases e : Maps.has D (.int .i64 (t.id : Int)) with
    | false => rfl
    | true =>
      obtain ⟨s, hs, hk⟩ := (h.has _).1 e
      exact absurd (by omega) (hn s hs)
  refine ⟨fun i => ?_, ?_⟩
  · by_cases e : i = (t.id : Int)
    · subst e
      rw [has_put_same ht.isMap (show WideAt.IsKeyLit (Lit.int .i64 (t.id : Int)) from trivial)]
      exact ⟨fun _ => ⟨t, by simp, rfl⟩, fun _ => rfl⟩
    · rw [has_put_other (fun e' => e (by injection e')), h.has i]
      constructor
      · rintro ⟨s, hs, hk⟩
        exact ⟨s, by simp [hs], hk⟩
      · rintro ⟨s, hs, hk⟩
        rcases List.mem_append.1 hs with hs | hs
        · exact ⟨s, hs, hk⟩
        · obtain rfl := List.mem_singleton.1 hs
          exact absurd hk.symm e
  · rw [size_put ht, hno, h.size, List.length_append]
    rfl
def IdsB (m n : Nat) (l : List Tb) (w : World) : Prop := ∃ D : DataW Unit, w.ownsMap Tryz.prog 3 (plainElem Tryz.prog 3) m n D ∧ IdsR D l
section
variable {m n : Nat} {l : List Tb} {w w' : World}
theorem IdsB.lt (h : IdsB m n l w) : m < w.heap.size := by obtain ⟨D, hD, _⟩ := h; exact hD.lt
theorem IdsB.block (h : IdsB m n l w) (hb : w'.heap[m]? = w.heap[m]?) : IdsB m n l w' := by
  obtain ⟨D, ⟨es, clock, hm, F, hs, hD⟩, hM⟩ := h
  exact ⟨D, ⟨es, clock, hb.trans hm, F, hs, hD⟩, hM⟩
theorem IdsB.only {S : Nat → Prop} (h : IdsB m n l w) (ho : Only S w w') (hs : ¬ S m) : IdsB m n l w' := h.block (ho.block m h.lt hs)
theorem IdsB.below (h : IdsB m n l w) (hb : Below w.heap.size w w') : IdsB m n l w' := h.block (hb.block m h.lt)
theorem IdsB.new (w : World) : IdsB w.heap.size 0 [] (w.alloc (.map #[] 0)) :=
  ⟨.map [], World.ownsMap_made _ _ _ _, ⟨fun k => ⟨fun h => by simp [has_eq] at h, fun h => by obtain ⟨x, hx, _⟩ := h; cases hx⟩, rfl⟩⟩
end
section
variable {ops : Array Oper} {rest : List Oper} {o : Oper} {a : Act} {Q : Exit → Act → World → Prop} {m n : Nat} {l : List Tb}
theorem id_wf {i : Nat} (h : i ≤ 1000) : (Lit.int .i64 (i : Int)).wf = true := WalkArith.wf_i64 (by omega)
theorem look_ids (w : World) (hg : o.guard = none) (mo x : Operand) (hop : o.op = Op.lookup 50 mo x false) (hS : IdsB m n l w) (t : Tb) (hid : t.id ≤ 1000) (hn : ∀ s ∈ l, s.id ≠ t.id) (hm : a.eval mo = .map (some m)) (hx : a.eval x = .int .i64 (t.id : Nat))
    (hK : wpList Tryz.prog ops Q rest (a.put o.dst (.int .i64 0)) w) : wpList Tryz.prog ops Q (o :: rest) a w := by
  obtain ⟨D, hD, hM⟩ := hS
  refine wpList_lookup_own_int w hg mo x 50 hop 3 3 .i64 keyed3 Tryz.underlying50 Tryz.underlying3 (zero3i w) m n D hm hD _ _ hx (keyOf_int_mk Tryz.underlying3 (id_wf hid)) ?_
  intro c hc _
  have hno : Maps.has D (.int .i64 (t.id : Int)) = false := by
    cases e : Maps.has D (.int .i64 (t.id : Int)) with
    | false => rfl
    | true =>
      obtain ⟨s, hs, hk⟩ := (hM.has _).1 e
      exact absurd (by omega) (hn s hs)
  rw [atKey_of_not_has hno] at hc
  injection hc with hc
  injection hc with _ hc
  subst hc
  exact hK
theorem put_ids (w : World) (hg : o.guard = none) (mo x v : Operand) (hop : o.op = Op.mapUpdate 50 mo x v) (hS : IdsB m n l w) (hnn : n < 1000000) (t : Tb) (hid : t.id ≤ 1000) (hn : ∀ s ∈ l, s.id ≠ t.id) (hm : a.eval mo = .map (some m)) (hx : a.eval x = .int .i64 (t.id : Nat)) (hv : a.eval v = .int .i64 1)
    (hK : ∀ w', IdsB m (n + 1) (l ++ [t]) w' → Only (fun b => b = m) w w' → wpList Tryz.prog ops Q rest (a.put o.dst undef) w') : wpList Tryz.prog ops Q (o :: rest) a w := by
  obtain ⟨D, hD, hM⟩ := hS
  refine wpList_mapUpdate_own w hg mo x v 50 hop 3 3 keyed3 Tryz.underlying50 (plainElem Tryz.prog 3) m n D hm hD (Nat.lt_trans hnn (by decide)) _ _ _ hx hv (keyOf_int_mk Tryz.underlying3 (id_wf hid)) _ [] (plainElem_int Tryz.underlying3 (by decide)) ?_
  intro w' h1 h2
  exact hK w' ⟨_, h1, hM.put (hD.tidy keyed3) hn _⟩ (Only.of_grown h2 rfl)
end
end Go.Proofs.YteijjaddlkedbaaGreat
