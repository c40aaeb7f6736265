/- Texts of the proof of CatalogHolds: Cen, Cva, Crc. -/
import Derived.Test.YteijjaddlkedbaaGreatC15
import Derived.Deep.AppendLies
namespace Go.Proofs.YteijjaddlkedbaaGreat
open Go.RowKit Go.Maps

theorem flat_at {α : Type} {f : α → List Value} {k : Nat} (hf : ∀ x, (f x).length = k) : ∀ (l : List α) (i j : Nat) (hi : i < l.length), j < k → (l.flatMap f)[k * i + j]? = (f l[i])[j]?
  | [], i, j, hi, _ => absurd hi (by simp)
  | x :: r, 0, j, _, hj => by rw [List.flatMap_cons, Nat.mul_zero, Nat.zero_add, List.getElem?_append_left (by rw [hf]; exact hj)]; rfl
  | x :: r, i + 1, j, hi, hj => by
    rw [List.flatMap_cons, List.getElem?_append_right (by rw [hf, Nat.mul_succ]; omega), hf, show k * (i + 1) + j - k = k * i + j by rw [Nat.mul_succ]; omega]
    exact flat_at hf r i j (by simpa using hi) hj
theorem flat_len {α : Type} {f : α → List Value} {k : Nat} (hf : ∀ x, (f x).length = k) : ∀ (l : List α), (l.flatMap f).length = l.length * k
  | [] => by simp
  | x :: r => by rw [List.flatMap_cons, List.length_append, hf, flat_len hf r, List.length_cons, Nat.succ_mul]; omega
theorem index_many {t e : TypeId} {k : Nat} (ht : Tryz.prog.underlying t = some (.slice e)) (he : Tryz.prog.elem t = e) (hs : (sizeOf e).run Tryz.prog = fun w => .ok k w) (g n cap i : Nat) (hi : i < n) (wx : World) : (Instr.indexAt t (.slice (some ⟨g, 0, none⟩) n cap) (.int .i64 (i : Nat))).run Tryz.prog wx = .ok (.pointer (some ⟨g, k * i, none⟩)) wx := by
  subst he
  rw [run_indexAt_slice (h := ht), if_pos ⟨by omega, by omega⟩, hs]
  simp [Result.andThen, add_pl, Nat.mul_comm]
theorem size43c : (sizeOf 43).run Tryz.prog = fun w => .ok 4 w := by funext w; simp [Tryz.sizeOf43]
theorem elem44 : Tryz.prog.elem 44 = 43 := by kernel_rfl
theorem size52 : (sizeOf 52).run Tryz.prog = fun w => .ok 5 w := by funext w; simp [Tryz.sizeOf52]
theorem elem76 : Tryz.prog.elem 76 = 52 := by kernel_rfl
def colC (c : Col) : List Value := [.string c.nm, .int .i64 (c.kd : Nat), .bool c.mu, .bool c.wo]
/-- columns -/
def CRow (B : Nat) (v : Value) (cs : List Col) (w : World) : Prop := w.ownsRow B 43 4 v cs.length (cs.flatMap colC)
/-- names -/
def NRow (B : Nat) (v : Value) (l : List ByteArray) (w : World) : Prop := w.ownsRow B 9 1 v l.length (l.map Value.string)
def ixs (cs : List Col) : List ByteArray := (cs.filter (·.ix)).map (·.nm)
/-- an entry in memory: what it says, and where its lists are -/
structure Ent where
  t : Tb
  is_ : List ByteArray
  vc : Value
  vi : Value
def entC (x : Ent) : List Value := [.int .i64 (x.t.id : Nat), .int .i64 1, .string x.t.nm, x.vc, x.vi]
def Apt (a b : Value) : Prop := ∀ k, a.ownBlock = some k → b.ownBlock ≠ some k
/-- entries -/
structure EntR (B : Nat) (v : Value) (E : List Ent) (w : World) : Prop where
  row : w.ownsRow B 52 5 v E.length (E.flatMap entC)
  cs : ∀ x ∈ E, CRow B x.vc x.t.cs w ∧ NRow B x.vi x.is_ w
  ap : (v :: E.flatMap (fun x => [x.vc, x.vi])).Pairwise Apt
section
variable {B : Nat} {v : Value} {cs : List Col} {l : List ByteArray} {E : List Ent} {w w' : World}
theorem row_slice {e : TypeId} {size n : Nat} {xs : List Value} (h : w.ownsRow B e size v n xs) : ∃ a c, v = .slice a n c := by
  rcases h.2 with ⟨e1, e2⟩ | ⟨g, cap, cur, e1, _⟩
  · exact ⟨none, 0, by rw [e1, e2]⟩
  · exact ⟨_, cap, e1⟩
theorem row_max {e : TypeId} {size n : Nat} {xs : List Value} (h : w.ownsRow B e size v n xs) : n ≤ 9223372036854775807 := by
  rcases h.2 with ⟨_, e2⟩ | ⟨g, cap, cur, _, _, _, h4, h5, _⟩
  · omega
  · simp only [maxLen] at h5; omega
theorem row_below {e : TypeId} {size n : Nat} {xs : List Value} (h : w.ownsRow B e size v n xs) (hb : Below w.heap.size w w') : w'.ownsRow B e size v n xs := row_only h (below_only hb (fun _ => False)) (fun _ e => e.elim)
theorem CRow.below (h : CRow B v cs w) (hb : Below w.heap.size w w') : CRow B v cs w' := row_below h hb
theorem NRow.below (h : NRow B v l w) (hb : Below w.heap.size w w') : NRow B v l w' := row_below h hb
theorem EntR.below (h : EntR B v E w) (hb : Below w.heap.size w w') : EntR B v E w' := ⟨row_below h.row hb, fun x hx => ⟨(h.cs x hx).1.below hb, (h.cs x hx).2.below hb⟩, h.ap⟩
theorem colC_len (c : Col) : (colC c).length = 4 := rfl
theorem entC_len (x : Ent) : (entC x).length = 5 := rfl
set_option maxRecDepth 100000 in
theorem CRow.at (h : CRow B v cs w) {i : Nat} (hi : i < cs.length) : ∃ g cap, v = .slice (some ⟨g, 0, none⟩) cs.length cap ∧ B ≤ g ∧ g < w.heap.size ∧ w.cell? ⟨g, 4 * i, none⟩ = some (.string cs[i].nm) ∧ w.cell? ⟨g, 4 * i + 1, none⟩ = some (.int .i64 (cs[i].kd : Nat)) ∧ w.cell? ⟨g, 4 * i + 2, none⟩ = some (.bool cs[i].mu) ∧ w.cell? ⟨g, 4 * i + 3, none⟩ = some (.bool cs[i].wo) ∧
    ∀ n, i < n → ∀ wx, (Instr.indexAt 44 (.slice (some ⟨g, 0, none⟩) n cap) (.int .i64 (i : Nat))).run Tryz.prog wx = .ok (.pointer (some ⟨g, 4 * i, none⟩)) wx := by
  obtain ⟨g, cap, rfl, h1, h2⟩ := World.ownsRow.form h (by omega)
  have hat : ∀ j, j < 4 → w.cell? ⟨g, 4 * i + j, none⟩ = (colC cs[i])[j]? := fun j hj => by
    rw [World.ownsRow.cellAt h (4 * i + j) (by omega), flat_at colC_len cs i j hi hj]
  exact ⟨g, cap, rfl, h1, h2, hat 0 (by omega), hat 1 (by omega), hat 2 (by omega), hat 3 (by omega), fun n hn wx => index_many Tryz.underlying44 elem44 size43c g n cap i hn wx⟩
theorem CRow.take (h : CRow B v cs w) {i : Nat} (hi : i < cs.length) : ∃ g cap, v = .slice (some ⟨g, 0, none⟩) cs.length cap ∧ CRow B (.slice (some ⟨g, 0, none⟩) i cap) (cs.take i) w := by
  obtain ⟨h0, h1 | ⟨g, cap, cur, e, h2, h3, h4, h5, h6, h7⟩⟩ := h
  · have := h1.2; omega
  · refine ⟨g, cap, e, ?_, .inr ⟨g, cap, cur, ?_, h2, h3, ?_, h5, h6, ?_⟩⟩
    · rw [flat_len colC_len]
    · rw [List.length_take, Nat.min_eq_left (by omega)]
    · rw [List.length_take]; omega
    · have e1 : cs.take i ++ cs.drop i = cs := List.take_append_drop i cs
      have e2 : (cs.take i).flatMap colC ++ (cs.drop i).flatMap colC = cs.flatMap colC := by rw [← List.flatMap_append, e1]
      have e3 : ((cs.take i).flatMap colC).length = (cs.take i).length * 4 := flat_len colC_len _
      have e4 : (cs.take i).length ≤ cs.length := by rw [List.length_take]; omega
      have : cur.toList.take ((cs.take i).length * 4) = (cur.toList.take (cs.length * 4)).take ((cs.take i).length * 4) := by rw [List.take_take, Nat.min_eq_left (by omega)]
      rw [this, h7, ← e2, ← e3, List.take_left]
set_option maxRecDepth 100000 in
theorem EntR.at (h : EntR B v E w) {i : Nat} (hi : i < E.length) : ∃ g cap a1 l1 c1 a2 l2 c2, v = .slice (some ⟨g, 0, none⟩) E.length cap ∧ B ≤ g ∧ g < w.heap.size ∧ E[i].vc = .slice a1 l1 c1 ∧ E[i].vi = .slice a2 l2 c2 ∧ w.cell? ⟨g, 5 * i, none⟩ = some (.int .i64 (E[i].t.id : Nat)) ∧ w.cell? ⟨g, 5 * i + 1, none⟩ = some (.int .i64 1) ∧ w.cell? ⟨g, 5 * i + 2, none⟩ = some (.string E[i].t.nm) ∧ w.cell? ⟨g, 5 * i + 3, none⟩ = some (.slice a1 l1 c1) ∧ w.cell? ⟨g, 5 * i + 4, none⟩ = some (.slice a2 l2 c2) ∧
    ∀ wx, (Instr.indexAt 76 (.slice (some ⟨g, 0, none⟩) E.length cap) (.int .i64 (i : Nat))).run Tryz.prog wx = .ok (.pointer (some ⟨g, 5 * i, none⟩)) wx := by
  obtain ⟨g, cap, rfl, h1, h2⟩ := World.ownsRow.form h.row (by omega)
  have hat : ∀ j, j < 5 → w.cell? ⟨g, 5 * i + j, none⟩ = (entC E[i])[j]? := fun j hj => by
    rw [World.ownsRow.cellAt h.row (5 * i + j) (by omega), flat_at entC_len E i j hi hj]
  obtain ⟨hc1, hc2⟩ := h.cs E[i] (List.getElem_mem hi)
  obtain ⟨a1, c1, e1⟩ := row_slice hc1
  obtain ⟨a2, c2, e2⟩ := row_slice hc2
  refine ⟨g, cap, a1, _, c1, a2, _, c2, rfl, h1, h2, e1, e2, hat 0 (by omega), hat 1 (by omega), hat 2 (by omega), ?_, ?_, fun wx => index_many Tryz.underlying76 elem76 size52 g E.length cap i hi wx⟩
  · rw [hat 3 (by omega), ← e1]; rfl
  · rw [hat 4 (by omega), ← e2]; rfl
end
/-- where among these one is -/
def IdxR {α : Type} (p : α → Bool) (l : List α) (e : Ending) : Prop := (∃ i, ∃ h : i < l.length, p l[i] = true ∧ (∀ j (hj : j < i), p l[j] = false) ∧ e = .returned (.int .i64 (i : Nat))) ∨ ((∀ x ∈ l, p x = false) ∧ e = .returned (.int .i64 (-1)))
theorem Apt.symm {a b : Value} (h : Apt a b) : Apt b a := fun k hb ha => h k ha hb
theorem entC_set3 (x : Ent) (t : Tb) (hid : t.id = x.t.id) (hnm : t.nm = x.t.nm) (v : Value) : (entC x).set 3 v = entC ⟨t, x.is_, v, x.vi⟩ := by unfold entC; rw [hid, hnm]; rfl
theorem entC_set4 (x : Ent) (l : List ByteArray) (v : Value) : (entC x).set 4 v = entC ⟨x.t, l, x.vc, v⟩ := rfl
def vals (E : List Ent) : List Value := E.flatMap (fun x => [x.vc, x.vi])
theorem vals_mem {E : List Ent} {a : Value} : a ∈ vals E ↔ ∃ x ∈ E, a = x.vc ∨ a = x.vi := by unfold vals; rw [List.mem_flatMap]; simp
section
variable {B g cap : Nat} {v : Value} {E : List Ent} {x : Ent} {w w1 : World}
theorem EntR.lt (h : EntR B v E w) {a : Value} (ha : a = v ∨ a ∈ vals E) {k : Nat} (hk : a.ownBlock = some k) : B ≤ k ∧ k < w.heap.size := by
  rcases ha with rfl | ha
  · exact World.ownsRow.lt h.row k hk
  · obtain ⟨y, hy, rfl | rfl⟩ := vals_mem.1 ha
    · exact World.ownsRow.lt (h.cs y hy).1 k hk
    · exact World.ownsRow.lt (h.cs y hy).2 k hk
theorem EntR.split (h : EntR B v (E ++ [x]) w) : (v :: vals E).Pairwise Apt ∧ Apt x.vc x.vi ∧ (∀ a, a = v ∨ a ∈ vals E → Apt a x.vc ∧ Apt a x.vi) := by
  have := h.ap
  rw [List.flatMap_append, ← List.cons_append, List.pairwise_append] at this
  obtain ⟨h1, h2, h3⟩ := this
  refine ⟨h1, ?_, fun a ha => ?_⟩
  · simp at h2; exact h2
  · have ha' : a ∈ v :: List.flatMap (fun x => [x.vc, x.vi]) E := by
      rcases ha with rfl | ha
      · simp
      · exact List.mem_cons_of_mem _ ha
    exact ⟨h3 a ha' _ (by simp), h3 a ha' _ (by simp)⟩
theorem EntR.join (h0 : w.ownsRow B 52 5 v (E ++ [x]).length ((E ++ [x]).flatMap entC)) (h1 : ∀ y ∈ E ++ [x], CRow B y.vc y.t.cs w ∧ NRow B y.vi y.is_ w) (h2 : (v :: vals E).Pairwise Apt) (h3 : Apt x.vc x.vi) (h4 : ∀ a, a = v ∨ a ∈ vals E → Apt a x.vc ∧ Apt a x.vi) : EntR B v (E ++ [x]) w := by
  refine ⟨h0, h1, ?_⟩
  rw [List.flatMap_append, ← List.cons_append, List.pairwise_append]
  refine ⟨h2, by simpa using h3, fun a ha b hb => ?_⟩
  have ha' : a = v ∨ a ∈ vals E := List.mem_cons.1 ha
  simp at hb
  rcases hb with rfl | rfl
  · exact (h4 a ha').1
  · exact (h4 a ha').2
/-- where a row lies behind an append -/
def RowLies (v v' : Value) (w : World) : Prop := ∀ k, v'.ownBlock = some k → v.ownBlock = some k ∨ w.heap.size ≤ k
theorem kept2 {e : TypeId} {size n : Nat} {xs : List Value} {a u : Value} {r : Option Nat} {o : Nat} (h : w.ownsRow B e size a n xs) (hG : w.grownBy w1 r) (h1 : ∀ k, a.ownBlock = some k → r ≠ some k) (hg : w1.ownsRow B 52 5 (.slice (some ⟨g, 0, none⟩) (E.length + 1) cap) (E.length + 1) ((E ++ [x]).flatMap entC)) (h2 : a.ownBlock ≠ some g) : (w1.setCell ⟨g, o, none⟩ u).ownsRow B e size a n xs := by
  have k1 : w1.ownsRow B e size a n xs := World.ownsRow.kept h hG (by
    cases ha : a.ownBlock with
    | none => exact .inl rfl
    | some k => exact .inr (fun e => h1 k ha e.symm))
  exact World.ownsRow.kept k1 (World.ownsRow.stored hg o u).2 (.inr h2)
theorem EntR.cols (h : EntR B (.slice (some ⟨g, 0, none⟩) (E.length + 1) cap) (E ++ [x]) w) {vc' : Value} {c : Col} (hG : w.grownBy w1 x.vc.ownBlock) (hO : CRow B vc' (x.t.cs ++ [c]) w1) (hL : RowLies x.vc vc' w) :
    EntR B (.slice (some ⟨g, 0, none⟩) (E.length + 1) cap) (E ++ [⟨⟨x.t.id, x.t.nm, x.t.cs ++ [c]⟩, x.is_, vc', x.vi⟩]) (w1.setCell ⟨g, 5 * E.length + 3, none⟩ vc') := by
  obtain ⟨h2, h3, h4⟩ := h.split
  have hlen : (E ++ [x]).length = E.length + 1 := by simp
  have hrow := h.row
  rw [hlen] at hrow
  have hvc : ∀ k, (Value.slice (some ⟨g, 0, none⟩) (E.length + 1) cap).ownBlock = some k → k = g := fun k hk => by simp [Value.ownBlock] at hk; exact hk.symm
  have hgl : g < w.heap.size := (h.lt (.inl rfl) (k := g) rfl).2
  have hxg : x.vc.ownBlock ≠ some g := fun e => ((h4 _ (.inl rfl)).1) g rfl e
  have hig : x.vi.ownBlock ≠ some g := fun e => ((h4 _ (.inl rfl)).2) g rfl e
  have hrow1 : w1.ownsRow B 52 5 (.slice (some ⟨g, 0, none⟩) (E.length + 1) cap) (E.length + 1) ((E ++ [x]).flatMap entC) := World.ownsRow.kept hrow hG (.inr (fun e => hxg e.symm))
  have hx : x ∈ E ++ [x] := by simp
  refine EntR.join ?_ ?_ h2 ?_ ?_
  · have k2 := (World.ownsRow.stored hrow1 (5 * E.length + 3) vc').1
    rw [List.length_append, List.length_singleton]
    have e : ((E ++ [x]).flatMap entC).set (5 * E.length + 3) vc' = (E ++ [(⟨⟨x.t.id, x.t.nm, x.t.cs ++ [c]⟩, x.is_, vc', x.vi⟩ : Ent)]).flatMap entC := by
      rw [List.flatMap_append, List.flatMap_append, List.set_append_right _ _ (by rw [flat_len entC_len]; omega), flat_len entC_len, show 5 * E.length + 3 - E.length * 5 = 3 by omega]
      simp [entC]
    rw [← e]; exact k2
  · intro y hy
    rcases List.mem_append.1 hy with hy | hy
    · have hy' : y ∈ E ++ [x] := by simp [hy]
      obtain ⟨c1, c2⟩ := h.cs y hy'
      have m1 : y.vc ∈ vals E := vals_mem.2 ⟨y, hy, .inl rfl⟩
      have m2 : y.vi ∈ vals E := vals_mem.2 ⟨y, hy, .inr rfl⟩
      rw [List.pairwise_cons] at h2
      exact ⟨kept2 c1 hG (fun k hk e => (h4 _ (.inr m1)).1 k hk e) hrow1 (fun e => h2.1 _ m1 g rfl e), kept2 c2 hG (fun k hk e => (h4 _ (.inr m2)).1 k hk e) hrow1 (fun e => h2.1 _ m2 g rfl e)⟩
    · obtain rfl := List.mem_singleton.1 hy
      refine ⟨World.ownsRow.kept hO (World.ownsRow.stored hrow1 _ _).2 (.inr (fun e => ?_)), kept2 (h.cs x hx).2 hG (fun k hk e => h3 k e hk) hrow1 hig⟩
      rcases hL g e with e2 | e2
      · exact hxg e2
      · omega
  · intro k hk e
    rcases hL k hk with e2 | e2
    · exact h3 k e2 e
    · have := (World.ownsRow.lt (h.cs x hx).2 k e).2; omega
  · intro a ha
    have hal : ∀ k, a.ownBlock = some k → k < w.heap.size := fun k hk => by
      refine (h.lt (a := a) ?_ hk).2
      rcases ha with ha | ha
      · exact .inl ha
      · obtain ⟨y, hy, e⟩ := vals_mem.1 ha
        exact .inr (vals_mem.2 ⟨y, by simp [hy], e⟩)
    refine ⟨fun k hk e => ?_, (h4 a ha).2⟩
    rcases hL k e with e2 | e2
    · exact (h4 a ha).1 k hk e2
    · have := hal k hk; omega
theorem EntR.idxs (h : EntR B (.slice (some ⟨g, 0, none⟩) (E.length + 1) cap) (E ++ [x]) w) {vi' : Value} {l : List ByteArray} (hG : w.grownBy w1 x.vi.ownBlock) (hO : NRow B vi' l w1) (hL : RowLies x.vi vi' w) :
    EntR B (.slice (some ⟨g, 0, none⟩) (E.length + 1) cap) (E ++ [⟨x.t, l, x.vc, vi'⟩]) (w1.setCell ⟨g, 5 * E.length + 4, none⟩ vi') := by
  obtain ⟨h2, h3, h4⟩ := h.split
  have hlen : (E ++ [x]).length = E.length + 1 := by simp
  have hrow := h.row
  rw [hlen] at hrow
  have hgl : g < w.heap.size := (h.lt (.inl rfl) (k := g) rfl).2
  have hxg : x.vc.ownBlock ≠ some g := fun e => ((h4 _ (.inl rfl)).1) g rfl e
  have hig : x.vi.ownBlock ≠ some g := fun e => ((h4 _ (.inl rfl)).2) g rfl e
  have hrow1 : w1.ownsRow B 52 5 (.slice (some ⟨g, 0, none⟩) (E.length + 1) cap) (E.length + 1) ((E ++ [x]).flatMap entC) := World.ownsRow.kept hrow hG (.inr (fun e => hig e.symm))
  have hx : x ∈ E ++ [x] := by simp
  refine EntR.join ?_ ?_ h2 ?_ ?_
  · have k2 := (World.ownsRow.stored hrow1 (5 * E.length + 4) vi').1
    rw [List.length_append, List.length_singleton]
    have e : ((E ++ [x]).flatMap entC).set (5 * E.length + 4) vi' = (E ++ [(⟨x.t, l, x.vc, vi'⟩ : Ent)]).flatMap entC := by
      rw [List.flatMap_append, List.flatMap_append, List.set_append_right _ _ (by rw [flat_len entC_len]; omega), flat_len entC_len, show 5 * E.length + 4 - E.length * 5 = 4 by omega]
      simp [entC]
    rw [← e]; exact k2
  · intro y hy
    rcases List.mem_append.1 hy with hy | hy
    · have hy' : y ∈ E ++ [x] := by simp [hy]
      obtain ⟨c1, c2⟩ := h.cs y hy'
      have m1 : y.vc ∈ vals E := vals_mem.2 ⟨y, hy, .inl rfl⟩
      have m2 : y.vi ∈ vals E := vals_mem.2 ⟨y, hy, .inr rfl⟩
      rw [List.pairwise_cons] at h2
      exact ⟨kept2 c1 hG (fun k hk e => (h4 _ (.inr m1)).2 k hk e) hrow1 (fun e => h2.1 _ m1 g rfl e), kept2 c2 hG (fun k hk e => (h4 _ (.inr m2)).2 k hk e) hrow1 (fun e => h2.1 _ m2 g rfl e)⟩
    · obtain rfl := List.mem_singleton.1 hy
      refine ⟨kept2 (h.cs x hx).1 hG (fun k hk e => h3 k hk e) hrow1 hxg, World.ownsRow.kept hO (World.ownsRow.stored hrow1 _ _).2 (.inr (fun e => ?_))⟩
      rcases hL g e with e2 | e2
      · exact hig e2
      · omega
  · intro k hk e
    rcases hL k e with e2 | e2
    · exact h3 k hk e2
    · have := (World.ownsRow.lt (h.cs x hx).1 k hk).2; omega
  · intro a ha
    have hal : ∀ k, a.ownBlock = some k → k < w.heap.size := fun k hk => by
      refine (h.lt (a := a) ?_ hk).2
      rcases ha with ha | ha
      · exact .inl ha
      · obtain ⟨y, hy, e⟩ := vals_mem.1 ha
        exact .inr (vals_mem.2 ⟨y, by simp [hy], e⟩)
    refine ⟨(h4 a ha).1, fun k hk e => ?_⟩
    rcases hL k e with e2 | e2
    · exact (h4 a ha).2 k hk e2
    · have := hal k hk; omega
theorem EntR.more (h : EntR B v E w) {v' : Value} {t : Tb} (ht : t.cs = []) (hG : w.grownBy w1 v.ownBlock) (hO : w1.ownsRow B 52 5 v' (E.length + 1) (E.flatMap entC ++ entC ⟨t, [], .slice none 0 0, .slice none 0 0⟩)) (hL : RowLies v v' w) :
    EntR B v' (E ++ [⟨t, [], .slice none 0 0, .slice none 0 0⟩]) w1 := by
  have hp := h.ap
  rw [List.pairwise_cons] at hp
  have hv' : ∀ a ∈ vals E, Apt v' a := fun a ha k hk e => by
    rcases hL k hk with e2 | e2
    · exact hp.1 a ha k e2 e
    · have := (h.lt (.inr ha) e).2; omega
  refine EntR.join ?_ ?_ (List.pairwise_cons.2 ⟨hv', hp.2⟩) (fun k hk => by simp [Value.ownBlock] at hk) (fun a _ => ⟨fun k _ e => by simp [Value.ownBlock] at e, fun k _ e => by simp [Value.ownBlock] at e⟩)
  · rw [List.length_append, List.flatMap_append, List.flatMap_singleton]; exact hO
  · intro y hy
    rcases List.mem_append.1 hy with hy | hy
    · obtain ⟨c1, c2⟩ := h.cs y hy
      have m1 : y.vc ∈ vals E := vals_mem.2 ⟨y, hy, .inl rfl⟩
      have m2 : y.vi ∈ vals E := vals_mem.2 ⟨y, hy, .inr rfl⟩
      refine ⟨World.ownsRow.kept c1 hG ?_, World.ownsRow.kept c2 hG ?_⟩
      · cases e : y.vc.ownBlock with
        | none => exact .inl rfl
        | some k => exact .inr (fun e2 => hp.1 _ m1 k e2.symm e)
      · cases e : y.vi.ownBlock with
        | none => exact .inl rfl
        | some k => exact .inr (fun e2 => hp.1 _ m2 k e2.symm e)
    · obtain rfl := List.mem_singleton.1 hy
      refine ⟨?_, World.ownsRow_nil _ _ _ _⟩
      show World.ownsRow _ _ _ _ _ _ _
      rw [ht]
      exact World.ownsRow_nil _ _ _ _
end
set_option maxRecDepth 100000 in
set_option maxHeartbeats 1000000 in
theorem indexE_any {B fw Bc : Nat} {u v : Value} {E : List Ent} {p : Ent → Bool} (w : World) (h : EntR B v E w) (hu : w.cell? ⟨Bc, 0, none⟩ = some u) (eg : ∀ args w, (callFunc fw args).run Tryz.prog w = .ok (.enter fw args) w)
    (hc : ∀ x ∈ E, ∀ a1 l1 c1 a2 l2 c2 wx, wx.cell? ⟨Bc, 0, none⟩ = some u → Calls Tryz.prog fw #[.agg #[.int .i64 (x.t.id : Nat), .int .i64 1, .string x.t.nm, .slice a1 l1 c1, .slice a2 l2 c2], .pointer (some ⟨Bc, 0, none⟩)] wx fun e w' => e = .returned (.bool (p x)) ∧ Below wx.heap.size wx w') :
    Calls Tryz.prog 38 #[v, .func (.func fw) #[] #[.pointer (some ⟨Bc, 0, none⟩)]] w fun e w' => IdxR p E e ∧ Below w.heap.size w w' := by
  obtain ⟨a9, c9, hv9⟩ := row_slice h.row
  have hmx := row_max h.row
  obtain ⟨n, hn⟩ : ∃ n, E.length = n := ⟨_, rfl⟩
  rw [hn] at hv9 hmx
  subst hv9
  have HN : Hid (E.length = n) := hn
  have HE : Hid _ := h
  have HU : Hid _ := hu
  have HC : Hid _ := hc
  have hult := World.block_lt_of_cell? _ _ hu
  clear h hu hc hn
  go_enter Tryz.func38, Tryz.ntmps38
  go_wp2_with fail
  go_loopw [8] (fun i wr => ∃ k : Nat, k ≤ n ∧ i = .int .i64 (k : Nat) ∧ Hid (EntR B (.slice a9 n c9) E wr) ∧ Hid (wr.cell? ⟨Bc, 0, none⟩ = some u) ∧ Hid (Below w.heap.size w wr) ∧ Hid (∀ j (hj : j < k) (hl : j < E.length), p E[j] = false)) (fun i _ => n + 1 - (intOf i).toNat)
  case atStart => exact ⟨0, Nat.zero_le _, rfl, HE, HU, Below.refl _ _, fun j hj => absurd hj (by omega)⟩
  case round =>
    clear HE HU
    obtain ⟨k, hk, rfl, HE, HU, HB, HP⟩ := hrel
    by_cases hlt : k < n
    · have h1 : (k : Int) < (n : Int) := by omega
      have hkl : k < E.length := by rw [HN.out]; exact hlt
      obtain ⟨g, cap, a1, l1, c1, a2, l2, c2, ev, hg1, hg2, e1, e2, k0, k1, k2, k3, k4, hix⟩ := HE.out.at hkl
      rw [HN.out] at ev hix
      cases ev
      have HCC : Hid _ := HC.out E[k] (List.getElem_mem hkl) a1 l1 c1 a2 l2 c2 wr HU.out
      obtain ⟨x, hx⟩ : ∃ x, E[k] = x := ⟨_, rfl⟩
      rw [hx] at k0 k2 HCC
      clear e1 e2
      go_wp2_with fail
      refine (show Calls _ _ _ _ _ from HCC.out).mono ?_
      rintro _ w2 ⟨rfl, hb2⟩
      have HE2 : Hid (EntR B (.slice (some ⟨g, 0, none⟩) n c9) E w2) := HE.out.below hb2
      have HU2 : Hid (w2.cell? ⟨Bc, 0, none⟩ = some u) := (hb2.cell (World.block_lt_of_cell? _ _ HU.out)).trans HU.out
      have HB2 : Hid (Below w.heap.size w w2) := HB.out.trans (hb2.mono HB.out.size)
      clear hb2 k0 k1 k2 k3 k4 HCC
      cases hp : p x
      · go_wp2_with fail
        go_roundw
        case rel => exact ⟨k + 1, by omega, by go_num, HE2, HU2, HB2, fun j hj hl => by
            by_cases e : j = k
            · subst e; rw [hx]; exact hp
            · exact HP.out j (by omega) hl⟩
        case measure => simp [intOf]; omega
      · go_wp2
        go_ret
        exact ⟨.inl ⟨k, hkl, by rw [hx]; exact hp, fun j hj => HP.out j hj _, rfl⟩, HB2.out⟩
    · have h1 : ¬ (k : Int) < (n : Int) := by omega
      obtain rfl : n = k := by omega
      go_wp2
      go_ret
      exact ⟨.inr ⟨fun x hx => by
        obtain ⟨j, hj, rfl⟩ := List.getElem_of_mem hx
        exact HP.out j (by have := HN.out; omega) hj, rfl⟩, HB.out⟩
set_option maxRecDepth 100000 in
theorem hasE_any {B fw Bc : Nat} {u v : Value} {E : List Ent} {p : Ent → Bool} (w : World) (h : EntR B v E w) (hu : w.cell? ⟨Bc, 0, none⟩ = some u) (eg : ∀ args w, (callFunc fw args).run Tryz.prog w = .ok (.enter fw args) w)
    (hc : ∀ x ∈ E, ∀ a1 l1 c1 a2 l2 c2 wx, wx.cell? ⟨Bc, 0, none⟩ = some u → Calls Tryz.prog fw #[.agg #[.int .i64 (x.t.id : Nat), .int .i64 1, .string x.t.nm, .slice a1 l1 c1, .slice a2 l2 c2], .pointer (some ⟨Bc, 0, none⟩)] wx fun e w' => e = .returned (.bool (p x)) ∧ Below wx.heap.size wx w') :
    Calls Tryz.prog 18 #[v, .func (.func fw) #[] #[.pointer (some ⟨Bc, 0, none⟩)]] w fun e w' => e = .returned (.bool (E.any p)) ∧ Below w.heap.size w w' := by
  have HI : Hid (Calls Tryz.prog 38 #[v, .func (.func fw) #[] #[.pointer (some ⟨Bc, 0, none⟩)]] w fun e w' => IdxR p E e ∧ Below w.heap.size w w') := indexE_any w h hu eg hc
  clear h hu hc eg
  go_enter Tryz.func18, Tryz.ntmps18
  go_wp2_with fail
  refine (show Calls _ _ _ _ _ from HI.out).mono ?_
  rintro _ w2 ⟨hI, hb2⟩
  have HB : Hid _ := hb2
  clear hb2 HI
  rcases hI with ⟨i, hi, hp, _, rfl⟩ | ⟨hno, rfl⟩
  · have HA : Hid (E.any p = true) := List.any_eq_true.2 ⟨_, List.getElem_mem hi, hp⟩
    clear hp
    go_wp2
    go_ret
    exact ⟨ret_bool (by rw [HA.out]), HB.out⟩
  · have HA : Hid (E.any p = false) := List.any_eq_false.2 (fun x hx => by rw [hno x hx]; decide)
    clear hno
    go_wp2
    go_ret
    exact ⟨ret_bool (by rw [HA.out]), HB.out⟩
end Go.Proofs.YteijjaddlkedbaaGreat
namespace Go.Proofs.YteijjaddlkedbaaGreat
open Go.RowKit Go.Maps

structure VarN (B : Nat) (l : List Value) (w : World) : Prop where
  cell : ∀ i (hi : i < l.length), w.cell? ⟨B, i, none⟩ = some l[i]
  free : ∀ i, w.frozen? ⟨B, i, none⟩ = false
  pos : 0 < l.length
section
variable {B C o : Nat} {l : List Value} {u : Value} {w w' : World}
theorem VarN.lt (h : VarN B l w) : B < w.heap.size := World.block_lt_of_cell? w _ (h.cell 0 h.pos)
theorem VarN.block (h : VarN B l w) (hb : w'.heap[B]? = w.heap[B]?) : VarN B l w' :=
  ⟨fun i hi => by have := h.cell i hi; simp only [World.cell?] at this ⊢; rw [hb]; exact this, fun i => by have := h.free i; simp only [World.frozen?] at this ⊢; rw [hb]; exact this, h.pos⟩
theorem VarN.below (h : VarN B l w) (hb : Below w.heap.size w w') : VarN B l w' := h.block (hb.block _ h.lt)
theorem VarN.only {S : Nat → Prop} (h : VarN B l w) (ho : Only S w w') (hS : ¬ S B) : VarN B l w' := h.block (ho.block B h.lt hS)
theorem VarN.drew (h : VarN B l w) : VarN B l w.drew := h.block rfl
theorem VarN.set (h : VarN B l w) (i : Nat) (v : Value) : VarN B (l.set i v) (w.setCell ⟨B, i, none⟩ v) := by
  refine ⟨fun j hj => ?_, fun j => by rw [World.frozen?_setCell]; exact h.free j, by rw [List.length_set]; exact h.pos⟩
  rw [List.length_set] at hj
  by_cases e : i = j
  · subst e
    rw [World.cell?_setCell_same _ _ _ (h.cell i hj)]; simp
  · rw [World.cell?_setCell_other _ _ _ _ (fun e' => e (by cases e'; rfl)), h.cell j hj]; simp [e]
theorem VarN.far (h : VarN B l w) (hne : B ≠ C) : VarN B l (w.setCell ⟨C, o, none⟩ u) :=
  ⟨fun i hi => by rw [World.cell?_setCell_other _ _ _ _ (fun e => hne (by cases e; rfl))]; exact h.cell i hi, fun i => by rw [World.frozen?_setCell]; exact h.free i, h.pos⟩
theorem VarN.new (w : World) (a : Array Value) (t : TypeId) (h : 0 < a.size) : VarN w.heap.size a.toList (w.alloc (.cells a t)) := by
  have hn : (w.alloc (.cells a t)).heap[w.heap.size]? = Option.some (.cells a t) := heap_alloc_new w _
  refine ⟨fun i hi => ?_, fun i => by simp only [World.frozen?, hn]; simp, by rw [Array.length_toList]; exact h⟩
  simp only [World.cell?, hn]
  rw [Array.length_toList] at hi
  simp [hi]
theorem VarN.c3 {a b c : Value} (h : VarN B [a, b, c] w) : w.cell? ⟨B, 0, none⟩ = some a ∧ w.cell? ⟨B, 1, none⟩ = some b ∧ w.cell? ⟨B, 2, none⟩ = some c := ⟨h.cell 0 (by simp), h.cell 1 (by simp), h.cell 2 (by simp)⟩
theorem VarN.c4 {a b c d : Value} (h : VarN B [a, b, c, d] w) : w.cell? ⟨B, 0, none⟩ = some a ∧ w.cell? ⟨B, 1, none⟩ = some b ∧ w.cell? ⟨B, 2, none⟩ = some c ∧ w.cell? ⟨B, 3, none⟩ = some d := ⟨h.cell 0 (by simp), h.cell 1 (by simp), h.cell 2 (by simp), h.cell 3 (by simp)⟩
theorem VarN.c5 {a b c d e : Value} (h : VarN B [a, b, c, d, e] w) : w.cell? ⟨B, 0, none⟩ = some a ∧ w.cell? ⟨B, 1, none⟩ = some b ∧ w.cell? ⟨B, 2, none⟩ = some c ∧ w.cell? ⟨B, 3, none⟩ = some d ∧ w.cell? ⟨B, 4, none⟩ = some e := ⟨h.cell 0 (by simp), h.cell 1 (by simp), h.cell 2 (by simp), h.cell 3 (by simp), h.cell 4 (by simp)⟩
theorem VarN.get {j : Nat} {v : Value} (h : VarN B l w) (hv : l[j]? = some v) : w.cell? ⟨B, 0 + j, none⟩ = some v := by
  have hj : j < l.length := (List.getElem?_eq_some_iff.1 hv).1
  rw [Nat.zero_add, h.cell j hj]
  rw [List.getElem?_eq_getElem hj] at hv
  exact hv
theorem load52 {a b c d e : Value} (h : VarN B [a, b, c, d, e] w) : (loadVar 52 ⟨B, 0, none⟩).run Tryz.prog w = .ok (.agg #[a, b, c, d, e]) w :=
  run_loadVar_mid (P := Tryz.prog) w B 0 52 [a, b, c, d, e] _ (fun j v hv => h.get hv) Tryz.underlying52 rfl (by kernel_rfl)
theorem load89 {a b : Value} (h : VarN B [a, b] w) : (loadVar 89 ⟨B, 0, none⟩).run Tryz.prog w = .ok (.agg #[a, b]) w :=
  run_loadVar_mid (P := Tryz.prog) w B 0 89 [a, b] _ (fun j v hv => h.get hv) Tryz.underlying89 rfl (by kernel_rfl)
end
end Go.Proofs.YteijjaddlkedbaaGreat
namespace Go.Proofs.YteijjaddlkedbaaGreat
open Go.RowKit Go.Maps

theorem newsN (w : World) (a : Array Value) (t : TypeId) : ∀ (j : Nat) (u : Value), a.toList[j]? = some u → (w.alloc (.cells a t)).cell? ((⟨w.heap.size, 0, none⟩ : Addr).add j) = some u := by
  intro j u hu
  have hn : (w.alloc (.cells a t)).heap[w.heap.size]? = Option.some (.cells a t) := heap_alloc_new w _
  rw [add_pl, Nat.zero_add]
  simp only [World.cell?, hn]
  rw [Array.getElem?_toList] at hu
  simp [hu]
theorem info43 : ∃ i0 : TypeInfo, Tryz.prog.info? 43 = some i0 ∧ i0.zero = some (.agg #[.string ⟨#[]⟩, .int .i64 0, .bool false, .bool false]) ∧ i0.size = 4 ∧ i0.bytes = 32 := by
  have h : (Tryz.prog.info? 43).map (fun i => (i.zero, i.size, i.bytes)) = some (some (.agg #[.string ⟨#[]⟩, .int .i64 0, .bool false, .bool false]), 4, 32) := by kernel_rfl
  cases hq : Tryz.prog.info? 43 with
  | none => rw [hq] at h; simp at h
  | some i => rw [hq] at h; simp at h; exact ⟨i, rfl, h.1, h.2.1, h.2.2⟩
theorem info9s : ∃ i0 : TypeInfo, Tryz.prog.info? 9 = some i0 ∧ i0.zero = some (.string ⟨#[]⟩) ∧ i0.size = 1 ∧ i0.bytes = 16 := by
  have h : (Tryz.prog.info? 9).map (fun i => (i.zero, i.size, i.bytes)) = some (some (.string ⟨#[]⟩), 1, 16) := by kernel_rfl
  cases hq : Tryz.prog.info? 9 with
  | none => rw [hq] at h; simp at h
  | some i => rw [hq] at h; simp at h; exact ⟨i, rfl, h.1, h.2.1, h.2.2⟩
theorem markN_ne (b : Bool) : (markN b != 0) = b := by cases b <;> rfl
theorem markU_nat (b : Bool) : ((markU b).toNat : Int) = markN b := by cases b <;> rfl
theorem row_len {B : Nat} {v : Value} {E : List Ent} {x : Ent} {w : World} (h : w.ownsRow B 52 5 v (E ++ [x]).length ((E ++ [x]).flatMap entC)) : w.ownsRow B 52 5 v (E.length + 1) ((E ++ [x]).flatMap entC) := by
  rw [List.length_append] at h; exact h
theorem col_bytes (c : Col) (hk : c.kd < 256) (wx : World) : (Instr.index 9 (.string (colI c)) (.int .i64 0)).run Tryz.prog wx = .ok (.int .u8 (c.kd : Nat)) wx ∧ (Instr.index 9 (.string (colI c)) (.int .i64 1)).run Tryz.prog wx = .ok (.int .u8 (markN c.mu)) wx ∧ (Instr.index 9 (.string (colI c)) (.int .i64 2)).run Tryz.prog wx = .ok (.int .u8 (markN c.wo)) wx ∧ (Instr.index 9 (.string (colI c)) (.int .i64 3)).run Tryz.prog wx = .ok (.int .u8 (markN c.ix)) wx := by
  have hs := colI_size c
  have get : ∀ (i : Nat) (hi : i < 4), (colI c)[i]'(by omega) = (#[byteI (c.kd : Int), markU c.mu, markU c.wo, markU c.ix] : Array UInt8)[i]'(by simpa using hi) := fun i hi => by
    unfold colI
    rw [ByteArray.getElem_append_left (by exact hi)]
    rfl
  refine ⟨?_, ?_, ?_, ?_⟩
  · exact run_byte (colI c) 0 (by omega) c.kd (by rw [get 0 (by omega)]; exact byteI_small hk) wx
  · rw [← markU_nat]; exact run_byte (colI c) 1 (by omega) (markU c.mu).toNat (by rw [get 1 (by omega)]; rfl) wx
  · rw [← markU_nat]; exact run_byte (colI c) 2 (by omega) (markU c.wo).toNat (by rw [get 2 (by omega)]; rfl) wx
  · rw [← markU_nat]; exact run_byte (colI c) 3 (by omega) (markU c.ix).toNat (by rw [get 3 (by omega)]; rfl) wx
theorem col_name (c : Col) (wx : World) : (Instr.slice 9 (.string (colI c)) (some (.int .i64 4)) none none).run Tryz.prog wx = .ok (.string c.nm) wx := by
  have h := run_tail (colI c) 4 (by rw [colI_size]; omega) wx
  have e : (colI c).extract 4 (colI c).size = c.nm := by
    unfold colI
    apply ByteArray.ext
    rw [ByteArray.data_extract, ByteArray.data_append]
    apply Array.toList_inj.1
    rw [Array.toList_extract, Array.toList_append, List.extract_eq_take_drop]
    show List.take _ (c.nm.data.toList) = _
    rw [List.take_of_length_le]
    rw [ByteArray.size_append]
    show c.nm.data.toList.length ≤ 4 + c.nm.size - 4
    rw [Array.length_toList]
    show c.nm.size ≤ _
    omega
  rw [e] at h
  exact h
set_option maxRecDepth 100000 in
set_option maxHeartbeats 4000000 in
theorem readColumn_any {B g o cap : Nat} {E : List Ent} {x : Ent} (w : World) (h : EntR B (.slice (some ⟨g, 0, none⟩) (E.length + 1) cap) (E ++ [x]) w) (ho : o = 5 * E.length + 2) (hcl : x.t.cs.length ≤ 1000) (hil : x.is_.length ≤ 1000) (c : Col) (hk : c.kd < 256) (hnm : c.nm.size ≤ 1000) (hB : B ≤ w.heap.size) :
    Calls Tryz.prog 37 #[.pointer (some ⟨g, o, none⟩), .string (colI c)] w fun e w' => e = .returned (.tuple #[]) ∧ ∃ x', EntR B (.slice (some ⟨g, 0, none⟩) (E.length + 1) cap) (E ++ [x']) w' ∧ x'.t = ⟨x.t.id, x.t.nm, x.t.cs ++ [c]⟩ ∧ x'.is_ = x.is_ ++ (if c.ix then [c.nm] else []) ∧ Only (fun b => b = g ∨ x.vc.ownBlock = some b ∨ x.vi.ownBlock = some b) w w' := by
  have hbs := col_bytes c hk
  have hsl0 := col_name c
  obtain ⟨nm, kd, mu, wo, ix⟩ := c
  simp only at hk hnm hbs hsl0 ⊢
  obtain ⟨T, hT⟩ : ∃ T, colI ⟨nm, kd, mu, wo, ix⟩ = T := ⟨_, rfl⟩
  rw [hT] at hbs hsl0
  rw [hT]
  have HB0 : Hid (∀ wx, (Instr.index 9 (.string T) (.int .i64 0)).run Tryz.prog wx = .ok (.int .u8 (kd : Nat)) wx) := fun wx => (hbs wx).1
  have HB1 : Hid (∀ wx, (Instr.index 9 (.string T) (.int .i64 1)).run Tryz.prog wx = .ok (.int .u8 (markN mu)) wx) := fun wx => (hbs wx).2.1
  have HB2 : Hid (∀ wx, (Instr.index 9 (.string T) (.int .i64 2)).run Tryz.prog wx = .ok (.int .u8 (markN wo)) wx) := fun wx => (hbs wx).2.2.1
  have HB3b : Hid (∀ wx, (Instr.index 9 (.string T) (.int .i64 3)).run Tryz.prog wx = .ok (.int .u8 (markN ix)) wx) := fun wx => (hbs wx).2.2.2
  have HKW : Hid (IntKind.i64.wrap (kd : Int) = (kd : Int)) := wraps_i64 _ (by omega) (by omega)
  obtain ⟨vc, hvc⟩ : ∃ vc, x.vc = vc := ⟨_, rfl⟩
  obtain ⟨vi, hvi⟩ : ∃ vi, x.vi = vi := ⟨_, rfl⟩
  have hcell : ∀ j, j < 5 → w.cell? ⟨g, 5 * E.length + j, none⟩ = (entC x)[j]? := fun j hj => by
    rw [World.ownsRow.cellAt (row_len h.row) (5 * E.length + j) (by omega), flat_at entC_len _ E.length j (by simp) hj]
    simp
  have hc3 : w.cell? ⟨g, o + 1, none⟩ = some vc := by rw [ho, ← hvc]; exact hcell 3 (by omega)
  have hc4 : w.cell? ⟨g, o + 2, none⟩ = some vi := by rw [ho, ← hvi]; exact hcell 4 (by omega)
  have hfz : ∀ j, w.frozen? ⟨g, j, none⟩ = false := fun j => World.ownsRow.frozenAt (row_len h.row) j
  obtain ⟨vca, vcc, hvcs⟩ := row_slice (h.cs x (by simp)).1
  obtain ⟨via, vic, hvis⟩ := row_slice (h.cs x (by simp)).2
  rw [hvc] at hvcs
  rw [hvi] at hvis
  have C1 : Hid (w.drew.cell? ⟨g, o + 1, none⟩ = some vc) := hc3
  have HBA : Hid (Below w.drew.heap.size w.drew (w.drew.alloc (.cells #[.string nm, .int .i64 (kd : Nat), .bool mu, .bool wo] 43))) := (Below.refl _ _).alloc (Nat.le_refl _) _
  have HEA : Hid (EntR B (.slice (some ⟨g, 0, none⟩) (E.length + 1) cap) (E ++ [x]) (w.drew.alloc (.cells #[.string nm, .int .i64 (kd : Nat), .bool mu, .bool wo] 43))) := (h.below (Below.refl _ _).drew).below HBA.out
  have HRW : Hid (CRow B vc x.t.cs (w.drew.alloc (.cells #[.string nm, .int .i64 (kd : Nat), .bool mu, .bool wo] 43))) := by have := (HEA.out.cs x (by simp)).1; rw [hvc] at this; exact this
  have HSZ : Hid (B ≤ (w.drew.alloc (.cells #[.string nm, .int .i64 (kd : Nat), .bool mu, .bool wo] 43)).heap.size) := Nat.le_trans hB HBA.out.size
  have HGN : Hid (some g ≠ vc.ownBlock) := fun e => (h.split.2.2 _ (.inl rfl)).1 g rfl (by rw [hvc]; exact e.symm)
  have HF1 : Hid ((w.drew.alloc (.cells #[.string nm, .int .i64 (kd : Nat), .bool mu, .bool wo] 43)).frozen? ⟨g, o + 1, none⟩ = false) := World.ownsRow.frozenAt (row_len HEA.out.row) _
  have HF4a : Hid (w.cell? ⟨g, o + 2, none⟩ = some vi) := hc4
  obtain ⟨i0, hi, hz0, hz1, hz2⟩ := info43
  obtain ⟨j0, hj, hy0, hy1, hy2⟩ := info9s
  have HVC : Hid _ := hvc
  have HVI : Hid _ := hvi
  have HVCS : Hid _ := hvcs
  have HVIS : Hid _ := hvis
  have HO0 : Hid _ := ho
  have hsl := hsl0
  clear h hbs hsl0 hcell hfz hc3 hc4 hvc hvi hT hvcs hvis ho
  go_enter Tryz.func37, Tryz.ntmps37
  go_wp2_with fail
  refine wp_region_late (S := fun wx => wx.cell? ⟨g, o + 1, none⟩ = some vc) (js := 20) (by kernel_rfl) (C1.out) ?_
  intro g0
  refine wpAnyL_take (i := 0) (oi := { dst := some 7, op := Op.move (Operand.tmp 0), type := 108, pos := "pair.go:102", after := #[], guard := none }) (v := .pointer (some ⟨g, o, none⟩)) rfl (by kernel_rfl) (by kernel_rfl) (by kernel_rfl) (fun _ _ _ h => h) (by decide) (by kernel_rfl) (Or.inl ⟨by rfl, fun wx _ => by go_simp⟩) g0 ?_
  simp only [Act.put, List.setIfInBounds_toArray, List.set_cons_zero, List.set_cons_succ]
  refine wpAnyL_take (i := 1) (oi := { dst := some 8, op := Op.move (Operand.tmp 0), type := 108, pos := "pair.go:102", after := #[], guard := none }) (v := .pointer (some ⟨g, o, none⟩)) rfl (by kernel_rfl) (by kernel_rfl) (by kernel_rfl) (fun _ _ _ h => h) (by decide) (by kernel_rfl) (Or.inl ⟨by rfl, fun wx _ => by go_simp⟩) g0 ?_
  simp only [Act.put, List.setIfInBounds_toArray, List.set_cons_zero, List.set_cons_succ]
  refine wpAnyL_take (i := 2) (oi := { dst := some 9, op := Op.nilCheck (Operand.tmp 8), type := 0, pos := "pair.go:102", after := #[{ on := 1, ground := Ground.data }], guard := none }) (v := .pointer (some ⟨g, o, none⟩)) rfl (by kernel_rfl) (by kernel_rfl) (by kernel_rfl) (fun _ _ _ h => h) (by decide) (by kernel_rfl) (Or.inl ⟨by rfl, fun wx _ => by go_simp⟩) g0 ?_
  simp only [Act.put, List.setIfInBounds_toArray, List.set_cons_zero, List.set_cons_succ]
  refine wpAnyL_take (i := 3) (oi := { dst := some 10, op := Op.fieldAddr 46 (Operand.tmp 9) 1, type := 0, pos := "pair.go:102", after := #[{ on := 2, ground := Ground.data }], guard := none }) (v := .pointer (some ⟨g, o + 1, none⟩)) rfl (by kernel_rfl) (by kernel_rfl) (by kernel_rfl) (fun _ _ _ h => h) (by decide) (by kernel_rfl) (Or.inl ⟨by rfl, fun wx _ => by go_simp⟩) g0 ?_
  simp only [Act.put, List.setIfInBounds_toArray, List.set_cons_zero, List.set_cons_succ]
  refine wpAnyL_take (i := 4) (oi := { dst := some 11, op := Op.load 44 (Operand.tmp 10), type := 44, pos := "pair.go:102", after := #[{ on := 3, ground := Ground.data }], guard := none }) (v := vc) rfl (by kernel_rfl) (by kernel_rfl) (by kernel_rfl) (fun _ _ _ h => h) (by decide) (by kernel_rfl) (Or.inl ⟨by rfl, fun wx h => by have h8 := h; go_simp⟩) g0 ?_
  simp only [Act.put, List.setIfInBounds_toArray, List.set_cons_zero, List.set_cons_succ]
  refine wpAnyL_take (i := 5) (oi := { dst := some 12, op := Op.move (Operand.tmp 4), type := 9, pos := "pair.go:102", after := #[], guard := none }) (v := .string nm) rfl (by kernel_rfl) (by kernel_rfl) (by kernel_rfl) (fun _ _ _ h => h) (by decide) (by kernel_rfl) (Or.inl ⟨by rfl, fun wx _ => by go_simp⟩) g0 ?_
  simp only [Act.put, List.setIfInBounds_toArray, List.set_cons_zero, List.set_cons_succ]
  refine wpAnyL_take (i := 6) (oi := { dst := some 13, op := Op.move (Operand.tmp 1), type := 9, pos := "pair.go:102", after := #[], guard := none }) (v := .string T) rfl (by kernel_rfl) (by kernel_rfl) (by kernel_rfl) (fun _ _ _ h => h) (by decide) (by kernel_rfl) (Or.inl ⟨by rfl, fun wx _ => by go_simp⟩) g0 ?_
  simp only [Act.put, List.setIfInBounds_toArray, List.set_cons_zero, List.set_cons_succ]
  refine wpAnyL_take (i := 7) (oi := { dst := some 14, op := Op.index 9 (Operand.tmp 13) (Operand.const (Value.int IntKind.i64 0)), type := 5, pos := "pair.go:102", after := #[{ on := 6, ground := Ground.data }], guard := none }) (v := .int .u8 (kd : Nat)) rfl (by kernel_rfl) (by kernel_rfl) (by kernel_rfl) (fun _ _ _ h => h) (by decide) (by kernel_rfl) (Or.inl ⟨by rfl, fun wx _ => by have h8 := HB0.out wx; go_simp⟩) g0 ?_
  simp only [Act.put, List.setIfInBounds_toArray, List.set_cons_zero, List.set_cons_succ]
  refine wpAnyL_take (i := 8) (oi := { dst := some 15, op := Op.convert 5 3 (Operand.tmp 14), type := 3, pos := "pair.go:102", after := #[{ on := 7, ground := Ground.data }], guard := none }) (v := .int .i64 (kd : Nat)) rfl (by kernel_rfl) (by kernel_rfl) (by kernel_rfl) (fun _ _ _ h => h) (by decide) (by kernel_rfl) (Or.inl ⟨by rfl, fun wx _ => by have h8 := HKW.out; go_simp⟩) g0 ?_
  simp only [Act.put, List.setIfInBounds_toArray, List.set_cons_zero, List.set_cons_succ]
  refine wpAnyL_take (i := 9) (oi := { dst := some 16, op := Op.move (Operand.tmp 1), type := 9, pos := "pair.go:102", after := #[], guard := none }) (v := .string T) rfl (by kernel_rfl) (by kernel_rfl) (by kernel_rfl) (fun _ _ _ h => h) (by decide) (by kernel_rfl) (Or.inl ⟨by rfl, fun wx _ => by go_simp⟩) g0 ?_
  simp only [Act.put, List.setIfInBounds_toArray, List.set_cons_zero, List.set_cons_succ]
  refine wpAnyL_take (i := 10) (oi := { dst := some 17, op := Op.index 9 (Operand.tmp 16) (Operand.const (Value.int IntKind.i64 1)), type := 5, pos := "pair.go:102", after := #[{ on := 9, ground := Ground.data }], guard := none }) (v := .int .u8 (markN mu)) rfl (by kernel_rfl) (by kernel_rfl) (by kernel_rfl) (fun _ _ _ h => h) (by decide) (by kernel_rfl) (Or.inl ⟨by rfl, fun wx _ => by have h8 := HB1.out wx; go_simp⟩) g0 ?_
  simp only [Act.put, List.setIfInBounds_toArray, List.set_cons_zero, List.set_cons_succ]
  refine wpAnyL_take (i := 11) (oi := { dst := some 18, op := Op.binOp BinOp.neq 5 (Operand.tmp 17) (Operand.const (Value.int IntKind.u8 0)) 5, type := 4, pos := "pair.go:102", after := #[{ on := 10, ground := Ground.data }], guard := none }) (v := .bool mu) rfl (by kernel_rfl) (by kernel_rfl) (by kernel_rfl) (fun _ _ _ h => h) (by decide) (by kernel_rfl) (Or.inl ⟨by rfl, fun wx _ => by have h8 := markN_ne mu; go_simp⟩) g0 ?_
  simp only [Act.put, List.setIfInBounds_toArray, List.set_cons_zero, List.set_cons_succ]
  refine wpAnyL_take (i := 12) (oi := { dst := some 19, op := Op.move (Operand.tmp 1), type := 9, pos := "pair.go:102", after := #[], guard := none }) (v := .string T) rfl (by kernel_rfl) (by kernel_rfl) (by kernel_rfl) (fun _ _ _ h => h) (by decide) (by kernel_rfl) (Or.inl ⟨by rfl, fun wx _ => by go_simp⟩) g0 ?_
  simp only [Act.put, List.setIfInBounds_toArray, List.set_cons_zero, List.set_cons_succ]
  refine wpAnyL_take (i := 13) (oi := { dst := some 20, op := Op.index 9 (Operand.tmp 19) (Operand.const (Value.int IntKind.i64 2)), type := 5, pos := "pair.go:102", after := #[{ on := 12, ground := Ground.data }], guard := none }) (v := .int .u8 (markN wo)) rfl (by kernel_rfl) (by kernel_rfl) (by kernel_rfl) (fun _ _ _ h => h) (by decide) (by kernel_rfl) (Or.inl ⟨by rfl, fun wx _ => by have h8 := HB2.out wx; go_simp⟩) g0 ?_
  simp only [Act.put, List.setIfInBounds_toArray, List.set_cons_zero, List.set_cons_succ]
  refine wpAnyL_take (i := 14) (oi := { dst := some 21, op := Op.binOp BinOp.neq 5 (Operand.tmp 20) (Operand.const (Value.int IntKind.u8 0)) 5, type := 4, pos := "pair.go:102", after := #[{ on := 13, ground := Ground.data }], guard := none }) (v := .bool wo) rfl (by kernel_rfl) (by kernel_rfl) (by kernel_rfl) (fun _ _ _ h => h) (by decide) (by kernel_rfl) (Or.inl ⟨by rfl, fun wx _ => by have h8 := markN_ne wo; go_simp⟩) g0 ?_
  simp only [Act.put, List.setIfInBounds_toArray, List.set_cons_zero, List.set_cons_succ]
  refine wpAnyL_take (i := 15) (oi := { dst := some 22, op := Op.build 43 #[(0, Operand.tmp 12), (1, Operand.tmp 15), (2, Operand.tmp 18), (3, Operand.tmp 21)], type := 43, pos := "pair.go:102", after := #[{ on := 5, ground := Ground.data }, { on := 8, ground := Ground.data }, { on := 11, ground := Ground.data }, { on := 14, ground := Ground.data }], guard := none }) (v := .agg #[.string nm, .int .i64 (kd : Nat), .bool mu, .bool wo]) rfl (by kernel_rfl) (by kernel_rfl) (by kernel_rfl) (fun _ _ _ h => h) (by decide) (by kernel_rfl) (Or.inl ⟨by rfl, fun wx _ => by go_simp⟩) g0 ?_
  simp only [Act.put, List.setIfInBounds_toArray, List.set_cons_zero, List.set_cons_succ]
  refine wpAnyL_one (i := 16) (o := { dst := some 23, op := Op.buildSlice 44 1 #[(0, Operand.tmp 22)], type := 44, pos := "pair.go:102", after := #[{ on := 15, ground := Ground.data }], guard := none }) (by kernel_rfl) rfl (by decide) (by rfl) (fun K hK => ?_)
  go_simp
  try simp only [Act.put, List.setIfInBounds_toArray, List.set_cons_zero, List.set_cons_succ]
  refine hK.out _ _ (keepc HBA.out g0) (fun g1 => ?_)
  clear hK K
  try simp only [Act.put, List.setIfInBounds_toArray, List.set_cons_zero, List.set_cons_succ]
  refine wpAnyL_one (i := 17) (o := { dst := some 24, op := Op.call { callee := Callee.builtin Builtin.append, args := #[Operand.tmp 11, Operand.tmp 23], argTypes := #[44, 44] }, type := 44, pos := "pair.go:102", after := #[{ on := 4, ground := Ground.data }, { on := 16, ground := Ground.data }], guard := none }) (by kernel_rfl) rfl (by decide) (by rfl) (fun K hK => ?_)
  refine wp_append_lies _ _ _ 44 rfl B 43 i0 (.agg #[.string ⟨#[]⟩, .int .i64 0, .bool false, .bool false]) 4 32 Tryz.underlying44 hi hz0 hz1 hz2 rfl (by decide) _ _ _ rfl HRW.out ⟨w.drew.heap.size, 0, none⟩ 1 1 [.string nm, .int .i64 (kd : Nat), .bool mu, .bool wo] rfl rfl (newsN w.drew #[.string nm, .int .i64 (kd : Nat), .bool mu, .bool wo] 43) (by intro u hu; simp at hu; rcases hu with rfl | rfl | rfl | rfl <;> rfl) (by decide) (by simp only [maxLen]; omega) (by omega) (by exact HSZ.out) _ rfl ?_
  intro g' cap' w' hO hG hat hlt
  have HO : Hid _ := hO
  have HG : Hid _ := hG
  have HAT : Hid _ := hat
  have hl6 := World.block_lt_of_cell? _ _ g1
  have hgc : w'.cell? ⟨g, o + 1, none⟩ = some vc := (cell_of_block (hG.block g hl6 HGN.out) _).trans g1
  have hgf : w'.frozen? ⟨g, o + 1, none⟩ = false := by rw [World.frozen?_of_block (hG.block g hl6 HGN.out)]; exact HF1.out
  clear hO hG hat
  refine hK.out _ _ (hgc) (fun g2 => ?_)
  clear hK K
  try simp only [Act.put, List.setIfInBounds_toArray, List.set_cons_zero, List.set_cons_succ]
  refine wpAnyL_one (i := 18) (o := { dst := some 25, op := Op.nilCheck (Operand.tmp 7), type := 0, pos := "pair.go:102", after := #[{ on := 0, ground := Ground.data }, { on := 0, ground := Ground.phase }, { on := 1, ground := Ground.phase }, { on := 2, ground := Ground.phase }, { on := 3, ground := Ground.phase }, { on := 4, ground := Ground.phase }, { on := 5, ground := Ground.phase }, { on := 6, ground := Ground.phase }, { on := 7, ground := Ground.phase }, { on := 8, ground := Ground.phase }, { on := 9, ground := Ground.phase }, { on := 10, ground := Ground.phase }, { on := 11, ground := Ground.phase }, { on := 12, ground := Ground.phase }, { on := 13, ground := Ground.phase }, { on := 14, ground := Ground.phase }, { on := 15, ground := Ground.phase }, { on := 16, ground := Ground.phase }, { on := 17, ground := Ground.phase }], guard := none }) (by kernel_rfl) rfl (by decide) (by rfl) (fun K hK => ?_)
  go_simp
  try simp only [Act.put, List.setIfInBounds_toArray, List.set_cons_zero, List.set_cons_succ]
  refine hK.out _ _ (g2) (fun _ => ?_)
  clear hK K
  try simp only [Act.put, List.setIfInBounds_toArray, List.set_cons_zero, List.set_cons_succ]
  refine wpAnyL_take (i := 19) (oi := { dst := some 26, op := Op.fieldAddr 46 (Operand.tmp 25) 1, type := 0, pos := "pair.go:102", after := #[{ on := 18, ground := Ground.data }, { on := 0, ground := Ground.phase }, { on := 1, ground := Ground.phase }, { on := 2, ground := Ground.phase }, { on := 3, ground := Ground.phase }, { on := 4, ground := Ground.phase }, { on := 5, ground := Ground.phase }, { on := 6, ground := Ground.phase }, { on := 7, ground := Ground.phase }, { on := 8, ground := Ground.phase }, { on := 9, ground := Ground.phase }, { on := 10, ground := Ground.phase }, { on := 11, ground := Ground.phase }, { on := 12, ground := Ground.phase }, { on := 13, ground := Ground.phase }, { on := 14, ground := Ground.phase }, { on := 15, ground := Ground.phase }, { on := 16, ground := Ground.phase }, { on := 17, ground := Ground.phase }], guard := none }) (v := .pointer (some ⟨g, o + 1, none⟩)) rfl (by kernel_rfl) (by kernel_rfl) (by kernel_rfl) (fun _ _ _ h => h) (by decide) (by kernel_rfl) (Or.inl ⟨by rfl, fun wx _ => by go_simp⟩) g2 ?_
  simp only [Act.put, List.setIfInBounds_toArray, List.set_cons_zero, List.set_cons_succ]
  refine wpAnyL_last (o := { dst := none, op := Op.store 44 (Operand.tmp 26) (Operand.tmp 24), type := 0, pos := "pair.go:102", after := #[{ on := 19, ground := Ground.data }, { on := 17, ground := Ground.data }, { on := 17, ground := Ground.chain }, { on := 0, ground := Ground.phase }, { on := 1, ground := Ground.phase }, { on := 2, ground := Ground.phase }, { on := 3, ground := Ground.phase }, { on := 4, ground := Ground.phase }, { on := 5, ground := Ground.phase }, { on := 6, ground := Ground.phase }, { on := 7, ground := Ground.phase }, { on := 8, ground := Ground.phase }, { on := 9, ground := Ground.phase }, { on := 10, ground := Ground.phase }, { on := 11, ground := Ground.phase }, { on := 12, ground := Ground.phase }, { on := 13, ground := Ground.phase }, { on := 14, ground := Ground.phase }, { on := 15, ground := Ground.phase }, { on := 16, ground := Ground.phase }, { on := 17, ground := Ground.phase }], guard := none }) (by kernel_rfl) (by kernel_rfl) rfl (by rfl) (fun K hK => ?_)
  have c2 := hgf
  go_simp
  refine hK.out _ _ ?_
  clear hK K
  try simp only [Act.put, List.setIfInBounds_toArray, List.set_cons_zero, List.set_cons_succ]
  obtain ⟨w2, hw2⟩ : ∃ w2, w'.setCell ⟨g, o + 1, none⟩ (.slice (some ⟨g', 0, none⟩) (x.t.cs.length + 1) cap') = w2 := ⟨_, rfl⟩
  have HE2 : Hid (EntR B (.slice (some ⟨g, 0, none⟩) (E.length + 1) cap) (E ++ [⟨⟨x.t.id, x.t.nm, x.t.cs ++ [⟨nm, kd, mu, wo, ix⟩]⟩, x.is_, .slice (some ⟨g', 0, none⟩) (x.t.cs.length + 1) cap', vi⟩]) w2) := by
    show EntR _ _ _ _
    rw [← hw2, HO0.out, ← HVI.out]
    refine HEA.out.cols (by rw [HVC.out]; exact HG.out) ?_ (fun k hk => ?_)
    · show World.ownsRow _ _ _ _ _ _ _
      rw [List.length_append, List.flatMap_append]
      exact HO.out
    · simp only [Value.ownBlock, Option.some.injEq] at hk
      subst hk
      rw [HVC.out]
      rcases HAT.out with e | e
      · exact .inl e
      · exact .inr (Nat.le_of_eq e.symm)
  have HO2 : Hid (Only (fun b => b = g ∨ x.vc.ownBlock = some b ∨ x.vi.ownBlock = some b) w w2) := by
    show Only _ _ _
    rw [← hw2]
    exact (((below_only (Below.refl _ w).drew _).trans (below_only HBA.out _) (fun _ e => .inl e)).trans (grown_only HG.out (fun k e => .inr (.inl (by rw [HVC.out]; exact e)))) (fun _ e => .inl e)).trans (Only.set g (o + 1) _ _) (fun b e => .inl (.inl e))
  have hlz : g < w'.heap.size := World.block_lt_of_cell? _ _ g2
  rw [hw2]
  have hb3 := HB3b.out
  clear HB0 HB1 HB2 HKW C1 HBA HRW HGN HF1 hgc hgf g2 HG HAT HO hlt hsl
  cases ix
  · go_wp2
    go_end0
    exact ⟨rfl, _, HE2.out, rfl, by simp, HO2.out⟩
  · have D1 : Hid (w2.drew.cell? ⟨g, o + 2, none⟩ = some vi) := by
      have := World.ownsRow.cellAt (row_len HE2.out.row) (5 * E.length + 4) (by omega)
      rw [flat_at entC_len _ E.length 4 (by simp) (by omega)] at this
      have e : w2.cell? ⟨g, o + 2, none⟩ = some vi := by rw [HO0.out, this]; simp [entC]
      exact e
    go_wp2_with fail
    refine wp_region_late (S := fun wx => wx.cell? ⟨g, o + 2, none⟩ = some vi) (js := 11) (by kernel_rfl) (D1.out) ?_
    intro k0
    refine wpAnyL_take (i := 0) (oi := { dst := some 30, op := Op.move (Operand.tmp 0), type := 108, pos := "pair.go:105", after := #[], guard := none }) (v := .pointer (some ⟨g, o, none⟩)) rfl (by kernel_rfl) (by kernel_rfl) (by kernel_rfl) (fun _ _ _ h => h) (by decide) (by kernel_rfl) (Or.inl ⟨by rfl, fun wx _ => by go_simp⟩) k0 ?_
    simp only [Act.put, List.setIfInBounds_toArray, List.set_cons_zero, List.set_cons_succ]
    refine wpAnyL_take (i := 1) (oi := { dst := some 31, op := Op.move (Operand.tmp 0), type := 108, pos := "pair.go:105", after := #[], guard := none }) (v := .pointer (some ⟨g, o, none⟩)) rfl (by kernel_rfl) (by kernel_rfl) (by kernel_rfl) (fun _ _ _ h => h) (by decide) (by kernel_rfl) (Or.inl ⟨by rfl, fun wx _ => by go_simp⟩) k0 ?_
    simp only [Act.put, List.setIfInBounds_toArray, List.set_cons_zero, List.set_cons_succ]
    refine wpAnyL_take (i := 2) (oi := { dst := some 32, op := Op.nilCheck (Operand.tmp 31), type := 0, pos := "pair.go:105", after := #[{ on := 1, ground := Ground.data }], guard := none }) (v := .pointer (some ⟨g, o, none⟩)) rfl (by kernel_rfl) (by kernel_rfl) (by kernel_rfl) (fun _ _ _ h => h) (by decide) (by kernel_rfl) (Or.inl ⟨by rfl, fun wx _ => by go_simp⟩) k0 ?_
    simp only [Act.put, List.setIfInBounds_toArray, List.set_cons_zero, List.set_cons_succ]
    refine wpAnyL_take (i := 3) (oi := { dst := some 33, op := Op.fieldAddr 46 (Operand.tmp 32) 2, type := 0, pos := "pair.go:105", after := #[{ on := 2, ground := Ground.data }], guard := none }) (v := .pointer (some ⟨g, o + 2, none⟩)) rfl (by kernel_rfl) (by kernel_rfl) (by kernel_rfl) (fun _ _ _ h => h) (by decide) (by kernel_rfl) (Or.inl ⟨by rfl, fun wx _ => by go_simp⟩) k0 ?_
    simp only [Act.put, List.setIfInBounds_toArray, List.set_cons_zero, List.set_cons_succ]
    refine wpAnyL_take (i := 4) (oi := { dst := some 34, op := Op.load 22 (Operand.tmp 33), type := 22, pos := "pair.go:105", after := #[{ on := 3, ground := Ground.data }], guard := none }) (v := vi) rfl (by kernel_rfl) (by kernel_rfl) (by kernel_rfl) (fun _ _ _ h => h) (by decide) (by kernel_rfl) (Or.inl ⟨by rfl, fun wx h => by have h8 := h; go_simp⟩) k0 ?_
    simp only [Act.put, List.setIfInBounds_toArray, List.set_cons_zero, List.set_cons_succ]
    refine wpAnyL_take (i := 5) (oi := { dst := some 35, op := Op.move (Operand.tmp 4), type := 9, pos := "pair.go:105", after := #[], guard := none }) (v := .string nm) rfl (by kernel_rfl) (by kernel_rfl) (by kernel_rfl) (fun _ _ _ h => h) (by decide) (by kernel_rfl) (Or.inl ⟨by rfl, fun wx _ => by go_simp⟩) k0 ?_
    simp only [Act.put, List.setIfInBounds_toArray, List.set_cons_zero, List.set_cons_succ]
    refine wpAnyL_one (i := 6) (o := { dst := some 36, op := Op.call { callee := Callee.value (Operand.func 52), args := #[Operand.tmp 35], argTypes := #[9] }, type := 9, pos := "pair.go:105", after := #[{ on := 5, ground := Ground.data }], guard := none }) (by kernel_rfl) rfl (by decide) (by rfl) (fun K hK => ?_)
    go_simp
    refine (clone_any nm _ (by omega)).mono ?_
    rintro _ w3 ⟨rfl, hb3⟩
    have HB3 : Hid _ := hb3
    clear hb3
    refine hK.out _ _ (keepc HB3.out k0) (fun k1 => ?_)
    clear hK K
    try simp only [Act.put, List.setIfInBounds_toArray, List.set_cons_zero, List.set_cons_succ]
    refine wpAnyL_one (i := 7) (o := { dst := some 37, op := Op.buildSlice 22 1 #[(0, Operand.tmp 36)], type := 22, pos := "pair.go:105", after := #[{ on := 6, ground := Ground.data }], guard := none }) (by kernel_rfl) rfl (by decide) (by rfl) (fun K hK => ?_)
    have HB4 : Hid (Below w3.heap.size w3 (w3.alloc (.cells #[.string nm] 9))) := (Below.refl _ _).alloc (Nat.le_refl _) _
    go_simp
    try simp only [Act.put, List.setIfInBounds_toArray, List.set_cons_zero, List.set_cons_succ]
    refine hK.out _ _ (keepc HB4.out k1) (fun k2 => ?_)
    clear hK K
    try simp only [Act.put, List.setIfInBounds_toArray, List.set_cons_zero, List.set_cons_succ]
    have HE4 : Hid (EntR B (.slice (some ⟨g, 0, none⟩) (E.length + 1) cap) (E ++ [⟨⟨x.t.id, x.t.nm, x.t.cs ++ [⟨nm, kd, mu, wo, true⟩]⟩, x.is_, .slice (some ⟨g', 0, none⟩) (x.t.cs.length + 1) cap', vi⟩]) (w3.alloc (.cells #[.string nm] 9))) := (HE2.out.below ((Below.refl _ _).drew)).below HB3.out |>.below HB4.out
    have HO4 : Hid (Only (fun b => b = g ∨ x.vc.ownBlock = some b ∨ x.vi.ownBlock = some b) w (w3.alloc (.cells #[.string nm] 9))) := ((HO2.out.trans (below_only (Below.refl _ _).drew _) (fun _ e => .inl e)).trans (below_only HB3.out _) (fun _ e => .inl e)).trans (below_only HB4.out _) (fun _ e => .inl e)
    have HIR : Hid (NRow B vi x.is_ (w3.alloc (.cells #[.string nm] 9))) := (HE4.out.cs _ (List.mem_append_right _ (List.mem_singleton.2 rfl))).2
    have HF4 : Hid ((w3.alloc (.cells #[.string nm] 9)).frozen? ⟨g, o + 2, none⟩ = false) := by have := World.ownsRow.frozenAt (row_len HE4.out.row) (o + 2); exact this
    have HGN4 : Hid (some g ≠ vi.ownBlock) := fun e => (HE4.out.split.2.2 _ (.inl rfl)).2 g rfl e.symm
    refine wpAnyL_one (i := 8) (o := { dst := some 38, op := Op.call { callee := Callee.builtin Builtin.append, args := #[Operand.tmp 34, Operand.tmp 37], argTypes := #[22, 22] }, type := 22, pos := "pair.go:105", after := #[{ on := 4, ground := Ground.data }, { on := 7, ground := Ground.data }, { on := 6, ground := Ground.chain }], guard := none }) (by kernel_rfl) rfl (by decide) (by rfl) (fun K hK => ?_)
    refine wp_append_lies _ _ _ 22 rfl B 9 j0 (.string ⟨#[]⟩) 1 16 Tryz.underlying22 hj hy0 hy1 hy2 rfl (by decide) _ _ _ rfl HIR.out ⟨w3.heap.size, 0, none⟩ 1 1 [.string nm] rfl rfl (news_str w3 nm 9) (by intro u hu; simp at hu; subst hu; rfl) (by decide) (by simp only [maxLen]; omega) (by omega) (by have := HO4.out.size; have := HSZ.out; omega) _ rfl ?_
    intro g5 cap5 w5 hO hG hat hlt
    have HO5 : Hid _ := hO
    have HG5 : Hid _ := hG
    have HAT5 : Hid _ := hat
    have hl7 := World.block_lt_of_cell? _ _ k2
    have hgc5 : w5.cell? ⟨g, o + 2, none⟩ = some vi := (cell_of_block (hG.block g hl7 HGN4.out) _).trans k2
    have hgf5 : w5.frozen? ⟨g, o + 2, none⟩ = false := by rw [World.frozen?_of_block (hG.block g hl7 HGN4.out)]; exact HF4.out
    clear hO hG hat
    refine hK.out _ _ (hgc5) (fun k3 => ?_)
    clear hK K
    try simp only [Act.put, List.setIfInBounds_toArray, List.set_cons_zero, List.set_cons_succ]
    refine wpAnyL_one (i := 9) (o := { dst := some 39, op := Op.nilCheck (Operand.tmp 30), type := 0, pos := "pair.go:105", after := #[{ on := 0, ground := Ground.data }, { on := 0, ground := Ground.phase }, { on := 1, ground := Ground.phase }, { on := 2, ground := Ground.phase }, { on := 3, ground := Ground.phase }, { on := 4, ground := Ground.phase }, { on := 5, ground := Ground.phase }, { on := 6, ground := Ground.phase }, { on := 7, ground := Ground.phase }, { on := 8, ground := Ground.phase }], guard := none }) (by kernel_rfl) rfl (by decide) (by rfl) (fun K hK => ?_)
    go_simp
    try simp only [Act.put, List.setIfInBounds_toArray, List.set_cons_zero, List.set_cons_succ]
    refine hK.out _ _ (k3) (fun _ => ?_)
    clear hK K
    try simp only [Act.put, List.setIfInBounds_toArray, List.set_cons_zero, List.set_cons_succ]
    refine wpAnyL_take (i := 10) (oi := { dst := some 40, op := Op.fieldAddr 46 (Operand.tmp 39) 2, type := 0, pos := "pair.go:105", after := #[{ on := 9, ground := Ground.data }, { on := 0, ground := Ground.phase }, { on := 1, ground := Ground.phase }, { on := 2, ground := Ground.phase }, { on := 3, ground := Ground.phase }, { on := 4, ground := Ground.phase }, { on := 5, ground := Ground.phase }, { on := 6, ground := Ground.phase }, { on := 7, ground := Ground.phase }, { on := 8, ground := Ground.phase }], guard := none }) (v := .pointer (some ⟨g, o + 2, none⟩)) rfl (by kernel_rfl) (by kernel_rfl) (by kernel_rfl) (fun _ _ _ h => h) (by decide) (by kernel_rfl) (Or.inl ⟨by rfl, fun wx _ => by go_simp⟩) k3 ?_
    simp only [Act.put, List.setIfInBounds_toArray, List.set_cons_zero, List.set_cons_succ]
    refine wpAnyL_last (o := { dst := none, op := Op.store 22 (Operand.tmp 40) (Operand.tmp 38), type := 0, pos := "pair.go:105", after := #[{ on := 10, ground := Ground.data }, { on := 8, ground := Ground.data }, { on := 8, ground := Ground.chain }, { on := 0, ground := Ground.phase }, { on := 1, ground := Ground.phase }, { on := 2, ground := Ground.phase }, { on := 3, ground := Ground.phase }, { on := 4, ground := Ground.phase }, { on := 5, ground := Ground.phase }, { on := 6, ground := Ground.phase }, { on := 7, ground := Ground.phase }, { on := 8, ground := Ground.phase }], guard := none }) (by kernel_rfl) (by kernel_rfl) rfl (by rfl) (fun K hK => ?_)
    have c2 := hgf5
    go_simp
    refine hK.out _ _ ?_
    clear hK K
    try simp only [Act.put, List.setIfInBounds_toArray, List.set_cons_zero, List.set_cons_succ]
    go_wp2
    go_end0
    refine ⟨rfl, ⟨⟨x.t.id, x.t.nm, x.t.cs ++ [⟨nm, kd, mu, wo, true⟩]⟩, x.is_ ++ [nm], .slice (some ⟨g', 0, none⟩) (x.t.cs.length + 1) cap', .slice (some ⟨g5, 0, none⟩) (x.is_.length + 1) cap5⟩, ?_, rfl, by simp, ?_⟩
    · have e : o + 2 = 5 * E.length + 4 := by have := HO0.out; omega
      rw [e]
      refine HE4.out.idxs HG5.out ?_ (fun k hk => ?_)
      · show World.ownsRow _ _ _ _ _ _ _
        rw [List.length_append, List.map_append]
        exact HO5.out
      · simp only [Value.ownBlock, Option.some.injEq] at hk
        subst hk
        rcases HAT5.out with e | e
        · exact .inl e
        · exact .inr (Nat.le_of_eq e.symm)
    · exact (HO4.out.trans (grown_only HG5.out (fun k e => .inr (.inr (by rw [HVI.out]; exact e)))) (fun _ e => .inl e)).trans (Only.set g (o + 2) _ _) (fun b e => .inl (.inl e))
end Go.Proofs.YteijjaddlkedbaaGreat
