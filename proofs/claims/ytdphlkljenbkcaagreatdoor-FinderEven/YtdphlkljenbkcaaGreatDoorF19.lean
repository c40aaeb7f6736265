/- Texts of the proof of FinderEven: Flf, Fon, Fsz, As, Set, As2, As3, Place, Fnt, Fnn. -/
import Derived.Test.YtdphlkljenbkcaaGreatDoorF18
import Derived.Maps.Own
import Derived.Maps.OwnOps
import Derived.Maps.OwnSet
import Derived.Maps.Ext
import Derived.StringKeys
import Derived.LaidEql
import Derived.Stop.Asserts
import Derived.RowKitTokens
namespace Go.Proofs.YtdphlkljenbkcaaGreatDoor
open Go.RowKit Go.Maps

theorem keyed9 : Keyed Tryz.prog 9 := string_keyed Tryz.underlying9
def kl (k : ByteArray) : Lit := .string k.data.toList
theorem kl_inj {a b : ByteArray} (h : kl a = kl b) : a = b := by
  unfold kl at h
  injection h with h
  exact ba_ext h
theorem kl_ne {a b : ByteArray} (h : a ≠ b) : kl a ≠ kl b := fun e => h (kl_inj e)
theorem kl_key (k : ByteArray) : WideAt.IsKeyLit (kl k) := trivial
theorem kl_of {k : ByteArray} (h : k.size ≤ 1000) : keyOf Tryz.prog 9 (.string k) = some (kl k) := WideMaps.keyOf_string_mk Tryz.underlying9 (Nat.le_trans h (by decide))
/-- an element as it is -/
def heldE (v : Value) : Option (DataW Value × List MemPlace) := some (.held v, [])
theorem heldE_inv {v : Value} {d : DataW Value} {ps : List MemPlace} (h : heldE v = some (d, ps)) : d = .held v := by
  unfold heldE at h
  exact (congrArg Prod.fst (Option.some.inj h)).symm
structure LfD (D : DataW Value) (F : ByteArray → Option Value) : Prop where
  isMap : IsMap D
  has : ∀ k, Maps.has D (kl k) = (F k).isSome
  elem : ∀ k v, F k = some v → ∀ z, D.atKey (kl k) z = .held v
def LfB (m n : Nat) (F : ByteArray → Option Value) (w : World) : Prop := ∃ D : DataW Value, w.ownsMap Tryz.prog 9 heldE m n D ∧ LfD D F
def setF (F : ByteArray → Option Value) (k : ByteArray) (o : Option Value) : ByteArray → Option Value := fun j => if j = k then o else F j
theorem setF_same (F : ByteArray → Option Value) (k : ByteArray) (o : Option Value) : setF F k o k = o := by simp [setF]
theorem setF_other (F : ByteArray → Option Value) {k j : ByteArray} (o : Option Value) (h : j ≠ k) : setF F k o j = F j := by simp [setF, h]
theorem LfD.put {D : DataW Value} {F : ByteArray → Option Value} (h : LfD D F) (k : ByteArray) (v : Value) : LfD (D.put (kl k) (.held v)) (setF F k (some v)) := by
  refine ⟨h.isMap.put _ _, fun j => ?_, fun j u hu z => ?_⟩
  · by_cases e : j = k
    · subst e
      rw [has_put_same h.isMap (kl_key _), setF_same]; rfl
    · rw [has_put_other (kl_ne e), h.has j, setF_other _ _ e]
  · by_cases e : j = k
    · subst e
      rw [setF_same] at hu
      obtain rfl := Option.some.inj hu
      exact atKey_put_same h.isMap (kl_key _) _ z
    · rw [setF_other _ _ e] at hu
      rw [atKey_put_other (kl_ne e)]; exact h.elem j u hu z
theorem LfD.del {D : DataW Value} {F : ByteArray → Option Value} (h : LfD D F) (k : ByteArray) : LfD (D.del (kl k)) (setF F k none) := by
  refine ⟨h.isMap.del _, fun j => ?_, fun j u hu z => ?_⟩
  · by_cases e : j = k
    · subst e
      rw [has_del_same, setF_same]; rfl
    · rw [has_del_other (kl_ne e), h.has j, setF_other _ _ e]
  · by_cases e : j = k
    · subst e
      rw [setF_same] at hu; cases hu
    · rw [setF_other _ _ e] at hu
      rw [atKey_del_other (kl_ne e)]; exact h.elem j u hu z
section
variable {m n : Nat} {F : ByteArray → Option Value} {w w' : World}
theorem LfB.lt (h : LfB m n F w) : m < w.heap.size := by obtain ⟨D, hD, _⟩ := h; exact hD.lt
theorem LfB.block (h : LfB m n F w) (hb : w'.heap[m]? = w.heap[m]?) : LfB m n F w' := by
  obtain ⟨D, ⟨es, clock, hm, F, hs, hD⟩, hM⟩ := h
  exact ⟨D, ⟨es, clock, hb.trans hm, F, hs, hD⟩, hM⟩
theorem LfB.only {S : Nat → Prop} (h : LfB m n F w) (ho : Only S w w') (hs : ¬ S m) : LfB m n F w' := h.block (ho.block m h.lt hs)
theorem LfB.below (h : LfB m n F w) (hb : Below w.heap.size w w') : LfB m n F w' := h.block (hb.block m h.lt)
theorem LfB.new (w : World) : LfB w.heap.size 0 (fun _ => none) (w.alloc (.map #[] 0)) :=
  ⟨.map [], World.ownsMap_made _ _ _ _, ⟨⟨[], rfl⟩, fun k => by simp [has_eq], fun k v h => (by cases h)⟩⟩
end
theorem zero36 (w : World) : (zeroValue 36).run Tryz.prog w = .ok (.slice none 0 0) w := by kernel_rfl
section
variable {ops : Array Oper} {rest : List Oper} {o : Oper} {a : Act} {Q : Exit → Act → World → Prop} {m n : Nat} {F : ByteArray → Option Value}
theorem LfD.look {D : DataW Value} (hM : LfD D F) {k : ByteArray} {v : Value} {ps : List MemPlace} (hv : heldE v = some (D.atKey (kl k) (.held (.slice none 0 0)), ps)) : v = (F k).getD (.slice none 0 0) := by
  have h1 := heldE_inv hv
  cases e : F k with
  | none =>
    have h2 := hM.has k
    rw [e] at h2
    rw [atKey_of_not_has h2] at h1
    injection h1 with h3
    exact h3.symm
  | some u =>
    rw [hM.elem k u e] at h1
    injection h1 with h3
    exact h3.symm
theorem look_lf (w : World) (hg : o.guard = none) (mo x : Operand) (hop : o.op = Op.lookup 126 mo x false) (hS : LfB m n F w) (k : ByteArray) (hk : k.size ≤ 1000) (hm : a.eval mo = .map (some m)) (hx : a.eval x = .string k)
    (hK : wpList Tryz.prog ops Q rest (a.put o.dst ((F k).getD (.slice none 0 0))) w) : wpList Tryz.prog ops Q (o :: rest) a w := by
  obtain ⟨D, hD, hM⟩ := hS
  refine wpList_plain hg fun K' hK' => ?_
  obtain ⟨v, ps, hrun, hv⟩ := hD.lookup keyed9 Tryz.underlying126 (zero36 w) (zd := .held (.slice none 0 0)) (zp := []) rfl (kl_of hk)
  obtain rfl := hM.look hv
  unfold Oper.wp
  simp [execOp, hop, hm, hx, hrun, Result.andThen]
  exact hK' _ _ hK
theorem look2_lf (w : World) (hg : o.guard = none) (mo x : Operand) (hop : o.op = Op.lookup 126 mo x true) (hS : LfB m n F w) (k : ByteArray) (hk : k.size ≤ 1000) (hm : a.eval mo = .map (some m)) (hx : a.eval x = .string k)
    (hK : wpList Tryz.prog ops Q rest (a.put o.dst (.tuple #[(F k).getD (.slice none 0 0), .bool (F k).isSome])) w) : wpList Tryz.prog ops Q (o :: rest) a w := by
  obtain ⟨D, hD, hM⟩ := hS
  refine wpList_lookup_own_ok w hg mo x 126 hop 9 36 keyed9 Tryz.underlying126 heldE (zero36 w) (.held (.slice none 0 0)) [] rfl m n D hm hD _ _ hx (kl_of hk) ?_
  intro v ps hv
  obtain rfl := hM.look hv
  rw [hM.has]
  exact hK
theorem put_lf (w : World) (hg : o.guard = none) (mo x v : Operand) (hop : o.op = Op.mapUpdate 126 mo x v) (hS : LfB m n F w) (hn : n < 1000000) (k : ByteArray) (hk : k.size ≤ 1000) (u : Value) (hm : a.eval mo = .map (some m)) (hx : a.eval x = .string k) (hv : a.eval v = u)
    (hK : ∀ w', LfB m (n + 1) (setF F k (some u)) w' → Only (fun b => b = m) w w' → wpList Tryz.prog ops Q rest (a.put o.dst undef) w') : wpList Tryz.prog ops Q (o :: rest) a w := by
  obtain ⟨D, hD, hM⟩ := hS
  refine wpList_mapUpdate_own w hg mo x v 126 hop 9 36 keyed9 Tryz.underlying126 heldE m n D hm hD (Nat.lt_trans hn (by decide)) _ _ _ hx hv (kl_of hk) (.held u) [] rfl ?_
  intro w' h1 h2
  exact hK w' ⟨_, h1, hM.put k u⟩ (Only.of_grown h2 rfl)
theorem del_lf (w : World) (hg : o.guard = none) (mo x : Operand) (hop : o.op = Op.call { callee := Callee.builtin Builtin.delete, args := #[mo, x], argTypes := #[126, 9] }) (hS : LfB m n F w) (k : ByteArray) (hk : k.size ≤ 1000) (hm : a.eval mo = .map (some m)) (hx : a.eval x = .string k)
    (hK : ∀ w', LfB m n (setF F k none) w' → Only (fun b => b = m) w w' → wpList Tryz.prog ops Q rest (a.put o.dst (.tuple #[])) w') : wpList Tryz.prog ops Q (o :: rest) a w := by
  obtain ⟨D, hD, hM⟩ := hS
  refine wpList_delete_own w hg mo x 126 9 hop 36 keyed9 Tryz.underlying126 heldE m n D hm hD _ _ hx (kl_of hk) ?_
  intro w' h1 h2
  exact hK w' ⟨_, h1, hM.del k⟩ (Only.of_grown h2.grown rfl)
end
/-- the rows that the map has -/
structure LfR (B : Nat) (A : ByteArray → List Pl) (F : ByteArray → Option Value) (w : World) : Prop where
  none : ∀ k, F k = none → A k = []
  row : ∀ k v, F k = some v → w.ownsRow B 43 2 v (A k).length (plc (A k)) ∧ 0 < (A k).length
  ap : ∀ k v j u, F k = some v → F j = some u → k ≠ j → ∀ b, v.ownBlock = some b → u.ownBlock ≠ some b
section
variable {B : Nat} {A : ByteArray → List Pl} {F : ByteArray → Option Value} {w w' : World}
theorem LfR.only {S : Nat → Prop} (h : LfR B A F w) (ho : Only S w w') (hS : ∀ b, S b → b < B) : LfR B A F w' :=
  ⟨h.none, fun k v hv => ⟨row_only (h.row k v hv).1 ho hS, (h.row k v hv).2⟩, h.ap⟩
theorem LfR.below (h : LfR B A F w) (hb : Below w.heap.size w w') : LfR B A F w' := h.only (below_only hb (fun _ => False)) (fun _ e => e.elim)
theorem LfR.del (h : LfR B A F w) (k : ByteArray) {A' : ByteArray → List Pl} (h0 : A' k = []) (h1 : ∀ j, j ≠ k → A' j = A j) : LfR B A' (setF F k Option.none) w := by
  refine ⟨fun j hj => ?_, fun j v hv => ?_, fun j v i u hv hu hne => ?_⟩
  · by_cases e : j = k
    · rw [e]; exact h0
    · rw [setF_other _ _ e] at hj
      rw [h1 j e]; exact h.none j hj
  · by_cases e : j = k
    · subst e; rw [setF_same] at hv; cases hv
    · rw [setF_other _ _ e] at hv
      rw [h1 j e]; exact h.row j v hv
  · by_cases e : j = k
    · subst e; rw [setF_same] at hv; cases hv
    · by_cases e2 : i = k
      · subst e2; rw [setF_same] at hu; cases hu
      · rw [setF_other _ _ e] at hv
        rw [setF_other _ _ e2] at hu
        exact h.ap j v i u hv hu hne
theorem LfR.at (h : LfR B A F w) (k : ByteArray) : w.ownsRow B 43 2 ((F k).getD (.slice Option.none 0 0)) (A k).length (plc (A k)) := by
  cases e : F k with
  | none => rw [h.none k e]; exact World.ownsRow_nil _ _ _ _
  | some v => exact (h.row k v e).1
theorem LfR.put (h : LfR B A F w) (k : ByteArray) {A' : ByteArray → List Pl} {u : Value} (hG : w.grownBy w' ((F k).getD (.slice Option.none 0 0)).ownBlock) (hu : w'.ownsRow B 43 2 u (A' k).length (plc (A' k))) (hp : 0 < (A' k).length) (h1 : ∀ j, j ≠ k → A' j = A j)
    (hat : ∀ b, u.ownBlock = some b → ((F k).getD (.slice Option.none 0 0)).ownBlock = some b ∨ w.heap.size ≤ b) : LfR B A' (setF F k (some u)) w' := by
  have hap : ∀ j v, j ≠ k → F j = some v → ∀ b, v.ownBlock = some b → ((F k).getD (.slice Option.none 0 0)).ownBlock ≠ some b := by
    intro j v hj hv b hb
    cases e : F k with
    | none => intro hx; cases hx
    | some v0 => exact h.ap j v k v0 hv e hj b hb
  have hap2 : ∀ j v, j ≠ k → F j = some v → ∀ b, v.ownBlock = some b → u.ownBlock ≠ some b := by
    intro j v hj hv b hb hub
    rcases hat b hub with e | e
    · exact hap j v hj hv b hb e
    · have := (World.ownsRow.lt (h.row j v hv).1 b hb).2
      omega
  refine ⟨fun j hj => ?_, fun j v hv => ?_, fun j v i u' hv hu' hne => ?_⟩
  · by_cases e : j = k
    · subst e; rw [setF_same] at hj; cases hj
    · rw [setF_other _ _ e] at hj
      rw [h1 j e]; exact h.none j hj
  · by_cases e : j = k
    · subst e; rw [setF_same] at hv
      obtain rfl := Option.some.inj hv
      exact ⟨hu, hp⟩
    · rw [setF_other _ _ e] at hv
      rw [h1 j e]
      refine ⟨?_, (h.row j v hv).2⟩
      exact row_apart (S := fun b => ((F k).getD (.slice Option.none 0 0)).ownBlock = some b) (h.row j v hv).1 (grown_only hG (fun b e => e)) (fun b hb => hap j v e hv b hb)
  · by_cases e : j = k
    · subst e
      rw [setF_same] at hv
      obtain rfl := Option.some.inj hv
      have e2 : i ≠ j := fun e => hne e.symm
      rw [setF_other _ _ e2] at hu'
      exact fun b hb hb2 => hap2 i u' e2 hu' b hb2 hb
    · rw [setF_other _ _ e] at hv
      by_cases e2 : i = k
      · subst e2
        rw [setF_same] at hu'
        obtain rfl := Option.some.inj hu'
        exact fun b hb => hap2 j v e hv b hb
      · rw [setF_other _ _ e2] at hu'
        exact h.ap j v i u' hv hu' hne
end
end Go.Proofs.YtdphlkljenbkcaaGreatDoor
namespace Go.Proofs.YtdphlkljenbkcaaGreatDoor
open Go.RowKit Go.Maps

theorem plcs_snoc (r : Nat) : ∀ (l : List ByteArray) (j : Nat) (x w : ByteArray), plcsF r j (l ++ [x]) w = plcsF r j l w ++ (if x = w then [⟨(r : Int), ((j + l.length : Nat) : Int)⟩] else [])
  | [], j, x, w => by
    rw [List.nil_append, plcsF, plcsF, plcsF]
    split <;> simp
  | y :: l, j, x, w => by
    rw [List.cons_append, plcsF, plcsF, plcs_snoc r l (j + 1) x w, List.length_cons, show j + 1 + l.length = j + (l.length + 1) by omega]
    split <;> simp
theorem plcs_len (r : Nat) : ∀ (l : List ByteArray) (j : Nat) (w : ByteArray), (plcsF r j l w).length ≤ l.length
  | [], j, w => Nat.le_refl _
  | y :: l, j, w => by
    have := plcs_len r l (j + 1) w
    unfold plcsF
    split <;> simp only [List.length_cons] <;> omega
theorem plcs_pos (r : Nat) : ∀ (l : List ByteArray) (j : Nat) (w : ByteArray), w ∈ l → 0 < (plcsF r j l w).length
  | [], j, w, h => by cases h
  | y :: l, j, w, h => by
    unfold plcsF
    by_cases e : y = w
    · rw [if_pos e]; simp
    · rw [if_neg e]
      refine plcs_pos r l (j + 1) w ?_
      rcases List.mem_cons.1 h with h | h
      · exact absurd h.symm e
      · exact h
theorem plcs_none (r : Nat) : ∀ (l : List ByteArray) (j : Nat) (w : ByteArray), w ∉ l → plcsF r j l w = []
  | [], j, w, h => rfl
  | y :: l, j, w, h => by
    unfold plcsF
    rw [if_neg (fun e => h (by rw [e]; simp))]
    exact plcs_none r l (j + 1) w (fun e => h (by simp [e]))
theorem elem22 : Tryz.prog.elem 22 = 9 := by kernel_rfl
theorem size9r : (sizeOf 9).run Tryz.prog = fun w => .ok 1 w := by kernel_rfl
theorem index_str (g n cap i : Nat) (hi : i < n) (wx : World) : (Instr.indexAt 22 (.slice (some ⟨g, 0, none⟩) n cap) (.int .i64 (i : Nat))).run Tryz.prog wx = .ok (.pointer (some ⟨g, i, none⟩)) wx := by
  have := index_many Tryz.underlying22 elem22 size9r g n cap i hi wx
  rw [Nat.one_mul] at this
  exact this
/-- a word of a row of words -/
theorem srow_at {w : World} {B : Nat} {v : Value} {ss : List ByteArray} (h : w.ownsRow B 9 1 v ss.length (sc ss)) {i : Nat} (hi : i < ss.length) : ∃ g cap, v = .slice (some ⟨g, 0, none⟩) ss.length cap ∧ w.cell? ⟨g, i, none⟩ = some (.string ss[i]) := by
  obtain ⟨g, cap, rfl, h1, h2⟩ := World.ownsRow.form h (by omega)
  refine ⟨g, cap, rfl, ?_⟩
  have := h.cells (g := g) rfl i (.string ss[i]) (by unfold sc; rw [List.getElem?_map, List.getElem?_eq_getElem hi]; rfl)
  rw [add_pl, Nat.zero_add] at this
  exact this
theorem Only.shed {S : Nat → Prop} {w w' : World} (h : Only (fun b => S b ∨ w.heap.size ≤ b) w w') : Only S w w' :=
  ⟨h.os, h.tape, h.output, h.size, fun k hk hs => h.block k hk (fun e => by rcases e with e | e; exact hs e; exact absurd hk (by omega))⟩
section
variable {w : World} {ws : List ByteArray} {v : Value} {r Bx : Nat} {W : Nat → Prop} {I : Nat → World → Prop} {fw : Nat} {cw : Array Value}
open Classical in
/-- what is left of the places -/
noncomputable def leftA (r : Nat) (ws : List ByteArray) (i : Nat) (k : ByteArray) : List Pl := if k ∈ ws.take i then [] else plcsF r 0 ws k
theorem leftA_congr {i j : Nat} {k : ByteArray} (h : k ∈ ws.take j ↔ k ∈ ws.take i) : leftA r ws j k = leftA r ws i k := by
  unfold leftA
  by_cases e : k ∈ ws.take i
  · rw [if_pos e, if_pos (h.2 e)]
  · rw [if_neg e, if_neg (fun e2 => e (h.1 e2))]
set_option maxRecDepth 100000 in
set_option maxHeartbeats 4000000 in
theorem once_any (hws : ∀ x ∈ ws, x.size ≤ 100) (hl : ws.length ≤ 100000) (hrow : w.ownsRow Bx 9 1 v ws.length (sc ws)) (hW : ∀ b, W b → b < w.heap.size ∧ v.ownBlock ≠ some b)
    (eg : ∀ args w, (callFunc fw args).run Tryz.prog w = .ok (.enter fw args) w) (hI : I 0 w) (hst : ∀ k wx wy, I k wx → Only (fun b => w.heap.size ≤ b) wx wy → I k wy)
    (hc : ∀ i (hi : i < ws.length) a n c wx, ws[i] ∉ ws.take i → I i wx → w.heap.size ≤ wx.heap.size → wx.ownsRow w.heap.size 43 2 (.slice a n c) (plcsF r 0 ws ws[i]).length (plc (plcsF r 0 ws ws[i])) → n = (plcsF r 0 ws ws[i]).length →
      Calls Tryz.prog fw (#[.string ws[i], .slice a n c] ++ cw) wx fun e w' => e = .returned .nilIface ∧ I (i + 1) w' ∧ Only W wx w')
    (hsk : ∀ i (hi : i < ws.length) wx, ws[i] ∈ ws.take i → I i wx → I (i + 1) wx) :
    Calls Tryz.prog 41 #[v, .int .i64 (r : Nat), .func (.func fw) #[] cw] w fun e w' => e = .returned .nilIface ∧ I ws.length w' ∧ Only W w w' := by
  obtain ⟨i0, hi0, hz0, hz1, hz2⟩ := pinfo_parts infoPl
  obtain ⟨a9, c9, hv9⟩ := row_slice hrow
  obtain ⟨n, hn⟩ : ∃ n, ws.length = n := ⟨_, rfl⟩
  have HN : Hid _ := hn
  rw [hn] at hv9 hl
  subst hv9
  have hmm := @run_makeMap Tryz.prog
  have HROW : Hid _ := hrow
  have HW : Hid _ := hW
  have HI : Hid _ := hI
  have HST : Hid _ := hst
  have HC : Hid _ := hc
  have HSK : Hid _ := hsk
  have HWS : Hid _ := hws
  have hbm : Below w.heap.size w (w.alloc (.map #[] 0)) := (Below.refl _ w).alloc (Nat.le_refl _) _
  have HM0 : Hid (LfB w.heap.size 0 (fun _ => none) (w.alloc (.map #[] 0))) := LfB.new w
  have HBM : Hid _ := hbm
  have HR0 : Hid (∀ wx, Only (fun b => W b ∨ w.heap.size ≤ b) w wx → wx.ownsRow Bx 9 1 (.slice a9 n c9) ws.length (sc ws)) := fun wx ho => row_apart HROW.out ho (fun b e => by
    rintro (e2 | e2)
    · exact (HW.out b e2).2 e
    · have := (World.ownsRow.lt HROW.out b e).2; omega)
  clear hrow hW hI hst hc hsk hws hbm hn
  go_enter Tryz.func41, Tryz.ntmps41
  go_wp2_with fail
  go_loopw [18] (fun iv wr => ∃ (i : Nat) (F : ByteArray → Option Value), i ≤ n ∧ iv = .int .i64 (i : Nat) ∧ Hid (LfB w.heap.size i F wr) ∧ Hid (LfR (w.heap.size + 1) (plcsF r 0 (ws.take i)) F wr) ∧ Hid (Below w.heap.size w wr) ∧ Hid (w.heap.size + 1 ≤ wr.heap.size)) (fun iv _ => n + 1 - (intOf iv).toNat)
  case atStart =>
    refine ⟨0, fun _ => none, Nat.zero_le _, rfl, HM0, ⟨fun k _ => rfl, fun k v h => (by cases h), fun k v j u h => (by cases h)⟩, HBM, ?_⟩
    show _ ≤ _
    rw [World.size_alloc]; omega
  case round =>
    clear HM0
    obtain ⟨i, F, hi, rfl, HM, HR, HB, HSZ⟩ := hrel
    by_cases hlt : i < n
    · have h1 : (i : Int) < (n : Int) := by omega
      have hil : i < ws.length := by rw [HN.out]; exact hlt
      obtain ⟨g, cap, hv, hcell⟩ := srow_at (HR0.out wr (below_only HB.out _)) hil
      rw [HN.out] at hv
      cases hv
      have hix := fun wx => index_str g n c9 i hlt wx
      obtain ⟨wd, hwd⟩ : ∃ wd, ws[i] = wd := ⟨_, rfl⟩
      have HWD : Hid _ := hwd
      have hws1 : wd.size ≤ 1000 := by have := HWS.out _ (List.getElem_mem hil); rw [hwd] at this; omega
      rw [hwd] at hcell
      have hbA : Below wr.heap.size wr (wr.alloc (.cells #[.int .i64 (r : Nat), .int .i64 (i : Nat)] 43)) := (Below.refl _ _).alloc (Nat.le_refl _) _
      have HMA : Hid (LfB w.heap.size i F (wr.alloc (.cells #[.int .i64 (r : Nat), .int .i64 (i : Nat)] 43))) := HM.out.below hbA
      have HRA : Hid (LfR (w.heap.size + 1) (plcsF r 0 (ws.take i)) F (wr.alloc (.cells #[.int .i64 (r : Nat), .int .i64 (i : Nat)] 43))) := HR.out.below hbA
      have HBA : Hid (Below w.heap.size w (wr.alloc (.cells #[.int .i64 (r : Nat), .int .i64 (i : Nat)] 43))) := HB.out.trans (hbA.mono HB.out.size)
      obtain ⟨v0, hv0⟩ : ∃ v0, (F wd).getD (.slice none 0 0) = v0 := ⟨_, rfl⟩
      have HV0 : Hid _ := hv0
      have HAT : Hid ((wr.alloc (.cells #[.int .i64 (r : Nat), .int .i64 (i : Nat)] 43)).ownsRow (w.heap.size + 1) 43 2 v0 (plcsF r 0 (ws.take i) wd).length (plc (plcsF r 0 (ws.take i) wd))) := by
        rw [← hv0]; exact HRA.out.at wd
      have hln : (plcsF r 0 (ws.take i) wd).length ≤ 100000 := by
        have := plcs_len r (ws.take i) 0 wd
        rw [List.length_take] at this
        omega
      have HNW : Hid (∀ (j : Nat) (u : Value), [Value.int .i64 (r : Nat), .int .i64 (i : Nat)][j]? = some u → (wr.alloc (.cells #[.int .i64 (r : Nat), .int .i64 (i : Nat)] 43)).cell? ((⟨wr.heap.size, 0, none⟩ : Addr).add j) = some u) := by
        intro j u hu
        have hV := VarN.new wr #[.int .i64 (r : Nat), .int .i64 (i : Nat)] 43 (by simp)
        rw [add_pl]
        exact hV.get hu
      clear hwd hbA hv0
      go_wp2_with (first | (at_lookup; refine look_lf _ rfl _ _ rfl HM.out wd hws1 rfl rfl ?_; rw [HV0.out]) | (at_builtin; refine wpList_append_lies _ rfl _ _ 36 rfl (w.heap.size + 1) 43 i0 (.agg #[.int .i64 0, .int .i64 0]) 2 16 Tryz.underlying36 hi0 hz0 hz1 hz2 rfl (by decide) _ _ _ rfl HAT.out ⟨wr.heap.size, 0, none⟩ 1 1 [.int .i64 (r : Nat), .int .i64 (i : Nat)] rfl rfl HNW.out (by intro u hu; simp at hu; rcases hu with rfl | rfl <;> rfl) (by decide) (by simp only [maxLen]; omega) (by omega) (by have := HSZ.out; rw [World.size_alloc]; omega) _ rfl ?_; intro g' cap' w' hO hG hat hlt'; have HM3 : Hid (LfB w.heap.size i F w') := HMA.out.block (hG.block _ HMA.out.lt (fun e => by have := (World.ownsRow.lt HAT.out _ e.symm).1; omega))) | (at_mapUpdate; refine put_lf _ rfl _ _ _ rfl HM3.out (by omega) wd hws1 _ rfl rfl rfl ?_; intro w8 hM8 hO8))
      refine ⟨⟨i + 1, _, by omega, by go_num, hM8, ?_, ?_, ?_⟩, by simp [intOf]; omega⟩
      · refine LfR.only (S := fun b => b = w.heap.size) (w := w') ?_ hO8 (fun b e => by omega)
        have hsn := plcs_snoc r (ws.take i) 0 ws[i]
        rw [← List.take_succ_eq_append_getElem hil, HWD.out] at hsn
        have hlt2 : (ws.take i).length = i := by rw [List.length_take]; omega
        have hs1 := hsn wd
        rw [if_pos rfl, hlt2, Nat.zero_add] at hs1
        refine HRA.out.put wd (by rw [HV0.out]; exact hG) ?_ ?_ (fun j hj => ?_) (fun b hb => ?_)
        · rw [hs1, List.length_append, plc_append]
          exact hO
        · rw [hs1, List.length_append]
          show 0 < _ + 1
          omega
        · rw [hsn j, if_neg (fun e => hj e.symm), List.append_nil]
        · rw [HV0.out]
          have hb' : some g' = some b := hb
          obtain rfl := Option.some.inj hb'
          rcases hat with e | e
          · exact .inl e
          · exact .inr (Nat.le_of_eq e.symm)
      · have hB2 : Below w.heap.size w w' := Only.below HBA.out (grown_only (S := fun b => w.heap.size ≤ b) hG (fun b e => by have := (World.ownsRow.lt HAT.out _ e).1; omega)) HBA.out.size (fun _ e => e)
        exact Only.below hB2 hO8 hB2.size (fun b e => by omega)
      · show _ ≤ _
        have e1 := hO8.size
        have e2 := hG.size
        have e3 := HSZ.out
        rw [World.size_alloc] at e2
        omega
    · have h1 : ¬ (i : Int) < (n : Int) := by omega
      obtain rfl : n = i := by omega
      have HRL : Hid (LfR (w.heap.size + 1) (leftA r ws 0) F wr) := by
        have := HR.out
        rw [← HN.out, List.take_length] at this
        have e : leftA r ws 0 = plcsF r 0 ws := by
          funext k
          simp [leftA]
        show LfR _ _ _ _
        rw [e]; exact this
      have HI0 : Hid (I 0 wr) := HST.out 0 w wr HI.out (below_only HB.out _)
      have HB1 : Hid (Only (fun b => W b ∨ w.heap.size ≤ b) w wr) := below_only HB.out _
      clear HR HB HI
      go_wp2_with fail
      go_loopw [36] (fun iv wr => ∃ (i : Nat) (F : ByteArray → Option Value), i ≤ n ∧ iv = .int .i64 (i : Nat) ∧ Hid (LfB w.heap.size n F wr) ∧ Hid (LfR (w.heap.size + 1) (leftA r ws i) F wr) ∧ Hid (I i wr) ∧ Hid (Only (fun b => W b ∨ w.heap.size ≤ b) w wr)) (fun iv _ => n + 1 - (intOf iv).toNat)
      case atStart => exact ⟨0, F, Nat.zero_le _, rfl, HM, HRL, HI0, HB1⟩
      case round =>
        clear HM HRL HI0 HB1
        obtain ⟨i, F, hi, rfl, HM, HRL, HII, HB⟩ := hrel
        by_cases hlt : i < n
        · have h1 : (i : Int) < (n : Int) := by omega
          have hil : i < ws.length := by rw [HN.out]; exact hlt
          obtain ⟨g, cap, hv, hcell⟩ := srow_at (HR0.out wr HB.out) hil
          rw [HN.out] at hv
          cases hv
          have hix := fun wx => index_str g n c9 i hlt wx
          obtain ⟨wd, hwd⟩ : ∃ wd, ws[i] = wd := ⟨_, rfl⟩
          have HWD : Hid _ := hwd
          have hws1 : wd.size ≤ 1000 := by have := HWS.out _ (List.getElem_mem hil); rw [hwd] at this; omega
          rw [hwd] at hcell
          have hnx : ∀ k, k ∈ ws.take (i + 1) ↔ k ∈ ws.take i ∨ k = wd := fun k => by
            rw [List.take_succ_eq_append_getElem hil, hwd, List.mem_append, List.mem_singleton]
          by_cases hin : wd ∈ ws.take i
          · have hF : F wd = none := by
              cases e : F wd with
              | none => rfl
              | some v1 =>
                have := (HRL.out.row wd v1 e).2
                rw [leftA, if_pos hin] at this
                simp at this
            have HL2 : Hid (LfR (w.heap.size + 1) (leftA r ws (i + 1)) F wr) := by
              have e : leftA r ws (i + 1) = leftA r ws i := by
                funext k
                exact leftA_congr ⟨fun h => by rcases (hnx k).1 h with h | h; exact h; rw [h]; exact hin, fun h => (hnx k).2 (.inl h)⟩
              show LfR _ _ _ _
              rw [e]; exact HRL.out
            have HI2 : Hid (I (i + 1) wr) := HSK.out i hil wr (by rw [HWD.out]; exact hin) HII.out
            have HFN : Hid ((F wd).getD (.slice none 0 0) = .slice none 0 0 ∧ (F wd).isSome = false) := ⟨by rw [hF]; rfl, by rw [hF]; rfl⟩
            clear hF hin hnx hwd
            go_wp2_with (at_lookup; refine look2_lf _ rfl _ _ rfl HM.out wd hws1 rfl rfl ?_; rw [HFN.out.1, HFN.out.2])
            go_roundw
            case rel => exact ⟨i + 1, F, by omega, by go_num, HM, HL2, HI2, HB⟩
            case measure => simp [intOf]; omega
          · have hmem : wd ∈ ws := by rw [← hwd]; exact List.getElem_mem hil
            obtain ⟨v1, hF⟩ : ∃ v1, F wd = some v1 := by
              cases e : F wd with
              | some v1 => exact ⟨v1, rfl⟩
              | none =>
                have h1 := HRL.out.none wd e
                rw [leftA, if_neg hin] at h1
                have h2 := plcs_pos r ws 0 wd hmem
                rw [h1] at h2
                simp at h2
            have hr1 := (HRL.out.row wd v1 hF).1
            rw [leftA, if_neg hin] at hr1
            obtain ⟨a1, c1, hv1⟩ := row_slice hr1
            obtain ⟨n1, hn1⟩ : ∃ n1, (plcsF r 0 ws wd).length = n1 := ⟨_, rfl⟩
            rw [hn1] at hv1
            subst hv1
            have HR1 : Hid (wr.ownsRow (w.heap.size + 1) 43 2 (.slice a1 n1 c1) (plcsF r 0 ws wd).length (plc (plcsF r 0 ws wd))) := hr1
            have HN1 : Hid _ := hn1
            have HL2 : Hid (LfR (w.heap.size + 1) (leftA r ws (i + 1)) (setF F wd none) wr) := HRL.out.del wd (by unfold leftA; rw [if_pos ((hnx wd).2 (.inr rfl))]) (fun j hj => leftA_congr ⟨fun h => by rcases (hnx j).1 h with h | h; exact h; exact absurd h hj, fun h => (hnx j).2 (.inl h)⟩)
            have HFN : Hid ((F wd).getD (.slice none 0 0) = .slice a1 n1 c1 ∧ (F wd).isSome = true) := ⟨by rw [hF]; rfl, by rw [hF]; rfl⟩
            have HIN : Hid (¬ ws[i] ∈ ws.take i) := by rw [hwd]; exact hin
            clear hF hin hnx hwd hr1 hn1
            go_wp2_with (first | (at_lookup; refine look2_lf _ rfl _ _ rfl HM.out wd hws1 rfl rfl ?_; rw [HFN.out.1, HFN.out.2]) | (at_delete; refine del_lf _ rfl _ _ rfl HM.out wd hws1 rfl rfl ?_; intro w8 hM8 hO8))
            have HM8 : Hid (LfB w.heap.size n (setF F wd none) w8) := hM8
            have HL8 : Hid (LfR (w.heap.size + 1) (leftA r ws (i + 1)) (setF F wd none) w8) := HL2.out.only hO8 (fun b e => by omega)
            have HB8 : Hid (Only (fun b => W b ∨ w.heap.size ≤ b) w w8) := HB.out.trans hO8 (fun b e => .inl (.inr (Nat.le_of_eq e.symm)))
            have HCC : Hid (Calls Tryz.prog fw (#[.string wd, .slice a1 n1 c1] ++ cw) w8 fun e w' => e = .returned .nilIface ∧ I (i + 1) w' ∧ Only W w8 w') := by
              have h8 : w8.ownsRow w.heap.size 43 2 (.slice a1 n1 c1) (plcsF r 0 ws ws[i]).length (plc (plcsF r 0 ws ws[i])) := by
                rw [HWD.out]
                exact row_base (row_only HR1.out hO8 (fun b e => by omega)) (by omega)
              have := HC.out i hil a1 n1 c1 w8 HIN.out (HST.out i wr w8 HII.out (hO8.mono (fun b e => Nat.le_of_eq e.symm))) HB8.out.size h8 (by rw [HWD.out, HN1.out])
              rw [HWD.out] at this
              exact this
            clear hM8 hO8
            go_wp2_with fail
            refine (show Calls _ _ _ _ _ from HCC.out).mono ?_
            rintro _ w9 ⟨rfl, hi9, ho9⟩
            have HI9 : Hid (I (i + 1) w9) := hi9
            have HM9 : Hid (LfB w.heap.size n (setF F wd none) w9) := HM8.out.only ho9 (fun e => by have := (HW.out _ e).1; omega)
            have HL9 : Hid (LfR (w.heap.size + 1) (leftA r ws (i + 1)) (setF F wd none) w9) := HL8.out.only ho9 (fun b e => by have := (HW.out _ e).1; omega)
            have HB9 : Hid (Only (fun b => W b ∨ w.heap.size ≤ b) w w9) := HB8.out.trans ho9 (fun b e => .inl (.inl e))
            clear hi9 ho9
            go_wp2_with fail
            go_roundw
            case rel => exact ⟨i + 1, _, by omega, by go_num, HM9, HL9, HI9, HB9⟩
            case measure => simp [intOf]; omega
        · have h1 : ¬ (i : Int) < (n : Int) := by omega
          obtain rfl : n = i := by omega
          go_wp2
          go_ret
          exact ⟨rfl, by rw [HN.out]; exact HII.out, HB.out.shed⟩
end
end Go.Proofs.YtdphlkljenbkcaaGreatDoor
namespace Go.Proofs.YtdphlkljenbkcaaGreatDoor
open Go.RowKit Go.Maps

theorem num1 {n : Nat} (h : n < 128) : (numL n).length = 1 := by rw [numL_small h]; rfl
theorem enc_same (r : Nat) : ∀ (ws : List ByteArray) (i : Nat) (w : ByteArray) (p : Pl), i + ws.length ≤ 20 → p.r = (r : Int) → 0 ≤ p.a → p.a ≤ (i : Int) → (encFrom p (plcsF r i ws w)).length ≤ (plcsF r i ws w).length
  | [], _, _, _, _, _, _, _ => Nat.le_refl _
  | x :: t, i, w, p, hi, h1, h2, h3 => by
    simp only [List.length_cons] at hi
    unfold plcsF
    split
    · have ih := enc_same r t (i + 1) w ⟨(r : Int), (i : Int)⟩ (by omega) rfl (by show (0 : Int) ≤ (i : Int); omega) (by show (i : Int) ≤ ((i + 1 : Nat) : Int); omega)
      rw [encFrom, List.length_append, List.length_cons]
      have : (encP p ⟨(r : Int), (i : Int)⟩).length = 1 := by
        unfold encP
        rw [if_pos h1.symm]
        exact num1 (by show (2 * ((i : Int) - p.a)).toNat < 128; omega)
      omega
    · exact enc_same r t (i + 1) w p (by omega) h1 h2 (by omega)
theorem enc_new (r : Nat) (hr : 1 ≤ r) (hr2 : r ≤ 2000) : ∀ (ws : List ByteArray) (i : Nat) (w : ByteArray), i + ws.length ≤ 20 → (encFrom ⟨0, 0⟩ (plcsF r i ws w)).length ≤ (plcsF r i ws w).length + 2
  | [], _, _, _ => by simp [plcsF, encFrom]
  | x :: t, i, w, hi => by
    simp only [List.length_cons] at hi
    unfold plcsF
    split
    · have ih := enc_same r t (i + 1) w ⟨(r : Int), (i : Int)⟩ (by omega) rfl (by show (0 : Int) ≤ (i : Int); omega) (by show (i : Int) ≤ ((i + 1 : Nat) : Int); omega)
      rw [encFrom, List.length_append, List.length_cons]
      have : (encP ⟨0, 0⟩ ⟨(r : Int), (i : Int)⟩).length ≤ 3 := by
        unfold encP
        rw [if_neg (by show ¬ (r : Int) = 0; omega), List.length_append]
        have h1 : (numL (i : Int).toNat).length = 1 := num1 (by omega)
        have h2 := numL_len 1 (2 * ((r : Int) - 0) + 1).toNat (by omega)
        show (numL (2 * ((r : Int) - 0) + 1).toNat).length + (numL (i : Int).toNat).length ≤ 3
        omega
      omega
    · exact enc_new r hr hr2 t (i + 1) w (by omega)
theorem Nt.Ok.right {t : Nt} (h : t.Ok) (w : ByteArray) : rightL (plcsF t.r 0 t.ws w) = true := plcs_from t.r h.lo h.hi t.ws 0 w (by have := h.len; omega) ⟨0, 0⟩ (.inr ⟨by decide, by show (0 : Int) < (t.r : Int); have := h.lo; omega⟩)
theorem Nt.Ok.enc {t : Nt} (h : t.Ok) (w : ByteArray) : (encPl (plcsF t.r 0 t.ws w)).length ≤ 22 := by
  have h1 := enc_new t.r h.lo h.hi t.ws 0 w (by have := h.len; omega)
  have h2 := plcs_len t.r t.ws 0 w
  have h3 := h.len
  unfold encPl
  omega
theorem Nt.Ok.piece {t : Nt} (h : t.Ok) {w : ByteArray} (hw : w ∈ t.ws) : (t.piece w).Ok ∧ (t.piece w).sz ≤ 43 := by
  have h1 := (h.ws w hw).le
  have h2 := h.enc w
  have hk : (t.piece w).k.size = w.size + 7 := by
    show (keyF nN w t.r).size = _
    rw [keyF_size]
    show 1 + w.size + 6 = _
    omega
  have hi : (t.piece w).i.size ≤ 22 := by
    show (encPl (plcsF t.r 0 t.ws w)).toArray.size ≤ 22
    rw [List.size_toArray]; exact h2
  refine ⟨⟨by omega, by omega, by omega⟩, ?_⟩
  unfold Pr.sz
  omega
def Nt.pc (t : Nt) (w : ByteArray) : Pc := ⟨w, t.r, plcsF t.r 0 t.ws w⟩
theorem Nt.pc_pr (t : Nt) (w : ByteArray) : (t.pc w).pr = t.piece w := rfl
theorem Nt.Ok.pc {t : Nt} (h : t.Ok) {w : ByteArray} (hw : w ∈ t.ws) : (t.pc w).Ok :=
  ⟨h.ws w hw, by have := h.hi; show t.r < _; omega, h.right w, plcs_pos _ _ _ _ hw, by have := plcs_len t.r t.ws 0 w; have := h.len; show (plcsF t.r 0 t.ws w).length ≤ 20; omega, by have := h.enc w; show (encPl (plcsF t.r 0 t.ws w)).length ≤ 100; omega⟩
end Go.Proofs.YtdphlkljenbkcaaGreatDoor
namespace Go.Proofs.YtdphlkljenbkcaaGreatDoor
open Go.RowKit Go.Extern.Stop Go.Stop Go.Extern

theorem Tryz.valueOf68 (t : Addr) (w : World) : (ReflectliteValue.unpack (.iface 125 (.pointer (some t)))).run Tryz.prog w
    = .ok (.agg #[.pointer (some ⟨3, 125, none⟩), .pointer (some ⟨w.heap.size, 0, none⟩), .int .u64 150]) (w.alloc (.cells #[.pointer (some t)] 125)) := by kernel_rfl
theorem Tryz.type68 (a : Addr) (w : World) : (ReflectliteValue.methodAny (ReflectliteValue.valueError "reflectlite.Value.Type" 0) (fun t _ _ _ => ReflectliteType.toType t) #[.agg #[.pointer (some ⟨3, 125, none⟩), .pointer (some a), .int .u64 150]]).run Tryz.prog w
    = .ok (.iface 172 (.agg #[.pointer (some ⟨3, 125, none⟩)])) w := by kernel_rfl
theorem Tryz.methodKind (h : Value) (w : World) : (Go.method 342 172 (.agg #[h]) "Kind").run Tryz.prog w = .ok (162, h) w := by kernel_rfl
theorem Tryz.kind68 (w : World) : ((ReflectliteType.abiMethod fun t => (fun a : Nat => Value.int IntKind.u8 (a : Int)) <$> Rtype.kind t) #[.pointer (some ⟨3, 125, none⟩)]).run Tryz.prog w = .ok (.int .u8 22) w := by kernel_rfl
theorem Tryz.kind24 (w : World) : ((ReflectliteType.abiMethod fun t => (fun a : Nat => Value.int IntKind.u8 (a : Int)) <$> Rtype.kind t) #[.pointer (some ⟨3, 57, none⟩)]).run Tryz.prog w = .ok (.int .u8 2) w := by kernel_rfl
theorem Tryz.parts68 (a : Addr) (w : World) : (ReflectliteValue.parts (.agg #[.pointer (some ⟨3, 125, none⟩), .pointer (some a), .int .u64 150])).run Tryz.prog w = .ok (some (125, a, 150)) w := by kernel_rfl
theorem Tryz.isNil68 (a p : Addr) (W : World) (ha : W.cell? a = some (.pointer (some p))) :
    (ReflectliteValue.method (ReflectliteValue.valueError "reflectlite.Value.IsNil" 0) ReflectliteValue.isNil #[.agg #[.pointer (some ⟨3, 125, none⟩), .pointer (some a), .int .u64 150]]).run Tryz.prog W = .ok (.bool false) W := by
  change Sem.run Tryz.prog (ReflectliteValue.parts (.agg #[.pointer (some ⟨3, 125, none⟩), .pointer (some a), .int .u64 150]) >>= _) W = _
  simp only [Sem.run_bind, Tryz.parts68, Result.andThen]
  simp [ReflectliteValue.isNil, loadVar, isAgg, underlying, Tryz.underlying125, ha, Result.andThen]
theorem Tryz.methodElem (h : Value) (w : World) : (Go.method 342 172 (.agg #[h]) "Elem").run Tryz.prog w = .ok (174, .agg #[h]) w := by kernel_rfl
theorem Tryz.methodImplements (h : Value) (w : World) : (Go.method 342 172 (.agg #[h]) "Implements").run Tryz.prog w = .ok (175, .agg #[h]) w := by kernel_rfl
theorem Tryz.methodAssignableTo (h : Value) (w : World) : (Go.method 342 172 (.agg #[h]) "AssignableTo").run Tryz.prog w = .ok (172, .agg #[h]) w := by kernel_rfl
theorem Tryz.elem68 (w : World) : (ReflectliteType.method ReflectliteType.elem #[.agg #[.pointer (some ⟨3, 125, none⟩)]]).run Tryz.prog w = .ok (.iface 172 (.agg #[.pointer (some ⟨3, 57, none⟩)])) w := by kernel_rfl
theorem Tryz.implements24 (w : World) : (ReflectliteType.relation "Implements" ReflectliteType.implements_ #[.agg #[.pointer (some ⟨3, 57, none⟩)], .iface 172 (.agg #[.pointer (some ⟨3, 28, none⟩)])]).run Tryz.prog w = .ok (.bool true) w := by kernel_rfl
theorem Tryz.typeOf24 (v : Value) (w : World) : (ReflectliteType.typeOf #[.iface 57 v]).run Tryz.prog w = .ok (.iface 172 (.agg #[.pointer (some ⟨3, 57, none⟩)])) w := by kernel_rfl
theorem Tryz.assignable24 (w : World) : (ReflectliteType.relation "AssignableTo" ReflectliteType.assignableTo #[.agg #[.pointer (some ⟨3, 57, none⟩)], .iface 172 (.agg #[.pointer (some ⟨3, 57, none⟩)])]).run Tryz.prog w = .ok (.bool true) w := by kernel_rfl
theorem Tryz.valueOf24 (n : Int) (w : World) : (ReflectliteValue.unpack (.iface 57 (.int .i64 n))).run Tryz.prog w
    = .ok (.agg #[.pointer (some ⟨3, 57, none⟩), .pointer (some ⟨w.heap.size, 0, none⟩), .int .u64 130]) (w.alloc (.cells #[.int .i64 n] 57)) := by kernel_rfl
theorem Tryz.elemOf68 (w : World) : (Rtype.elem? 125).run Tryz.prog w = .ok (some 57) w := by kernel_rfl
theorem Tryz.mk24 (p : Addr) (w : World) : (ReflectliteValue.mk 57 p ReflectliteValue.flagAddr).run Tryz.prog w = .ok (.agg #[.pointer (some ⟨3, 57, none⟩), .pointer (some p), .int .u64 386]) w := by kernel_rfl
theorem Tryz.elemV68 (a p : Addr) (W : World) (ha : W.cell? a = some (.pointer (some p))) :
    (ReflectliteValue.method (ReflectliteValue.valueError "reflectlite.Value.Elem" 0) ReflectliteValue.elem #[.agg #[.pointer (some ⟨3, 125, none⟩), .pointer (some a), .int .u64 150]]).run Tryz.prog W
      = .ok (.agg #[.pointer (some ⟨3, 57, none⟩), .pointer (some p), .int .u64 386]) W := by
  change Sem.run Tryz.prog (ReflectliteValue.parts (.agg #[.pointer (some ⟨3, 125, none⟩), .pointer (some a), .int .u64 150]) >>= _) W = _
  simp only [Sem.run_bind, Tryz.parts68, Result.andThen]
  simp [ReflectliteValue.elem, loadVar, isAgg, underlying, Tryz.underlying125, ha, Result.andThen, Tryz.elemOf68, Tryz.mk24]
end Go.Proofs.YtdphlkljenbkcaaGreatDoor
namespace Go.Proofs.YtdphlkljenbkcaaGreatDoor
open Go.RowKit Go.Extern.Stop Go.Stop Go.Extern

theorem Tryz.parts24a (a : Addr) (w : World) : (ReflectliteValue.parts (.agg #[.pointer (some ⟨3, 57, none⟩), .pointer (some a), .int .u64 386])).run Tryz.prog w = .ok (some (57, a, 386)) w := by kernel_rfl
theorem Tryz.parts24 (a : Addr) (w : World) : (ReflectliteValue.parts (.agg #[.pointer (some ⟨3, 57, none⟩), .pointer (some a), .int .u64 130])).run Tryz.prog w = .ok (some (57, a, 130)) w := by kernel_rfl
theorem Tryz.direct24 (w : World) : (Rtype.directlyAssignable 57 57).run Tryz.prog w = .ok true w := by kernel_rfl
theorem Tryz.set24 (ta b : Addr) (n : Int) (old : Value) (W : World) (hb : W.cell? b = some (.int .i64 n)) (ht : W.cell? ta = some old) (hf : W.frozen? ta = false) :
    (ReflectliteValue.set #[.agg #[.pointer (some ⟨3, 57, none⟩), .pointer (some ta), .int .u64 386], .agg #[.pointer (some ⟨3, 57, none⟩), .pointer (some b), .int .u64 130]]).run Tryz.prog W
      = .ok (.tuple #[]) (W.setCell ta (.int .i64 n)) := by
  change Sem.run Tryz.prog (ReflectliteValue.parts (.agg #[.pointer (some ⟨3, 57, none⟩), .pointer (some ta), .int .u64 386]) >>= fun p => ReflectliteValue.parts (.agg #[.pointer (some ⟨3, 57, none⟩), .pointer (some b), .int .u64 130]) >>= _) W = _
  simp only [Sem.run_bind, Tryz.parts24a, Tryz.parts24, Result.andThen]
  simp [ReflectliteValue.flagAddr, loadVar, isAgg, underlying, Tryz.underlying57, hb, Result.andThen, Tryz.direct24, storeVar, Value.cells, storeCells, Addr.add]
  rw [run_store Tryz.prog W ta _ _ (by rfl)]
  simp [ht, hf]
end Go.Proofs.YtdphlkljenbkcaaGreatDoor
namespace Go.Proofs.YtdphlkljenbkcaaGreatDoor
open Go.RowKit Go.Extern.Stop Go.Stop Go.Extern

set_option maxRecDepth 100000 in
set_option maxHeartbeats 2000000 in
theorem as37_hit (n : Int) (t a : Addr) (old : Value) (w : World) (ha : w.cell? a = some (.pointer (some t))) (ht0 : w.cell? t = some old) (hf0 : w.frozen? t = false) :
    Calls Tryz.prog 91 #[.iface 57 (.int .i64 n), .iface 125 (.pointer (some t)), .agg #[.pointer (some ⟨3, 125, none⟩), .pointer (some a), .int .u64 150], .iface 172 (.agg #[.pointer (some ⟨3, 57, none⟩)])] w
      fun ev w' => ev = .returned (.bool true) ∧ w'.cell? t = some (.int .i64 n) ∧ Below t.block w w' := by
  have h34 := @run_callFunc_extern Tryz.prog 88 _ (fun args => ReflectliteValue.unpack (args.getD 0 (.tuple #[]))) Tryz.func88 (by kernel_rfl) (by kernel_rfl) (by kernel_rfl) (by kernel_rfl)
  have h38 := @run_callFunc_extern Tryz.prog 114 _ ReflectliteType.typeOf Tryz.func114 (by kernel_rfl) (by kernel_rfl) (by kernel_rfl) (by kernel_rfl)
  have h65 := @run_callFunc_extern Tryz.prog 172 _ (ReflectliteType.relation "AssignableTo" ReflectliteType.assignableTo) Tryz.func172 (by kernel_rfl) (by kernel_rfl) (by kernel_rfl) (by kernel_rfl)
  have h39 := @run_callFunc_extern Tryz.prog 115 _ (ReflectliteValue.method (ReflectliteValue.valueError "reflectlite.Value.Elem" 0) ReflectliteValue.elem) Tryz.func115 (by kernel_rfl) (by kernel_rfl) (by kernel_rfl) (by kernel_rfl)
  have h40 := @run_callFunc_extern Tryz.prog 116 _ ReflectliteValue.set Tryz.func116 (by kernel_rfl) (by kernel_rfl) (by kernel_rfl) (by kernel_rfl)
  have tO := Tryz.typeOf24
  have mA := Tryz.methodAssignableTo
  have a24 := Tryz.assignable24
  have v24 := Tryz.valueOf24
  have htl : t.block < w.heap.size := World.block_lt_of_cell? w _ ht0
  have hal : a.block < w.heap.size := World.block_lt_of_cell? w _ ha
  have el := Tryz.elemV68 a t (w.alloc (.cells #[.pointer (some ⟨3, 125, none⟩), .pointer (some a), .int .u64 150] 147)) (by rw [World.cell?_alloc_lt _ _ a hal]; exact ha)
  have st := Tryz.set24 t ⟨w.heap.size + 1, 0, none⟩ n old ((w.alloc (.cells #[.pointer (some ⟨3, 125, none⟩), .pointer (some a), .int .u64 150] 147)).alloc (.cells #[.int .i64 n] 57))
    (by rw [World.cell?_alloc_at _ _ _ _ (by simp)]; rfl)
    (by rw [World.cell?_alloc_lt _ _ t (by simp; omega), World.cell?_alloc_lt _ _ t htl]; exact ht0)
    (by rw [World.frozen?_alloc_old _ _ t (by simp; omega), World.frozen?_alloc_old _ _ t (Nat.ne_of_lt htl)]; exact hf0)
  go_enter Tryz.func91, Tryz.ntmps91
  go_wp2
  refine wp_loop_rounds 1 ?_
  rw [rounds_succ]
  go_wp2
  go_ret
  refine ⟨rfl, World.cell?_setCell_same _ _ _ (u := old) (by rw [World.cell?_alloc_lt _ _ t (by simp; omega), World.cell?_alloc_lt _ _ t htl]; exact ht0), ?_⟩
  exact (((Below.refl t.block w).alloc (Nat.le_of_lt htl) _).alloc (by simp; omega) _).setCell (Nat.le_refl _) _

end Go.Proofs.YtdphlkljenbkcaaGreatDoor
namespace Go.Proofs.YtdphlkljenbkcaaGreatDoor
open Go.RowKit Go.Extern.Stop Go.Stop Go.Extern

set_option maxRecDepth 100000 in
set_option maxHeartbeats 2000000 in
theorem as31_hit  (n : Int) (t : Addr) (old : Value) (w : World) (hg : w.cell? ⟨1, 0, none⟩ = some (.iface 172 (.agg #[.pointer (some ⟨3, 28, none⟩)]))) (ht0 : w.cell? t = some old) (hf0 : w.frozen? t = false) :
    Calls Tryz.prog 63 #[.iface 57 (.int .i64 n), .iface 125 (.pointer (some t))] w fun ev w' => ev = .returned (.bool true) ∧ w'.cell? t = some (.int .i64 n) ∧ Below t.block w w' := by
  have h34 := @run_callFunc_extern Tryz.prog 88 _ (fun args => ReflectliteValue.unpack (args.getD 0 (.tuple #[]))) Tryz.func88 (by kernel_rfl) (by kernel_rfl) (by kernel_rfl) (by kernel_rfl)
  have h35 := @run_callFunc_extern Tryz.prog 89 _ (ReflectliteValue.methodAny (ReflectliteValue.valueError "reflectlite.Value.Type" 0) (fun t _ _ _ => ReflectliteType.toType t)) Tryz.func89 (by kernel_rfl) (by kernel_rfl) (by kernel_rfl) (by kernel_rfl)
  have h36 := @run_callFunc_extern Tryz.prog 90 _ (ReflectliteValue.method (ReflectliteValue.valueError "reflectlite.Value.IsNil" 0) ReflectliteValue.isNil) Tryz.func90 (by kernel_rfl) (by kernel_rfl) (by kernel_rfl) (by kernel_rfl)
  have h55 := @run_callFunc_extern Tryz.prog 162 _ (ReflectliteType.abiMethod fun t => do pure (.int .u8 (← Rtype.kind t))) Tryz.func162 (by kernel_rfl) (by kernel_rfl) (by kernel_rfl) (by kernel_rfl)
  have h67 := @run_callFunc_extern Tryz.prog 174 _ (ReflectliteType.method ReflectliteType.elem) Tryz.func174 (by kernel_rfl) (by kernel_rfl) (by kernel_rfl) (by kernel_rfl)
  have h68 := @run_callFunc_extern Tryz.prog 175 _ (ReflectliteType.relation "Implements" ReflectliteType.implements_) Tryz.func175 (by kernel_rfl) (by kernel_rfl) (by kernel_rfl) (by kernel_rfl)
  have f34 := Tryz.valueOf68
  have f35 := Tryz.type68
  have mK := Tryz.methodKind
  have mE := Tryz.methodElem
  have mI := Tryz.methodImplements
  have k68 := Tryz.kind68
  have k24 := Tryz.kind24
  have e68 := Tryz.elem68
  have i24 := Tryz.implements24
  have htl : t.block < w.heap.size := World.block_lt_of_cell? w _ ht0
  have hlt : 1 < w.heap.size := World.block_lt_of_cell? w _ hg
  have n36 := Tryz.isNil68 ⟨w.heap.size, 0, none⟩ t ((w.alloc (.cells #[.pointer (some t)] 125)).alloc (.cells #[.pointer (some ⟨3, 125, none⟩), .pointer (some ⟨w.heap.size, 0, none⟩), .int .u64 150] 147)) (by simp)
  have hg2 : ((w.alloc (.cells #[.pointer (some t)] 125)).alloc (.cells #[.pointer (some ⟨3, 125, none⟩), .pointer (some ⟨w.heap.size, 0, none⟩), .int .u64 150] 147)).cell? ⟨1, 0, none⟩ = some (.iface 172 (.agg #[.pointer (some ⟨3, 28, none⟩)])) := by
    rw [World.cell?_alloc_lt _ _ ⟨1, 0, none⟩ (by simp; omega), World.cell?_alloc_lt _ _ ⟨1, 0, none⟩ hlt]; exact hg
  go_enter Tryz.func63, Tryz.ntmps63
  go_wp2_with fail
  refine (as37_hit n t ⟨w.heap.size, 0, none⟩ old _
    (by rw [World.cell?_alloc_lt _ _ ⟨w.heap.size, 0, none⟩ (by simp)]; simp)
    (by rw [World.cell?_alloc_lt _ _ t (by simp; omega), World.cell?_alloc_lt _ _ t htl]; exact ht0)
    (by rw [World.frozen?_alloc_old _ _ t (by simp; omega), World.frozen?_alloc_old _ _ t (Nat.ne_of_lt htl)]; exact hf0)).mono ?_
  rintro _ w1 ⟨rfl, hc, hb1⟩
  go_wp2
  go_ret
  exact ⟨rfl, hc, (((Below.refl t.block w).alloc (Nat.le_of_lt htl) _).alloc (by simp; omega) _).trans hb1⟩

end Go.Proofs.YtdphlkljenbkcaaGreatDoor
namespace Go.Proofs.YtdphlkljenbkcaaGreatDoor
open Go.RowKit Go.Extern.Stop Go.Stop Go.Extern

def HG (w : World) : Prop := w.cell? ⟨1, 0, none⟩ = some (.iface 172 (.agg #[.pointer (some ⟨3, 28, none⟩)]))
theorem HG.lt {w : World} (h : HG w) : 1 < w.heap.size := World.block_lt_of_cell? w _ h
theorem HG.below {w w' : World} {B : Nat} (h : HG w) (hb : Below B w w') (hB : 1 < B) : HG w' := (hb.cell (p := ⟨1, 0, none⟩) hB).trans h

theorem tell_nil (w : World) : Calls Tryz.prog 40 #[.nilIface] w fun e w' => e = .returned (.int .i64 0) ∧ w' = w := by
  go_enter Tryz.func40, Tryz.ntmps40
  go_wp2
  go_ret
  exact ⟨rfl, rfl⟩

set_option maxRecDepth 100000 in
set_option maxHeartbeats 1000000 in
theorem tell_hit (n : Int) (w : World) (hg : HG w) : Calls Tryz.prog 40 #[.iface 57 (.int .i64 n)] w fun e w' => e = .returned (.int .i64 n) ∧ Below w.heap.size w w' := by
  have hg2 : (w.alloc (.cells #[.int .i64 0] 57)).cell? ⟨1, 0, none⟩ = some (.iface 172 (.agg #[.pointer (some ⟨3, 28, none⟩)])) := by
    rw [World.cell?_alloc_lt _ _ ⟨1, 0, none⟩ hg.lt]; exact hg
  have HGH : Hid _ := hg2
  clear hg2 hg
  go_enter Tryz.func40, Tryz.ntmps40
  go_wp2_with fail
  refine (as31_hit n ⟨w.heap.size, 0, none⟩ (.int .i64 0) _ HGH.out (by simp) (by simp)).mono ?_
  rintro _ w1 ⟨rfl, hc, hb1⟩
  have hb : Below w.heap.size w w1 := ((Below.refl _ w).alloc (Nat.le_refl _) _).trans hb1
  clear hb1
  go_wp2
  go_ret
  exact ⟨rfl, hb⟩

theorem Tryz.ta60n (n : Int) (w : World) : (Instr.typeAssert (.iface 57 (.int .i64 n)) 28 180 true).run Tryz.prog w = .ok (.tuple #[.nilIface, .bool false]) w := run_typeAssert_lacksB Tryz.underlying180 (by kernel_rfl) (by kernel_rfl) _ _ w
end Go.Proofs.YtdphlkljenbkcaaGreatDoor
namespace Go.Proofs.YtdphlkljenbkcaaGreatDoor
open Go.RowKit Go.Maps

section
variable {bf bt bp bd bm N Z : Nat} {up : Nat → Bool} {V : Pst} {T : Tr} {M M' : Pr → Prop} {w w' : World}
theorem Fs.only {S : Nat → Prop} (h : Fs bf bt bp bd bm N up V T w) (ho : Only S w w') (h1 : ¬ S bf) (h2 : ¬ S bt) (h3 : ¬ S bp) (h4 : ¬ S bm) (h5 : ¬ S bd) : Fs bf bt bp bd bm N up V T w' :=
  ⟨h.c.only ho h1, h.t.only ho h2, h.tw.only ho h3 h4 h5, h.a, h.so, h.ne, h.nc⟩
theorem PrS.only {S : Nat → Prop} (h : PrS bf bt bp bd bm N Z M w) (ho : Only S w w') (h1 : ¬ S bf) (h2 : ¬ S bt) (h3 : ¬ S bp) (h4 : ¬ S bm) (h5 : ¬ S bd) : PrS bf bt bp bd bm N Z M w' := by
  obtain ⟨N1, up, V, T, k1, k2, k3⟩ := h
  exact ⟨N1, up, V, T, k1, k2.only ho h1 h2 h3 h4 h5, k3⟩
theorem PrS.lt (h : PrS bf bt bp bd bm N Z M w) : bf < w.heap.size ∧ bt < w.heap.size ∧ bp < w.heap.size ∧ bm < w.heap.size ∧ bd < w.heap.size := by
  obtain ⟨N1, up, V, T, k1, k2, k3⟩ := h
  exact ⟨k2.c.lt, k2.t.lt, k2.tw.lt.1, k2.tw.lt.2.1, k2.tw.lt.2.2⟩
/-- what is far above stands for itself -/
theorem PrS.above {n : Nat} (h : PrS bf bt bp bd bm N Z M w) (ho : Only (fun b => n ≤ b) w w') (hn : bf < n ∧ bt < n ∧ bp < n ∧ bm < n ∧ bd < n) : PrS bf bt bp bd bm N Z M w' := by
  obtain ⟨h1, h2, h3, h4, h5⟩ := hn
  exact h.only ho (by omega) (by omega) (by omega) (by omega) (by omega)
/-- the same set: the same row -/
theorem PrS.same {bf' bt' bp' bd' bm' N' Z' : Nat} (h : PrS bf bt bp bd bm N Z M w) (h' : PrS bf' bt' bp' bd' bm' N' Z' M w') : PrS bf' bt' bp' bd' bm' N' Z M w' := by
  obtain ⟨N1, up, V, T, k1, k2, k3, k4⟩ := h
  obtain ⟨N2, up2, V2, T2, j1, j2, j3, j4⟩ := h'
  have e := sorted_ext T2.all T.all j2.sorted k2.sorted (fun x => (j4 x).trans (k4 x).symm)
  exact ⟨N2, up2, V2, T2, j1, j2, by rw [e]; exact k3, j4⟩
/-- Get of what is not there -/
theorem get_no (h : PrS bf bt bp bd bm N Z M w) {key : ByteArray} (hk : ∀ y, M y → y.k ≠ key) :
    Calls Tryz.prog 38 #[.pointer (some ⟨bt, 0, none⟩), .string key] w fun e w' => e = .returned (.tuple #[.string ⟨#[]⟩, .iface 57 (.int .i64 7)]) ∧ Below w.heap.size w w' := by
  obtain ⟨N1, up, V, T, k1, k2, k3, k4⟩ := h
  refine (get_any k2.t k2.tw k2.a key).mono ?_
  rintro e w' ⟨hg, hb⟩
  rcases hg with ⟨x, hx, hxk, _⟩ | ⟨_, rfl⟩
  · exact absurd hxk (hk x ((k4 x).1 hx))
  · exact ⟨rfl, hb⟩
set_option maxRecDepth 100000 in
set_option maxHeartbeats 2000000 in
theorem fresh_any {ws : List ByteArray} {v : Value} {r Bx : Nat} (h : PrS bf bt bp bd bm N Z M w) (hg : HG w) (hws : ∀ x ∈ ws, x.size ≤ 100) (hl : ws.length ≤ 100000) (hrow : w.ownsRow Bx 9 1 v ws.length (sc ws)) (hno : ∀ x ∈ ws, ∀ y, M y → y.k ≠ keyF nN x r) :
    Calls Tryz.prog 20 #[.pointer (some ⟨bf, 0, none⟩), .string nN, .int .i64 (r : Nat), v] w fun e w' => e = .returned .nilIface ∧ Below w.heap.size w w' := by
  obtain ⟨a9, c9, hv9⟩ := row_slice hrow
  obtain ⟨n, hn⟩ : ∃ n, ws.length = n := ⟨_, rfl⟩
  have HN : Hid _ := hn
  rw [hn] at hv9 hl
  subst hv9
  have HROW : Hid _ := hrow
  have HWS : Hid _ := hws
  have HP : Hid (PrS bf bt bp bd bm N Z M w) := h
  have HGG : Hid (HG w) := hg
  have HNO : Hid _ := hno
  clear hrow hws h hg hno hn
  go_enter Tryz.func20, Tryz.ntmps20
  go_wp2_with fail
  go_loopw [15] (fun iv wr => ∃ (i : Nat), i ≤ n ∧ iv = .int .i64 (i : Nat) ∧ Hid (Below w.heap.size w wr)) (fun iv _ => n + 1 - (intOf iv).toNat)
  case atStart => exact ⟨0, Nat.zero_le _, rfl, Below.refl _ _⟩
  case round =>
    obtain ⟨i, hi, rfl, HB⟩ := hrel
    by_cases hlt : i < n
    · have h1 : (i : Int) < (n : Int) := by omega
      have hil : i < ws.length := by rw [HN.out]; exact hlt
      obtain ⟨g, cap, hv, hcell⟩ := srow_at (row_below HROW.out HB.out) hil
      rw [HN.out] at hv
      cases hv
      have hix := fun wx => index_str g n c9 i hlt wx
      obtain ⟨wd, hwd⟩ : ∃ wd, ws[i] = wd := ⟨_, rfl⟩
      have hws1 : wd.size ≤ 100 := by have := HWS.out _ (List.getElem_mem hil); rw [hwd] at this; exact this
      have HNO1 : Hid (∀ y, M y → y.k ≠ keyF nN wd r) := by rw [← hwd]; exact HNO.out _ (List.getElem_mem hil)
      rw [hwd] at hcell
      clear hwd
      have D0 : Hid (wr.cell? ⟨bf, 0, none⟩ = some (.pointer (some ⟨bt, 0, none⟩))) := (HP.out.below HB.out).own.cell
      have HPR : Hid (PrS bf bt bp bd bm N Z M wr) := HP.out.below HB.out
      have HGR : Hid (HG wr) := HGG.out.below HB.out HGG.out.lt
      go_wp2_with fail
      clear hcell hix
      go_region_held3 (fun wx => wx.cell? ⟨bf, 0, none⟩ = some (.pointer (some ⟨bt, 0, none⟩))) (first | exact D0.out | exact D1.out | exact D2.out) (first | (go_at_call 39; refine (keyF_any nN wd r (by decide) (by omega) _).mono ?_; rintro _ w3 ⟨rfl, hb3⟩; have D1 : Hid (w3.cell? ⟨bf, 0, none⟩ = some (.pointer (some ⟨bt, 0, none⟩))) := keepc hb3 D0.out; have HB3 : Hid (Below wr.heap.size wr w3) := (Below.refl _ wr).drew.trans hb3; clear hb3) | (go_at_call 38; refine (get_no (HPR.out.below HB3.out) HNO1.out).mono ?_; rintro _ w4 ⟨rfl, hb4⟩; have D2 : Hid (w4.cell? ⟨bf, 0, none⟩ = some (.pointer (some ⟨bt, 0, none⟩))) := keepc hb4 D1.out; have HB4 : Hid (Below wr.heap.size wr w4) := HB3.out.trans (hb4.mono HB3.out.size); clear hb4))
      go_wp2_with fail
      refine (tell_hit 7 _ (HGR.out.below HB4.out HGR.out.lt)).mono ?_
      rintro _ w5 ⟨rfl, hb5⟩
      have HB5 : Hid (Below w.heap.size w w5) := (HB.out.trans (HB4.out.mono HB.out.size)).trans (hb5.mono (Nat.le_trans HB.out.size HB4.out.size))
      clear hb5
      go_wp2_with fail
      go_roundw
      case rel => exact ⟨i + 1, by omega, by go_num, HB5⟩
      case measure => simp [intOf]; omega
    · have h1 : ¬ (i : Int) < (n : Int) := by omega
      obtain rfl : n = i := by omega
      go_wp2
      go_ret
      exact ⟨rfl, HB.out⟩
end
end Go.Proofs.YtdphlkljenbkcaaGreatDoor
namespace Go.Proofs.YtdphlkljenbkcaaGreatDoor
open Go.RowKit Go.Maps

/-- three boxes -/
structure Bx3 (b0 bf r : Nat) (w : World) : Prop where
  f : Own1 b0 (.pointer (some ⟨bf, 0, none⟩)) w
  n : Own1 (b0 + 1) (.string nN) w
  r : Own1 (b0 + 2) (.int .i64 (r : Nat)) w
section
variable {b0 bf bt bp bd bm N Z r : Nat} {M : Pr → Prop} {w w' : World} {t : Nt}
theorem Bx3.only {S : Nat → Prop} (h : Bx3 b0 bf r w) (ho : Only S w w') (hs : ∀ i, S i → i < b0 ∨ b0 + 3 ≤ i) : Bx3 b0 bf r w' :=
  ⟨h.f.only ho (fun e => by have := hs _ e; omega), h.n.only ho (fun e => by have := hs _ e; omega), h.r.only ho (fun e => by have := hs _ e; omega)⟩
theorem Bx3.below (h : Bx3 b0 bf r w) (hb : Below w.heap.size w w') : Bx3 b0 bf r w' := ⟨h.f.below hb, h.n.below hb, h.r.below hb⟩
/-- what a drawn region reads -/
def BxS (b0 bf bt r : Nat) (wx : World) : Prop := wx.cell? ⟨b0, 0, none⟩ = some (.pointer (some ⟨bf, 0, none⟩)) ∧ wx.cell? ⟨bf, 0, none⟩ = some (.pointer (some ⟨bt, 0, none⟩)) ∧ wx.cell? ⟨b0 + 1, 0, none⟩ = some (.string nN) ∧ wx.cell? ⟨b0 + 2, 0, none⟩ = some (.int .i64 (r : Nat))
theorem Bx3.cells (h : Bx3 b0 bf r w) (hp : PrS bf bt bp bd bm N Z M w) : BxS b0 bf bt r w := ⟨h.f.cell, hp.own.cell, h.n.cell, h.r.cell⟩
set_option maxRecDepth 100000 in
set_option maxHeartbeats 2000000 in
theorem note_cl (ht : t.Ok) {x : ByteArray} (hx : x ∈ t.ws) (h : PrS bf bt bp bd bm N Z M w) (hb : Bx3 b0 bf t.r w) (h0 : bp < b0 ∧ bm < b0) {a : Option Addr} {n c B : Nat} (hrow : w.ownsRow B 43 2 (.slice a n c) (plcsF t.r 0 t.ws x).length (plc (plcsF t.r 0 t.ws x))) (hn : n = (plcsF t.r 0 t.ws x).length) (hZ : Z + 43 ≤ 30000) (hN : N + 60 < 1000000) :
    Calls Tryz.prog 42 #[.string x, .slice a n c, .pointer (some ⟨b0, 0, none⟩), .pointer (some ⟨b0 + 1, 0, none⟩), .pointer (some ⟨b0 + 2, 0, none⟩)] w fun e w' => e = .returned .nilIface ∧ PrS bf bt bp bd bm (N + 40) (Z + 43) (fun y => y = t.piece x ∨ (M y ∧ y.k ≠ (t.piece x).k)) w' ∧ Only (fun b => b = bp ∨ b = bm) w w' := by
  have hpk := ht.piece hx
  have hpl := plcs_len t.r t.ws 0 x
  have htl := ht.len
  have hxs := (ht.ws x hx).le
  obtain ⟨a1, c1, e1, hR, _⟩ := rowP_of_own hrow (by omega)
  rw [← hn] at e1 hR
  cases e1
  have HWR : Hid (∀ wx, Below w.heap.size w wx → Calls Tryz.prog 43 #[.slice a n c] wx fun e w' => e = .returned (.tuple #[.string (t.piece x).i, .nilIface]) ∧ Below wx.heap.size wx w') := fun wx hb => write_yes a n c _ wx (hR.below hb) (ht.right x) (by omega)
  have HPT : Hid (∀ wx, PrS bf bt bp bd bm N Z M wx → Calls Tryz.prog 44 #[.pointer (some ⟨bt, 0, none⟩), .string (keyF nN x t.r), .string (t.piece x).i] wx fun e w' => e = .returned .nilIface ∧ PrS bf bt bp bd bm (N + 40) (Z + 43) (fun y => y = t.piece x ∨ (M y ∧ y.k ≠ (t.piece x).k)) w' ∧ Only (fun b => b = bp ∨ b = bm) wx w') := fun wx hh => (put1 hh (t.piece x) hpk.1 (by have := hpk.2; omega) (by omega)).mono (fun e w' hq => ⟨hq.1, hq.2.1.mono (Nat.le_refl _) (by have := hpk.2; omega), hq.2.2⟩)
  obtain ⟨it, hit⟩ : ∃ it, (t.piece x).i = it := ⟨_, rfl⟩
  rw [hit] at HWR HPT
  have HP : Hid (PrS bf bt bp bd bm N Z M w) := h
  have HB : Hid (Bx3 b0 bf t.r w) := hb
  obtain ⟨p0, hp0⟩ := h0
  clear hit hpk hpl htl hR hrow hn h hb ht hx
  go_enter Tryz.func42, Tryz.ntmps42
  go_wp2_with fail
  refine (show Calls _ _ _ _ _ from HWR.out w (Below.refl _ _)).mono ?_
  rintro _ w2 ⟨rfl, hb2⟩
  have HP2 : Hid (PrS bf bt bp bd bm N Z M w2) := HP.out.below hb2
  have HX2 : Hid (Bx3 b0 bf t.r w2) := HB.out.below hb2
  have HB2 : Hid (Below w.heap.size w w2) := hb2
  clear hb2
  have D0 : Hid (BxS b0 bf bt t.r w2) := HX2.out.cells HP2.out
  go_wp2_with fail
  go_region_held3 (fun wx => wx.cell? ⟨b0, 0, none⟩ = some (.pointer (some ⟨bf, 0, none⟩)) ∧ wx.cell? ⟨bf, 0, none⟩ = some (.pointer (some ⟨bt, 0, none⟩)) ∧ wx.cell? ⟨b0 + 1, 0, none⟩ = some (.string nN) ∧ wx.cell? ⟨b0 + 2, 0, none⟩ = some (.int .i64 (t.r : Nat))) (first | exact D0.out | exact D1.out | exact D2.out) (first | (go_at_call 39; refine (keyF_any nN x t.r (by decide) (by omega) _).mono ?_; rintro _ w3 ⟨rfl, hb3⟩; have HB3 : Hid (Below w2.heap.size w2 w3) := (Below.refl _ w2).drew.trans hb3; have HP3 : Hid (PrS bf bt bp bd bm N Z M w3) := HP2.out.below HB3.out; have HX3 : Hid (Bx3 b0 bf t.r w3) := HX2.out.below HB3.out; have D1 : Hid (BxS b0 bf bt t.r w3) := HX3.out.cells HP3.out; clear hb3) | (go_at_call 44; refine (show Calls _ _ _ _ _ from HPT.out _ HP3.out).mono ?_; rintro _ w4 ⟨rfl, hq4, ho4⟩; have HP4 : Hid (PrS bf bt bp bd bm (N + 40) (Z + 43) (fun y => y = t.piece x ∨ (M y ∧ y.k ≠ (t.piece x).k)) w4) := hq4; have HX4 : Hid (Bx3 b0 bf t.r w4) := HX3.out.only ho4 (fun i e => by rcases e with e | e <;> omega); have D2 : Hid (BxS b0 bf bt t.r w4) := HX4.out.cells HP4.out; have HO4 : Hid (Only (fun b => b = bp ∨ b = bm) w w4) := (below_only (HB2.out.trans (HB3.out.mono HB2.out.size)) _).trans ho4 (fun _ e => .inl e); clear hq4 ho4))
  go_wp2
  go_ret
  exact ⟨rfl, HP4.out, HO4.out⟩
set_option maxRecDepth 100000 in
set_option maxHeartbeats 2000000 in
theorem forget_cl {x : ByteArray} (hxs : x.size ≤ 100) (h : PrS bf bt bp bd bm N Z M w) (hb : Bx3 b0 bf r w) (h0 : bp < b0 ∧ bm < b0) {y : Pr} (hy : M y) (hk : y.k = keyF nN x r) {a : Option Addr} {n c : Nat} (hN : N + 60 < 1000000) :
    Calls Tryz.prog 46 #[.string x, .slice a n c, .pointer (some ⟨b0, 0, none⟩), .pointer (some ⟨b0 + 1, 0, none⟩), .pointer (some ⟨b0 + 2, 0, none⟩)] w fun e w' => e = .returned .nilIface ∧ PrS bf bt bp bd bm (N + 40) Z (fun z => M z ∧ z ≠ y) w' ∧ Only (fun b => b = bp ∨ b = bm) w w' := by
  have HPT : Hid (∀ wx, PrS bf bt bp bd bm N Z M wx → Calls Tryz.prog 47 #[.pointer (some ⟨bt, 0, none⟩), .string (keyF nN x r)] wx fun e w' => e = .returned .nilIface ∧ PrS bf bt bp bd bm (N + 40) Z (fun z => M z ∧ z ≠ y) w' ∧ Only (fun b => b = bp ∨ b = bm) wx w') := fun wx hh => by
    have := drop1 hh y hy hN
    rw [hk] at this
    exact this
  have HP : Hid (PrS bf bt bp bd bm N Z M w) := h
  have HX : Hid (Bx3 b0 bf r w) := hb
  obtain ⟨p0, hp0⟩ := h0
  have D0 : Hid (BxS b0 bf bt r w) := HX.out.cells HP.out
  clear h hb hy hk
  go_enter Tryz.func46, Tryz.ntmps46
  go_wp2_with fail
  go_region_held3 (fun wx => wx.cell? ⟨b0, 0, none⟩ = some (.pointer (some ⟨bf, 0, none⟩)) ∧ wx.cell? ⟨bf, 0, none⟩ = some (.pointer (some ⟨bt, 0, none⟩)) ∧ wx.cell? ⟨b0 + 1, 0, none⟩ = some (.string nN) ∧ wx.cell? ⟨b0 + 2, 0, none⟩ = some (.int .i64 (r : Nat))) (first | exact D0.out | exact D1.out | exact D2.out) (first | (go_at_call 39; refine (keyF_any nN x r (by decide) (by omega) _).mono ?_; rintro _ w3 ⟨rfl, hb3⟩; have HB3 : Hid (Below w.heap.size w w3) := (Below.refl _ w).drew.trans hb3; have HP3 : Hid (PrS bf bt bp bd bm N Z M w3) := HP.out.below HB3.out; have HX3 : Hid (Bx3 b0 bf r w3) := HX.out.below HB3.out; have D1 : Hid (BxS b0 bf bt r w3) := HX3.out.cells HP3.out; clear hb3) | (go_at_call 47; refine (show Calls _ _ _ _ _ from HPT.out _ HP3.out).mono ?_; rintro _ w4 ⟨rfl, hq4, ho4⟩; have HP4 : Hid (PrS bf bt bp bd bm (N + 40) Z (fun z => M z ∧ z ≠ y) w4) := hq4; have HX4 : Hid (Bx3 b0 bf r w4) := HX3.out.only ho4 (fun i e => by rcases e with e | e <;> omega); have D2 : Hid (BxS b0 bf bt r w4) := HX4.out.cells HP4.out; have HO4 : Hid (Only (fun b => b = bp ∨ b = bm) w w4) := (below_only HB3.out _).trans ho4 (fun _ e => .inl e); clear hq4 ho4))
  go_wp2_with fail
  refine (tell_nil _).mono ?_
  rintro _ w9 ⟨rfl, h9⟩
  obtain rfl := h9.symm
  clear h9
  go_wp2
  go_ret
  exact ⟨rfl, HP4.out, HO4.out⟩
end
end Go.Proofs.YtdphlkljenbkcaaGreatDoor
