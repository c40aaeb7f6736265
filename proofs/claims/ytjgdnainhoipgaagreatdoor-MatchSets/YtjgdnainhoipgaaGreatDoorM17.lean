/- Texts of the proof of MatchSets: Tcc. -/
import Derived.Test.YtjgdnainhoipgaaGreatDoorM16
import Derived.Laws.AppendOwnNone
import Derived.Lib.AppendZeros
namespace Go.Proofs.YtjgdnainhoipgaaGreatDoor
open Go.RowKit Go.Maps

theorem wpList_append_ints {w : World} {ops : Array Oper} {rest : List Oper} {o : Oper} {a : Act} {Q : Exit → Act → World → Prop} (hgd : o.guard = none) (s x : Operand)
    (ho : o.op = .call { callee := .builtin .append, args := #[s, x], argTypes := #[68, 68] }) {B C : Nat} {v u : Value} {ks js : List Nat} (hs : a.eval s = v) (hown : IRow B v ks w) (hx : a.eval x = u) (hv : View C u (ints js) w)
    (hb : ks.length + js.length ≤ 4000) (hB : B ≤ w.heap.size)
    (h : ∀ v' w', Hid (IRow B v' (ks ++ js) w') → Hid (Only (fun b => B ≤ b) w w') → wpList Tryz.prog ops Q rest (a.put o.dst v') w') : wpList Tryz.prog ops Q (o :: rest) a w := by
  obtain ⟨i0, hi, hz0, hz1, hz2⟩ := info3
  obtain ⟨ad, cap, e, h1, h2, h3, h4⟩ := hv.is
  rw [ints_len] at e h1
  cases ad with
  | none =>
    have h0 := h3 rfl
    obtain rfl : js = [] := List.length_eq_zero_iff.1 (by omega)
    subst h0
    refine wpList_append_own_none hgd s x 68 ho B 3 i0 1 Tryz.underlying68 hi v _ _ hs hown (by rw [hx, e]; rfl) ?_
    exact h v w (by rw [List.append_nil]; exact hown) (Only.refl _ _)
  | some ad =>
    obtain ⟨b, off, rfl, k1, k2, k3⟩ := h4 ad rfl
    refine wpList_append_own w hgd s x 68 ho B 3 i0 (.int .i64 0) 1 8 Tryz.underlying68 hi hz0 hz1 hz2 rfl (by decide) v _ _ hs hown ⟨b, off, none⟩ js.length cap (ints js) (by rw [hx, e]) (by rw [ints_len, Nat.mul_one]) (fun j u hu => ?_) (fun u hu => ?_) (by simp only [maxLen]; omega) (by omega) hB ?_
    · obtain ⟨hj, rfl⟩ := List.getElem?_eq_some_iff.1 hu
      rw [add_pl]
      exact k3 j hj
    · obtain ⟨k, _, rfl⟩ := List.mem_map.1 hu
      rfl
    · intro v' w' hO hG _
      refine h v' w' ?_ (grown_only hG (fun k e => (World.ownsRow.lt hown k e).1))
      show IRow _ _ _ _
      unfold IRow
      rw [List.length_append, List.map_append]
      exact hO
theorem zero3 : (Value.int .i64 0).cells = #[.int .i64 0] := rfl
set_option maxRecDepth 100000 in
theorem grow_any (n : Nat) (h0 : 0 < n) (hn : n ≤ 4000) (w : World) :
    Calls Tryz.prog 170 #[.slice none 0 0, .int .i64 (n : Nat)] w fun e w' => ∃ v, e = .returned v ∧ IRow w.heap.size v [] w' ∧ Below w.heap.size w w' := by
  obtain ⟨i0, hi, hz0, hz1, hz2⟩ := info3
  have hr := fun ty => Lib.run_append_nil_zeros (P := Tryz.prog) w 68 3 ty 3 i0 (.int .i64 0) .i64 .i64 Tryz.underlying68 Tryz.underlying3 hi hz0 n h0 (by omega) (by omega) (by rw [hz2]; omega)
  have hG1 := grownCap_ge w n 0 3
  have hG2 := grownCap_le_maxLen w n 0 3 (by unfold maxLen; omega)
  have hgz : (Builtin.zeroCells (Value.int .i64 0).cells n ++ Builtin.zeroCells (Value.int .i64 0).cells (grownCap w n 0 3 - n)).size = grownCap w n 0 3 := by
    simp [Builtin.zeroCells, zero3]
    omega
  obtain ⟨G, hG⟩ : ∃ G, grownCap w n 0 3 = G := ⟨_, rfl⟩
  rw [hG] at hr hG1 hG2 hgz
  obtain ⟨cs, hcs⟩ : ∃ cs, Builtin.zeroCells (Value.int .i64 0).cells n ++ Builtin.zeroCells (Value.int .i64 0).cells (G - n) = cs := ⟨_, rfl⟩
  rw [hcs] at hr hgz
  have HR : Hid (IRow w.heap.size (.slice (some ⟨w.heap.size, 0, none⟩) 0 G) [] (w.drew.alloc (.cells cs 3))) := ⟨rfl, .inr ⟨w.heap.size, G, cs, rfl, Nat.le_refl _, heap_alloc_new w.drew _, Nat.zero_le _, hG2, by rw [hgz, Nat.mul_one], by simp⟩⟩
  have HB : Hid (Below w.heap.size w (w.drew.alloc (.cells cs 3))) := (Below.refl _ w).drew.alloc (Nat.le_refl _) _
  clear hG hcs hgz hG2
  have hGi : (0 : Int) ≤ (G : Int) := by omega
  have hgz : ¬ G = 0 := by omega
  go_enter Tryz.func170, Tryz.ntmps170
  go_wp2_with (at_builtin; refine Lib.wpList_append_run _ rfl _ _ _ _ rfl _ _ rfl rfl _ _ (hr _) ?_)
  go_ret
  exact ⟨_, rfl, HR.out, HB.out⟩
end Go.Proofs.YtjgdnainhoipgaaGreatDoor
