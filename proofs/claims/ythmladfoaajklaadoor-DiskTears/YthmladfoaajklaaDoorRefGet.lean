/- The contracts of the document's disk: made, cut, read. -/
import Derived.Test.YthmladfoaajklaaDoorRef
import Derived.Maps.OwnOps
namespace Go.Proofs.YthmladfoaajklaaDoor
open Go.RowKit Go.Maps

theorem wpList_lookup_own_ok_str {H : Type} {P : Program} (w : World) {ops : Array Oper} {rest : List Oper} {o : Oper} {a : Act} {Q : Exit → Act → World → Prop}
    (hg : o.guard = none) (m x : Operand) (t : TypeId) (hop : o.op = Op.lookup t m x true)
    (k e : TypeId) (K : Keyed P k) (ht : P.underlying t = some (.map k e)) (he : P.underlying e = some .string) (hz : (zeroValue e).run P w = .ok (.string ⟨#[]⟩) w) (b n : Nat) (D : DataW H)
    (hm : a.eval m = .map (some b)) (hown : w.ownsMap P k (plainElem P e) b n D) (key : Value) (kl : Lit) (hx : a.eval x = key) (hkey : keyOf P k key = some kl)
    (hK : ∀ s : ByteArray, D.atKey kl (.lit (.string [])) = .lit (.string s.data.toList) → wpList P ops Q rest (a.put o.dst (.tuple #[.string s, .bool (Maps.has D kl)])) w) :
    wpList P ops Q (o :: rest) a w :=
  wpList_lookup_own_ok w hg m x t hop k e K ht (plainElem P e) hz (.lit (.string [])) [] (plainElem_string (s := ⟨#[]⟩) he (Nat.zero_le _)) b n D hm hown key kl hx hkey (fun v ps hv => by
    obtain ⟨s, rfl, hc, _⟩ := plainElem_string_inv he hv
    exact hK s (congrArg Prod.fst hc))

theorem str_of {s p : ByteArray} (h : (DataW.lit (.string s.data.toList) : DataW Unit) = .lit (.string p.data.toList)) : s = p := by
  injection h with h1
  injection h1 with h2
  cases s; cases p
  simp at h2
  rw [h2]

section
variable {b m n : Nat} {pg : Nat → ByteArray} {left torn : Int} {w : World}

set_option maxHeartbeats 400000 in
theorem refGet_any (h : RefIs b m n pg left torn w) (k : Nat) (hk : k < 4001) :
    Calls Tryd.prog 22 #[.pointer (some ⟨b, 0, none⟩), .int .i64 k] w fun e w' => e = .returned (.string (pg k)) ∧ Below w.heap.size w w' := by
  have c0 := h.map
  obtain ⟨D, hown, hH⟩ := h.owns
  have hkey : keyOf Tryd.prog 3 (.int .i64 k) = some (.int .i64 k) := keyOf_int_mk Tryd.underlying3 (wf_nat k hk)
  clear h
  cases hh : Maps.has D (.int .i64 k)
  · have hz := hH.no k hk hh
    rw [hz]
    clear hz hH
    go_enter Tryd.func22, Tryd.ntmps22
    go_wp2_with (at_lookup; refine wpList_lookup_own_ok_str _ rfl _ _ 55 rfl 3 9 keyed3 Tryd.underlying55 Tryd.underlying9 (zero9 _) m n D rfl hown _ _ rfl hkey ?_; intro s hat; clear hat)
    refine (zeros_any w).mono ?_
    rintro _ w1 ⟨rfl, hb⟩
    go_wp2
    go_ret
    exact ⟨rfl, hb⟩
  · have hy := hH.yes k hk hh (.lit (.string []))
    clear hH
    have HY : Hid _ := hy
    clear hy
    go_enter Tryd.func22, Tryd.ntmps22
    go_wp2_with (at_lookup; refine wpList_lookup_own_ok_str _ rfl _ _ 55 rfl 3 9 keyed3 Tryd.underlying55 Tryd.underlying9 (zero9 _) m n D rfl hown _ _ rfl hkey ?_; intro s hat; have HA : Hid _ := hat; clear hat)
    go_ret
    exact ⟨by rw [str_of (HA.out.symm.trans HY.out)]; rfl, Below.refl _ _⟩

theorem refIn_yes (k : Nat) (w : World) (hk : k < 4001) : Calls Tryd.prog 39 #[.int .i64 k, .int .i64 0, .int .i64 4000] w fun e w' => e = .returned (.bool true) ∧ w' = w := by
  have h1 : (k : Int) ≤ 4000 := by omega
  go_enter Tryd.func39, Tryd.ntmps39
  go_wp2
  go_ret
  exact ⟨ret_bool (by simp), rfl⟩

theorem refIn_no (k : Int) (w : World) (hk : k < 0 ∨ 4001 ≤ k) : Calls Tryd.prog 39 #[.int .i64 k, .int .i64 0, .int .i64 4000] w fun e w' => e = .returned (.bool false) ∧ w' = w := by
  by_cases h0 : 0 ≤ k
  · have h1 : ¬ k ≤ 4000 := by omega
    go_enter Tryd.func39, Tryd.ntmps39
    go_wp2
    go_ret
    exact ⟨ret_bool (by simp), rfl⟩
  · go_enter Tryd.func39, Tryd.ntmps39
    go_wp2
    go_ret
    exact ⟨ret_bool (by simp), rfl⟩

set_option maxHeartbeats 400000 in
theorem refCut_any (h : RefIs b m n pg left torn w) (writes t : Int) :
    Calls Tryd.prog 19 #[.pointer (some ⟨b, 0, none⟩), .int .i64 writes, .int .i64 t] w fun e w' => e = .returned (.tuple #[]) ∧ RefIs b m n pg (max writes (-1)) (clip t) w' ∧ w.grownBy w' (some b) := by
  have q1 := h.left
  have q2 := h.torn
  have f1 := h.free 1
  have f2 := h.free 2
  have HD : Hid _ := (h.setLeft (max writes (-1))).setTorn (clip t)
  have HG : Hid _ := (grownBy_set w b 1 (.int .i64 (max writes (-1)))).trans (grownBy_set _ b 2 (.int .i64 (clip t)))
  clear h
  go_enter Tryd.func19, Tryd.ntmps19
  go_wp2
  go_end0
  exact ⟨rfl, HD.out, HG.out⟩

set_option maxHeartbeats 400000 in
theorem refNew_any (w : World) :
    Calls Tryd.prog 14 #[] w fun e w' => e = .returned (.pointer (some ⟨w.heap.size + 1, 0, none⟩)) ∧ RefIs (w.heap.size + 1) w.heap.size 0 (fun _ => zeros) (-1) 0 w' ∧ Below w.heap.size w w' ∧ w'.heap.size = w.heap.size + 2 := by
  have hmm := @run_makeMap Tryd.prog
  go_enter Tryd.func14, Tryd.ntmps14
  go_wp2
  go_ret
  refine ⟨by simp, ?_, ((Below.refl _ _).alloc (Nat.le_refl _) _).alloc (by simp) _, by simp⟩
  have hown := (World.ownsMap_made (H := Unit) w Tryd.prog 3 (plainElem Tryd.prog 9))
  refine ⟨by simp, by simp, by simp, by simp, ⟨_, hown.alloc _, ⟨isMap_empty, fun k _ hh => by simp [Maps.has] at hh, fun k _ _ => rfl⟩⟩, fun _ _ => zeros_size⟩
end
end Go.Proofs.YthmladfoaajklaaDoor
