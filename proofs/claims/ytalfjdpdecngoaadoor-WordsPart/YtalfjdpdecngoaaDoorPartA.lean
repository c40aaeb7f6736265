/- The contracts that WordsPart goes through: worded, pick, and an append of a list of texts. -/
import Derived.Test.YtalfjdpdecngoaaDoorPartM
import Derived.Laws.AppendOwnNone
import Derived.Deep.RegionHeld3
namespace Go.Proofs.YtalfjdpdecngoaaDoor
open Go.RowKit

theorem RowS.news {w : World} {ad : Addr} {len : Nat} {xs : List ByteArray} (h : RowS w (some ad) len xs) : ∀ j u, (sc xs)[j]? = some u → w.cell? (ad.add j) = some u := by
  intro j u hj
  obtain ⟨_, _, h3⟩ := h
  have hjl : j < (sc xs).length := (List.getElem?_eq_some_iff.1 hj).1
  rw [sc_length] at hjl
  rcases h3 with rfl | ⟨b, off, e, _, hr⟩
  · simp at hjl
  · obtain rfl : ad = ⟨b, off, none⟩ := by simpa using e
    rw [Go.WideShapes.add_plain, hr j hjl]
    rw [← hj]
    simp [sc, hjl]

theorem sc_one (xs : List ByteArray) : ∀ u ∈ sc xs, u.oneCell' = true := by
  intro u hu
  simp [sc] at hu
  obtain ⟨x, _, rfl⟩ := hu
  rfl

theorem run_append_row (w : World) (B : Nat) (v : Value) (ys : List ByteArray) (hown : w.ownsRow B 9 1 v ys.length (sc ys)) (hB : B ≤ w.heap.size) (a : Option Addr) (cap : Nat) (xs : List ByteArray) (hr : RowS w a xs.length xs) (hnil : a = none → cap = 0) (hl : xs.length + ys.length ≤ 1000000) :
    ∃ v' w', (Builtin.append_ #[24, 24] 24 #[v, .slice a xs.length cap]).run Tryd.prog w = .ok v' w' ∧ w'.ownsRow B 9 1 v' (ys ++ xs).length (sc (ys ++ xs)) ∧ Below B w w' := by
  obtain ⟨i0, hi, hz0, hz1, hz2⟩ := info_parts info9
  cases a with
  | none =>
    have hc := hnil rfl
    subst hc
    have hx : xs = [] := by
      rcases hr.2.2 with h | ⟨b, off, e, _⟩
      · exact h
      · simp at e
    subst hx
    exact ⟨v, w, run_append_owned_none (P := Tryd.prog) (w := w) B 24 24 9 i0 1 Tryd.underlying24 hi v ys.length (sc ys) hown, by simpa using hown, Below.refl _ _⟩
  | some ad =>
    obtain ⟨v', w', h1, h2, h3, _⟩ := run_append_own (P := Tryd.prog) w B 24 24 9 i0 (.string ⟨#[]⟩) 1 16 Tryd.underlying24 hi hz0 hz1 hz2 rfl (by decide) v ys.length (sc ys) hown ad xs.length cap (sc xs) (by rw [sc_length, Nat.mul_one]) hr.news (sc_one xs) (by unfold maxLen; omega) (by omega) hB
    refine ⟨v', w', h1, ?_, (Below.refl B w).grown h3 hB (fun g hg => (hown.lt g hg).1)⟩
    rw [sc_append, List.length_append]
    exact h2

/-- append, for the walk -/
theorem wpList_append_row {ops : Array Oper} {rest : List Oper} {o : Oper} {a : Act} {Q : Exit → Act → World → Prop} {w : World} (hw : Region.wanted o (yielded ops a.tmps) = true) (s x : Operand)
    (ho : o.op = .call { callee := .builtin .append, args := #[s, x], argTypes := #[24, 24] }) (hty : o.type = 24)
    (B : Nat) (v : Value) (ys : List ByteArray) (hs : a.eval s = v) (hown : w.ownsRow B 9 1 v ys.length (sc ys)) (hB : B ≤ w.heap.size) (ad : Option Addr) (cap : Nat) (xs : List ByteArray) (hx : a.eval x = .slice ad xs.length cap) (hr : RowS w ad xs.length xs) (hnil : ad = none → cap = 0)
    (hl : xs.length + ys.length ≤ 1000000) (h : ∀ v' w', w'.ownsRow B 9 1 v' (ys ++ xs).length (sc (ys ++ xs)) → Below B w w' → wpList Tryd.prog ops Q rest (a.put o.dst v') w') : wpList Tryd.prog ops Q (o :: rest) a w := by
  refine BigFrame.wpList_want hw fun K hK => ?_
  obtain ⟨v', w', hrun, h2, h3⟩ := run_append_row w B v ys hown hB ad cap xs hr hnil hl
  unfold Oper.wp
  simp only [execOp, ho, hty, resolve, invoke, builtin, Sem.run_bind, Sem.run_pure, Result.andThen_ok, List.map_toArray, List.map_cons, List.map_nil, hs, hx, hrun]
  exact hK _ _ (h v' w' h2 h3)

theorem pick_any (g : Int) (w : World) : Calls Tryd.prog 14 #[.int .i64 g, .int .i64 5] w fun e w' => (∃ k : Nat, k < 5 ∧ e = .returned (.int .i64 k)) ∧ w' = w := by
  go_enter Tryd.func14, Tryd.ntmps14
  go_wp2
  go_ret
  have h0 : 0 ≤ IntKind.u64.wrap g := by simp [IntKind.wrap, IntKind.signed, IntKind.bits]; omega
  have h1 : (IntKind.u64.wrap g).tmod 5 = (IntKind.u64.wrap g) % 5 := Int.tmod_eq_emod_of_nonneg h0
  refine ⟨⟨((IntKind.u64.wrap g) % 5).toNat, by omega, ret_int ?_⟩, rfl⟩
  rw [h1]
  unfold wrap64
  omega

set_option maxRecDepth 100000 in
set_option maxHeartbeats 2000000 in
theorem worded_any (w : World) (he : EndsAt w) : Calls Tryd.prog 13 #[] w fun e w' => e = .returned (.bool true) ∧ Below w.heap.size w w' := by
  have HE : Hid (EndsAt w) := he
  clear he
  go_enter Tryd.func13, Tryd.ntmps13
  go_wp2_with fail
  refine (split_any _ w (by decide) HE.out).mono ?_
  rintro _ w1 ⟨v1, rfl, ho1, hb1⟩
  rw [fact_words] at ho1
  obtain ⟨a1, c1, rfl, hr1, _⟩ := row_of_own ho1 (by decide)
  have HB1 : Hid (Below w.heap.size w w1) := hb1
  have HR1 : Hid (RowS w1 a1 2 [⟨#[106, 117, 109, 112]⟩, ⟨#[102, 111, 120, 101]⟩]) := hr1
  clear ho1 hb1 hr1
  go_wp2_with fail
  refine (same15 a1 (some ⟨w1.heap.size, 0, none⟩) 2 2 c1 2 [⟨#[106, 117, 109, 112]⟩, ⟨#[102, 111, 120, 101]⟩] _ (RowS.below HR1.out ((Below.refl _ _).alloc (Nat.le_refl _) _))
    ⟨rfl, by decide, .inr ⟨w1.heap.size, 0, rfl, by simp, fun i hi => by
      have : i = 0 ∨ i = 1 := by simp at hi; omega
      rcases this with rfl | rfl <;> simp⟩⟩).mono ?_
  rintro _ w2 ⟨rfl, hb2⟩
  have HB2 : Hid (Below w.heap.size w w2) := (HB1.out.alloc HB1.out.size _).trans (hb2.mono (by have := HB1.out.size; simp; omega))
  clear hb2 HB1 HR1
  go_wp2_with fail
  refine (stem_any _ w2 (by decide) (HE.out.below HB2.out)).mono ?_
  rintro _ w3 ⟨rfl, hb3⟩
  rw [fact_ties]
  have HB3 : Hid (Below w.heap.size w w3) := HB2.out.trans (hb3.mono HB2.out.size)
  clear hb3 HB2
  go_wp2_with fail
  refine (stem_any _ w3 (by decide) (HE.out.below HB3.out)).mono ?_
  rintro _ w4 ⟨rfl, hb4⟩
  rw [fact_party]
  have HB4 : Hid (Below w.heap.size w w4) := HB3.out.trans (hb4.mono HB3.out.size)
  clear hb4 HB3
  go_wp2
  go_ret
  exact ⟨by simp, HB4.out⟩
end Go.Proofs.YtalfjdpdecngoaaDoor
