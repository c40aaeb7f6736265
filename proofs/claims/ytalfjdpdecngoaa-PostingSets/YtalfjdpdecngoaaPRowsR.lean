/- The contracts of the document's Rows and of the law's sameInts. -/
import Derived.Test.YtalfjdpdecngoaaPNearR
namespace Go.Proofs.Ytalfjdpdecngoaa
open Go.RowKit

set_option maxRecDepth 100000 in
set_option maxHeartbeats 4000000 in
theorem refRows_any (hS : RisingSpec) (v1 : Value) (xs : List Pl) (w : World) (h1 : InP w v1 xs) (hl : xs.length ≤ 10000) :
    Calls Try.prog 12 #[v1] w fun e w' => ∃ v' T, e = .returned v' ∧ w'.ownsRow w.heap.size 3 1 v' T.length (icc T) ∧ (T.Pairwise (· < ·) ∧ (∀ x, x ∈ T ↔ ∃ p ∈ xs, p.r = x) ∧ T.length ≤ xs.length) ∧ Below w.heap.size w w' := by
  obtain ⟨i0, hi, hz0, hz1, hz2⟩ := pinfo_parts infoInt
  obtain ⟨a, cap, rfl, _, ⟨_, hm, hx⟩, _⟩ := h1
  have HS : Hid RisingSpec := hS
  obtain ⟨F, hF⟩ : ∃ F, xs.map (fun p => p.r) = F := ⟨_, rfl⟩
  have hFl : F.length = xs.length := by rw [← hF]; simp
  have HM : Hid (∀ x, x ∈ F ↔ ∃ p ∈ xs, p.r = x) := fun x => by rw [← hF]; simp
  have HF : Hid ((xs.drop 0).map (fun p => p.r) = F) := hF
  clear hS hF
  go_enter Try.func12, Try.ntmps12
  go_wp2
  go_loopw [3, 8] (fun v i wr => ∃ (k : Nat) (l : List Int), k ≤ xs.length ∧ i = .int .i64 k ∧ Hid (l ++ (xs.drop k).map (fun p => p.r) = F) ∧ Hid (wr.ownsRow w.heap.size 3 1 v l.length (icc l) ∧ Below w.heap.size w wr)) (fun _ i _ => xs.length - (intOf i).toNat)
  case atStart => exact ⟨0, [], Nat.zero_le _, rfl, HF, World.ownsRow_nil _ _ _ _, Below.refl _ _⟩
  case round =>
    clear HF
    obtain ⟨k, l, hk, rfl, hz, hown⟩ := hrel
    have hlF : l.length ≤ F.length := by rw [← hz.out]; simp
    by_cases hlt : k < xs.length
    · rcases hx with hx | ⟨b, off, rfl, hb, hrow⟩
      · simp [hx] at hlt
      obtain ⟨g1, g2⟩ := hrow k hlt
      clear hrow
      rw [← hown.out.2.cell (p := ⟨b, _, none⟩) hb] at g1 g2
      have HZ : Hid ((l ++ [xs[k].r]) ++ (xs.drop (k + 1)).map (fun p => p.r) = F) := by
        have h := hz.out
        rw [List.drop_eq_getElem_cons hlt] at h
        show _ = _
        rw [← h, List.map_cons, List.append_assoc]; rfl
      have i1 : (k : Int) < (xs.length : Int) := by omega
      generalize xs[k] = q at *
      have HB : Hid (Below w.heap.size w wr) := hown.out.2
      have HO : Hid (wr.ownsRow w.heap.size 3 1 u3 l.length (icc l)) := hown.out.1
      have hsw := HB.out.size
      clear hown hz
      go_wp2_with (at_builtin; refine wpList_append_own _ rfl _ _ 30 rfl w.heap.size 3 i0 (.int .i64 0) 1 8 Try.underlying30 hi hz0 hz1 hz2 rfl (by decide) _ _ _ rfl ((HO.out.alloc _).alloc _) ⟨wr.heap.size + 1, 0, none⟩ 1 1 [.int .i64 q.r] rfl rfl (news_int2 wr _ q.r) (one_int _) (by simp [maxLen]; omega) (by omega) (by simp; omega) ?_)
      intro v2 w2 ho2 hg2 _
      have HB2 : Hid (Below w.heap.size w w2) := ((HB.out.alloc (by omega) _).alloc (by simp; omega) _).grown hg2 (by simp; omega) (fun g hg => (HO.out.lt g hg).1)
      have HO2 : Hid (w2.ownsRow w.heap.size 3 1 v2 (l ++ [q.r]).length (icc (l ++ [q.r]))) := own_eqP ho2 (by simp) (by rw [icc_append]; rfl)
      clear ho2 hg2 HO HB
      go_wp2
      go_roundw
      case rel => exact ⟨k + 1, l ++ [q.r], by omega, by go_num, HZ, HO2.out, HB2.out⟩
      case measure => simp [intOf]; omega
    · have e : l = F := by
        have h := hz.out
        rw [List.drop_eq_nil_of_le (by omega), List.map_nil, List.append_nil] at h
        exact h
      subst e
      have HO : Hid (wr.ownsRow w.heap.size 3 1 u3 l.length (icc l)) := hown.out.1
      have HB : Hid (Below w.heap.size w wr) := hown.out.2
      clear hown hz
      go_wp2_with fail
      refine (HS.out w.heap.size u3 l _ HO.out HB.out.size (by omega)).mono ?_
      rintro _ w6 ⟨v6, T, rfl, ho6, ⟨t1, t2, t3⟩, hb6⟩
      have HO6 : Hid (w6.ownsRow w.heap.size 3 1 v6 T.length (icc T) ∧ (T.Pairwise (· < ·) ∧ (∀ x, x ∈ T ↔ ∃ p ∈ xs, p.r = x) ∧ T.length ≤ xs.length)) := ⟨ho6, t1, fun x => by rw [t2]; exact HM.out x, by omega⟩
      have HB6 : Hid (Below w.heap.size w w6) := HB.out.trans hb6
      clear ho6 t1 t2 t3 hb6 HO HB
      go_wp2
      go_ret
      exact ⟨_, T, rfl, HO6.out.1, HO6.out.2, HB6.out⟩

/-- numbers in a row -/
def RowI (w : World) (a : Option Addr) (len : Nat) (xs : List Int) : Prop :=
  len = xs.length ∧ xs.length ≤ 1000000 ∧ (xs = [] ∨ ∃ b off, a = some ⟨b, off, none⟩ ∧ b < w.heap.size ∧ ∀ i (h : i < xs.length), w.cell? ⟨b, off + i, none⟩ = some (.int .i64 xs[i]))
theorem RowI.below {w w' : World} {a : Option Addr} {len : Nat} {xs : List Int} (h : RowI w a len xs) (hb : Below w.heap.size w w') : RowI w' a len xs := by
  obtain ⟨h1, h2, h3⟩ := h
  refine ⟨h1, h2, ?_⟩
  rcases h3 with h3 | ⟨b, off, e, hlt, hc⟩
  · exact .inl h3
  · exact .inr ⟨b, off, e, Nat.lt_of_lt_of_le hlt hb.size, fun i hi => by rw [hb.cell (p := ⟨b, _, none⟩) hlt]; exact hc i hi⟩
theorem icc_get (xs : List Int) (i : Nat) (h : i < xs.length) : (icc xs)[i]? = some (.int .i64 xs[i]) := by simp [icc, h]
theorem rowI_of_own {w : World} {B : Nat} {v : Value} {xs : List Int} (h : w.ownsRow B 3 1 v xs.length (icc xs)) (hl : xs.length ≤ 1000000) : ∃ a cap, v = .slice a xs.length cap ∧ RowI w a xs.length xs := by
  rcases h.2 with ⟨rfl, h0⟩ | ⟨g, cap, cur, rfl, _, hg, _⟩
  · have : xs = [] := List.length_eq_zero_iff.1 h0
    subst this
    exact ⟨none, 0, rfl, ⟨rfl, hl, .inl rfl⟩⟩
  · refine ⟨some ⟨g, 0, none⟩, cap, rfl, ⟨rfl, hl, .inr ⟨g, 0, rfl, (Array.getElem?_eq_some_iff.1 hg).1, fun i hi => ?_⟩⟩⟩
    have k0 := h.cells (g := g) rfl _ _ (icc_get xs i hi)
    rw [Go.WideShapes.add_plain] at k0
    exact k0

set_option maxRecDepth 100000 in
set_option maxHeartbeats 1000000 in
theorem same_ints (a a' : Option Addr) (len len' cap cap' : Nat) (xs : List Int) (w : World) (hr : RowI w a len xs) (hr' : RowI w a' len' xs) :
    Calls Try.prog 10 #[.slice a len cap, .slice a' len' cap'] w fun e w' => e = .returned (.bool true) ∧ Below w.heap.size w w' := by
  obtain ⟨rfl, hm, hx⟩ := hr
  obtain ⟨rfl, _, hx'⟩ := hr'
  go_enter Try.func10, Try.ntmps10
  go_wp2
  go_loopw [5] (fun i wr => ∃ k : Nat, k ≤ xs.length ∧ i = .int .i64 k ∧ Hid (Below w.heap.size w wr)) (fun i _ => xs.length - (intOf i).toNat)
  case atStart => exact ⟨0, Nat.zero_le _, rfl, Below.refl _ _⟩
  case round =>
    obtain ⟨k, hk, rfl, hbl⟩ := hrel
    by_cases hlt : k < xs.length
    · rcases hx with hx | ⟨b, off, rfl, hb, hrow⟩
      · simp [hx] at hlt
      rcases hx' with hx' | ⟨b', off', rfl, hb', hrow'⟩
      · simp [hx'] at hlt
      have g1 := hrow k hlt
      have e1 := hrow' k hlt
      clear hrow hrow'
      rw [← hbl.out.cell (p := ⟨b, _, none⟩) hb] at g1
      rw [← hbl.out.cell (p := ⟨b', _, none⟩) hb'] at e1
      have i1 : (k : Int) < (xs.length : Int) := by omega
      generalize xs[k] = x at *
      go_wp2
      go_quiet (fail)
      have HB : Hid (Below w.heap.size w (wr.drewN nq)) := below_drewN hbl.out _
      clear hbl
      go_wp2
      go_roundw
      case rel => exact ⟨k + 1, by omega, by go_num, HB⟩
      case measure => simp [intOf]; omega
    · go_wp2
      go_ret
      exact ⟨rfl, hbl.out⟩
end Go.Proofs.Ytalfjdpdecngoaa
