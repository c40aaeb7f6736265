/- The contracts of Without and Follow. -/
import Derived.Test.YtalfjdpdecngoaaPOnly
namespace Go.Proofs.Ytalfjdpdecngoaa
open Go.RowKit

set_option maxHeartbeats 1000000 in
theorem without_fn (B : Nat) (row : Int) (p : Pl) (w : World) (hB : B < w.heap.size) (hc : w.cell? ⟨B, 0, none⟩ = some (.int .i64 row)) :
    Calls Try.prog 27 #[.agg #[.int .i64 p.r, .int .i64 p.a], .pointer (some ⟨B, 0, none⟩)] w fun e w' => e = .returned (.bool (p.r != row)) ∧ Below w.heap.size w w' := by
  have hc2 : (w.alloc (.cells #[.int .i64 p.r, .int .i64 p.a] 25)).cell? ⟨B, 0, none⟩ = some (.int .i64 row) := by rw [World.cell?_alloc_lt _ _ _ (by exact hB)]; exact hc
  go_enter Try.func27, Try.ntmps27
  go_wp2
  go_ret
  exact ⟨rfl, (Below.refl _ _).alloc (Nat.le_refl _) _⟩

def stpW (row : Int) : Unit → Pl → Bool × Unit := fun _ p => (p.r != row, ())
theorem keep_filter (row : Int) (xs : List Pl) : keepL (stpW row) () xs = xs.filter (fun p => p.r != row) := by
  induction xs with
  | nil => rfl
  | cons p l ih =>
    unfold keepL
    rw [List.filter_cons]
    simp only [stpW] at ih ⊢
    rw [ih]
    rfl

theorem grown_of_belowP {w w' : World} (h : Below w.heap.size w w') (row : Option Nat) : w.grownBy w' row := ⟨h.os, h.tape, h.output, h.size, fun k hk _ => h.block k hk⟩

set_option maxRecDepth 100000 in
set_option maxHeartbeats 1000000 in
theorem without_any (v : Value) (xs : List Pl) (row : Int) (w : World) (h : InP w v xs) (hl : xs.length ≤ 100000) :
    Calls Try.prog 9 #[v, .int .i64 row] w fun e w' => ∃ v', e = .returned v' ∧ w'.ownsRow w.heap.size 25 2 v' (xs.filter (fun p => p.r != row)).length (plc (xs.filter (fun p => p.r != row))) ∧ Below w.heap.size w w' := by
  obtain ⟨a, cap, rfl, _, hr, _⟩ := h
  have HR : Hid (RowP w a xs.length xs) := hr
  clear hr
  have HK : Hid (keepL (stpW row) () xs = xs.filter (fun p => p.r != row)) := keep_filter row xs
  obtain ⟨T, hT⟩ : ∃ T, xs.filter (fun p => p.r != row) = T := ⟨_, rfl⟩
  rw [hT] at HK ⊢
  clear hT
  go_enter Try.func9, Try.ntmps9
  go_wp2_with fail
  have HA : Hid (Below w.heap.size w (w.alloc (.cells #[.int .i64 row] 3))) := (Below.refl _ _).alloc (Nat.le_refl _) _
  refine (only_without w.heap.size (fun (_ : Unit) wx => wx.cell? ⟨w.heap.size, 0, none⟩ = some (.int .i64 row)) (stpW row) ?h1 (fun _ => True) ?h2 a xs.length cap xs () _ (RowP.below HR.out HA.out) ?h3 (by simp) (fun _ _ => trivial) (by simp) hl).mono ?_
  case h1 =>
    intro s w1 w2 h hb he
    rw [← h]
    exact World.cell?_of_block he
  case h2 =>
    intro s p wx _ hB hc
    refine (without_fn w.heap.size row p wx hB hc).mono ?_
    rintro e w' ⟨rfl, hb⟩
    exact ⟨rfl, by rw [hb.cell (p := ⟨w.heap.size, 0, none⟩) hB]; exact hc, grown_of_belowP hb _⟩
  case h3 =>
    intro b o e hne
    rcases HR.out.2.2 with h | ⟨b', o', e', hb, _⟩
    · exact absurd h hne
    · rw [e] at e'; cases e'; exact hb
  rintro _ w2 ⟨v2, rfl, ho2, hb2⟩
  rw [HK.out] at ho2
  have HO2 : Hid (w2.ownsRow w.heap.size 25 2 v2 T.length (plc T)) := own_monoP ho2 (by omega)
  have HB2 : Hid (Below w.heap.size w w2) := HA.out.trans hb2
  clear ho2 hb2
  go_wp2
  go_ret
  exact ⟨_, rfl, HO2.out, HB2.out⟩

/-- the place right behind another one -/
def beh (p : Pl) : Pl := ⟨p.r, p.a + 1⟩
set_option maxRecDepth 100000 in
set_option maxHeartbeats 1000000 in
theorem behind_any (p : Pl) (h0 : 0 ≤ p.a) (h1 : p.a < 1073741824) (w : World) : Calls Try.prog 31 #[.agg #[.int .i64 p.r, .int .i64 p.a]] w fun e w' => e = .returned (.agg #[.int .i64 (beh p).r, .int .i64 (beh p).a]) ∧ Below w.heap.size w w' := by
  have HE : Hid (beh p = ⟨p.r, p.a + 1⟩) := rfl
  go_enter Try.func31, Try.ntmps31
  go_wp2
  rw [HE.out]
  exact bodyPost_ret (v := .agg #[.int .i64 p.r, .int .i64 (p.a + 1)]) (by simp [results, Try.results31, go_sem]) rfl ⟨rfl, ((Below.refl _ _).alloc (Nat.le_refl _) _).alloc (by simp) _⟩
end Go.Proofs.Ytalfjdpdecngoaa
