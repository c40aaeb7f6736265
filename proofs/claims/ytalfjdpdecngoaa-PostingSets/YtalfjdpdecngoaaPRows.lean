/- The contracts of Follow, appendRow, Rows. -/
import Derived.Test.YtalfjdpdecngoaaPFoll
namespace Go.Proofs.Ytalfjdpdecngoaa
open Go.RowKit

set_option maxRecDepth 100000 in
set_option maxHeartbeats 1000000 in
theorem follow_any (va vb : Value) (xs ys : List Pl) (w : World) (h1 : InP w va xs) (h2 : InP w vb ys) (hok : ∀ z ∈ xs, OkP z) (hl : ys.length ≤ 100000) :
    Calls Try.prog 13 #[va, vb] w fun e w' => ∃ v', e = .returned v' ∧ w'.ownsRow w.heap.size 25 2 v' (keepL stpF xs ys).length (plc (keepL stpF xs ys)) ∧ Below w.heap.size w w' := by
  obtain ⟨a1, c1, rfl, q1, q2, q3⟩ := h1
  have H1 : Hid (InP w (.slice a1 xs.length c1) xs) := ⟨a1, c1, rfl, q1, q2, q3⟩
  clear q1 q2 q3
  obtain ⟨a, cap, rfl, _, hr, _⟩ := h2
  have HR : Hid (RowP w a ys.length ys) := hr
  have HOK : Hid (∀ z ∈ xs, OkP z) := hok
  clear hr hok
  obtain ⟨T, hT⟩ : ∃ T, keepL stpF xs ys = T := ⟨_, rfl⟩
  have HK : Hid (keepL stpF xs ys = T) := hT
  rw [hT]
  clear hT
  go_enter Try.func13, Try.ntmps13
  go_wp2_with fail
  have HA : Hid (Below w.heap.size w (w.alloc (.cells #[.slice a1 xs.length c1] 22))) := (Below.refl _ _).alloc (Nat.le_refl _) _
  refine (only_follow w.heap.size (IF w w.heap.size) stpF (fun s w1 w2 h hb he => IF.step h hb he) (fun _ => True) (fun s p wx _ hB hc => follow_fn w w.heap.size s p wx (Nat.le_refl _) hB hc) a ys.length cap ys xs _ (RowP.below HR.out HA.out) ?h3 (by simp) (fun _ _ => trivial) ?h4 hl).mono ?_
  case h3 =>
    intro b o e hne
    rcases HR.out.2.2 with h | ⟨b', o', e', hb, _⟩
    · exact absurd h hne
    · rw [e] at e'; cases e'; exact hb
  case h4 =>
    have hn := heap_alloc_new w (.cells #[.slice a1 xs.length c1] 22)
    exact ⟨⟨_, by simp, H1.out⟩, by simp only [World.frozen?, hn]; simp, HA.out, HOK.out⟩
  rintro _ w2 ⟨v2, rfl, ho2, hb2⟩
  rw [HK.out] at ho2
  have HO2 : Hid (w2.ownsRow w.heap.size 25 2 v2 T.length (plc T)) := own_monoP ho2 (by omega)
  have HB2 : Hid (Below w.heap.size w w2) := HA.out.trans hb2
  clear ho2 hb2
  go_wp2
  go_ret
  exact ⟨_, rfl, HO2.out, HB2.out⟩

theorem infoInt : (Try.prog.info? 3).map (fun i => (i.zero, i.size, i.bytes)) = some (some (.int .i64 0), 1, 8) := by kernel_rfl
def icc (l : List Int) : List Value := l.map fun x => Value.int .i64 x
theorem icc_append (a b : List Int) : icc (a ++ b) = icc a ++ icc b := by simp [icc]
/-- a row more, unless it is the last one already -/
def addRow (l : List Int) (r : Int) : List Int := if l.getLast? = some r then l else l ++ [r]
theorem addRow_le (l : List Int) (r : Int) : (addRow l r).length ≤ l.length + 1 := by unfold addRow; split <;> simp
theorem one_int (x : Int) : ∀ u ∈ [Value.int .i64 x], u.oneCell' = true := by intro y hy; simp at hy; subst hy; rfl

set_option maxRecDepth 100000 in
set_option maxHeartbeats 1000000 in
theorem appendRow_any (B : Nat) (v : Value) (l : List Int) (r : Int) (w : World) (hown : w.ownsRow B 3 1 v l.length (icc l)) (hB : B ≤ w.heap.size) (hl : l.length ≤ 900000) :
    Calls Try.prog 28 #[v, .int .i64 r] w fun e w' => ∃ v', e = .returned v' ∧ w'.ownsRow B 3 1 v' (addRow l r).length (icc (addRow l r)) ∧ Below B w w' := by
  obtain ⟨i0, hi, hz0, hz1, hz2⟩ := pinfo_parts infoInt
  have HO : Hid (w.ownsRow B 3 1 v l.length (icc l)) := hown
  by_cases h0 : l = []
  · subst h0
    have e : addRow [] r = [r] := by simp [addRow]
    rw [e]
    have hv : ∃ a c, v = .slice a 0 c := by
      rcases hown.2 with ⟨h, _⟩ | ⟨g, c, cur, h, _⟩
      · exact ⟨none, 0, h⟩
      · exact ⟨_, c, h⟩
    obtain ⟨a, c, rfl⟩ := hv
    clear hown
    go_enter Try.func28, Try.ntmps28
    go_wp2_with (at_builtin; refine wpList_append_own _ rfl _ _ 30 rfl B 3 i0 (.int .i64 0) 1 8 Try.underlying30 hi hz0 hz1 hz2 rfl (by decide) _ _ _ rfl (HO.out.alloc _) ⟨w.heap.size, 0, none⟩ 1 1 [.int .i64 r] rfl rfl (cell_one_new _ _ _) (one_int _) (by simp [maxLen]) (by simp) (by simp; omega) ?_)
    intro v' w1 ho' hg _
    have HB1 : Hid (Below B w w1) := ((Below.refl B w).alloc hB _).grown hg (by simp; omega) (fun g h => (HO.out.lt g h).1)
    have HO1 : Hid (w1.ownsRow B 3 1 v' [r].length (icc [r])) := own_eqP ho' (by simp) (by simp [icc])
    clear ho' hg HO
    go_wp2
    go_ret
    exact ⟨_, rfl, HO1.out, HB1.out⟩
  · obtain ⟨n, hn⟩ : ∃ n, l.length = n + 1 := ⟨l.length - 1, by have := List.length_pos_iff.2 h0; omega⟩
    have hlast : l.getLast? = some l[n] := by rw [List.getLast?_eq_getElem?]; simp [hn]
    rcases hown.2 with ⟨_, h⟩ | ⟨g, c, cur, hv, hBg, hg, _⟩
    · omega
    subst hv
    have hcell : w.cell? ⟨g, n, none⟩ = some (.int .i64 l[n]) := by
      have := hown.cells (g := g) rfl n (.int .i64 l[n]) (by simp [icc, hn])
      rw [Go.WideShapes.add_plain, Nat.zero_add] at this
      exact this
    obtain ⟨y, hy⟩ : ∃ y, l[n] = y := ⟨_, rfl⟩
    rw [hy] at hcell hlast
    have HAR : Hid (addRow l r = if y = r then l else l ++ [r]) := by show _ = _; simp [addRow, hlast]
    clear hown hlast hy hg
    rw [hn] at HO hl ⊢
    have d1 : decide ((0 : Int) < (n : Int) + 1) = true := by simp
    by_cases hyr : y = r
    · subst hyr
      have HR : Hid (addRow l y = l) := by show _ = _; rw [HAR.out, if_pos rfl]
      go_enter Try.func28, Try.ntmps28
      go_wp2
      go_ret
      rw [HR.out, hn]
      exact ⟨_, rfl, HO.out, Below.refl _ _⟩
    · have j1 : (y == r) = false := by simpa using hyr
      have HR : Hid (addRow l r = l ++ [r]) := by show _ = _; rw [HAR.out, if_neg hyr]
      go_enter Try.func28, Try.ntmps28
      go_wp2_with (at_builtin; refine wpList_append_own _ rfl _ _ 30 rfl B 3 i0 (.int .i64 0) 1 8 Try.underlying30 hi hz0 hz1 hz2 rfl (by decide) _ _ _ rfl (HO.out.alloc _) ⟨w.heap.size, 0, none⟩ 1 1 [.int .i64 r] rfl rfl (cell_one_new _ _ _) (one_int _) (by simp [maxLen]; omega) (by omega) (by simp; omega) ?_)
      intro v' w1 ho' hg _
      have HB1 : Hid (Below B w w1) := ((Below.refl B w).alloc hB _).grown hg (by simp; omega) (fun g h => (HO.out.lt g h).1)
      have HO1 : Hid (w1.ownsRow B 3 1 v' (l ++ [r]).length (icc (l ++ [r]))) := own_eqP ho' (by simp [hn]) (by simp [icc])
      clear ho' hg HO
      go_wp2
      go_ret
      rw [HR.out]
      exact ⟨_, rfl, HO1.out, HB1.out⟩

def rowsFrom (acc : List Int) (xs : List Pl) : List Int := xs.foldl (fun l p => addRow l p.r) acc
theorem rowsFrom_le (xs : List Pl) : ∀ acc, (rowsFrom acc xs).length ≤ acc.length + xs.length ∧ acc.length ≤ (rowsFrom acc xs).length := by
  induction xs with
  | nil => intro acc; simp [rowsFrom]
  | cons p l ih =>
    intro acc
    have h1 := ih (addRow acc p.r)
    have h2 := addRow_le acc p.r
    have h3 : acc.length ≤ (addRow acc p.r).length := by unfold addRow; split <;> simp
    simp only [rowsFrom, List.foldl_cons, List.length_cons] at h1 ⊢
    omega

set_option maxRecDepth 100000 in
set_option maxHeartbeats 1000000 in
theorem rows_any (v1 : Value) (xs : List Pl) (w : World) (h1 : InP w v1 xs) (hl : xs.length ≤ 100000) :
    Calls Try.prog 11 #[v1] w fun e w' => ∃ v', e = .returned v' ∧ w'.ownsRow w.heap.size 3 1 v' (rowsFrom [] xs).length (icc (rowsFrom [] xs)) ∧ Below w.heap.size w w' := by
  obtain ⟨a, cap, rfl, _, hr, _⟩ := h1
  obtain ⟨T, hT⟩ : ∃ T, rowsFrom [] xs = T := ⟨_, rfl⟩
  have HT : Hid (rowsFrom [] (xs.drop 0) = T) := hT
  rw [hT]
  clear hT
  obtain ⟨_, hm, hx⟩ := hr
  go_enter Try.func11, Try.ntmps11
  go_wp2
  go_loopw [3, 8] (fun v i wr => ∃ (k : Nat) (l : List Int), k ≤ xs.length ∧ l.length ≤ k ∧ i = .int .i64 k ∧ Hid (rowsFrom l (xs.drop k) = T) ∧ Hid (wr.ownsRow w.heap.size 3 1 v l.length (icc l) ∧ Below w.heap.size w wr)) (fun _ i _ => xs.length - (intOf i).toNat)
  case atStart => exact ⟨0, [], Nat.zero_le _, by simp, rfl, HT, World.ownsRow_nil _ _ _ _, Below.refl _ _⟩
  case round =>
    clear HT
    obtain ⟨k, l, hk, hlk, rfl, hz, hown⟩ := hrel
    by_cases hlt : k < xs.length
    · rcases hx with hx | ⟨b, off, rfl, hb, hrow⟩
      · simp [hx] at hlt
      obtain ⟨g1, g2⟩ := hrow k hlt
      clear hrow
      rw [← hown.out.2.cell (p := ⟨b, _, none⟩) hb] at g1 g2
      have HZ : Hid (rowsFrom (addRow l xs[k].r) (xs.drop (k + 1)) = T) := by
        have := hz.out
        rw [List.drop_eq_getElem_cons hlt] at this
        exact this
      have i1 : (k : Int) < (xs.length : Int) := by omega
      generalize xs[k] = q at *
      have HB : Hid (Below w.heap.size w wr) := hown.out.2
      have HA : Hid (Below wr.heap.size wr (wr.alloc (.cells #[.int .i64 q.r, .int .i64 q.a] 25))) := (Below.refl _ _).alloc (Nat.le_refl _) _
      have HO1 : Hid ((wr.alloc (.cells #[.int .i64 q.r, .int .i64 q.a] 25)).ownsRow w.heap.size 3 1 u3 l.length (icc l)) := own_belowP hown.out.1 HA.out
      have HB1 : Hid (Below w.heap.size w (wr.alloc (.cells #[.int .i64 q.r, .int .i64 q.a] 25))) := HB.out.trans (HA.out.mono HB.out.size)
      clear hown hz
      go_wp2_with fail
      refine (appendRow_any w.heap.size u3 l q.r _ HO1.out HB1.out.size (by omega)).mono ?_
      rintro _ w2 ⟨v2, rfl, ho2, hb2⟩
      have HO2 : Hid (w2.ownsRow w.heap.size 3 1 v2 (addRow l q.r).length (icc (addRow l q.r))) := ho2
      have HB2 : Hid (Below w.heap.size w w2) := HB1.out.trans hb2
      have hle := addRow_le l q.r
      clear ho2 hb2 HO1 HB1 HA HB
      go_wp2
      go_roundw
      case rel => exact ⟨k + 1, addRow l q.r, by omega, by omega, by go_num, HZ, HO2.out, HB2.out⟩
      case measure => simp [intOf]; omega
    · have e : l = T := by
        have := hz.out
        rw [List.drop_eq_nil_of_le (by omega)] at this
        exact this
      subst e
      go_wp2
      go_ret
      exact ⟨_, rfl, hown.out.1, hown.out.2⟩
end Go.Proofs.Ytalfjdpdecngoaa
