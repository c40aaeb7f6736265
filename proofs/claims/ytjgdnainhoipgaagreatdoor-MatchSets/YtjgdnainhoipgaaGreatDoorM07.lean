/- Texts of the proof of MatchSets: PRows, PNear, PMath, PCross. -/
import Derived.Test.YtjgdnainhoipgaaGreatDoorM06
namespace Go.Proofs.YtjgdnainhoipgaaGreatDoor
open Go.RowKit

set_option maxRecDepth 100000 in
set_option maxHeartbeats 1000000 in
theorem follow_any (va vb : Value) (xs ys : List Pl) (w : World) (h1 : InP w va xs) (h2 : InP w vb ys) (hok : ∀ z ∈ xs, OkP z) (hl : ys.length ≤ 100000) :
    Calls Tryz.prog 148 #[va, vb] w fun e w' => ∃ v', e = .returned v' ∧ w'.ownsRow w.heap.size 117 2 v' (keepL stpF xs ys).length (plc (keepL stpF xs ys)) ∧ Below w.heap.size w w' := by
  obtain ⟨a1, c1, rfl, q1, q2, q3⟩ := h1
  have H1 : Hid (InP w (.slice a1 xs.length c1) xs) := ⟨a1, c1, rfl, q1, q2, q3⟩
  clear q1 q2 q3
  obtain ⟨a, cap, rfl, _, hr, _⟩ := h2
  have HR : Hid (RowP w a ys.length ys) := hr
  have HOK : Hid (∀ z ∈ xs, OkP z) := hok
  clear hr hok
  obtain ⟨T, hT⟩ : ∃ T, keepL stpF xs ys = T := ⟨_, rfl⟩
  have HK : Hid (keepL stpF xs ys = T) := hT
  rw [hT]
  clear hT
  go_enter Tryz.func148, Tryz.ntmps148
  go_wp2_with fail
  have HA : Hid (Below w.heap.size w (w.alloc (.cells #[.slice a1 xs.length c1] 65))) := (Below.refl _ _).alloc (Nat.le_refl _) _
  refine (only_follow w.heap.size (IF w w.heap.size) stpF (fun s w1 w2 h hb he => IF.step h hb he) (fun _ => True) (fun s p wx _ hB hc => follow_fn w w.heap.size s p wx (Nat.le_refl _) hB hc) a ys.length cap ys xs _ (RowP.below HR.out HA.out) ?h3 (by simp) (fun _ _ => trivial) ?h4 hl).mono ?_
  case h3 =>
    intro b o e hne
    rcases HR.out.2.2 with h | ⟨b', o', e', hb, _⟩
    · exact absurd h hne
    · rw [e] at e'; cases e'; exact hb
  case h4 =>
    have hn := heap_alloc_new w (.cells #[.slice a1 xs.length c1] 65)
    exact ⟨⟨_, by simp, H1.out⟩, by simp only [World.frozen?, hn]; simp, HA.out, HOK.out⟩
  rintro _ w2 ⟨v2, rfl, ho2, hb2⟩
  rw [HK.out] at ho2
  have HO2 : Hid (w2.ownsRow w.heap.size 117 2 v2 T.length (plc T)) := own_monoP ho2 (by omega)
  have HB2 : Hid (Below w.heap.size w w2) := HA.out.trans hb2
  clear ho2 hb2
  go_wp2
  go_ret
  exact ⟨_, rfl, HO2.out, HB2.out⟩

theorem infoInt : (Tryz.prog.info? 3).map (fun i => (i.zero, i.size, i.bytes)) = some (some (.int .i64 0), 1, 8) := by kernel_rfl
def icc (l : List Int) : List Value := l.map fun x => Value.int .i64 x
/-- a row more, unless it is the last one already -/
def addRow (l : List Int) (r : Int) : List Int := if l.getLast? = some r then l else l ++ [r]
theorem addRow_le (l : List Int) (r : Int) : (addRow l r).length ≤ l.length + 1 := by unfold addRow; split <;> simp
theorem one_int (x : Int) : ∀ u ∈ [Value.int .i64 x], u.oneCell' = true := by intro y hy; simp at hy; subst hy; rfl

set_option maxRecDepth 100000 in
set_option maxHeartbeats 1000000 in
theorem appendRow_any (B : Nat) (v : Value) (l : List Int) (r : Int) (w : World) (hown : w.ownsRow B 3 1 v l.length (icc l)) (hB : B ≤ w.heap.size) (hl : l.length ≤ 900000) :
    Calls Tryz.prog 49 #[v, .int .i64 r] w fun e w' => ∃ v', e = .returned v' ∧ w'.ownsRow B 3 1 v' (addRow l r).length (icc (addRow l r)) ∧ Below B w w' := by
  obtain ⟨i0, hi, hz0, hz1, hz2⟩ := pinfo_parts infoInt
  have HO : Hid (w.ownsRow B 3 1 v l.length (icc l)) := hown
  by_cases h0 : l = []
  · subst h0
    have e : addRow [] r = [r] := by simp [addRow]
    rw [e]
    have hv : ∃ a c, v = .slice a 0 c := by
      rcases hown.2 with ⟨h, _⟩ | ⟨g, c, cur, h, _⟩
      · exact ⟨none, 0, h⟩
      · exact ⟨_, c, h⟩
    obtain ⟨a, c, rfl⟩ := hv
    clear hown
    go_enter Tryz.func49, Tryz.ntmps49
    go_wp2_with (at_builtin; refine wpList_append_own _ rfl _ _ 68 rfl B 3 i0 (.int .i64 0) 1 8 Tryz.underlying68 hi hz0 hz1 hz2 rfl (by decide) _ _ _ rfl (HO.out.alloc _) ⟨w.heap.size, 0, none⟩ 1 1 [.int .i64 r] rfl rfl (cell_one_new _ _ _) (one_int _) (by simp [maxLen]) (by simp) (by simp; omega) ?_)
    intro v' w1 ho' hg _
    have HB1 : Hid (Below B w w1) := ((Below.refl B w).alloc hB _).grown hg (by simp; omega) (fun g h => (HO.out.lt g h).1)
    have HO1 : Hid (w1.ownsRow B 3 1 v' [r].length (icc [r])) := own_eqP ho' (by simp) (by simp [icc])
    clear ho' hg HO
    go_wp2
    go_ret
    exact ⟨_, rfl, HO1.out, HB1.out⟩
  · obtain ⟨n, hn⟩ : ∃ n, l.length = n + 1 := ⟨l.length - 1, by have := List.length_pos_iff.2 h0; omega⟩
    have hlast : l.getLast? = some l[n] := by rw [List.getLast?_eq_getElem?]; simp [hn]
    rcases hown.2 with ⟨_, h⟩ | ⟨g, c, cur, hv, hBg, hg, _⟩
    · omega
    subst hv
    have hcell : w.cell? ⟨g, n, none⟩ = some (.int .i64 l[n]) := by
      have := hown.cells (g := g) rfl n (.int .i64 l[n]) (by simp [icc, hn])
      rw [Go.WideShapes.add_plain, Nat.zero_add] at this
      exact this
    obtain ⟨y, hy⟩ : ∃ y, l[n] = y := ⟨_, rfl⟩
    rw [hy] at hcell hlast
    have HAR : Hid (addRow l r = if y = r then l else l ++ [r]) := by show _ = _; simp [addRow, hlast]
    clear hown hlast hy hg
    rw [hn] at HO hl ⊢
    have d1 : decide ((0 : Int) < (n : Int) + 1) = true := by simp
    by_cases hyr : y = r
    · subst hyr
      have HR : Hid (addRow l y = l) := by show _ = _; rw [HAR.out, if_pos rfl]
      go_enter Tryz.func49, Tryz.ntmps49
      go_wp2
      go_ret
      rw [HR.out, hn]
      exact ⟨_, rfl, HO.out, Below.refl _ _⟩
    · have j1 : (y == r) = false := by simpa using hyr
      have HR : Hid (addRow l r = l ++ [r]) := by show _ = _; rw [HAR.out, if_neg hyr]
      go_enter Tryz.func49, Tryz.ntmps49
      go_wp2_with (at_builtin; refine wpList_append_own _ rfl _ _ 68 rfl B 3 i0 (.int .i64 0) 1 8 Tryz.underlying68 hi hz0 hz1 hz2 rfl (by decide) _ _ _ rfl (HO.out.alloc _) ⟨w.heap.size, 0, none⟩ 1 1 [.int .i64 r] rfl rfl (cell_one_new _ _ _) (one_int _) (by simp [maxLen]; omega) (by omega) (by simp; omega) ?_)
      intro v' w1 ho' hg _
      have HB1 : Hid (Below B w w1) := ((Below.refl B w).alloc hB _).grown hg (by simp; omega) (fun g h => (HO.out.lt g h).1)
      have HO1 : Hid (w1.ownsRow B 3 1 v' (l ++ [r]).length (icc (l ++ [r]))) := own_eqP ho' (by simp [hn]) (by simp [icc])
      clear ho' hg HO
      go_wp2
      go_ret
      rw [HR.out]
      exact ⟨_, rfl, HO1.out, HB1.out⟩

def rowsFrom (acc : List Int) (xs : List Pl) : List Int := xs.foldl (fun l p => addRow l p.r) acc
theorem rowsFrom_le (xs : List Pl) : ∀ acc, (rowsFrom acc xs).length ≤ acc.length + xs.length ∧ acc.length ≤ (rowsFrom acc xs).length := by
  induction xs with
  | nil => intro acc; simp [rowsFrom]
  | cons p l ih =>
    intro acc
    have h1 := ih (addRow acc p.r)
    have h2 := addRow_le acc p.r
    have h3 : acc.length ≤ (addRow acc p.r).length := by unfold addRow; split <;> simp
    simp only [rowsFrom, List.foldl_cons, List.length_cons] at h1 ⊢
    omega

set_option maxRecDepth 100000 in
set_option maxHeartbeats 1000000 in
theorem rows_any (v1 : Value) (xs : List Pl) (w : World) (h1 : InP w v1 xs) (hl : xs.length ≤ 100000) :
    Calls Tryz.prog 24 #[v1] w fun e w' => ∃ v', e = .returned v' ∧ w'.ownsRow w.heap.size 3 1 v' (rowsFrom [] xs).length (icc (rowsFrom [] xs)) ∧ Below w.heap.size w w' := by
  obtain ⟨a, cap, rfl, _, hr, _⟩ := h1
  obtain ⟨T, hT⟩ : ∃ T, rowsFrom [] xs = T := ⟨_, rfl⟩
  have HT : Hid (rowsFrom [] (xs.drop 0) = T) := hT
  rw [hT]
  clear hT
  obtain ⟨_, hm, hx⟩ := hr
  go_enter Tryz.func24, Tryz.ntmps24
  go_wp2
  go_loopw [3, 8] (fun v i wr => ∃ (k : Nat) (l : List Int), k ≤ xs.length ∧ l.length ≤ k ∧ i = .int .i64 k ∧ Hid (rowsFrom l (xs.drop k) = T) ∧ Hid (wr.ownsRow w.heap.size 3 1 v l.length (icc l) ∧ Below w.heap.size w wr)) (fun _ i _ => xs.length - (intOf i).toNat)
  case atStart => exact ⟨0, [], Nat.zero_le _, by simp, rfl, HT, World.ownsRow_nil _ _ _ _, Below.refl _ _⟩
  case round =>
    clear HT
    obtain ⟨k, l, hk, hlk, rfl, hz, hown⟩ := hrel
    by_cases hlt : k < xs.length
    · rcases hx with hx | ⟨b, off, rfl, hb, hrow⟩
      · simp [hx] at hlt
      obtain ⟨g1, g2⟩ := hrow k hlt
      clear hrow
      rw [← hown.out.2.cell (p := ⟨b, _, none⟩) hb] at g1 g2
      have HZ : Hid (rowsFrom (addRow l xs[k].r) (xs.drop (k + 1)) = T) := by
        have := hz.out
        rw [List.drop_eq_getElem_cons hlt] at this
        exact this
      have i1 : (k : Int) < (xs.length : Int) := by omega
      generalize xs[k] = q at *
      have HB : Hid (Below w.heap.size w wr) := hown.out.2
      have HA : Hid (Below wr.heap.size wr (wr.alloc (.cells #[.int .i64 q.r, .int .i64 q.a] 117))) := (Below.refl _ _).alloc (Nat.le_refl _) _
      have HO1 : Hid ((wr.alloc (.cells #[.int .i64 q.r, .int .i64 q.a] 117)).ownsRow w.heap.size 3 1 u3 l.length (icc l)) := own_belowP hown.out.1 HA.out
      have HB1 : Hid (Below w.heap.size w (wr.alloc (.cells #[.int .i64 q.r, .int .i64 q.a] 117))) := HB.out.trans (HA.out.mono HB.out.size)
      clear hown hz
      go_wp2_with fail
      refine (appendRow_any w.heap.size u3 l q.r _ HO1.out HB1.out.size (by omega)).mono ?_
      rintro _ w2 ⟨v2, rfl, ho2, hb2⟩
      have HO2 : Hid (w2.ownsRow w.heap.size 3 1 v2 (addRow l q.r).length (icc (addRow l q.r))) := ho2
      have HB2 : Hid (Below w.heap.size w w2) := HB1.out.trans hb2
      have hle := addRow_le l q.r
      clear ho2 hb2 HO1 HB1 HA HB
      go_wp2
      go_roundw
      case rel => exact ⟨k + 1, addRow l q.r, by omega, by omega, by go_num, HZ, HO2.out, HB2.out⟩
      case measure => simp [intOf]; omega
    · have e : l = T := by
        have := hz.out
        rw [List.drop_eq_nil_of_le (by omega)] at this
        exact this
      subst e
      go_wp2
      go_ret
      exact ⟨_, rfl, hown.out.1, hown.out.2⟩
end Go.Proofs.YtjgdnainhoipgaaGreatDoor
namespace Go.Proofs.YtjgdnainhoipgaaGreatDoor
open Go.RowKit

theorem apart_any (m n : Int) (h1 : 0 ≤ m) (h2 : m < 1073741824) (h3 : 0 ≤ n) (h4 : n < 1073741824) (w : World) : Calls Tryz.prog 177 #[.int .i64 m, .int .i64 n] w fun e w' => e = .returned (.int .i64 (max (m - n) (n - m))) ∧ w' = w := by
  by_cases h : m - n < n - m
  · go_enter Tryz.func177, Tryz.ntmps177
    go_wp2
    go_ret
    exact ⟨pret_int (by omega), rfl⟩
  · go_enter Tryz.func177, Tryz.ntmps177
    go_wp2
    go_ret
    exact ⟨pret_int (by omega), rfl⟩
theorem apart_as (m n d : Int) (hd : max (m - n) (n - m) = d) (h1 : 0 ≤ m) (h2 : m < 1073741824) (h3 : 0 ≤ n) (h4 : n < 1073741824) (w : World) : Calls Tryz.prog 177 #[.int .i64 m, .int .i64 n] w fun e w' => e = .returned (.int .i64 d) ∧ w' = w := by
  rw [← hd]; exact apart_any m n h1 h2 h3 h4 w

/-- the rows in which a place of the first ones is at most so far from one of the second ones -/
def nearFrom (far : Int) : List Int → List Pl → List Pl → List Int
  | acc, [], _ => acc
  | acc, _ :: _, [] => acc
  | acc, x :: a, y :: b =>
    if cmpP x y < 0 then nearFrom far (if x.r = y.r ∧ max (x.a - y.a) (y.a - x.a) ≤ far then addRow acc x.r else acc) a (y :: b)
    else nearFrom far (if x.r = y.r ∧ max (x.a - y.a) (y.a - x.a) ≤ far then addRow acc x.r else acc) (x :: a) b
termination_by _ a b => a.length + b.length
decreasing_by all_goals (simp only [List.length_cons]; omega)
theorem near_nil_right (far : Int) (acc : List Int) (a : List Pl) : nearFrom far acc a [] = acc := by cases a <;> simp [nearFrom]

/-- what is known of a world in a round -/
def NE (w : World) (b1 o1 : Nat) (x : Pl) (b2 o2 : Nat) (y : Pl) (v : Value) (l : List Int) (wx : World) : Prop :=
  (wx.cell? ⟨b1, o1, none⟩ = some (.int .i64 x.r) ∧ wx.cell? ⟨b1, o1 + 1, none⟩ = some (.int .i64 x.a) ∧ wx.cell? ⟨b2, o2, none⟩ = some (.int .i64 y.r) ∧ wx.cell? ⟨b2, o2 + 1, none⟩ = some (.int .i64 y.a)) ∧
  (b1 < w.heap.size ∧ b2 < w.heap.size) ∧ Below w.heap.size w wx ∧ wx.ownsRow w.heap.size 3 1 v l.length (icc l)
theorem NE.grow {w wx wy : World} {b1 o1 b2 o2 : Nat} {x y : Pl} {v v' : Value} {l l' : List Int} (h : NE w b1 o1 x b2 o2 y v l wx) (hb : Below w.heap.size wx wy) (ho : wy.ownsRow w.heap.size 3 1 v' l'.length (icc l')) : NE w b1 o1 x b2 o2 y v' l' wy := by
  obtain ⟨⟨h1, h2, h3, h4⟩, ⟨h5, h6⟩, h7, h8⟩ := h
  refine ⟨⟨?_, ?_, ?_, ?_⟩, ⟨h5, h6⟩, h7.trans hb, ho⟩
  · rw [hb.cell (p := ⟨b1, _, none⟩) h5]; exact h1
  · rw [hb.cell (p := ⟨b1, _, none⟩) h5]; exact h2
  · rw [hb.cell (p := ⟨b2, _, none⟩) h6]; exact h3
  · rw [hb.cell (p := ⟨b2, _, none⟩) h6]; exact h4
theorem NE.step {w wx wy : World} {b1 o1 b2 o2 : Nat} {x y : Pl} {v : Value} {l : List Int} (h : NE w b1 o1 x b2 o2 y v l wx) (hb : Below wx.heap.size wx wy) : NE w b1 o1 x b2 o2 y v l wy :=
  NE.grow h (hb.mono h.2.2.1.size) (own_belowP h.2.2.2 hb)
theorem NE.drew {w wx : World} {b1 o1 b2 o2 : Nat} {x y : Pl} {v : Value} {l : List Int} (h : NE w b1 o1 x b2 o2 y v l wx) : NE w b1 o1 x b2 o2 y v l wx.drew := h.step (Below.refl _ _).drew

set_option maxRecDepth 100000 in
set_option maxHeartbeats 4000000 in
theorem near_any (va vb : Value) (far : Int) (xs ys : List Pl) (w : World) (h1 : InP w va xs) (h2 : InP w vb ys) (hl1 : xs.length ≤ 100000) (hl2 : ys.length ≤ 100000) (hk1 : ∀ z ∈ xs, OkP z) (hk2 : ∀ z ∈ ys, OkP z) :
    Calls Tryz.prog 151 #[va, vb, .int .i64 far] w fun e w' => ∃ v, e = .returned v ∧ w'.ownsRow w.heap.size 3 1 v (nearFrom far [] xs ys).length (icc (nearFrom far [] xs ys)) ∧ Below w.heap.size w w' := by
  obtain ⟨T, hT⟩ : ∃ T, nearFrom far [] xs ys = T := ⟨_, rfl⟩
  have HT : Hid (nearFrom far [] xs ys = T) := hT
  rw [hT]
  clear hT
  have H1 : Hid (InP w va xs ∧ ∀ z ∈ xs, OkP z) := ⟨h1, hk1⟩
  have H2 : Hid (InP w vb ys ∧ ∀ z ∈ ys, OkP z) := ⟨h2, hk2⟩
  obtain ⟨a1, c1, rfl, hc1, _, _⟩ := h1
  obtain ⟨a2, c2, rfl, hc2, _, _⟩ := h2
  clear hk1 hk2
  go_enter Tryz.func151, Tryz.ntmps151
  go_wp2
  go_loopw [0, 1, 7] (fun x y v wr => ∃ (xs ys : List Pl) (l : List Int), Hid (InP w x xs ∧ InP w y ys ∧ nearFrom far l xs ys = T ∧ (∀ z ∈ xs, OkP z) ∧ (∀ z ∈ ys, OkP z)) ∧ Hid (wr.ownsRow w.heap.size 3 1 v l.length (icc l) ∧ Below w.heap.size w wr) ∧ l.length + xs.length + ys.length ≤ 200000) (fun x y _ _ => sliceLen x + sliceLen y)
  case atStart => exact ⟨xs, ys, [], ⟨H1.out.1, H2.out.1, HT.out, H1.out.2, H2.out.2⟩, ⟨World.ownsRow_nil _ _ _ _, Below.refl _ _⟩, by simp; omega⟩
  case round =>
    clear HT H1 H2 hc1 hc2 hl1 hl2
    obtain ⟨xs, ys, l, hz, hown, hlen⟩ := hrel
    obtain ⟨a1, c1, rfl, hc1, hr1, _⟩ := hz.out.1
    obtain ⟨a2, c2, rfl, hc2, hr2, _⟩ := hz.out.2.1
    by_cases hemp : xs = [] ∨ ys = []
    · have e : l = T := by
        rw [← hz.out.2.2.1]
        rcases hemp with e | e
        · subst e; simp [nearFrom]
        · subst e; rw [near_nil_right]
      have hb : (xs.length = 0 ∧ True) ∨ ((decide (0 < xs.length) = true ∧ ys.length = 0) ∧ True) := by
        rcases hemp with e | e
        · subst e; exact .inl ⟨rfl, trivial⟩
        · subst e
          by_cases h : xs.length = 0
          · exact .inl ⟨h, trivial⟩
          · exact .inr ⟨⟨by simp; omega, rfl⟩, trivial⟩
      subst e
      have HO : Hid (wr.ownsRow w.heap.size 3 1 u7 l.length (icc l) ∧ Below w.heap.size w wr) := hown.out
      clear hemp hz hr1 hr2 hown
      obtain ⟨n1, e1⟩ : ∃ n, xs.length = n := ⟨_, rfl⟩
      obtain ⟨n2, e2⟩ : ∃ n, ys.length = n := ⟨_, rfl⟩
      rw [e1, e2] at hb ⊢
      rcases hb with ⟨h, _⟩ | ⟨⟨d1, h⟩, _⟩
      · rw [h]
        clear h e1 e2
        go_wp2
        go_ret
        exact ⟨_, rfl, HO.out.1, HO.out.2⟩
      · rw [h]
        clear h e1 e2
        go_wp2
        go_ret
        exact ⟨_, rfl, HO.out.1, HO.out.2⟩
    · obtain ⟨x, xs, rfl⟩ : ∃ x t, xs = x :: t := by
        cases xs with
        | nil => exact absurd (.inl rfl) hemp
        | cons x t => exact ⟨x, t, rfl⟩
      obtain ⟨y, ys, rfl⟩ : ∃ y t, ys = y :: t := by
        cases ys with
        | nil => exact absurd (.inr rfl) hemp
        | cons y t => exact ⟨y, t, rfl⟩
      clear hemp
      have HOK : Hid ((∀ z ∈ xs, OkP z) ∧ (∀ z ∈ y :: ys, OkP z) ∧ (∀ z ∈ x :: xs, OkP z) ∧ (∀ z ∈ ys, OkP z)) := ⟨fun z h => hz.out.2.2.2.1 z (by simp [h]), hz.out.2.2.2.2, hz.out.2.2.2.1, fun z h => hz.out.2.2.2.2 z (by simp [h])⟩
      obtain ⟨x1, x2, x3, x4⟩ := hz.out.2.2.2.1 x (by simp)
      obtain ⟨y1, y2, y3, y4⟩ := hz.out.2.2.2.2 y (by simp)
      simp only [List.length_cons] at *
      obtain ⟨n1, e1⟩ : ∃ n, xs.length = n := ⟨_, rfl⟩
      obtain ⟨n2, e2⟩ : ∃ n, ys.length = n := ⟨_, rfl⟩
      rcases hr1.2.2 with hx | ⟨b1, o1, rfl, hb1, hrow1⟩
      · cases hx
      rcases hr2.2.2 with hx | ⟨b2, o2, rfl, hb2, hrow2⟩
      · cases hx
      obtain ⟨g1, g2⟩ := hrow1 0 (by simp)
      obtain ⟨g3, g4⟩ := hrow2 0 (by simp)
      simp only [Nat.zero_mul, Nat.add_zero, List.getElem_cons_zero] at g1 g2 g3 g4
      rw [← hown.out.2.cell (p := ⟨b1, _, none⟩) hb1] at g1 g2
      rw [← hown.out.2.cell (p := ⟨b2, _, none⟩) hb2] at g3 g4
      clear hrow1 hrow2 hr1 hr2
      have HI1 : Hid (InP w (.slice (some ⟨b1, o1, none⟩) (n1 + 1) c1) (x :: xs)) := by rw [← e1]; exact hz.out.1
      have HI2 : Hid (InP w (.slice (some ⟨b2, o2, none⟩) (n2 + 1) c2) (y :: ys)) := by rw [← e2]; exact hz.out.2.1
      have HZ : Hid (nearFrom far l (x :: xs) (y :: ys) = T) := hz.out.2.2.1
      rw [e1] at hc1 hlen ⊢
      rw [e2] at hc2 hlen ⊢
      have d1 : decide ((0 : Int) < (n1 : Int) + 1) = true := by simp
      have d2 : decide ((0 : Int) < (n2 : Int) + 1) = true := by simp
      have HM : Hid (NE w b1 o1 x b2 o2 y u7 l wr) := ⟨⟨g1, g2, g3, g4⟩, ⟨hb1, hb2⟩, hown.out.2, hown.out.1⟩
      clear g1 g2 g3 g4 hown hz
      obtain ⟨cc, hcc⟩ : ∃ cc, cmpP x y = cc := ⟨_, rfl⟩
      have HCC : Hid (cmpP x y = cc) := hcc
      obtain ⟨dd, hdd⟩ : ∃ dd, max (x.a - y.a) (y.a - x.a) = dd := ⟨_, rfl⟩
      have HDD : Hid (max (x.a - y.a) (y.a - x.a) = dd) := hdd
      have HZ1 : Hid ((if cc < 0 then nearFrom far (if x.r = y.r ∧ dd ≤ far then addRow l x.r else l) xs (y :: ys) else nearFrom far (if x.r = y.r ∧ dd ≤ far then addRow l x.r else l) (x :: xs) ys) = T) := by
        show _ = _
        rw [← HZ.out, nearFrom, hcc, hdd]
      clear hcc hdd HZ
      by_cases hlt : cc < 0
      · rw [if_pos hlt] at HZ1
        by_cases hrr : x.r = y.r
        · have j1 : (x.r == y.r) = true := by simpa using hrr
          by_cases hdf : dd ≤ far
          · have j2 : decide (dd ≤ far) = true := by simpa using hdf
            have HZ2 : Hid (nearFrom far (addRow l x.r) xs (y :: ys) = T) := by show _ = _; rw [← HZ1.out, if_pos ⟨hrr, hdf⟩]
            clear hrr HZ1
            go_wp2_with fail
            obtain ⟨k1, k2, k3, k4⟩ := HM.out.1
            go_quiet ((go_at_call 177; refine Calls.quiet_of_same (apart_as x.a y.a dd HDD.out (by omega) (by omega) (by omega) (by omega) _)))
            have HM : Hid _ := NE.step HM.out (below_drewN (Below.refl _ _) nq)
            clear k1 k2 k3 k4
            obtain ⟨k1, k2, k3, k4⟩ := HM.out.1
            go_wp2_with fail
            refine (appendRow_any w.heap.size u7 l x.r _ HM.out.2.2.2 HM.out.2.2.1.size (by omega)).mono ?_
            rintro _ w2 ⟨v2, rfl, ho2, hb2⟩
            have HM : Hid (NE w b1 o1 x b2 o2 y v2 (addRow l x.r) w2) := NE.grow HM.out hb2 ho2
            have hle := addRow_le l x.r
            clear ho2 hb2 k1 k2 k3 k4
            go_wp2_with fail
            have HM : Hid _ := NE.drew HM.out
            go_region_held3 (fun w' => w'.cell? ⟨b1, o1, none⟩ = some (.int .i64 x.r) ∧ w'.cell? ⟨b1, o1 + 1, none⟩ = some (.int .i64 x.a) ∧ w'.cell? ⟨b2, o2, none⟩ = some (.int .i64 y.r) ∧ w'.cell? ⟨b2, o2 + 1, none⟩ = some (.int .i64 y.a)) (exact HM.out.1)
              ((go_at_call 137; refine Calls.mono (compare_as x y _ HCC.out _) ?_; rintro _ w3 ⟨rfl, hb3⟩; have HM : Hid _ := NE.step HM.out hb3; clear hb3))
            go_wp2
            go_roundw
            case rel => exact ⟨xs, y :: ys, addRow l x.r, ⟨HI1.out.tail, HI2.out, HZ2.out, HOK.out.1, HOK.out.2.1⟩, ⟨HM.out.2.2.2, HM.out.2.2.1⟩, by simp only [List.length_cons]; omega⟩
            case measure => simp [sliceLen] <;> omega
          · have j2 : decide (dd ≤ far) = false := by simpa using hdf
            have HZ2 : Hid (nearFrom far l xs (y :: ys) = T) := by show _ = _; rw [← HZ1.out, if_neg (fun h => hdf h.2)]
            clear hrr HZ1
            go_wp2_with fail
            obtain ⟨k1, k2, k3, k4⟩ := HM.out.1
            go_quiet ((go_at_call 177; refine Calls.quiet_of_same (apart_as x.a y.a dd HDD.out (by omega) (by omega) (by omega) (by omega) _)))
            have HM : Hid _ := NE.step HM.out (below_drewN (Below.refl _ _) nq)
            clear k1 k2 k3 k4
            go_wp2_with fail
            have HM : Hid _ := NE.drew HM.out
            go_region_held3 (fun w' => w'.cell? ⟨b1, o1, none⟩ = some (.int .i64 x.r) ∧ w'.cell? ⟨b1, o1 + 1, none⟩ = some (.int .i64 x.a) ∧ w'.cell? ⟨b2, o2, none⟩ = some (.int .i64 y.r) ∧ w'.cell? ⟨b2, o2 + 1, none⟩ = some (.int .i64 y.a)) (exact HM.out.1)
              ((go_at_call 137; refine Calls.mono (compare_as x y _ HCC.out _) ?_; rintro _ w3 ⟨rfl, hb3⟩; have HM : Hid _ := NE.step HM.out hb3; clear hb3))
            go_wp2
            go_roundw
            case rel => exact ⟨xs, y :: ys, l, ⟨HI1.out.tail, HI2.out, HZ2.out, HOK.out.1, HOK.out.2.1⟩, ⟨HM.out.2.2.2, HM.out.2.2.1⟩, by simp only [List.length_cons]; omega⟩
            case measure => simp [sliceLen] <;> omega
        · have j1 : (x.r == y.r) = false := by simpa using hrr
          have HZ2 : Hid (nearFrom far l xs (y :: ys) = T) := by show _ = _; rw [← HZ1.out, if_neg (fun h => hrr h.1)]
          clear HZ1
          go_wp2_with fail
          obtain ⟨k1, k2, k3, k4⟩ := HM.out.1
          go_quiet (fail)
          have HM : Hid _ := NE.step HM.out (below_drewN (Below.refl _ _) nq)
          clear k1 k2 k3 k4
          go_wp2_with fail
          have HM : Hid _ := NE.drew HM.out
          go_region_held3 (fun w' => w'.cell? ⟨b1, o1, none⟩ = some (.int .i64 x.r) ∧ w'.cell? ⟨b1, o1 + 1, none⟩ = some (.int .i64 x.a) ∧ w'.cell? ⟨b2, o2, none⟩ = some (.int .i64 y.r) ∧ w'.cell? ⟨b2, o2 + 1, none⟩ = some (.int .i64 y.a)) (exact HM.out.1)
            ((go_at_call 137; refine Calls.mono (compare_as x y _ HCC.out _) ?_; rintro _ w3 ⟨rfl, hb3⟩; have HM : Hid _ := NE.step HM.out hb3; clear hb3))
          go_wp2
          go_roundw
          case rel => exact ⟨xs, y :: ys, l, ⟨HI1.out.tail, HI2.out, HZ2.out, HOK.out.1, HOK.out.2.1⟩, ⟨HM.out.2.2.2, HM.out.2.2.1⟩, by simp only [List.length_cons]; omega⟩
          case measure => simp [sliceLen] <;> omega
      · rw [if_neg hlt] at HZ1
        by_cases hrr : x.r = y.r
        · have j1 : (x.r == y.r) = true := by simpa using hrr
          by_cases hdf : dd ≤ far
          · have j2 : decide (dd ≤ far) = true := by simpa using hdf
            have HZ2 : Hid (nearFrom far (addRow l x.r) (x :: xs) ys = T) := by show _ = _; rw [← HZ1.out, if_pos ⟨hrr, hdf⟩]
            clear hrr HZ1
            go_wp2_with fail
            obtain ⟨k1, k2, k3, k4⟩ := HM.out.1
            go_quiet ((go_at_call 177; refine Calls.quiet_of_same (apart_as x.a y.a dd HDD.out (by omega) (by omega) (by omega) (by omega) _)))
            have HM : Hid _ := NE.step HM.out (below_drewN (Below.refl _ _) nq)
            clear k1 k2 k3 k4
            obtain ⟨k1, k2, k3, k4⟩ := HM.out.1
            go_wp2_with fail
            refine (appendRow_any w.heap.size u7 l x.r _ HM.out.2.2.2 HM.out.2.2.1.size (by omega)).mono ?_
            rintro _ w2 ⟨v2, rfl, ho2, hb2⟩
            have HM : Hid (NE w b1 o1 x b2 o2 y v2 (addRow l x.r) w2) := NE.grow HM.out hb2 ho2
            have hle := addRow_le l x.r
            clear ho2 hb2 k1 k2 k3 k4
            go_wp2_with fail
            have HM : Hid _ := NE.drew HM.out
            go_region_held3 (fun w' => w'.cell? ⟨b1, o1, none⟩ = some (.int .i64 x.r) ∧ w'.cell? ⟨b1, o1 + 1, none⟩ = some (.int .i64 x.a) ∧ w'.cell? ⟨b2, o2, none⟩ = some (.int .i64 y.r) ∧ w'.cell? ⟨b2, o2 + 1, none⟩ = some (.int .i64 y.a)) (exact HM.out.1)
              ((go_at_call 137; refine Calls.mono (compare_as x y _ HCC.out _) ?_; rintro _ w3 ⟨rfl, hb3⟩; have HM : Hid _ := NE.step HM.out hb3; clear hb3))
            go_wp2
            go_roundw
            case rel => exact ⟨x :: xs, ys, addRow l x.r, ⟨HI1.out, HI2.out.tail, HZ2.out, HOK.out.2.2.1, HOK.out.2.2.2⟩, ⟨HM.out.2.2.2, HM.out.2.2.1⟩, by simp only [List.length_cons]; omega⟩
            case measure => simp [sliceLen] <;> omega
          · have j2 : decide (dd ≤ far) = false := by simpa using hdf
            have HZ2 : Hid (nearFrom far l (x :: xs) ys = T) := by show _ = _; rw [← HZ1.out, if_neg (fun h => hdf h.2)]
            clear hrr HZ1
            go_wp2_with fail
            obtain ⟨k1, k2, k3, k4⟩ := HM.out.1
            go_quiet ((go_at_call 177; refine Calls.quiet_of_same (apart_as x.a y.a dd HDD.out (by omega) (by omega) (by omega) (by omega) _)))
            have HM : Hid _ := NE.step HM.out (below_drewN (Below.refl _ _) nq)
            clear k1 k2 k3 k4
            go_wp2_with fail
            have HM : Hid _ := NE.drew HM.out
            go_region_held3 (fun w' => w'.cell? ⟨b1, o1, none⟩ = some (.int .i64 x.r) ∧ w'.cell? ⟨b1, o1 + 1, none⟩ = some (.int .i64 x.a) ∧ w'.cell? ⟨b2, o2, none⟩ = some (.int .i64 y.r) ∧ w'.cell? ⟨b2, o2 + 1, none⟩ = some (.int .i64 y.a)) (exact HM.out.1)
              ((go_at_call 137; refine Calls.mono (compare_as x y _ HCC.out _) ?_; rintro _ w3 ⟨rfl, hb3⟩; have HM : Hid _ := NE.step HM.out hb3; clear hb3))
            go_wp2
            go_roundw
            case rel => exact ⟨x :: xs, ys, l, ⟨HI1.out, HI2.out.tail, HZ2.out, HOK.out.2.2.1, HOK.out.2.2.2⟩, ⟨HM.out.2.2.2, HM.out.2.2.1⟩, by simp only [List.length_cons]; omega⟩
            case measure => simp [sliceLen] <;> omega
        · have j1 : (x.r == y.r) = false := by simpa using hrr
          have HZ2 : Hid (nearFrom far l (x :: xs) ys = T) := by show _ = _; rw [← HZ1.out, if_neg (fun h => hrr h.1)]
          clear HZ1
          go_wp2_with fail
          obtain ⟨k1, k2, k3, k4⟩ := HM.out.1
          go_quiet (fail)
          have HM : Hid _ := NE.step HM.out (below_drewN (Below.refl _ _) nq)
          clear k1 k2 k3 k4
          go_wp2_with fail
          have HM : Hid _ := NE.drew HM.out
          go_region_held3 (fun w' => w'.cell? ⟨b1, o1, none⟩ = some (.int .i64 x.r) ∧ w'.cell? ⟨b1, o1 + 1, none⟩ = some (.int .i64 x.a) ∧ w'.cell? ⟨b2, o2, none⟩ = some (.int .i64 y.r) ∧ w'.cell? ⟨b2, o2 + 1, none⟩ = some (.int .i64 y.a)) (exact HM.out.1)
            ((go_at_call 137; refine Calls.mono (compare_as x y _ HCC.out _) ?_; rintro _ w3 ⟨rfl, hb3⟩; have HM : Hid _ := NE.step HM.out hb3; clear hb3))
          go_wp2
          go_roundw
          case rel => exact ⟨x :: xs, ys, l, ⟨HI1.out, HI2.out.tail, HZ2.out, HOK.out.2.2.1, HOK.out.2.2.2⟩, ⟨HM.out.2.2.2, HM.out.2.2.1⟩, by simp only [List.length_cons]; omega⟩
          case measure => simp [sliceLen] <;> omega
end Go.Proofs.YtjgdnainhoipgaaGreatDoor
namespace Go.Proofs.YtjgdnainhoipgaaGreatDoor
open Go.RowKit

theorem LtP.trans {a b c : Pl} (h : LtP a b) (k : LtP b c) : LtP a c := by unfold LtP at *; omega
theorem LtP.irrefl (a : Pl) : ¬ LtP a a := by unfold LtP; omega
theorem LtP.asymm {a b : Pl} (h : LtP a b) : ¬ LtP b a := by unfold LtP at *; omega

theorem cmp_neg {p q : Pl} : cmpP p q < 0 ↔ LtP p q := by
  rcases cmpP_cases p q with ⟨e, l⟩ | ⟨e, l⟩ | ⟨e, l⟩
  · exact ⟨fun _ => l, fun _ => by omega⟩
  · subst l; exact ⟨fun h => by omega, fun h => absurd h (LtP.irrefl _)⟩
  · exact ⟨fun h => by omega, fun h => absurd l h.asymm⟩
theorem foll_iff {p q : Pl} : follB p q = true ↔ OkP q ∧ LtP p q := by
  simp only [follB, okB, Bool.and_eq_true, decide_eq_true_eq, cmp_neg, OkP]
  exact ⟨fun ⟨⟨⟨⟨a, b⟩, c⟩, d⟩, e⟩ => ⟨⟨a, b, c, d⟩, e⟩, fun ⟨⟨a, b, c, d⟩, e⟩ => ⟨⟨⟨⟨a, b⟩, c⟩, d⟩, e⟩⟩

theorem right_sorted (l : List Pl) : ∀ p, rightFrom p l = true → (∀ q ∈ l, OkP q ∧ LtP p q) ∧ l.Pairwise LtP := by
  induction l with
  | nil => intro p _; exact ⟨fun q h => (by cases h), List.Pairwise.nil⟩
  | cons q l ih =>
    intro p h
    simp only [rightFrom, Bool.and_eq_true, foll_iff] at h
    obtain ⟨h1, h2⟩ := ih q h.2
    refine ⟨fun z hz => ?_, List.Pairwise.cons (fun z hz => (h1 z hz).2) h2⟩
    rcases List.mem_cons.1 hz with rfl | hz
    · exact h.1
    · exact ⟨(h1 z hz).1, h.1.2.trans (h1 z hz).2⟩
theorem sorted_right (l : List Pl) : ∀ p, (∀ q ∈ l, OkP q ∧ LtP p q) → l.Pairwise LtP → rightFrom p l = true := by
  induction l with
  | nil => intro p _ _; rfl
  | cons q l ih =>
    intro p h k
    simp only [rightFrom, Bool.and_eq_true, foll_iff]
    obtain ⟨k1, k2⟩ := List.pairwise_cons.1 k
    exact ⟨h q (by simp), ih q (fun z hz => ⟨(h z (by simp [hz])).1, k1 z hz⟩) k2⟩
theorem ok_first {q : Pl} (h : OkP q) : LtP ⟨0, 0⟩ q := by unfold OkP at h; unfold LtP; exact .inl (by simp only; omega)
theorem right_iff (l : List Pl) : rightL l = true ↔ (∀ q ∈ l, OkP q) ∧ l.Pairwise LtP :=
  ⟨fun h => ⟨fun q hq => ((right_sorted l _ h).1 q hq).1, (right_sorted l _ h).2⟩, fun h => sorted_right l _ (fun q hq => ⟨h.1 q hq, ok_first (h.1 q hq)⟩) h.2⟩

/-- a row more: still rising -/
theorem addRow_spec {l : List Int} {r : Int} (hl : l.Pairwise (· < ·)) (hr : ∀ x ∈ l, x ≤ r) : (addRow l r).Pairwise (· < ·) ∧ (∀ x, x ∈ addRow l r ↔ x ∈ l ∨ x = r) := by
  unfold addRow
  split
  · rename_i h
    have hm : r ∈ l := List.mem_of_getLast? h
    exact ⟨hl, fun x => ⟨fun h => .inl h, fun h => by rcases h with h | rfl; exact h; exact hm⟩⟩
  · rename_i h
    have hlt : ∀ x ∈ l, x < r := by
      intro x hx
      rcases Int.lt_or_eq_of_le (hr x hx) with h1 | h1
      · exact h1
      · subst h1
        exfalso
        obtain ⟨i, hi, he⟩ := List.getElem_of_mem hx
        by_cases hlast : i = l.length - 1
        · apply h
          rw [List.getLast?_eq_getElem?, ← hlast, List.getElem?_eq_getElem hi, he]
        · have h2 := List.pairwise_iff_getElem.1 hl i (l.length - 1) hi (by omega) (by omega)
          have h3 := hr (l[l.length - 1]'(by omega)) (List.getElem_mem _)
          omega
    refine ⟨?_, fun x => by simp⟩
    rw [List.pairwise_append]
    exact ⟨hl, by simp, fun a ha b hb => by obtain rfl := List.mem_singleton.1 hb; exact hlt a ha⟩

theorem rows_spec (xs : List Pl) : ∀ acc : List Int, acc.Pairwise (· < ·) → xs.Pairwise LtP → (∀ x ∈ acc, ∀ p ∈ xs, x ≤ p.r) → (rowsFrom acc xs).Pairwise (· < ·) ∧ (∀ r, r ∈ rowsFrom acc xs ↔ r ∈ acc ∨ ∃ p ∈ xs, p.r = r) := by
  induction xs with
  | nil => intro acc h _ _; exact ⟨h, fun r => by simp [rowsFrom]⟩
  | cons p l ih =>
    intro acc h hx hb
    obtain ⟨x1, x2⟩ := List.pairwise_cons.1 hx
    obtain ⟨s1, s2⟩ := addRow_spec h (fun x hx => hb x hx p (by simp))
    have := ih (addRow acc p.r) s1 x2 (fun x hx q hq => by
      rcases (s2 x).1 hx with h1 | h1
      · exact hb x h1 q (by simp [hq])
      · have := x1 q hq; unfold LtP at this; omega)
    refine ⟨this.1, fun r => ?_⟩
    have e := this.2 r
    simp only [rowsFrom, List.foldl_cons] at e ⊢
    rw [e, s2]
    constructor
    · rintro ((h1 | h1) | ⟨q, hq, h1⟩)
      · exact .inl h1
      · exact .inr ⟨p, by simp, h1.symm⟩
      · exact .inr ⟨q, by simp [hq], h1⟩
    · rintro (h1 | ⟨q, hq, h1⟩)
      · exact .inl (.inl h1)
      · rcases List.mem_cons.1 hq with e2 | hq
        · subst e2; exact .inl (.inr h1.symm)
        · exact .inr ⟨q, hq, h1⟩

theorem near_spec (far : Int) (n : Nat) : ∀ (acc : List Int) (a b : List Pl), a.length + b.length ≤ n → acc.Pairwise (· < ·) → a.Pairwise LtP → b.Pairwise LtP → (∀ x ∈ acc, (∀ p ∈ a, x ≤ p.r) ∧ (∀ p ∈ b, x ≤ p.r)) →
    (nearFrom far acc a b).Pairwise (· < ·) ∧ (∀ r, r ∈ nearFrom far acc a b ↔ r ∈ acc ∨ ∃ p ∈ a, ∃ q ∈ b, p.r = r ∧ q.r = r ∧ p.a - q.a ≤ far ∧ q.a - p.a ≤ far) := by
  induction n with
  | zero =>
    intro acc a b h hacc _ _ _
    have ha : a = [] := List.length_eq_zero_iff.1 (by omega)
    subst ha
    exact ⟨by simpa [nearFrom] using hacc, fun r => by simp [nearFrom]⟩
  | succ n ih =>
    intro acc a b h hacc ha hb hbd
    cases a with
    | nil => exact ⟨by simpa [nearFrom] using hacc, fun r => by simp [nearFrom]⟩
    | cons x a =>
      cases b with
      | nil => exact ⟨by simpa [nearFrom] using hacc, fun r => by simp [nearFrom]⟩
      | cons y b =>
        simp only [List.length_cons] at h
        obtain ⟨a1, a2⟩ := List.pairwise_cons.1 ha
        obtain ⟨b1, b2⟩ := List.pairwise_cons.1 hb
        obtain ⟨acc', hacc'⟩ : ∃ acc', (if x.r = y.r ∧ max (x.a - y.a) (y.a - x.a) ≤ far then addRow acc x.r else acc) = acc' := ⟨_, rfl⟩
        have hs : acc'.Pairwise (· < ·) ∧ (∀ r, r ∈ acc' ↔ r ∈ acc ∨ (x.r = r ∧ y.r = r ∧ x.a - y.a ≤ far ∧ y.a - x.a ≤ far)) := by
          rw [← hacc']
          split
          · rename_i hc
            obtain ⟨s1, s2⟩ := addRow_spec hacc (fun z hz => (hbd z hz).1 x (by simp))
            refine ⟨s1, fun r => ?_⟩
            rw [s2]
            exact ⟨fun h => by rcases h with h | h; exact .inl h; exact .inr ⟨by omega, by omega, by omega, by omega⟩, fun h => by rcases h with h | h; exact .inl h; exact .inr (by omega)⟩
          · rename_i hc
            refine ⟨hacc, fun r => ⟨fun h => .inl h, fun h => ?_⟩⟩
            rcases h with h | ⟨h1, h2, h3, h4⟩
            · exact h
            · exact absurd ⟨by omega, by omega⟩ hc
        have hbd' : ∀ z ∈ acc', (∀ p ∈ x :: a, z ≤ p.r) ∧ (∀ p ∈ y :: b, z ≤ p.r) := by
          intro z hz
          rcases (hs.2 z).1 hz with h1 | ⟨h1, h2, _⟩
          · exact hbd z h1
          · refine ⟨fun p hp => ?_, fun p hp => ?_⟩
            · rcases List.mem_cons.1 hp with e | hp
              · subst e; omega
              · have := a1 p hp; unfold LtP at this; omega
            · rcases List.mem_cons.1 hp with e | hp
              · subst e; omega
              · have := b1 p hp; unfold LtP at this; omega
        rw [nearFrom, hacc']
        split
        · rename_i hc
          have hlt := cmp_neg.1 hc
          obtain ⟨t1, t2⟩ := ih acc' a (y :: b) (by simp only [List.length_cons]; omega) hs.1 a2 hb (fun z hz => ⟨fun p hp => (hbd' z hz).1 p (by simp [hp]), (hbd' z hz).2⟩)
          refine ⟨t1, fun r => ?_⟩
          rw [t2, hs.2]
          constructor
          · rintro ((h1 | h1) | ⟨p, hp, q, hq, h1⟩)
            · exact .inl h1
            · exact .inr ⟨x, by simp, y, by simp, h1⟩
            · exact .inr ⟨p, by simp [hp], q, hq, h1⟩
          · rintro (h1 | ⟨p, hp, q, hq, h1, h2, h3, h4⟩)
            · exact .inl (.inl h1)
            · rcases List.mem_cons.1 hp with e | hp
              · subst e
                refine .inl (.inr ?_)
                rcases List.mem_cons.1 hq with e | hq
                · subst e; exact ⟨h1, h2, h3, h4⟩
                · have := b1 q hq
                  unfold LtP at this hlt
                  exact ⟨by omega, by omega, by omega, by omega⟩
              · exact .inr ⟨p, hp, q, hq, h1, h2, h3, h4⟩
        · rename_i hc
          have hge : ¬ LtP x y := fun h => hc (cmp_neg.2 h)
          obtain ⟨t1, t2⟩ := ih acc' (x :: a) b (by simp only [List.length_cons]; omega) hs.1 ha b2 (fun z hz => ⟨(hbd' z hz).1, fun p hp => (hbd' z hz).2 p (by simp [hp])⟩)
          refine ⟨t1, fun r => ?_⟩
          rw [t2, hs.2]
          constructor
          · rintro ((h1 | h1) | ⟨p, hp, q, hq, h1⟩)
            · exact .inl h1
            · exact .inr ⟨x, by simp, y, by simp, h1⟩
            · exact .inr ⟨p, hp, q, by simp [hq], h1⟩
          · rintro (h1 | ⟨p, hp, q, hq, h1, h2, h3, h4⟩)
            · exact .inl (.inl h1)
            · rcases List.mem_cons.1 hq with e | hq
              · subst e
                refine .inl (.inr ?_)
                rcases List.mem_cons.1 hp with e | hp
                · subst e; exact ⟨h1, h2, h3, h4⟩
                · have := a1 p hp
                  unfold LtP at this hge
                  exact ⟨by omega, by omega, by omega, by omega⟩
              · exact .inr ⟨p, hp, q, hq, h1, h2, h3, h4⟩

theorem near_list (far : Int) {a b : List Pl} (ha : a.Pairwise LtP) (hb : b.Pairwise LtP) :
    (nearFrom far [] a b).Pairwise (· < ·) ∧ (∀ r, r ∈ nearFrom far [] a b ↔ ∃ p ∈ a, ∃ q ∈ b, p.r = r ∧ q.r = r ∧ p.a - q.a ≤ far ∧ q.a - p.a ≤ far) := by
  obtain ⟨h1, h2⟩ := near_spec far _ [] a b (Nat.le_refl _) List.Pairwise.nil ha hb (fun x h => by cases h)
  exact ⟨h1, fun r => by rw [h2]; simp⟩
theorem rows_list {a : List Pl} (ha : a.Pairwise LtP) : (rowsFrom [] a).Pairwise (· < ·) ∧ (∀ r, r ∈ rowsFrom [] a ↔ ∃ p ∈ a, p.r = r) := by
  obtain ⟨h1, h2⟩ := rows_spec a [] List.Pairwise.nil ha (fun x h => by cases h)
  exact ⟨h1, fun r => by rw [h2]; simp⟩
end Go.Proofs.YtjgdnainhoipgaaGreatDoor
namespace Go.Proofs.YtjgdnainhoipgaaGreatDoor
open Go.RowKit

/-- what each one of the first list makes with each one of the second -/
def crossL {α : Type} (f : Pl → Pl → Option α) (o i : List Pl) : List α := o.flatMap fun q => i.filterMap (f q)
theorem mem_crossL {α : Type} {f : Pl → Pl → Option α} {o i : List Pl} {x : α} : x ∈ crossL f o i ↔ ∃ q ∈ o, ∃ p ∈ i, f q p = some x := by simp [crossL]
/-- q, if it stands right behind p -/
def folO (q p : Pl) : Option Pl := if p.r = q.r ∧ q.a = p.a + 1 then some q else none
theorem mem_folO {xs ys : List Pl} {x : Pl} : x ∈ crossL folO ys xs ↔ x ∈ ys ∧ ∃ p ∈ xs, p.r = x.r ∧ x.a = p.a + 1 := by
  rw [mem_crossL]
  constructor
  · rintro ⟨q, hq, p, hp, e⟩
    unfold folO at e
    split at e
    · rename_i h; cases e; exact ⟨hq, p, hp, h⟩
    · cases e
  · rintro ⟨hx, p, hp, h⟩
    exact ⟨x, hx, p, hp, by rw [folO, if_pos h]⟩
theorem Gr.more {w w1 : World} {v v1 : Value} (h : Gr w w1 v v1) (o : Obj) : Gr w (w1.alloc o) v v1 :=
  Gr.trans h ⟨grown_of_belowP ((Below.refl _ _).alloc (Nat.le_refl _) _) _, fun _ e => .inl e⟩

/-- the places of a rising list that stand right behind one of another -/
theorem beh_lt {z p : Pl} : cmpP (beh z) p < 0 ↔ LtP (beh z) p := cmp_neg
theorem dropF_spec (p : Pl) (zs : List Pl) (hz : zs.Pairwise LtP) : (∀ z ∈ zs, z ∈ dropF p zs ∨ LtP (beh z) p) ∧ (dropF p zs).Sublist zs ∧ (headB p (dropF p zs) = true ↔ ∃ z ∈ zs, beh z = p) := by
  induction zs with
  | nil => exact ⟨fun z h => (by cases h), (by simp [dropF]), (by simp [dropF, headB])⟩
  | cons z zs ih =>
    obtain ⟨h1, h2⟩ := List.pairwise_cons.1 hz
    obtain ⟨i1, i2, i3⟩ := ih h2
    unfold dropF
    split
    · rename_i hlt
      have hl := beh_lt.1 hlt
      refine ⟨fun y hy => ?_, i2.cons z, ?_⟩
      · rcases List.mem_cons.1 hy with rfl | hy
        · exact .inr hl
        · exact i1 y hy
      · rw [i3]
        constructor
        · rintro ⟨y, hy, e⟩; exact ⟨y, by simp [hy], e⟩
        · rintro ⟨y, hy, e⟩
          rcases List.mem_cons.1 hy with rfl | hy
          · rw [e] at hl; exact absurd hl (LtP.irrefl _)
          · exact ⟨y, hy, e⟩
    · rename_i hlt
      have hl : ¬ LtP (beh z) p := fun h => hlt (beh_lt.2 h)
      refine ⟨fun y hy => .inl hy, List.Sublist.refl _, ?_⟩
      simp only [headB, decide_eq_true_eq]
      constructor
      · intro e; exact ⟨z, by simp, e⟩
      · rintro ⟨y, hy, e⟩
        rcases List.mem_cons.1 hy with rfl | hy
        · exact e
        · have := h1 y hy
          rw [← e] at hl
          unfold LtP beh at *
          simp only at *
          omega
theorem keepF_spec (ys : List Pl) : ∀ (zs xs : List Pl), zs.Pairwise LtP → ys.Pairwise LtP → zs.Sublist xs → (∀ x ∈ xs, x ∈ zs ∨ ∀ y ∈ ys, LtP (beh x) y) → ∀ x, x ∈ keepL stpF zs ys ↔ x ∈ ys ∧ ∃ z ∈ xs, beh z = x := by
  induction ys with
  | nil => intro zs xs _ _ _ _ x; simp [keepL]
  | cons y ys ih =>
    intro zs xs hz hy hs hx x
    obtain ⟨y1, y2⟩ := List.pairwise_cons.1 hy
    obtain ⟨d1, d2, d3⟩ := dropF_spec y zs hz
    have hrec := ih (dropF y zs) xs (hz.sublist d2) y2 (d2.trans hs) (fun z hzx => by
      rcases hx z hzx with h | h
      · rcases d1 z h with h | h
        · exact .inl h
        · exact .inr (fun q hq => h.trans (y1 q hq))
      · exact .inr (fun q hq => h q (by simp [hq]))) x
    have hd3 : headB y (dropF y zs) = true ↔ ∃ z ∈ xs, beh z = y := by
      rw [d3]
      constructor
      · rintro ⟨z, hz, e⟩; exact ⟨z, hs.subset hz, e⟩
      · rintro ⟨z, hz, e⟩
        rcases hx z hz with h | h
        · exact ⟨z, h, e⟩
        · have := h y (by simp)
          rw [e] at this; exact absurd this (LtP.irrefl _)
    have ek : keepL stpF zs (y :: ys) = if headB y (dropF y zs) = true then y :: keepL stpF (dropF y zs) ys else keepL stpF (dropF y zs) ys := rfl
    rw [ek]
    by_cases hh : headB y (dropF y zs) = true
    · rw [if_pos hh, List.mem_cons]
      constructor
      · rintro (rfl | h)
        · exact ⟨by simp, hd3.1 hh⟩
        · have := hrec.1 h; exact ⟨by simp [this.1], this.2⟩
      · rintro ⟨h1, h2⟩
        rcases List.mem_cons.1 h1 with rfl | h1
        · exact .inl rfl
        · exact .inr (hrec.2 ⟨h1, h2⟩)
    · rw [if_neg hh]
      constructor
      · intro h; have := hrec.1 h; exact ⟨by simp [this.1], this.2⟩
      · rintro ⟨h1, h2⟩
        rcases List.mem_cons.1 h1 with rfl | h1
        · exact absurd (hd3.2 h2) hh
        · exact hrec.2 ⟨h1, h2⟩
theorem foll_list {xs ys : List Pl} (hx : xs.Pairwise LtP) (hy : ys.Pairwise LtP) : (keepL stpF xs ys).Pairwise LtP ∧ ∀ x, x ∈ keepL stpF xs ys ↔ x ∈ crossL folO ys xs := by
  refine ⟨hy.sublist (keep_sub stpF ys xs), fun x => ?_⟩
  rw [mem_folO, keepF_spec ys xs xs hx hy (List.Sublist.refl _) (fun x h => .inl h)]
  refine and_congr_right fun _ => exists_congr fun p => and_congr_right fun _ => ?_
  obtain ⟨r, a⟩ := x
  simp only [beh, Pl.mk.injEq]
  exact ⟨fun ⟨h1, h2⟩ => ⟨h1, by omega⟩, fun ⟨h1, h2⟩ => ⟨h1, by omega⟩⟩
end Go.Proofs.YtjgdnainhoipgaaGreatDoor
