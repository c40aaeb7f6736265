/- The contract of Near. -/
import Derived.Test.YtalfjdpdecngoaaPRows
namespace Go.Proofs.Ytalfjdpdecngoaa
open Go.RowKit

theorem apart_any (m n : Int) (h1 : 0 ≤ m) (h2 : m < 1073741824) (h3 : 0 ≤ n) (h4 : n < 1073741824) (w : World) : Calls Try.prog 32 #[.int .i64 m, .int .i64 n] w fun e w' => e = .returned (.int .i64 (max (m - n) (n - m))) ∧ w' = w := by
  by_cases h : m - n < n - m
  · go_enter Try.func32, Try.ntmps32
    go_wp2
    go_ret
    exact ⟨pret_int (by omega), rfl⟩
  · go_enter Try.func32, Try.ntmps32
    go_wp2
    go_ret
    exact ⟨pret_int (by omega), rfl⟩
theorem apart_as (m n d : Int) (hd : max (m - n) (n - m) = d) (h1 : 0 ≤ m) (h2 : m < 1073741824) (h3 : 0 ≤ n) (h4 : n < 1073741824) (w : World) : Calls Try.prog 32 #[.int .i64 m, .int .i64 n] w fun e w' => e = .returned (.int .i64 d) ∧ w' = w := by
  rw [← hd]; exact apart_any m n h1 h2 h3 h4 w

/-- the rows in which a place of the first ones is at most so far from one of the second ones -/
def nearFrom (far : Int) : List Int → List Pl → List Pl → List Int
  | acc, [], _ => acc
  | acc, _ :: _, [] => acc
  | acc, x :: a, y :: b =>
    if cmpP x y < 0 then nearFrom far (if x.r = y.r ∧ max (x.a - y.a) (y.a - x.a) ≤ far then addRow acc x.r else acc) a (y :: b)
    else nearFrom far (if x.r = y.r ∧ max (x.a - y.a) (y.a - x.a) ≤ far then addRow acc x.r else acc) (x :: a) b
termination_by _ a b => a.length + b.length
decreasing_by all_goals (simp only [List.length_cons]; omega)
theorem near_nil_right (far : Int) (acc : List Int) (a : List Pl) : nearFrom far acc a [] = acc := by cases a <;> simp [nearFrom]

/-- what is known of a world in a round -/
def NE (w : World) (b1 o1 : Nat) (x : Pl) (b2 o2 : Nat) (y : Pl) (v : Value) (l : List Int) (wx : World) : Prop :=
  (wx.cell? ⟨b1, o1, none⟩ = some (.int .i64 x.r) ∧ wx.cell? ⟨b1, o1 + 1, none⟩ = some (.int .i64 x.a) ∧ wx.cell? ⟨b2, o2, none⟩ = some (.int .i64 y.r) ∧ wx.cell? ⟨b2, o2 + 1, none⟩ = some (.int .i64 y.a)) ∧
  (b1 < w.heap.size ∧ b2 < w.heap.size) ∧ Below w.heap.size w wx ∧ wx.ownsRow w.heap.size 3 1 v l.length (icc l)
theorem NE.grow {w wx wy : World} {b1 o1 b2 o2 : Nat} {x y : Pl} {v v' : Value} {l l' : List Int} (h : NE w b1 o1 x b2 o2 y v l wx) (hb : Below w.heap.size wx wy) (ho : wy.ownsRow w.heap.size 3 1 v' l'.length (icc l')) : NE w b1 o1 x b2 o2 y v' l' wy := by
  obtain ⟨⟨h1, h2, h3, h4⟩, ⟨h5, h6⟩, h7, h8⟩ := h
  refine ⟨⟨?_, ?_, ?_, ?_⟩, ⟨h5, h6⟩, h7.trans hb, ho⟩
  · rw [hb.cell (p := ⟨b1, _, none⟩) h5]; exact h1
  · rw [hb.cell (p := ⟨b1, _, none⟩) h5]; exact h2
  · rw [hb.cell (p := ⟨b2, _, none⟩) h6]; exact h3
  · rw [hb.cell (p := ⟨b2, _, none⟩) h6]; exact h4
theorem NE.step {w wx wy : World} {b1 o1 b2 o2 : Nat} {x y : Pl} {v : Value} {l : List Int} (h : NE w b1 o1 x b2 o2 y v l wx) (hb : Below wx.heap.size wx wy) : NE w b1 o1 x b2 o2 y v l wy :=
  NE.grow h (hb.mono h.2.2.1.size) (own_belowP h.2.2.2 hb)
theorem NE.drew {w wx : World} {b1 o1 b2 o2 : Nat} {x y : Pl} {v : Value} {l : List Int} (h : NE w b1 o1 x b2 o2 y v l wx) : NE w b1 o1 x b2 o2 y v l wx.drew := h.step (Below.refl _ _).drew

set_option maxRecDepth 100000 in
set_option maxHeartbeats 4000000 in
theorem near_any (va vb : Value) (far : Int) (xs ys : List Pl) (w : World) (h1 : InP w va xs) (h2 : InP w vb ys) (hl1 : xs.length ≤ 100000) (hl2 : ys.length ≤ 100000) (hk1 : ∀ z ∈ xs, OkP z) (hk2 : ∀ z ∈ ys, OkP z) :
    Calls Try.prog 15 #[va, vb, .int .i64 far] w fun e w' => ∃ v, e = .returned v ∧ w'.ownsRow w.heap.size 3 1 v (nearFrom far [] xs ys).length (icc (nearFrom far [] xs ys)) ∧ Below w.heap.size w w' := by
  obtain ⟨T, hT⟩ : ∃ T, nearFrom far [] xs ys = T := ⟨_, rfl⟩
  have HT : Hid (nearFrom far [] xs ys = T) := hT
  rw [hT]
  clear hT
  have H1 : Hid (InP w va xs ∧ ∀ z ∈ xs, OkP z) := ⟨h1, hk1⟩
  have H2 : Hid (InP w vb ys ∧ ∀ z ∈ ys, OkP z) := ⟨h2, hk2⟩
  obtain ⟨a1, c1, rfl, hc1, _, _⟩ := h1
  obtain ⟨a2, c2, rfl, hc2, _, _⟩ := h2
  clear hk1 hk2
  go_enter Try.func15, Try.ntmps15
  go_wp2
  go_loopw [0, 1, 7] (fun x y v wr => ∃ (xs ys : List Pl) (l : List Int), Hid (InP w x xs ∧ InP w y ys ∧ nearFrom far l xs ys = T ∧ (∀ z ∈ xs, OkP z) ∧ (∀ z ∈ ys, OkP z)) ∧ Hid (wr.ownsRow w.heap.size 3 1 v l.length (icc l) ∧ Below w.heap.size w wr) ∧ l.length + xs.length + ys.length ≤ 200000) (fun x y _ _ => sliceLen x + sliceLen y)
  case atStart => exact ⟨xs, ys, [], ⟨H1.out.1, H2.out.1, HT.out, H1.out.2, H2.out.2⟩, ⟨World.ownsRow_nil _ _ _ _, Below.refl _ _⟩, by simp; omega⟩
  case round =>
    clear HT H1 H2 hc1 hc2 hl1 hl2
    obtain ⟨xs, ys, l, hz, hown, hlen⟩ := hrel
    obtain ⟨a1, c1, rfl, hc1, hr1, _⟩ := hz.out.1
    obtain ⟨a2, c2, rfl, hc2, hr2, _⟩ := hz.out.2.1
    by_cases hemp : xs = [] ∨ ys = []
    · have e : l = T := by
        rw [← hz.out.2.2.1]
        rcases hemp with e | e
        · subst e; simp [nearFrom]
        · subst e; rw [near_nil_right]
      have hb : (xs.length = 0 ∧ True) ∨ ((decide (0 < xs.length) = true ∧ ys.length = 0) ∧ True) := by
        rcases hemp with e | e
        · subst e; exact .inl ⟨rfl, trivial⟩
        · subst e
          by_cases h : xs.length = 0
          · exact .inl ⟨h, trivial⟩
          · exact .inr ⟨⟨by simp; omega, rfl⟩, trivial⟩
      subst e
      have HO : Hid (wr.ownsRow w.heap.size 3 1 u7 l.length (icc l) ∧ Below w.heap.size w wr) := hown.out
      clear hemp hz hr1 hr2 hown
      obtain ⟨n1, e1⟩ : ∃ n, xs.length = n := ⟨_, rfl⟩
      obtain ⟨n2, e2⟩ : ∃ n, ys.length = n := ⟨_, rfl⟩
      rw [e1, e2] at hb ⊢
      rcases hb with ⟨h, _⟩ | ⟨⟨d1, h⟩, _⟩
      · rw [h]
        clear h e1 e2
        go_wp2
        go_ret
        exact ⟨_, rfl, HO.out.1, HO.out.2⟩
      · rw [h]
        clear h e1 e2
        go_wp2
        go_ret
        exact ⟨_, rfl, HO.out.1, HO.out.2⟩
    · obtain ⟨x, xs, rfl⟩ : ∃ x t, xs = x :: t := by
        cases xs with
        | nil => exact absurd (.inl rfl) hemp
        | cons x t => exact ⟨x, t, rfl⟩
      obtain ⟨y, ys, rfl⟩ : ∃ y t, ys = y :: t := by
        cases ys with
        | nil => exact absurd (.inr rfl) hemp
        | cons y t => exact ⟨y, t, rfl⟩
      clear hemp
      have HOK : Hid ((∀ z ∈ xs, OkP z) ∧ (∀ z ∈ y :: ys, OkP z) ∧ (∀ z ∈ x :: xs, OkP z) ∧ (∀ z ∈ ys, OkP z)) := ⟨fun z h => hz.out.2.2.2.1 z (by simp [h]), hz.out.2.2.2.2, hz.out.2.2.2.1, fun z h => hz.out.2.2.2.2 z (by simp [h])⟩
      obtain ⟨x1, x2, x3, x4⟩ := hz.out.2.2.2.1 x (by simp)
      obtain ⟨y1, y2, y3, y4⟩ := hz.out.2.2.2.2 y (by simp)
      simp only [List.length_cons] at *
      obtain ⟨n1, e1⟩ : ∃ n, xs.length = n := ⟨_, rfl⟩
      obtain ⟨n2, e2⟩ : ∃ n, ys.length = n := ⟨_, rfl⟩
      rcases hr1.2.2 with hx | ⟨b1, o1, rfl, hb1, hrow1⟩
      · cases hx
      rcases hr2.2.2 with hx | ⟨b2, o2, rfl, hb2, hrow2⟩
      · cases hx
      obtain ⟨g1, g2⟩ := hrow1 0 (by simp)
      obtain ⟨g3, g4⟩ := hrow2 0 (by simp)
      simp only [Nat.zero_mul, Nat.add_zero, List.getElem_cons_zero] at g1 g2 g3 g4
      rw [← hown.out.2.cell (p := ⟨b1, _, none⟩) hb1] at g1 g2
      rw [← hown.out.2.cell (p := ⟨b2, _, none⟩) hb2] at g3 g4
      clear hrow1 hrow2 hr1 hr2
      have HI1 : Hid (InP w (.slice (some ⟨b1, o1, none⟩) (n1 + 1) c1) (x :: xs)) := by rw [← e1]; exact hz.out.1
      have HI2 : Hid (InP w (.slice (some ⟨b2, o2, none⟩) (n2 + 1) c2) (y :: ys)) := by rw [← e2]; exact hz.out.2.1
      have HZ : Hid (nearFrom far l (x :: xs) (y :: ys) = T) := hz.out.2.2.1
      rw [e1] at hc1 hlen ⊢
      rw [e2] at hc2 hlen ⊢
      have d1 : decide ((0 : Int) < (n1 : Int) + 1) = true := by simp
      have d2 : decide ((0 : Int) < (n2 : Int) + 1) = true := by simp
      have HM : Hid (NE w b1 o1 x b2 o2 y u7 l wr) := ⟨⟨g1, g2, g3, g4⟩, ⟨hb1, hb2⟩, hown.out.2, hown.out.1⟩
      clear g1 g2 g3 g4 hown hz
      obtain ⟨cc, hcc⟩ : ∃ cc, cmpP x y = cc := ⟨_, rfl⟩
      have HCC : Hid (cmpP x y = cc) := hcc
      obtain ⟨dd, hdd⟩ : ∃ dd, max (x.a - y.a) (y.a - x.a) = dd := ⟨_, rfl⟩
      have HDD : Hid (max (x.a - y.a) (y.a - x.a) = dd) := hdd
      have HZ1 : Hid ((if cc < 0 then nearFrom far (if x.r = y.r ∧ dd ≤ far then addRow l x.r else l) xs (y :: ys) else nearFrom far (if x.r = y.r ∧ dd ≤ far then addRow l x.r else l) (x :: xs) ys) = T) := by
        show _ = _
        rw [← HZ.out, nearFrom, hcc, hdd]
      clear hcc hdd HZ
      by_cases hlt : cc < 0
      · rw [if_pos hlt] at HZ1
        by_cases hrr : x.r = y.r
        · have j1 : (x.r == y.r) = true := by simpa using hrr
          by_cases hdf : dd ≤ far
          · have j2 : decide (dd ≤ far) = true := by simpa using hdf
            have HZ2 : Hid (nearFrom far (addRow l x.r) xs (y :: ys) = T) := by show _ = _; rw [← HZ1.out, if_pos ⟨hrr, hdf⟩]
            clear hrr HZ1
            go_wp2_with fail
            obtain ⟨k1, k2, k3, k4⟩ := HM.out.1
            go_quiet ((go_at_call 32; refine Calls.quiet_of_same (apart_as x.a y.a dd HDD.out (by omega) (by omega) (by omega) (by omega) _)))
            have HM : Hid _ := NE.step HM.out (below_drewN (Below.refl _ _) nq)
            clear k1 k2 k3 k4
            obtain ⟨k1, k2, k3, k4⟩ := HM.out.1
            go_wp2_with fail
            refine (appendRow_any w.heap.size u7 l x.r _ HM.out.2.2.2 HM.out.2.2.1.size (by omega)).mono ?_
            rintro _ w2 ⟨v2, rfl, ho2, hb2⟩
            have HM : Hid (NE w b1 o1 x b2 o2 y v2 (addRow l x.r) w2) := NE.grow HM.out hb2 ho2
            have hle := addRow_le l x.r
            clear ho2 hb2 k1 k2 k3 k4
            go_wp2_with fail
            have HM : Hid _ := NE.drew HM.out
            go_region_held3 (fun w' => w'.cell? ⟨b1, o1, none⟩ = some (.int .i64 x.r) ∧ w'.cell? ⟨b1, o1 + 1, none⟩ = some (.int .i64 x.a) ∧ w'.cell? ⟨b2, o2, none⟩ = some (.int .i64 y.r) ∧ w'.cell? ⟨b2, o2 + 1, none⟩ = some (.int .i64 y.a)) (exact HM.out.1)
              ((go_at_call 24; refine Calls.mono (compare_as x y _ HCC.out _) ?_; rintro _ w3 ⟨rfl, hb3⟩; have HM : Hid _ := NE.step HM.out hb3; clear hb3))
            go_wp2
            go_roundw
            case rel => exact ⟨xs, y :: ys, addRow l x.r, ⟨HI1.out.tail, HI2.out, HZ2.out, HOK.out.1, HOK.out.2.1⟩, ⟨HM.out.2.2.2, HM.out.2.2.1⟩, by simp only [List.length_cons]; omega⟩
            case measure => simp [sliceLen] <;> omega
          · have j2 : decide (dd ≤ far) = false := by simpa using hdf
            have HZ2 : Hid (nearFrom far l xs (y :: ys) = T) := by show _ = _; rw [← HZ1.out, if_neg (fun h => hdf h.2)]
            clear hrr HZ1
            go_wp2_with fail
            obtain ⟨k1, k2, k3, k4⟩ := HM.out.1
            go_quiet ((go_at_call 32; refine Calls.quiet_of_same (apart_as x.a y.a dd HDD.out (by omega) (by omega) (by omega) (by omega) _)))
            have HM : Hid _ := NE.step HM.out (below_drewN (Below.refl _ _) nq)
            clear k1 k2 k3 k4
            go_wp2_with fail
            have HM : Hid _ := NE.drew HM.out
            go_region_held3 (fun w' => w'.cell? ⟨b1, o1, none⟩ = some (.int .i64 x.r) ∧ w'.cell? ⟨b1, o1 + 1, none⟩ = some (.int .i64 x.a) ∧ w'.cell? ⟨b2, o2, none⟩ = some (.int .i64 y.r) ∧ w'.cell? ⟨b2, o2 + 1, none⟩ = some (.int .i64 y.a)) (exact HM.out.1)
              ((go_at_call 24; refine Calls.mono (compare_as x y _ HCC.out _) ?_; rintro _ w3 ⟨rfl, hb3⟩; have HM : Hid _ := NE.step HM.out hb3; clear hb3))
            go_wp2
            go_roundw
            case rel => exact ⟨xs, y :: ys, l, ⟨HI1.out.tail, HI2.out, HZ2.out, HOK.out.1, HOK.out.2.1⟩, ⟨HM.out.2.2.2, HM.out.2.2.1⟩, by simp only [List.length_cons]; omega⟩
            case measure => simp [sliceLen] <;> omega
        · have j1 : (x.r == y.r) = false := by simpa using hrr
          have HZ2 : Hid (nearFrom far l xs (y :: ys) = T) := by show _ = _; rw [← HZ1.out, if_neg (fun h => hrr h.1)]
          clear HZ1
          go_wp2_with fail
          obtain ⟨k1, k2, k3, k4⟩ := HM.out.1
          go_quiet (fail)
          have HM : Hid _ := NE.step HM.out (below_drewN (Below.refl _ _) nq)
          clear k1 k2 k3 k4
          go_wp2_with fail
          have HM : Hid _ := NE.drew HM.out
          go_region_held3 (fun w' => w'.cell? ⟨b1, o1, none⟩ = some (.int .i64 x.r) ∧ w'.cell? ⟨b1, o1 + 1, none⟩ = some (.int .i64 x.a) ∧ w'.cell? ⟨b2, o2, none⟩ = some (.int .i64 y.r) ∧ w'.cell? ⟨b2, o2 + 1, none⟩ = some (.int .i64 y.a)) (exact HM.out.1)
            ((go_at_call 24; refine Calls.mono (compare_as x y _ HCC.out _) ?_; rintro _ w3 ⟨rfl, hb3⟩; have HM : Hid _ := NE.step HM.out hb3; clear hb3))
          go_wp2
          go_roundw
          case rel => exact ⟨xs, y :: ys, l, ⟨HI1.out.tail, HI2.out, HZ2.out, HOK.out.1, HOK.out.2.1⟩, ⟨HM.out.2.2.2, HM.out.2.2.1⟩, by simp only [List.length_cons]; omega⟩
          case measure => simp [sliceLen] <;> omega
      · rw [if_neg hlt] at HZ1
        by_cases hrr : x.r = y.r
        · have j1 : (x.r == y.r) = true := by simpa using hrr
          by_cases hdf : dd ≤ far
          · have j2 : decide (dd ≤ far) = true := by simpa using hdf
            have HZ2 : Hid (nearFrom far (addRow l x.r) (x :: xs) ys = T) := by show _ = _; rw [← HZ1.out, if_pos ⟨hrr, hdf⟩]
            clear hrr HZ1
            go_wp2_with fail
            obtain ⟨k1, k2, k3, k4⟩ := HM.out.1
            go_quiet ((go_at_call 32; refine Calls.quiet_of_same (apart_as x.a y.a dd HDD.out (by omega) (by omega) (by omega) (by omega) _)))
            have HM : Hid _ := NE.step HM.out (below_drewN (Below.refl _ _) nq)
            clear k1 k2 k3 k4
            obtain ⟨k1, k2, k3, k4⟩ := HM.out.1
            go_wp2_with fail
            refine (appendRow_any w.heap.size u7 l x.r _ HM.out.2.2.2 HM.out.2.2.1.size (by omega)).mono ?_
            rintro _ w2 ⟨v2, rfl, ho2, hb2⟩
            have HM : Hid (NE w b1 o1 x b2 o2 y v2 (addRow l x.r) w2) := NE.grow HM.out hb2 ho2
            have hle := addRow_le l x.r
            clear ho2 hb2 k1 k2 k3 k4
            go_wp2_with fail
            have HM : Hid _ := NE.drew HM.out
            go_region_held3 (fun w' => w'.cell? ⟨b1, o1, none⟩ = some (.int .i64 x.r) ∧ w'.cell? ⟨b1, o1 + 1, none⟩ = some (.int .i64 x.a) ∧ w'.cell? ⟨b2, o2, none⟩ = some (.int .i64 y.r) ∧ w'.cell? ⟨b2, o2 + 1, none⟩ = some (.int .i64 y.a)) (exact HM.out.1)
              ((go_at_call 24; refine Calls.mono (compare_as x y _ HCC.out _) ?_; rintro _ w3 ⟨rfl, hb3⟩; have HM : Hid _ := NE.step HM.out hb3; clear hb3))
            go_wp2
            go_roundw
            case rel => exact ⟨x :: xs, ys, addRow l x.r, ⟨HI1.out, HI2.out.tail, HZ2.out, HOK.out.2.2.1, HOK.out.2.2.2⟩, ⟨HM.out.2.2.2, HM.out.2.2.1⟩, by simp only [List.length_cons]; omega⟩
            case measure => simp [sliceLen] <;> omega
          · have j2 : decide (dd ≤ far) = false := by simpa using hdf
            have HZ2 : Hid (nearFrom far l (x :: xs) ys = T) := by show _ = _; rw [← HZ1.out, if_neg (fun h => hdf h.2)]
            clear hrr HZ1
            go_wp2_with fail
            obtain ⟨k1, k2, k3, k4⟩ := HM.out.1
            go_quiet ((go_at_call 32; refine Calls.quiet_of_same (apart_as x.a y.a dd HDD.out (by omega) (by omega) (by omega) (by omega) _)))
            have HM : Hid _ := NE.step HM.out (below_drewN (Below.refl _ _) nq)
            clear k1 k2 k3 k4
            go_wp2_with fail
            have HM : Hid _ := NE.drew HM.out
            go_region_held3 (fun w' => w'.cell? ⟨b1, o1, none⟩ = some (.int .i64 x.r) ∧ w'.cell? ⟨b1, o1 + 1, none⟩ = some (.int .i64 x.a) ∧ w'.cell? ⟨b2, o2, none⟩ = some (.int .i64 y.r) ∧ w'.cell? ⟨b2, o2 + 1, none⟩ = some (.int .i64 y.a)) (exact HM.out.1)
              ((go_at_call 24; refine Calls.mono (compare_as x y _ HCC.out _) ?_; rintro _ w3 ⟨rfl, hb3⟩; have HM : Hid _ := NE.step HM.out hb3; clear hb3))
            go_wp2
            go_roundw
            case rel => exact ⟨x :: xs, ys, l, ⟨HI1.out, HI2.out.tail, HZ2.out, HOK.out.2.2.1, HOK.out.2.2.2⟩, ⟨HM.out.2.2.2, HM.out.2.2.1⟩, by simp only [List.length_cons]; omega⟩
            case measure => simp [sliceLen] <;> omega
        · have j1 : (x.r == y.r) = false := by simpa using hrr
          have HZ2 : Hid (nearFrom far l (x :: xs) ys = T) := by show _ = _; rw [← HZ1.out, if_neg (fun h => hrr h.1)]
          clear HZ1
          go_wp2_with fail
          obtain ⟨k1, k2, k3, k4⟩ := HM.out.1
          go_quiet (fail)
          have HM : Hid _ := NE.step HM.out (below_drewN (Below.refl _ _) nq)
          clear k1 k2 k3 k4
          go_wp2_with fail
          have HM : Hid _ := NE.drew HM.out
          go_region_held3 (fun w' => w'.cell? ⟨b1, o1, none⟩ = some (.int .i64 x.r) ∧ w'.cell? ⟨b1, o1 + 1, none⟩ = some (.int .i64 x.a) ∧ w'.cell? ⟨b2, o2, none⟩ = some (.int .i64 y.r) ∧ w'.cell? ⟨b2, o2 + 1, none⟩ = some (.int .i64 y.a)) (exact HM.out.1)
            ((go_at_call 24; refine Calls.mono (compare_as x y _ HCC.out _) ?_; rintro _ w3 ⟨rfl, hb3⟩; have HM : Hid _ := NE.step HM.out hb3; clear hb3))
          go_wp2
          go_roundw
          case rel => exact ⟨x :: xs, ys, l, ⟨HI1.out, HI2.out.tail, HZ2.out, HOK.out.2.2.1, HOK.out.2.2.2⟩, ⟨HM.out.2.2.2, HM.out.2.2.1⟩, by simp only [List.length_cons]; omega⟩
          case measure => simp [sliceLen] <;> omega
end Go.Proofs.Ytalfjdpdecngoaa
