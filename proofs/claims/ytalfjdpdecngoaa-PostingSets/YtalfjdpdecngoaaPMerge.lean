/- The contract of Merge. -/
import Derived.Test.YtalfjdpdecngoaaPMergeM
namespace Go.Proofs.Ytalfjdpdecngoaa
open Go.RowKit

/-- what is known of a world in a round: two places that are looked at, and the row that grows -/
def ME (w : World) (b1 o1 : Nat) (x : Pl) (b2 o2 : Nat) (y : Pl) (v : Value) (l : List Pl) (wx : World) : Prop :=
  (wx.cell? ⟨b1, o1, none⟩ = some (.int .i64 x.r) ∧ wx.cell? ⟨b1, o1 + 1, none⟩ = some (.int .i64 x.a) ∧ wx.cell? ⟨b2, o2, none⟩ = some (.int .i64 y.r) ∧ wx.cell? ⟨b2, o2 + 1, none⟩ = some (.int .i64 y.a)) ∧
  (b1 < w.heap.size ∧ b2 < w.heap.size) ∧ Below w.heap.size w wx ∧ wx.ownsRow w.heap.size 25 2 v l.length (plc l)
theorem ME.step {w wx wy : World} {b1 o1 b2 o2 : Nat} {x y : Pl} {v : Value} {l : List Pl} (h : ME w b1 o1 x b2 o2 y v l wx) (hb : Below wx.heap.size wx wy) : ME w b1 o1 x b2 o2 y v l wy := by
  obtain ⟨⟨h1, h2, h3, h4⟩, ⟨h5, h6⟩, h7, h8⟩ := h
  have s := h7.size
  refine ⟨⟨?_, ?_, ?_, ?_⟩, ⟨h5, h6⟩, h7.trans (hb.mono s), own_belowP h8 hb⟩
  · rw [hb.cell (p := ⟨b1, _, none⟩) (Nat.lt_of_lt_of_le h5 s)]; exact h1
  · rw [hb.cell (p := ⟨b1, _, none⟩) (Nat.lt_of_lt_of_le h5 s)]; exact h2
  · rw [hb.cell (p := ⟨b2, _, none⟩) (Nat.lt_of_lt_of_le h6 s)]; exact h3
  · rw [hb.cell (p := ⟨b2, _, none⟩) (Nat.lt_of_lt_of_le h6 s)]; exact h4
theorem ME.drew {w wx : World} {b1 o1 b2 o2 : Nat} {x y : Pl} {v : Value} {l : List Pl} (h : ME w b1 o1 x b2 o2 y v l wx) : ME w b1 o1 x b2 o2 y v l wx.drew := h.step (Below.refl _ _).drew

set_option maxRecDepth 100000 in
set_option maxHeartbeats 4000000 in
theorem merge_any (v1 v2 : Value) (xs ys : List Pl) (w : World) (h1 : InP w v1 xs) (h2 : InP w v2 ys) (hl1 : xs.length ≤ 100000) (hl2 : ys.length ≤ 100000) :
    Calls Try.prog 7 #[v1, v2] w fun e w' => ∃ v, e = .returned v ∧ w'.ownsRow w.heap.size 25 2 v (mergeL xs ys).length (plc (mergeL xs ys)) ∧ Below w.heap.size w w' := by
  obtain ⟨i0, hi, hz0, hz1, hz2⟩ := pinfo_parts infoPl
  obtain ⟨T, hT⟩ : ∃ T, mergeL xs ys = T := ⟨_, rfl⟩
  have HT : Hid (mergeL xs ys = T) := hT
  rw [hT]
  clear hT
  have H1 : Hid (InP w v1 xs) := h1
  have H2 : Hid (InP w v2 ys) := h2
  obtain ⟨a1, c1, rfl, hc1, _, _⟩ := h1
  obtain ⟨a2, c2, rfl, hc2, _, _⟩ := h2
  obtain ⟨w1, hmk, ho1, hg1⟩ := run_make_own (P := Try.prog) w w.heap.size 22 25 i0 (.agg #[.int .i64 0, .int .i64 0]) 2 Try.underlying22 hi hz0 hz1 .i64 .i64 (xs.length + ys.length) (by rw [hz2]; omega) (by unfold maxLen; omega) (Nat.le_refl _)
  rw [Int.natCast_add] at hmk
  have HO1 : Hid (w1.ownsRow w.heap.size 25 2 (.slice (some ⟨w.heap.size, 0, none⟩) 0 (xs.length + ys.length)) 0 []) := ho1
  have HB1 : Hid (Below w.heap.size w w1) := (Below.refl _ w).grown hg1 (Nat.le_refl _) (fun k hk => by cases hk)
  clear ho1 hg1
  go_enter Try.func7, Try.ntmps7
  go_wp2
  go_loopw [0, 1, 5] (fun x y v wr => ∃ xs ys l : List Pl, Hid (InP w x xs ∧ InP w y ys ∧ l ++ mergeL xs ys = T) ∧ Hid (wr.ownsRow w.heap.size 25 2 v l.length (plc l) ∧ Below w.heap.size w wr) ∧ l.length + xs.length + ys.length ≤ 200000) (fun x y _ _ => sliceLen x + sliceLen y)
  case atStart => exact ⟨xs, ys, [], ⟨H1.out, H2.out, HT.out⟩, ⟨HO1.out, HB1.out⟩, by simp; omega⟩
  case round =>
    clear HT H1 H2 HO1 HB1 hmk hc1 hc2 hl1 hl2
    obtain ⟨xs, ys, l, hz, hown, hlen⟩ := hrel
    obtain ⟨a1, c1, rfl, hc1, hr1, hn1⟩ := hz.out.1
    obtain ⟨a2, c2, rfl, hc2, hr2, hn2⟩ := hz.out.2.1
    have HZ : Hid (l ++ mergeL xs ys = T) := hz.out.2.2
    have HN1 : Hid (RowP w a1 xs.length xs ∧ (a1 = none → c1 = 0)) := ⟨hr1, hn1⟩
    have HN2 : Hid (RowP w a2 ys.length ys ∧ (a2 = none → c2 = 0)) := ⟨hr2, hn2⟩
    by_cases hemp : xs = [] ∨ ys = []
    · have HT : Hid ((l ++ xs) ++ ys = T) := by
        show _ = _
        rw [← HZ.out, List.append_assoc]
        rcases hemp with e | e
        · subst e; simp [mergeL]
        · subst e; rw [merge_nil_right]; simp
      have hb : (xs.length = 0) ∨ (xs.length ≠ 0 ∧ ys.length = 0) := by
        rcases hemp with e | e
        · subst e; exact .inl rfl
        · subst e
          by_cases h : xs.length = 0
          · exact .inl h
          · exact .inr ⟨h, rfl⟩
      clear hemp hz HZ hr1 hr2 hn1 hn2
      have HB : Hid (Below w.heap.size w wr) := hown.out.2
      have HO : Hid (wr.ownsRow w.heap.size 25 2 u5 l.length (plc l)) := hown.out.1
      clear hown
      obtain ⟨n1, e1⟩ : ∃ n, xs.length = n := ⟨_, rfl⟩
      obtain ⟨n2, e2⟩ : ∃ n, ys.length = n := ⟨_, rfl⟩
      have dd : (n1 = 0 ∧ True) ∨ ((decide (0 < n1) = true ∧ n2 = 0) ∧ True) := by
        rw [e1, e2] at hb
        rcases hb with h | ⟨h, h'⟩
        · exact .inl ⟨h, trivial⟩
        · exact .inr ⟨⟨by simp; omega, h'⟩, trivial⟩
      rw [e1, e2]
      clear hb
      rcases dd with ⟨rfl, _⟩ | ⟨⟨d1, rfl⟩, _⟩
      · skip
        go_wp2_with (at_builtin; refine wpList_append_rowP rfl _ _ rfl rfl w.heap.size _ l rfl HO.out HB.out.size a1 c1 xs (by rw [e1]; rfl) (RowP.below HN1.out.1 HB.out) HN1.out.2 (by omega) ?_)
        intro v4 w4 ho4 hb4
        have HB4 : Hid (Below w.heap.size w w4) := HB.out.trans hb4
        have HO4 : Hid (w4.ownsRow w.heap.size 25 2 v4 (l ++ xs).length (plc (l ++ xs))) := own_eqP ho4 (by simp only [List.length_append]; omega) rfl
        clear ho4 hb4 HO HB
        go_wp2_with (at_builtin; refine wpList_append_rowP rfl _ _ rfl rfl w.heap.size _ (l ++ xs) rfl HO4.out HB4.out.size a2 c2 ys (by rw [e2]; rfl) (RowP.below HN2.out.1 HB4.out) HN2.out.2 (by simp; omega) ?_)
        intro v5 w5 ho5 hb5
        have HB5 : Hid (Below w.heap.size w w5) := HB4.out.trans hb5
        have HO5 : Hid (w5.ownsRow w.heap.size 25 2 v5 T.length (plc T)) := own_eqP ho5 (by rw [← HT.out]; simp only [List.length_append]; omega) (by rw [← HT.out]; simp only [List.append_assoc])
        clear ho5 hb5 HO4 HB4
        go_wp2
        go_ret
        exact ⟨_, rfl, HO5.out, HB5.out⟩
      · skip
        go_wp2_with (at_builtin; refine wpList_append_rowP rfl _ _ rfl rfl w.heap.size _ l rfl HO.out HB.out.size a1 c1 xs (by rw [e1]; rfl) (RowP.below HN1.out.1 HB.out) HN1.out.2 (by omega) ?_)
        intro v4 w4 ho4 hb4
        have HB4 : Hid (Below w.heap.size w w4) := HB.out.trans hb4
        have HO4 : Hid (w4.ownsRow w.heap.size 25 2 v4 (l ++ xs).length (plc (l ++ xs))) := own_eqP ho4 (by simp only [List.length_append]; omega) rfl
        clear ho4 hb4 HO HB
        go_wp2_with (at_builtin; refine wpList_append_rowP rfl _ _ rfl rfl w.heap.size _ (l ++ xs) rfl HO4.out HB4.out.size a2 c2 ys (by rw [e2]; rfl) (RowP.below HN2.out.1 HB4.out) HN2.out.2 (by simp; omega) ?_)
        intro v5 w5 ho5 hb5
        have HB5 : Hid (Below w.heap.size w w5) := HB4.out.trans hb5
        have HO5 : Hid (w5.ownsRow w.heap.size 25 2 v5 T.length (plc T)) := own_eqP ho5 (by rw [← HT.out]; simp only [List.length_append]; omega) (by rw [← HT.out]; simp only [List.append_assoc])
        clear ho5 hb5 HO4 HB4
        go_wp2
        go_ret
        exact ⟨_, rfl, HO5.out, HB5.out⟩
    · obtain ⟨x, xs, rfl⟩ : ∃ x t, xs = x :: t := by
        cases xs with
        | nil => exact absurd (.inl rfl) hemp
        | cons x t => exact ⟨x, t, rfl⟩
      obtain ⟨y, ys, rfl⟩ : ∃ y t, ys = y :: t := by
        cases ys with
        | nil => exact absurd (.inr rfl) hemp
        | cons y t => exact ⟨y, t, rfl⟩
      clear hemp HN1 HN2
      simp only [List.length_cons] at *
      obtain ⟨n1, e1⟩ : ∃ n, xs.length = n := ⟨_, rfl⟩
      obtain ⟨n2, e2⟩ : ∃ n, ys.length = n := ⟨_, rfl⟩
      rcases hr1.2.2 with hx | ⟨b1, o1, rfl, hb1, hrow1⟩
      · cases hx
      rcases hr2.2.2 with hx | ⟨b2, o2, rfl, hb2, hrow2⟩
      · cases hx
      obtain ⟨g1, g2⟩ := hrow1 0 (by simp)
      obtain ⟨g3, g4⟩ := hrow2 0 (by simp)
      simp only [Nat.zero_mul, Nat.add_zero, List.getElem_cons_zero] at g1 g2 g3 g4
      rw [← hown.out.2.cell (p := ⟨b1, _, none⟩) hb1] at g1 g2
      rw [← hown.out.2.cell (p := ⟨b2, _, none⟩) hb2] at g3 g4
      clear hrow1 hrow2 hr1 hr2 hn1 hn2
      have HI1 : Hid (InP w (.slice (some ⟨b1, o1, none⟩) (n1 + 1) c1) (x :: xs)) := by rw [← e1]; exact hz.out.1
      have HI2 : Hid (InP w (.slice (some ⟨b2, o2, none⟩) (n2 + 1) c2) (y :: ys)) := by rw [← e2]; exact hz.out.2.1
      rw [e1] at hc1 hlen ⊢
      rw [e2] at hc2 hlen ⊢
      have d1 : decide ((0 : Int) < (n1 : Int) + 1) = true := by simp
      have d2 : decide ((0 : Int) < (n2 : Int) + 1) = true := by simp
      have HM : Hid (ME w b1 o1 x b2 o2 y u5 l wr) := ⟨⟨g1, g2, g3, g4⟩, ⟨hb1, hb2⟩, hown.out.2, hown.out.1⟩
      clear g1 g2 g3 g4 hown hz
      have hec : cmpP x y = -1 ∨ cmpP x y = 0 ∨ cmpP x y = 1 := by
        rcases cmpP_cases x y with ⟨ec, _⟩ | ⟨ec, _⟩ | ⟨ec, _⟩
        · exact .inl ec
        · exact .inr (.inl ec)
        · exact .inr (.inr ec)
      rcases hec with ec | ec | ec
      · go_wp2_with fail
        have HM : Hid _ := ME.drew HM.out
        go_region_held3 (fun w' => w'.cell? ⟨b1, o1, none⟩ = some (.int .i64 x.r) ∧ w'.cell? ⟨b1, o1 + 1, none⟩ = some (.int .i64 x.a) ∧ w'.cell? ⟨b2, o2, none⟩ = some (.int .i64 y.r) ∧ w'.cell? ⟨b2, o2 + 1, none⟩ = some (.int .i64 y.a)) (exact HM.out.1)
          ((go_at_call 24; refine Calls.mono (compare_as x y _ ec _) ?_; rintro _ w2 ⟨rfl, hb2'⟩; have HM : Hid _ := ME.step HM.out hb2'; clear hb2'))
        obtain ⟨k1, k2, k3, k4⟩ := HM.out.1
        have hs2 := HM.out.2.2.1.size
        have HZ2 : Hid _ := (congrArg (l ++ ·) (merge_lt (a := xs) (b := ys) ec)).symm.trans HZ.out
        go_wp2_with (at_builtin; refine wpList_append_own _ rfl _ _ 22 rfl w.heap.size 25 i0 (.agg #[.int .i64 0, .int .i64 0]) 2 16 Try.underlying22 hi hz0 hz1 hz2 rfl (by decide) _ _ _ rfl (HM.out.2.2.2.alloc _) ⟨w2.heap.size, 0, none⟩ 1 1 (plc [x]) rfl rfl (news_pl w2 x 25) (one_pl x) (by simp [maxLen]; omega) (by omega) (by simp; omega) ?_)
        intro v3 w3 ho3 hg3 _
        have HB3 : Hid (Below w.heap.size w w3) := (HM.out.2.2.1.alloc (by omega) _).grown hg3 (by simp; omega) (fun g hg => (HM.out.2.2.2.lt g hg).1)
        have HO3 : Hid (w3.ownsRow w.heap.size 25 2 v3 (l ++ [x]).length (plc (l ++ [x]))) := own_eqP ho3 (by simp) (by rw [plc_append])
        clear ho3 hg3 HM k1 k2 k3 k4 hs2 HZ
        go_wp2
        go_roundw
        case rel => exact ⟨xs, y :: ys, l ++ [x], ⟨HI1.out.tail, HI2.out, by rw [List.append_assoc]; exact HZ2.out⟩, ⟨HO3.out, HB3.out⟩, by simp; omega⟩
        case measure => simp [sliceLen] <;> omega
      · go_wp2_with fail
        have HM : Hid _ := ME.drew HM.out
        go_region_held3 (fun w' => w'.cell? ⟨b1, o1, none⟩ = some (.int .i64 x.r) ∧ w'.cell? ⟨b1, o1 + 1, none⟩ = some (.int .i64 x.a) ∧ w'.cell? ⟨b2, o2, none⟩ = some (.int .i64 y.r) ∧ w'.cell? ⟨b2, o2 + 1, none⟩ = some (.int .i64 y.a)) (exact HM.out.1)
          ((go_at_call 24; refine Calls.mono (compare_as x y _ ec _) ?_; rintro _ w2 ⟨rfl, hb2'⟩; have HM : Hid _ := ME.step HM.out hb2'; clear hb2'))
        obtain ⟨k1, k2, k3, k4⟩ := HM.out.1
        have hs2 := HM.out.2.2.1.size
        have HZ2 : Hid _ := (congrArg (l ++ ·) (merge_eq (a := xs) (b := ys) ec)).symm.trans HZ.out
        go_wp2_with (at_builtin; refine wpList_append_own _ rfl _ _ 22 rfl w.heap.size 25 i0 (.agg #[.int .i64 0, .int .i64 0]) 2 16 Try.underlying22 hi hz0 hz1 hz2 rfl (by decide) _ _ _ rfl (HM.out.2.2.2.alloc _) ⟨w2.heap.size, 0, none⟩ 1 1 (plc [x]) rfl rfl (news_pl w2 x 25) (one_pl x) (by simp [maxLen]; omega) (by omega) (by simp; omega) ?_)
        intro v3 w3 ho3 hg3 _
        have HB3 : Hid (Below w.heap.size w w3) := (HM.out.2.2.1.alloc (by omega) _).grown hg3 (by simp; omega) (fun g hg => (HM.out.2.2.2.lt g hg).1)
        have HO3 : Hid (w3.ownsRow w.heap.size 25 2 v3 (l ++ [x]).length (plc (l ++ [x]))) := own_eqP ho3 (by simp) (by rw [plc_append])
        clear ho3 hg3 HM k1 k2 k3 k4 hs2 HZ
        go_wp2
        go_roundw
        case rel => exact ⟨xs, ys, l ++ [x], ⟨HI1.out.tail, HI2.out.tail, by rw [List.append_assoc]; exact HZ2.out⟩, ⟨HO3.out, HB3.out⟩, by simp; omega⟩
        case measure => simp [sliceLen] <;> omega
      · go_wp2_with fail
        have HM : Hid _ := ME.drew HM.out
        go_region_held3 (fun w' => w'.cell? ⟨b1, o1, none⟩ = some (.int .i64 x.r) ∧ w'.cell? ⟨b1, o1 + 1, none⟩ = some (.int .i64 x.a) ∧ w'.cell? ⟨b2, o2, none⟩ = some (.int .i64 y.r) ∧ w'.cell? ⟨b2, o2 + 1, none⟩ = some (.int .i64 y.a)) (exact HM.out.1)
          ((go_at_call 24; refine Calls.mono (compare_as x y _ ec _) ?_; rintro _ w2 ⟨rfl, hb2'⟩; have HM : Hid _ := ME.step HM.out hb2'; clear hb2'))
        obtain ⟨k1, k2, k3, k4⟩ := HM.out.1
        have hs2 := HM.out.2.2.1.size
        have HZ2 : Hid _ := (congrArg (l ++ ·) (merge_gt (a := xs) (b := ys) ec)).symm.trans HZ.out
        go_wp2_with (at_builtin; refine wpList_append_own _ rfl _ _ 22 rfl w.heap.size 25 i0 (.agg #[.int .i64 0, .int .i64 0]) 2 16 Try.underlying22 hi hz0 hz1 hz2 rfl (by decide) _ _ _ rfl (HM.out.2.2.2.alloc _) ⟨w2.heap.size, 0, none⟩ 1 1 (plc [y]) rfl rfl (news_pl w2 y 25) (one_pl y) (by simp [maxLen]; omega) (by omega) (by simp; omega) ?_)
        intro v3 w3 ho3 hg3 _
        have HB3 : Hid (Below w.heap.size w w3) := (HM.out.2.2.1.alloc (by omega) _).grown hg3 (by simp; omega) (fun g hg => (HM.out.2.2.2.lt g hg).1)
        have HO3 : Hid (w3.ownsRow w.heap.size 25 2 v3 (l ++ [y]).length (plc (l ++ [y]))) := own_eqP ho3 (by simp) (by rw [plc_append])
        clear ho3 hg3 HM k1 k2 k3 k4 hs2 HZ
        go_wp2
        go_roundw
        case rel => exact ⟨ys, x :: xs, l ++ [y], ⟨HI2.out.tail, HI1.out, by rw [merge_comm _ ys (x :: xs) (Nat.le_refl _), List.append_assoc]; exact HZ2.out⟩, ⟨HO3.out, HB3.out⟩, by simp; omega⟩
        case measure => simp [sliceLen] <;> omega
end Go.Proofs.Ytalfjdpdecngoaa
