/- The contracts of only, at two closures. -/
import Derived.Test.YtalfjdpdecngoaaPMergeM
namespace Go.Proofs.Ytalfjdpdecngoaa
open Go.RowKit

/-- the places that stay, where what stays may hang on what came ahead -/
def keepL {σ : Type} (stp : σ → Pl → Bool × σ) : σ → List Pl → List Pl
  | _, [] => []
  | s, p :: l => if (stp s p).1 then p :: keepL stp (stp s p).2 l else keepL stp (stp s p).2 l
theorem keep_le {σ : Type} (stp : σ → Pl → Bool × σ) (l : List Pl) : ∀ s, (keepL stp s l).length ≤ l.length := by
  induction l with
  | nil => intro s; simp [keepL]
  | cons p l ih =>
    intro s
    have := ih (stp s p).2
    unfold keepL
    split <;> simp only [List.length_cons] <;> omega
theorem keep_sub {σ : Type} (stp : σ → Pl → Bool × σ) (l : List Pl) : ∀ s, (keepL stp s l).Sublist l := by
  induction l with
  | nil => intro s; simp [keepL]
  | cons p l ih =>
    intro s
    unfold keepL
    split
    · exact (ih _).cons_cons p
    · exact (ih _).cons p
theorem grown_cellP {W W' : World} {row : Option Nat} (hg : W.grownBy W' row) (b o : Nat) (h : b < W.heap.size) (hne : row ≠ some b) : W'.cell? ⟨b, o, none⟩ = W.cell? ⟨b, o, none⟩ :=
  World.cell?_of_block (w := W) (hg.block b h (fun e => hne e.symm))

set_option maxRecDepth 100000 in
set_option maxHeartbeats 4000000 in
theorem only_without {σ : Type} (B : Nat) (I : σ → World → Prop) (stp : σ → Pl → Bool × σ) (hI : ∀ s w w', I s w → Below B w w' → w'.heap[B]? = w.heap[B]? → I s w') (Ok : Pl → Prop)
    (hcl : ∀ s p wx, Ok p → B < wx.heap.size → I s wx → Calls Try.prog 27 #[.agg #[.int .i64 p.r, .int .i64 p.a], .pointer (some ⟨B, 0, none⟩)] wx fun e w' => e = .returned (.bool (stp s p).1) ∧ I (stp s p).2 w' ∧ wx.grownBy w' (some B))
    (a : Option Addr) (len cap : Nat) (xs : List Pl) (s0 : σ) (w : World) (hr : RowP w a len xs) (hlt : ∀ b o, a = some ⟨b, o, none⟩ → xs ≠ [] → b < B) (hB : B < w.heap.size) (hok : ∀ p ∈ xs, Ok p) (hs0 : I s0 w) (hlen : xs.length ≤ 100000) :
    Calls Try.prog 26 #[.slice a len cap, .func (.func 27) #[] #[.pointer (some ⟨B, 0, none⟩)]] w fun e w' => ∃ v, e = .returned v ∧ w'.ownsRow (B + 1) 25 2 v (keepL stp s0 xs).length (plc (keepL stp s0 xs)) ∧ Below B w w' := by
  obtain ⟨i0, hi, hz0, hz1, hz2⟩ := pinfo_parts infoPl
  have HI : Hid (∀ s w w', I s w → Below B w w' → w'.heap[B]? = w.heap[B]? → I s w') := hI
  have HCL : Hid (∀ s p wx, Ok p → B < wx.heap.size → I s wx → Calls Try.prog 27 #[.agg #[.int .i64 p.r, .int .i64 p.a], .pointer (some ⟨B, 0, none⟩)] wx fun e w' => e = .returned (.bool (stp s p).1) ∧ I (stp s p).2 w' ∧ wx.grownBy w' (some B)) := hcl
  have HOK : Hid (∀ p ∈ xs, Ok p) := hok
  clear hI hcl hok
  obtain ⟨rfl, hm, hx⟩ := hr
  obtain ⟨T, hT⟩ : ∃ T, keepL stp s0 xs = T := ⟨_, rfl⟩
  have HT : Hid (keepL stp s0 xs = T ∧ T.length ≤ xs.length) := ⟨hT, by rw [← hT]; exact keep_le stp xs s0⟩
  rw [hT]
  clear hT
  go_enter Try.func26, Try.ntmps26
  go_wp2
  go_loopw [5, 10] (fun v i wr => ∃ (k : Nat) (s : σ) (l : List Pl), k ≤ xs.length ∧ i = .int .i64 k ∧ Hid (I s wr ∧ Below B w wr ∧ l ++ keepL stp s (xs.drop k) = T) ∧ Hid (wr.ownsRow (B + 1) 25 2 v l.length (plc l))) (fun _ i _ => xs.length - (intOf i).toNat)
  case atStart => exact ⟨0, s0, [], Nat.zero_le _, rfl, ⟨hs0, Below.refl _ _, HT.out.1⟩, World.ownsRow_nil _ _ _ _⟩
  case round =>
    obtain ⟨k, s, l, hk, rfl, hz, hown⟩ := hrel
    clear hs0
    by_cases hkl : k < xs.length
    · have hLL : l.length ≤ xs.length := by
        have h1 := HT.out.2
        rw [← hz.out.2.2] at h1
        rw [List.length_append] at h1
        omega
      rcases hx with hx | ⟨b, off, rfl, hb, hrow⟩
      · simp [hx] at hkl
      have hbB : b < B := hlt b off rfl (fun e => by rw [e] at hkl; simp at hkl)
      obtain ⟨g1, g2⟩ := hrow k hkl
      clear hrow
      rw [← hz.out.2.1.cell (p := ⟨b, _, none⟩) hbB] at g1 g2
      have hok := HOK.out xs[k] (List.getElem_mem hkl)
      have hz2' := hz.out.2.2
      rw [List.drop_eq_getElem_cons hkl] at hz2'
      have i1 : (k : Int) < (xs.length : Int) := by omega
      generalize xs[k] = q at *
      have HS : Hid (I s wr) := hz.out.1
      have HB : Hid (Below B w wr) := hz.out.2.1
      have HZ : Hid (l ++ keepL stp s (q :: xs.drop (k + 1)) = T) := hz2'
      have HQ : Hid (Ok q) := hok
      have hBr : B < wr.heap.size := Nat.lt_of_lt_of_le hB HB.out.size
      clear hz hz2' hok hlt
      have HX1 : Hid (VarP wr.heap.size q (wr.alloc (.cells #[.int .i64 q.r, .int .i64 q.a] 25))) := VarP.box wr q
      have HA : Hid (Below wr.heap.size wr (wr.alloc (.cells #[.int .i64 q.r, .int .i64 q.a] 25))) := (Below.refl _ _).alloc (Nat.le_refl _) _
      have HS1 : Hid (I s (wr.alloc (.cells #[.int .i64 q.r, .int .i64 q.a] 25))) := HI.out s wr _ HS.out (HA.out.mono (by omega)) (HA.out.block B hBr)
      have HO1 : Hid ((wr.alloc (.cells #[.int .i64 q.r, .int .i64 q.a] 25)).ownsRow (B + 1) 25 2 u5 l.length (plc l)) := own_belowP hown.out HA.out
      have hB1 : B < (wr.alloc (.cells #[.int .i64 q.r, .int .i64 q.a] 25)).heap.size := by simp; omega
      have HB1 : Hid (Below B w (wr.alloc (.cells #[.int .i64 q.r, .int .i64 q.a] 25))) := HB.out.trans (HA.out.mono (by omega))
      obtain ⟨c1, c2, _, _, _⟩ := HX1.out
      go_wp2_with fail
      refine (HCL.out s q _ HQ.out hB1 HS1.out).mono ?_
      rintro _ w2 ⟨rfl, hs2, hg2⟩
      have HS2 : Hid (I (stp s q).2 w2) := hs2
      have HB2 : Hid (Below B w w2) := HB1.out.grown hg2 (by omega) (fun g hg => by cases hg; exact Nat.le_refl _)
      have HO2 : Hid (w2.ownsRow (B + 1) 25 2 u5 l.length (plc l)) := HO1.out.kept hg2 (by
        cases e : u5.ownBlock with
        | none => exact .inl rfl
        | some g => exact .inr (fun e2 => by cases e2; have := (HO1.out.lt _ e).1; omega))
      have hs2' : wr.heap.size + 1 ≤ w2.heap.size := by have := hg2.size; simpa using this
      have k1 : w2.cell? ⟨wr.heap.size, 0, none⟩ = some (.int .i64 q.r) := by
        rw [grown_cellP hg2 _ _ (by simp) (by simp; omega)]; exact c1
      have k2 : w2.cell? ⟨wr.heap.size, 1, none⟩ = some (.int .i64 q.a) := by
        rw [grown_cellP hg2 _ _ (by simp) (by simp; omega)]; exact c2
      clear c1 c2 hg2 hs2 HS1 HO1 HB1 hB1 HX1 HA HS HB hown g1 g2
      obtain ⟨bb, hbb⟩ : ∃ bb, (stp s q).1 = bb := ⟨_, rfl⟩
      obtain ⟨s2, hss⟩ : ∃ s2, (stp s q).2 = s2 := ⟨_, rfl⟩
      rw [hbb]
      rw [hss] at HS2
      have HZ2 : Hid (l ++ (if bb then q :: keepL stp s2 (xs.drop (k + 1)) else keepL stp s2 (xs.drop (k + 1))) = T) := by
        show _ = _
        rw [← HZ.out, keepL, hbb, hss]
      clear hbb hss HZ
      cases bb
      · have HZ3 : Hid (l ++ keepL stp s2 (xs.drop (k + 1)) = T) := HZ2.out
        clear HZ2
        go_wp2
        go_roundw
        case rel => exact ⟨k + 1, s2, l, by omega, by go_num, ⟨HS2.out, HB2.out, HZ3.out⟩, HO2⟩
        case measure => simp [intOf]; omega
      · have HZ3 : Hid ((l ++ [q]) ++ keepL stp s2 (xs.drop (k + 1)) = T) := by show _ = _; rw [List.append_assoc]; exact HZ2.out
        clear HZ2
        go_wp2_with (at_builtin; refine wpList_append_own _ rfl _ _ 22 rfl (B + 1) 25 i0 (.agg #[.int .i64 0, .int .i64 0]) 2 16 Try.underlying22 hi hz0 hz1 hz2 rfl (by decide) _ _ _ rfl (HO2.out.alloc _) ⟨w2.heap.size, 0, none⟩ 1 1 (plc [q]) rfl rfl (news_pl w2 q 25) (one_pl q) (by simp [maxLen]; omega) (by omega) (by simp; omega) ?_)
        intro v3 w3 ho3 hg3 _
        have HB3 : Hid (Below B w w3) := (HB2.out.alloc (by omega) _).grown hg3 (by simp; omega) (fun g hg => by have := (HO2.out.lt g hg).1; omega)
        have HS3 : Hid (I s2 w3) := HI.out s2 w2 w3 HS2.out (((Below.refl B w2).alloc (by omega) _).grown hg3 (by simp; omega) (fun g hg => by have := (HO2.out.lt g hg).1; omega)) (by
          rw [hg3.block B (by simp; omega) (fun e => by have := (HO2.out.lt _ e.symm).1; omega)]
          exact ((Below.refl _ w2).alloc (Nat.le_refl _) _).block B (by omega))
        have HO3 : Hid (w3.ownsRow (B + 1) 25 2 v3 (l ++ [q]).length (plc (l ++ [q]))) := own_eqP ho3 (by simp) (by rw [plc_append])
        clear ho3 hg3 k1 k2 HS2 HB2 HO2
        go_wp2
        go_roundw
        case rel => exact ⟨k + 1, s2, l ++ [q], by omega, by go_num, ⟨HS3.out, HB3.out, HZ3.out⟩, HO3⟩
        case measure => simp [intOf]; omega
    · have e : l = T := by
        have := hz.out.2.2
        rw [List.drop_eq_nil_of_le (by omega)] at this
        simpa [keepL] using this
      subst e
      go_wp2
      go_ret
      exact ⟨_, rfl, hown.out, hz.out.2.1⟩

set_option maxRecDepth 100000 in
set_option maxHeartbeats 4000000 in
theorem only_follow {σ : Type} (B : Nat) (I : σ → World → Prop) (stp : σ → Pl → Bool × σ) (hI : ∀ s w w', I s w → Below B w w' → w'.heap[B]? = w.heap[B]? → I s w') (Ok : Pl → Prop)
    (hcl : ∀ s p wx, Ok p → B < wx.heap.size → I s wx → Calls Try.prog 30 #[.agg #[.int .i64 p.r, .int .i64 p.a], .pointer (some ⟨B, 0, none⟩)] wx fun e w' => e = .returned (.bool (stp s p).1) ∧ I (stp s p).2 w' ∧ wx.grownBy w' (some B))
    (a : Option Addr) (len cap : Nat) (xs : List Pl) (s0 : σ) (w : World) (hr : RowP w a len xs) (hlt : ∀ b o, a = some ⟨b, o, none⟩ → xs ≠ [] → b < B) (hB : B < w.heap.size) (hok : ∀ p ∈ xs, Ok p) (hs0 : I s0 w) (hlen : xs.length ≤ 100000) :
    Calls Try.prog 26 #[.slice a len cap, .func (.func 30) #[] #[.pointer (some ⟨B, 0, none⟩)]] w fun e w' => ∃ v, e = .returned v ∧ w'.ownsRow (B + 1) 25 2 v (keepL stp s0 xs).length (plc (keepL stp s0 xs)) ∧ Below B w w' := by
  obtain ⟨i0, hi, hz0, hz1, hz2⟩ := pinfo_parts infoPl
  have HI : Hid (∀ s w w', I s w → Below B w w' → w'.heap[B]? = w.heap[B]? → I s w') := hI
  have HCL : Hid (∀ s p wx, Ok p → B < wx.heap.size → I s wx → Calls Try.prog 30 #[.agg #[.int .i64 p.r, .int .i64 p.a], .pointer (some ⟨B, 0, none⟩)] wx fun e w' => e = .returned (.bool (stp s p).1) ∧ I (stp s p).2 w' ∧ wx.grownBy w' (some B)) := hcl
  have HOK : Hid (∀ p ∈ xs, Ok p) := hok
  clear hI hcl hok
  obtain ⟨rfl, hm, hx⟩ := hr
  obtain ⟨T, hT⟩ : ∃ T, keepL stp s0 xs = T := ⟨_, rfl⟩
  have HT : Hid (keepL stp s0 xs = T ∧ T.length ≤ xs.length) := ⟨hT, by rw [← hT]; exact keep_le stp xs s0⟩
  rw [hT]
  clear hT
  go_enter Try.func26, Try.ntmps26
  go_wp2
  go_loopw [5, 10] (fun v i wr => ∃ (k : Nat) (s : σ) (l : List Pl), k ≤ xs.length ∧ i = .int .i64 k ∧ Hid (I s wr ∧ Below B w wr ∧ l ++ keepL stp s (xs.drop k) = T) ∧ Hid (wr.ownsRow (B + 1) 25 2 v l.length (plc l))) (fun _ i _ => xs.length - (intOf i).toNat)
  case atStart => exact ⟨0, s0, [], Nat.zero_le _, rfl, ⟨hs0, Below.refl _ _, HT.out.1⟩, World.ownsRow_nil _ _ _ _⟩
  case round =>
    obtain ⟨k, s, l, hk, rfl, hz, hown⟩ := hrel
    clear hs0
    by_cases hkl : k < xs.length
    · have hLL : l.length ≤ xs.length := by
        have h1 := HT.out.2
        rw [← hz.out.2.2] at h1
        rw [List.length_append] at h1
        omega
      rcases hx with hx | ⟨b, off, rfl, hb, hrow⟩
      · simp [hx] at hkl
      have hbB : b < B := hlt b off rfl (fun e => by rw [e] at hkl; simp at hkl)
      obtain ⟨g1, g2⟩ := hrow k hkl
      clear hrow
      rw [← hz.out.2.1.cell (p := ⟨b, _, none⟩) hbB] at g1 g2
      have hok := HOK.out xs[k] (List.getElem_mem hkl)
      have hz2' := hz.out.2.2
      rw [List.drop_eq_getElem_cons hkl] at hz2'
      have i1 : (k : Int) < (xs.length : Int) := by omega
      generalize xs[k] = q at *
      have HS : Hid (I s wr) := hz.out.1
      have HB : Hid (Below B w wr) := hz.out.2.1
      have HZ : Hid (l ++ keepL stp s (q :: xs.drop (k + 1)) = T) := hz2'
      have HQ : Hid (Ok q) := hok
      have hBr : B < wr.heap.size := Nat.lt_of_lt_of_le hB HB.out.size
      clear hz hz2' hok hlt
      have HX1 : Hid (VarP wr.heap.size q (wr.alloc (.cells #[.int .i64 q.r, .int .i64 q.a] 25))) := VarP.box wr q
      have HA : Hid (Below wr.heap.size wr (wr.alloc (.cells #[.int .i64 q.r, .int .i64 q.a] 25))) := (Below.refl _ _).alloc (Nat.le_refl _) _
      have HS1 : Hid (I s (wr.alloc (.cells #[.int .i64 q.r, .int .i64 q.a] 25))) := HI.out s wr _ HS.out (HA.out.mono (by omega)) (HA.out.block B hBr)
      have HO1 : Hid ((wr.alloc (.cells #[.int .i64 q.r, .int .i64 q.a] 25)).ownsRow (B + 1) 25 2 u5 l.length (plc l)) := own_belowP hown.out HA.out
      have hB1 : B < (wr.alloc (.cells #[.int .i64 q.r, .int .i64 q.a] 25)).heap.size := by simp; omega
      have HB1 : Hid (Below B w (wr.alloc (.cells #[.int .i64 q.r, .int .i64 q.a] 25))) := HB.out.trans (HA.out.mono (by omega))
      obtain ⟨c1, c2, _, _, _⟩ := HX1.out
      go_wp2_with fail
      refine (HCL.out s q _ HQ.out hB1 HS1.out).mono ?_
      rintro _ w2 ⟨rfl, hs2, hg2⟩
      have HS2 : Hid (I (stp s q).2 w2) := hs2
      have HB2 : Hid (Below B w w2) := HB1.out.grown hg2 (by omega) (fun g hg => by cases hg; exact Nat.le_refl _)
      have HO2 : Hid (w2.ownsRow (B + 1) 25 2 u5 l.length (plc l)) := HO1.out.kept hg2 (by
        cases e : u5.ownBlock with
        | none => exact .inl rfl
        | some g => exact .inr (fun e2 => by cases e2; have := (HO1.out.lt _ e).1; omega))
      have hs2' : wr.heap.size + 1 ≤ w2.heap.size := by have := hg2.size; simpa using this
      have k1 : w2.cell? ⟨wr.heap.size, 0, none⟩ = some (.int .i64 q.r) := by
        rw [grown_cellP hg2 _ _ (by simp) (by simp; omega)]; exact c1
      have k2 : w2.cell? ⟨wr.heap.size, 1, none⟩ = some (.int .i64 q.a) := by
        rw [grown_cellP hg2 _ _ (by simp) (by simp; omega)]; exact c2
      clear c1 c2 hg2 hs2 HS1 HO1 HB1 hB1 HX1 HA HS HB hown g1 g2
      obtain ⟨bb, hbb⟩ : ∃ bb, (stp s q).1 = bb := ⟨_, rfl⟩
      obtain ⟨s2, hss⟩ : ∃ s2, (stp s q).2 = s2 := ⟨_, rfl⟩
      rw [hbb]
      rw [hss] at HS2
      have HZ2 : Hid (l ++ (if bb then q :: keepL stp s2 (xs.drop (k + 1)) else keepL stp s2 (xs.drop (k + 1))) = T) := by
        show _ = _
        rw [← HZ.out, keepL, hbb, hss]
      clear hbb hss HZ
      cases bb
      · have HZ3 : Hid (l ++ keepL stp s2 (xs.drop (k + 1)) = T) := HZ2.out
        clear HZ2
        go_wp2
        go_roundw
        case rel => exact ⟨k + 1, s2, l, by omega, by go_num, ⟨HS2.out, HB2.out, HZ3.out⟩, HO2⟩
        case measure => simp [intOf]; omega
      · have HZ3 : Hid ((l ++ [q]) ++ keepL stp s2 (xs.drop (k + 1)) = T) := by show _ = _; rw [List.append_assoc]; exact HZ2.out
        clear HZ2
        go_wp2_with (at_builtin; refine wpList_append_own _ rfl _ _ 22 rfl (B + 1) 25 i0 (.agg #[.int .i64 0, .int .i64 0]) 2 16 Try.underlying22 hi hz0 hz1 hz2 rfl (by decide) _ _ _ rfl (HO2.out.alloc _) ⟨w2.heap.size, 0, none⟩ 1 1 (plc [q]) rfl rfl (news_pl w2 q 25) (one_pl q) (by simp [maxLen]; omega) (by omega) (by simp; omega) ?_)
        intro v3 w3 ho3 hg3 _
        have HB3 : Hid (Below B w w3) := (HB2.out.alloc (by omega) _).grown hg3 (by simp; omega) (fun g hg => by have := (HO2.out.lt g hg).1; omega)
        have HS3 : Hid (I s2 w3) := HI.out s2 w2 w3 HS2.out (((Below.refl B w2).alloc (by omega) _).grown hg3 (by simp; omega) (fun g hg => by have := (HO2.out.lt g hg).1; omega)) (by
          rw [hg3.block B (by simp; omega) (fun e => by have := (HO2.out.lt _ e.symm).1; omega)]
          exact ((Below.refl _ w2).alloc (Nat.le_refl _) _).block B (by omega))
        have HO3 : Hid (w3.ownsRow (B + 1) 25 2 v3 (l ++ [q]).length (plc (l ++ [q]))) := own_eqP ho3 (by simp) (by rw [plc_append])
        clear ho3 hg3 k1 k2 HS2 HB2 HO2
        go_wp2
        go_roundw
        case rel => exact ⟨k + 1, s2, l ++ [q], by omega, by go_num, ⟨HS3.out, HB3.out, HZ3.out⟩, HO3⟩
        case measure => simp [intOf]; omega
    · have e : l = T := by
        have := hz.out.2.2
        rw [List.drop_eq_nil_of_le (by omega)] at this
        simpa [keepL] using this
      subst e
      go_wp2
      go_ret
      exact ⟨_, rfl, hown.out, hz.out.2.1⟩
end Go.Proofs.Ytalfjdpdecngoaa
