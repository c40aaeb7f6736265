/- Part 25 of 30. -/
import Derived.Test.YtmabfbffpedfnaaGreatDoorK24
namespace Go.Proofs.YtmabfbffpedfnaaGreatDoor
open Go.RowKit

def akc (L : List Ak) : List Value := L.flatMap Ak.cells
/-- asking at work -/
structure AskW (bt be bC bI : Nat) (C : List Cl) (I : List ByteArray) (E : List Ex) (v : Value) (w0 : World) (L : List Ak) (sv : Value) (wr : World) : Prop where
  kb : Blk bt #[.string ⟨#[116]⟩, .slice (some ⟨bC, 0, none⟩) C.length C.length, .slice (some ⟨bI, 0, none⟩) I.length I.length] 33 wr
  ke : Blk be (entC bC bI C I) 35 wr
  tb : TabW bC bI C I wr
  pt : PtRow wr v E
  ow : wr.ownsRow (w0.heap.size + 1) 71 5 sv L.length (akc L)
  be : Below w0.heap.size w0 wr
  lt : w0.heap.size + 1 ≤ wr.heap.size
theorem AskW.below {bt be bC bI : Nat} {C : List Cl} {I : List ByteArray} {E : List Ex} {v : Value} {w0 : World} {L : List Ak} {sv : Value} {wr w' : World} (h : AskW bt be bC bI C I E v w0 L sv wr) (hb : Below wr.heap.size wr w') : AskW bt be bC bI C I E v w0 L sv w' :=
  ⟨h.kb.below hb, h.ke.below hb, h.tb.below hb, h.pt.below hb, own_below h.ow hb, h.be.trans (hb.mono h.be.size), Nat.le_trans h.lt hb.size⟩
theorem news_ak (w : World) (a : Ak) (t : TypeId) : ∀ j u, a.cells[j]? = some u → (w.alloc (.cells #[.int .i64 a.cd, .string a.cl, .int .i64 a.vl.k, .int .i64 a.vl.n, .string a.vl.t] t)).cell? ((⟨w.heap.size, 0, none⟩ : Addr).add j) = some u := by
  intro j u hj
  have hk : Blk w.heap.size #[.int .i64 a.cd, .string a.cl, .int .i64 a.vl.k, .int .i64 a.vl.n, .string a.vl.t] t (w.alloc (.cells #[.int .i64 a.cd, .string a.cl, .int .i64 a.vl.k, .int .i64 a.vl.n, .string a.vl.t] t)) := Blk.new _ _ _
  have : ((⟨w.heap.size, 0, none⟩ : Addr).add j) = ⟨w.heap.size, j, none⟩ := by simp [Addr.add]; omega
  rw [this, hk.cell j, ← Array.getElem?_toList]
  exact hj
theorem infoAk : (Tryz.prog.info? 71).map (fun i => (i.zero, i.size, i.bytes)) = some (some (.agg #[.int .i64 0, .string ⟨#[]⟩, .int .i64 0, .int .i64 0, .string ⟨#[]⟩]), 5, 56) := by kernel_rfl
/-- it grows by one -/
theorem AskW.snoc {bt be bC bI : Nat} {C : List Cl} {I : List ByteArray} {E : List Ex} {v : Value} {w0 : World} {L : List Ak} {sv v3 : Value} {wr w3 : World} {o : Obj} (h : AskW bt be bC bI C I E v w0 L sv wr) (a : Ak) (hbt : bt < w0.heap.size + 1) (hbe : be < w0.heap.size) (hbC : bC < w0.heap.size) (hbI : bI < w0.heap.size) (hp : PtRow w0 v E) (hg : (wr.alloc o).grownBy w3 sv.ownBlock) (ho3 : w3.ownsRow (w0.heap.size + 1) 71 5 v3 (L.length + 1) (akc L ++ a.cells)) : AskW bt be bC bI C I E v w0 (L ++ [a]) v3 w3 := by
  have hA := h.below ((Below.refl _ _).alloc (Nat.le_refl _) o)
  have hlt := hA.lt
  have hbl : ∀ k, k < w0.heap.size + 1 → w3.heap[k]? = (wr.alloc o).heap[k]? := fun k hk => hg.block k (by omega) (fun e => by have := (hA.ow.lt k e.symm).1; omega)
  have hb3 : Below w0.heap.size w0 w3 := hA.be.grown hg hA.be.size (fun g e => by have := (hA.ow.lt g e).1; omega)
  have e1 : ∀ o', w3.cell? ⟨bC, o', none⟩ = (wr.alloc o).cell? ⟨bC, o', none⟩ := fun o' => World.cell?_of_block (w := wr.alloc o) (a := ⟨bC, o', none⟩) (hbl bC (by omega))
  have e2 : ∀ o', w3.cell? ⟨bI, o', none⟩ = (wr.alloc o).cell? ⟨bI, o', none⟩ := fun o' => World.cell?_of_block (w := wr.alloc o) (a := ⟨bI, o', none⟩) (hbl bI (by omega))
  refine ⟨?_, ?_, ⟨fun j hj => by rw [e1, e1, e1, e1]; exact hA.tb.kc j hj, fun j hj => by rw [e2]; exact hA.tb.ki j hj, ?_, ?_, h.tb.sc, h.tb.si⟩, hp.below hb3, ?_, hb3, ?_⟩
  · show w3.heap[bt]? = _
    rw [hbl bt hbt]; exact hA.kb
  · show w3.heap[be]? = _
    rw [hbl be (by omega)]; exact hA.ke
  · have := hg.size; omega
  · have := hg.size; omega
  · exact own_eq ho3 (by simp) (by simp [akc])
  · have := hg.size; omega
set_option maxRecDepth 100000 in
set_option maxHeartbeats 40000000 in
theorem asking_any (be bC bI : Nat) (C : List Cl) (I : List ByteArray) (E : List Ex) (v : Value) (w0 : World) (hT : TabW bC bI C I w0) (hk : Blk be (entC bC bI C I) 35 w0) (hp : PtRow w0 v E) (hE : ∀ e ∈ E, e ≠ .nil) (hl : E.length ≤ 1000) : Calls Tryz.prog 21 #[tabV bC bI C I, v, .func (.func 42) #[] #[.pointer (some ⟨be, 0, none⟩)]] w0 fun x w' => ∃ sv, x = .returned sv ∧ w'.ownsRow (w0.heap.size + 1) 71 5 sv (asksF C I E).length (akc (asksF C I E)) ∧ Below w0.heap.size w0 w' := by
  obtain ⟨W, hW⟩ : ∃ W, w0.alloc (.cells #[.string ⟨#[116]⟩, .slice (some ⟨bC, 0, none⟩) C.length C.length, .slice (some ⟨bI, 0, none⟩) I.length I.length] 33) = W := ⟨_, rfl⟩
  have hbW : Below w0.heap.size w0 W := by rw [← hW]; exact (Below.refl _ _).alloc (Nat.le_refl _) _
  have hkt : Blk w0.heap.size #[.string ⟨#[116]⟩, .slice (some ⟨bC, 0, none⟩) C.length C.length, .slice (some ⟨bI, 0, none⟩) I.length I.length] 33 W := by rw [← hW]; exact Blk.new _ _ _
  obtain ⟨a0, c0, rfl, hrow⟩ := hp
  have hp : PtRow w0 (.slice a0 E.length c0) E := ⟨a0, c0, rfl, hrow⟩
  have hbe : be < w0.heap.size := (Array.getElem?_eq_some_iff.1 hk).1
  have HP : Hid (PtRow w0 (.slice a0 E.length c0) E ∧ be < w0.heap.size ∧ bC < w0.heap.size ∧ bI < w0.heap.size ∧ (∀ e ∈ E, e ≠ .nil)) := ⟨hp, hbe, hT.lc, hT.li, hE⟩
  have H0 : Hid (AskW w0.heap.size be bC bI C I E (.slice a0 E.length c0) w0 [] (.slice none 0 0) W) := ⟨hkt, hk.below hbW, hT.below hbW, hp.below hbW, World.ownsRow_nil _ _ _ _, hbW, by rw [← hW]; simp only [World.size_alloc]; omega⟩
  have hsc := hT.sc
  clear hbW hkt hrow hp hbe hT hk hE
  obtain ⟨i0, hi, hz0, hz1, hz2⟩ := info_parts infoAk
  unfold tabV
  go_enter Tryz.func21, Tryz.ntmps21
  go_wp2
  go_loopw [17, 7] (fun i sv wr => ∃ (k : Nat) (L : List Ak), k ≤ E.length ∧ i = .int .i64 k ∧ Hid (L = asksF C I (E.take k)) ∧ Hid (AskW w0.heap.size be bC bI C I E (.slice a0 E.length c0) w0 L sv wr)) (fun i _ _ => E.length - (intOf i).toNat)
  case atStart => exact ⟨0, [], Nat.zero_le _, rfl, rfl, H0⟩
  case round =>
    obtain ⟨k, L, hkE, rfl, hL, G0⟩ := hrel
    by_cases hlt : k < E.length
    · have i1 : (k : Int) < (E.length : Int) := by omega
      obtain ⟨b0, rfl, p, cp, hX⟩ : ∃ b0, a0 = some ⟨b0, 0, none⟩ ∧ ∃ p, wr.cell? ⟨b0, k, none⟩ = some (.pointer p) ∧ ExAt wr p E[k] := by
        obtain ⟨a1, c1, e1, h1⟩ := G0.out.pt
        rcases h1 with h1 | ⟨b0, h2, _, h3⟩
        · rw [h1] at hlt; simp at hlt
        · injection e1 with e1
          exact ⟨b0, e1.trans h2, h3 k hlt⟩
      have hne := HP.out.2.2.2.2 E[k] (List.getElem_mem hlt)
      obtain ⟨X, hXe⟩ : ∃ X, E[k] = X := ⟨_, rfl⟩
      rw [hXe] at hX hne
      have HX : Hid (E[k] = X) := hXe
      clear hXe
      cases X with
      | nil => exact absurd rfl hne
      | node c v nm l r =>
        clear hne
        obtain ⟨B, pl, pr, rfl, hBlt, ⟨m0, m1, m2, m3, m4, m5, m6⟩, hl0, hr0⟩ := hX
        have G1 : Hid (AskW w0.heap.size be bC bI C I E (.slice (some ⟨b0, 0, none⟩) E.length c0) w0 L u7 wr ∧ ExAt wr pl l ∧ ExAt wr pr r) := ⟨G0.out, hl0, hr0⟩
        have hLl : L.length ≤ 1000 := by rw [hL.out]; exact Nat.le_trans (asksF_len C I E k) hl
        clear m1 m2 m3 m4 hl0 hr0 G0 hBlt
        obtain ⟨j0, hj0⟩ : ∃ j, ownF C l = j := ⟨_, rfl⟩
        have HJ0 : Hid (ownF C l = j0) := hj0
        by_cases h0 : j0 < 0
        · have HA : Hid (pAskF C I (.node c v nm l r) = pAskG C I (turnI c) r l) := by show _ = _; rw [pAskF, hj0, if_pos h0]
          have d0 : decide (j0 < 0) = true := decide_eq_true h0
          clear h0 hj0
          obtain ⟨cd, hcd⟩ : ∃ z, turnI c = z := ⟨_, rfl⟩
          have HCD : Hid (turnI c = cd) := hcd
          rw [hcd] at HA
          clear hcd
          obtain ⟨j, hj⟩ : ∃ z, ownF C r = z := ⟨_, rfl⟩
          have HJ : Hid (ownF C r = j) := hj
          by_cases h1 : j < 0
          · have HN : Hid (pAskF C I (.node c v nm l r) = none) := by
              show _ = _
              rw [HA.out]
              cases l with
              | nil => rfl
              | node c' v' n' l' r' => rw [pAskG, hj, if_pos (Or.inl h1)]
            have d1 : decide (j < 0) = true := decide_eq_true h1
            clear h1 hj
            go_wp2_with fail
            go_quiet (fail)
            obtain ⟨w1, hw1⟩ : ∃ w1, wr.drewN nq = w1 := ⟨_, rfl⟩
            rw [hw1]
            have hb : Below wr.heap.size wr w1 := by rw [← hw1]; exact below_drewN (Below.refl _ _) nq
            have G2 : Hid (AskW w0.heap.size be bC bI C I E (.slice (some ⟨b0, 0, none⟩) E.length c0) w0 L u7 w1 ∧ ExAt w1 pl l ∧ ExAt w1 pr r) := ⟨G1.out.1.below hb, G1.out.2.1.below hb, G1.out.2.2.below hb⟩
            clear hb hw1
            go_wp2_with fail
            have h8 := ownC_any bC bI C I l pl be w1 G2.out.2.1 G2.out.1.ke G2.out.1.tb
            rw [HJ0.out] at h8
            refine h8.mono ?_
            clear h8
            rintro _ w2 ⟨rfl, hb⟩
            have G3 : Hid (AskW w0.heap.size be bC bI C I E (.slice (some ⟨b0, 0, none⟩) E.length c0) w0 L u7 w2 ∧ ExAt w2 pl l ∧ ExAt w2 pr r) := ⟨G2.out.1.below hb, G2.out.2.1.below hb, G2.out.2.2.below hb⟩
            clear hb G2
            go_wp2_with fail
            have h8 := turned_any c w2
            rw [HCD.out] at h8
            refine h8.mono ?_
            clear h8
            rintro _ w2 ⟨rfl, rfl⟩
            go_wp2_with fail
            have h8 := ownC_any bC bI C I r pr be w2 G3.out.2.2 G3.out.1.ke G3.out.1.tb
            rw [HJ.out] at h8
            refine h8.mono ?_
            clear h8
            rintro _ w3 ⟨rfl, hb⟩
            have G4 : Hid (AskW w0.heap.size be bC bI C I E (.slice (some ⟨b0, 0, none⟩) E.length c0) w0 L u7 w3 ∧ ExAt w3 pl l ∧ ExAt w3 pr r) := ⟨G3.out.1.below hb, G3.out.2.1.below hb, G3.out.2.2.below hb⟩
            clear hb G3
            go_wp2
            go_roundw
            case rel => exact ⟨k + 1, L, by omega, by go_num, hL.out.trans (asksF_no hlt (by rw [HX.out]; exact HN.out)).symm, G4.out.1⟩
            case measure => simp [intOf]; omega
          have d1 : decide (j < 0) = false := decide_eq_false h1
          obtain ⟨q, hq⟩ : ∃ z, asksB cd = z := ⟨_, rfl⟩
          have HQ : Hid (asksB cd = q) := hq
          cases q
          · have HN : Hid (pAskF C I (.node c v nm l r) = none) := by
              show _ = _
              rw [HA.out]
              cases l with
              | nil => rfl
              | node c' v' n' l' r' => rw [pAskG, if_pos (Or.inr (Or.inl hq))]
            clear h1 hj hq
            go_wp2_with fail
            go_quiet (fail)
            obtain ⟨w1, hw1⟩ : ∃ w1, wr.drewN nq = w1 := ⟨_, rfl⟩
            rw [hw1]
            have hb : Below wr.heap.size wr w1 := by rw [← hw1]; exact below_drewN (Below.refl _ _) nq
            have G2 : Hid (AskW w0.heap.size be bC bI C I E (.slice (some ⟨b0, 0, none⟩) E.length c0) w0 L u7 w1 ∧ ExAt w1 pl l ∧ ExAt w1 pr r) := ⟨G1.out.1.below hb, G1.out.2.1.below hb, G1.out.2.2.below hb⟩
            clear hb hw1
            go_wp2_with fail
            have h8 := ownC_any bC bI C I l pl be w1 G2.out.2.1 G2.out.1.ke G2.out.1.tb
            rw [HJ0.out] at h8
            refine h8.mono ?_
            clear h8
            rintro _ w2 ⟨rfl, hb⟩
            have G3 : Hid (AskW w0.heap.size be bC bI C I E (.slice (some ⟨b0, 0, none⟩) E.length c0) w0 L u7 w2 ∧ ExAt w2 pl l ∧ ExAt w2 pr r) := ⟨G2.out.1.below hb, G2.out.2.1.below hb, G2.out.2.2.below hb⟩
            clear hb G2
            go_wp2_with fail
            have h8 := turned_any c w2
            rw [HCD.out] at h8
            refine h8.mono ?_
            clear h8
            rintro _ w2 ⟨rfl, rfl⟩
            go_wp2_with fail
            have h8 := ownC_any bC bI C I r pr be w2 G3.out.2.2 G3.out.1.ke G3.out.1.tb
            rw [HJ.out] at h8
            refine h8.mono ?_
            clear h8
            rintro _ w3 ⟨rfl, hb⟩
            have G4 : Hid (AskW w0.heap.size be bC bI C I E (.slice (some ⟨b0, 0, none⟩) E.length c0) w0 L u7 w3 ∧ ExAt w3 pl l ∧ ExAt w3 pr r) := ⟨G3.out.1.below hb, G3.out.2.1.below hb, G3.out.2.2.below hb⟩
            clear hb G3
            go_wp2_with fail
            have h8 := asks_any cd w3
            rw [HQ.out] at h8
            refine h8.mono ?_
            clear h8
            rintro _ w3 ⟨rfl, rfl⟩
            go_wp2
            go_roundw
            case rel => exact ⟨k + 1, L, by omega, by go_num, hL.out.trans (asksF_no hlt (by rw [HX.out]; exact HN.out)).symm, G4.out.1⟩
            case measure => simp [intOf]; omega
          clear hq
          by_cases hn : l = .nil
          · have HN : Hid (pAskF C I (.node c v nm l r) = none) := by show _ = _; rw [HA.out, hn]; rfl
            have HNL : Hid (l = .nil) := hn
            clear h1 hj hn
            go_wp2_with fail
            go_quiet (fail)
            obtain ⟨w1, hw1⟩ : ∃ w1, wr.drewN nq = w1 := ⟨_, rfl⟩
            rw [hw1]
            have hb : Below wr.heap.size wr w1 := by rw [← hw1]; exact below_drewN (Below.refl _ _) nq
            have G2 : Hid (AskW w0.heap.size be bC bI C I E (.slice (some ⟨b0, 0, none⟩) E.length c0) w0 L u7 w1 ∧ ExAt w1 pl l ∧ ExAt w1 pr r) := ⟨G1.out.1.below hb, G1.out.2.1.below hb, G1.out.2.2.below hb⟩
            clear hb hw1
            go_wp2_with fail
            have h8 := ownC_any bC bI C I l pl be w1 G2.out.2.1 G2.out.1.ke G2.out.1.tb
            rw [HJ0.out] at h8
            refine h8.mono ?_
            clear h8
            rintro _ w2 ⟨rfl, hb⟩
            have G3 : Hid (AskW w0.heap.size be bC bI C I E (.slice (some ⟨b0, 0, none⟩) E.length c0) w0 L u7 w2 ∧ ExAt w2 pl l ∧ ExAt w2 pr r) := ⟨G2.out.1.below hb, G2.out.2.1.below hb, G2.out.2.2.below hb⟩
            clear hb G2
            go_wp2_with fail
            have h8 := turned_any c w2
            rw [HCD.out] at h8
            refine h8.mono ?_
            clear h8
            rintro _ w2 ⟨rfl, rfl⟩
            go_wp2_with fail
            have h8 := ownC_any bC bI C I r pr be w2 G3.out.2.2 G3.out.1.ke G3.out.1.tb
            rw [HJ.out] at h8
            refine h8.mono ?_
            clear h8
            rintro _ w3 ⟨rfl, hb⟩
            have G4 : Hid (AskW w0.heap.size be bC bI C I E (.slice (some ⟨b0, 0, none⟩) E.length c0) w0 L u7 w3 ∧ ExAt w3 pl l ∧ ExAt w3 pr r) := ⟨G3.out.1.below hb, G3.out.2.1.below hb, G3.out.2.2.below hb⟩
            clear hb G3
            obtain rfl : pl = none := by have h9 := G4.out.2.1; rw [HNL.out] at h9; exact h9
            go_wp2_with fail
            have h8 := asks_any cd w3
            rw [HQ.out] at h8
            refine h8.mono ?_
            clear h8
            rintro _ w3 ⟨rfl, rfl⟩
            go_wp2
            go_roundw
            case rel => exact ⟨k + 1, L, by omega, by go_num, hL.out.trans (asksF_no hlt (by rw [HX.out]; exact HN.out)).symm, G4.out.1⟩
            case measure => simp [intOf]; omega
          · obtain ⟨c', v', n', l', r', hlit⟩ : ∃ c' v' n' l' r', l = .node c' v' n' l' r' := by
              cases l with
              | nil => exact absurd rfl hn
              | node c' v' n' l' r' => exact ⟨_, _, _, _, _, rfl⟩
            have HLIT : Hid (l = .node c' v' n' l' r') := hlit
            clear hn hlit
            have HG : Hid (∀ wx, ExAt wx pl l → ∃ B', pl = some ⟨B', 0, none⟩ ∧ wx.cell? ⟨B', 0, none⟩ = some (.int .i64 c') ∧ wx.cell? ⟨B', 1, none⟩ = some (.int .i64 v'.k) ∧ wx.cell? ⟨B', 2, none⟩ = some (.int .i64 v'.n) ∧ wx.cell? ⟨B', 3, none⟩ = some (.string v'.t)) := fun wx h => by rw [HLIT.out] at h; obtain ⟨B', _, _, e, _, ⟨x0, x1, x2, x3, _, _, _⟩, _, _⟩ := h; exact ⟨B', e, x0, x1, x2, x3⟩
            by_cases h2 : c' = 1
            rotate_left
            · have HN : Hid (pAskF C I (.node c v nm l r) = none) := by show _ = _; rw [HA.out, HLIT.out, pAskG, if_pos (Or.inr (Or.inr (Or.inl h2)))]
              have e2 : (c' != 1) = true := by simp [h2]
              clear h1 hj h2
              go_wp2_with fail
              go_quiet (fail)
              obtain ⟨w1, hw1⟩ : ∃ w1, wr.drewN nq = w1 := ⟨_, rfl⟩
              rw [hw1]
              have hb : Below wr.heap.size wr w1 := by rw [← hw1]; exact below_drewN (Below.refl _ _) nq
              have G2 : Hid (AskW w0.heap.size be bC bI C I E (.slice (some ⟨b0, 0, none⟩) E.length c0) w0 L u7 w1 ∧ ExAt w1 pl l ∧ ExAt w1 pr r) := ⟨G1.out.1.below hb, G1.out.2.1.below hb, G1.out.2.2.below hb⟩
              clear hb hw1
              go_wp2_with fail
              have h8 := ownC_any bC bI C I l pl be w1 G2.out.2.1 G2.out.1.ke G2.out.1.tb
              rw [HJ0.out] at h8
              refine h8.mono ?_
              clear h8
              rintro _ w2 ⟨rfl, hb⟩
              have G3 : Hid (AskW w0.heap.size be bC bI C I E (.slice (some ⟨b0, 0, none⟩) E.length c0) w0 L u7 w2 ∧ ExAt w2 pl l ∧ ExAt w2 pr r) := ⟨G2.out.1.below hb, G2.out.2.1.below hb, G2.out.2.2.below hb⟩
              clear hb G2
              go_wp2_with fail
              have h8 := turned_any c w2
              rw [HCD.out] at h8
              refine h8.mono ?_
              clear h8
              rintro _ w2 ⟨rfl, rfl⟩
              go_wp2_with fail
              have h8 := ownC_any bC bI C I r pr be w2 G3.out.2.2 G3.out.1.ke G3.out.1.tb
              rw [HJ.out] at h8
              refine h8.mono ?_
              clear h8
              rintro _ w3 ⟨rfl, hb⟩
              have G4 : Hid (AskW w0.heap.size be bC bI C I E (.slice (some ⟨b0, 0, none⟩) E.length c0) w0 L u7 w3 ∧ ExAt w3 pl l ∧ ExAt w3 pr r) := ⟨G3.out.1.below hb, G3.out.2.1.below hb, G3.out.2.2.below hb⟩
              clear hb G3
              obtain ⟨B', rfl, x0, x1, x2, x3⟩ := HG.out w3 G4.out.2.1
              go_wp2_with fail
              have h8 := asks_any cd w3
              rw [HQ.out] at h8
              refine h8.mono ?_
              clear h8
              rintro _ w3 ⟨rfl, rfl⟩
              go_wp2
              go_roundw
              case rel => exact ⟨k + 1, L, by omega, by go_num, hL.out.trans (asksF_no hlt (by rw [HX.out]; exact HN.out)).symm, G4.out.1⟩
              case measure => simp [intOf]; omega
            have e2 : (c' != 1) = false := by simp [h2]
            by_cases h3 : v'.k = 0
            · have HN : Hid (pAskF C I (.node c v nm l r) = none) := by show _ = _; rw [HA.out, HLIT.out, pAskG, if_pos (Or.inr (Or.inr (Or.inr (Or.inl h3))))]
              have e3 : (v'.k == 0) = true := by simp [h3]
              clear h1 hj h2 h3
              go_wp2_with fail
              go_quiet (fail)
              obtain ⟨w1, hw1⟩ : ∃ w1, wr.drewN nq = w1 := ⟨_, rfl⟩
              rw [hw1]
              have hb : Below wr.heap.size wr w1 := by rw [← hw1]; exact below_drewN (Below.refl _ _) nq
              have G2 : Hid (AskW w0.heap.size be bC bI C I E (.slice (some ⟨b0, 0, none⟩) E.length c0) w0 L u7 w1 ∧ ExAt w1 pl l ∧ ExAt w1 pr r) := ⟨G1.out.1.below hb, G1.out.2.1.below hb, G1.out.2.2.below hb⟩
              clear hb hw1
              go_wp2_with fail
              have h8 := ownC_any bC bI C I l pl be w1 G2.out.2.1 G2.out.1.ke G2.out.1.tb
              rw [HJ0.out] at h8
              refine h8.mono ?_
              clear h8
              rintro _ w2 ⟨rfl, hb⟩
              have G3 : Hid (AskW w0.heap.size be bC bI C I E (.slice (some ⟨b0, 0, none⟩) E.length c0) w0 L u7 w2 ∧ ExAt w2 pl l ∧ ExAt w2 pr r) := ⟨G2.out.1.below hb, G2.out.2.1.below hb, G2.out.2.2.below hb⟩
              clear hb G2
              go_wp2_with fail
              have h8 := turned_any c w2
              rw [HCD.out] at h8
              refine h8.mono ?_
              clear h8
              rintro _ w2 ⟨rfl, rfl⟩
              go_wp2_with fail
              have h8 := ownC_any bC bI C I r pr be w2 G3.out.2.2 G3.out.1.ke G3.out.1.tb
              rw [HJ.out] at h8
              refine h8.mono ?_
              clear h8
              rintro _ w3 ⟨rfl, hb⟩
              have G4 : Hid (AskW w0.heap.size be bC bI C I E (.slice (some ⟨b0, 0, none⟩) E.length c0) w0 L u7 w3 ∧ ExAt w3 pl l ∧ ExAt w3 pr r) := ⟨G3.out.1.below hb, G3.out.2.1.below hb, G3.out.2.2.below hb⟩
              clear hb G3
              obtain ⟨B', rfl, x0, x1, x2, x3⟩ := HG.out w3 G4.out.2.1
              go_wp2_with fail
              have h8 := asks_any cd w3
              rw [HQ.out] at h8
              refine h8.mono ?_
              clear h8
              rintro _ w3 ⟨rfl, rfl⟩
              go_wp2
              go_roundw
              case rel => exact ⟨k + 1, L, by omega, by go_num, hL.out.trans (asksF_no hlt (by rw [HX.out]; exact HN.out)).symm, G4.out.1⟩
              case measure => simp [intOf]; omega
            have e3 : (v'.k == 0) = false := by simp [h3]
            have hjl : j < C.length := by rw [← hj]; exact ownF_lt (by rw [hj]; omega)
            have hjn : (j.toNat : Int) = j := by omega
            have hjc : j.toNat < C.length := by omega
            obtain ⟨nn, hnn⟩ : ∃ z, nameAt C j = z := ⟨_, rfl⟩
            have hcn : C[j.toNat].nm = nn := by rw [← hnn, nameAt, List.getElem?_eq_getElem hjc]
            have HCN : Hid (∀ wx, TabW bC bI C I wx → wx.cell? ⟨bC, j.toNat * 4, none⟩ = some (.string nn)) := fun wx h => by rw [← hcn]; exact (h.kc j.toNat hjc).1
            obtain ⟨q2, hq2⟩ : ∃ z, hasN I nn = z := ⟨_, rfl⟩
            have HQ2 : Hid (hasN I nn = q2) := hq2
            cases q2
            · have HN : Hid (pAskF C I (.node c v nm l r) = none) := by show _ = _; rw [HA.out, HLIT.out, pAskG, hj, hnn, if_pos (Or.inr (Or.inr (Or.inr (Or.inr hq2))))]
              clear hj h2 h3 hnn hcn hq2
              go_wp2_with fail
              go_quiet (fail)
              obtain ⟨w1, hw1⟩ : ∃ w1, wr.drewN nq = w1 := ⟨_, rfl⟩
              rw [hw1]
              have hb : Below wr.heap.size wr w1 := by rw [← hw1]; exact below_drewN (Below.refl _ _) nq
              have G2 : Hid (AskW w0.heap.size be bC bI C I E (.slice (some ⟨b0, 0, none⟩) E.length c0) w0 L u7 w1 ∧ ExAt w1 pl l ∧ ExAt w1 pr r) := ⟨G1.out.1.below hb, G1.out.2.1.below hb, G1.out.2.2.below hb⟩
              clear hb hw1
              go_wp2_with fail
              have h8 := ownC_any bC bI C I l pl be w1 G2.out.2.1 G2.out.1.ke G2.out.1.tb
              rw [HJ0.out] at h8
              refine h8.mono ?_
              clear h8
              rintro _ w2 ⟨rfl, hb⟩
              have G3 : Hid (AskW w0.heap.size be bC bI C I E (.slice (some ⟨b0, 0, none⟩) E.length c0) w0 L u7 w2 ∧ ExAt w2 pl l ∧ ExAt w2 pr r) := ⟨G2.out.1.below hb, G2.out.2.1.below hb, G2.out.2.2.below hb⟩
              clear hb G2
              go_wp2_with fail
              have h8 := turned_any c w2
              rw [HCD.out] at h8
              refine h8.mono ?_
              clear h8
              rintro _ w2 ⟨rfl, rfl⟩
              go_wp2_with fail
              have h8 := ownC_any bC bI C I r pr be w2 G3.out.2.2 G3.out.1.ke G3.out.1.tb
              rw [HJ.out] at h8
              refine h8.mono ?_
              clear h8
              rintro _ w3 ⟨rfl, hb⟩
              have G4 : Hid (AskW w0.heap.size be bC bI C I E (.slice (some ⟨b0, 0, none⟩) E.length c0) w0 L u7 w3 ∧ ExAt w3 pl l ∧ ExAt w3 pr r) := ⟨G3.out.1.below hb, G3.out.2.1.below hb, G3.out.2.2.below hb⟩
              clear hb G3
              obtain ⟨B', rfl, x0, x1, x2, x3⟩ := HG.out w3 G4.out.2.1
              go_wp2_with fail
              have h8 := asks_any cd w3
              rw [HQ.out] at h8
              refine h8.mono ?_
              clear h8
              rintro _ w3 ⟨rfl, rfl⟩
              have t1 : w3.cell? ⟨w0.heap.size, 1, none⟩ = some (.slice (some ⟨bC, 0, none⟩) C.length C.length) := by rw [G4.out.1.kb.cell 1]; rfl
              have t2 : w3.cell? ⟨w0.heap.size, 2, none⟩ = some (.slice (some ⟨bI, 0, none⟩) I.length I.length) := by rw [G4.out.1.kb.cell 2]; rfl
              have tn := HCN.out w3 G4.out.1.tb
              go_wp2_with fail
              have h8 := scontains_any bC bI C I nn w3 G4.out.1.tb
              rw [HQ2.out] at h8
              refine h8.mono ?_
              clear h8
              rintro _ w3 ⟨rfl, rfl⟩
              go_wp2
              go_roundw
              case rel => exact ⟨k + 1, L, by omega, by go_num, hL.out.trans (asksF_no hlt (by rw [HX.out]; exact HN.out)).symm, G4.out.1⟩
              case measure => simp [intOf]; omega
            · have HN : Hid (pAskF C I (.node c v nm l r) = some ⟨cd, nn, v'⟩) := by
                show _ = _
                rw [HA.out, HLIT.out, pAskG, hj, hnn, if_neg (by rw [HQ.out, hq2]; intro h; rcases h with h | h | h | h | h; exact h1 h; cases h; exact h h2; exact h3 h; cases h)]
              clear hj h2 h3 hnn hcn hq2
              go_wp2_with fail
              go_quiet (fail)
              obtain ⟨w1, hw1⟩ : ∃ w1, wr.drewN nq = w1 := ⟨_, rfl⟩
              rw [hw1]
              have hb : Below wr.heap.size wr w1 := by rw [← hw1]; exact below_drewN (Below.refl _ _) nq
              have G2 : Hid (AskW w0.heap.size be bC bI C I E (.slice (some ⟨b0, 0, none⟩) E.length c0) w0 L u7 w1 ∧ ExAt w1 pl l ∧ ExAt w1 pr r) := ⟨G1.out.1.below hb, G1.out.2.1.below hb, G1.out.2.2.below hb⟩
              clear hb hw1
              go_wp2_with fail
              have h8 := ownC_any bC bI C I l pl be w1 G2.out.2.1 G2.out.1.ke G2.out.1.tb
              rw [HJ0.out] at h8
              refine h8.mono ?_
              clear h8
              rintro _ w2 ⟨rfl, hb⟩
              have G3 : Hid (AskW w0.heap.size be bC bI C I E (.slice (some ⟨b0, 0, none⟩) E.length c0) w0 L u7 w2 ∧ ExAt w2 pl l ∧ ExAt w2 pr r) := ⟨G2.out.1.below hb, G2.out.2.1.below hb, G2.out.2.2.below hb⟩
              clear hb G2
              go_wp2_with fail
              have h8 := turned_any c w2
              rw [HCD.out] at h8
              refine h8.mono ?_
              clear h8
              rintro _ w2 ⟨rfl, rfl⟩
              go_wp2_with fail
              have h8 := ownC_any bC bI C I r pr be w2 G3.out.2.2 G3.out.1.ke G3.out.1.tb
              rw [HJ.out] at h8
              refine h8.mono ?_
              clear h8
              rintro _ w3 ⟨rfl, hb⟩
              have G4 : Hid (AskW w0.heap.size be bC bI C I E (.slice (some ⟨b0, 0, none⟩) E.length c0) w0 L u7 w3 ∧ ExAt w3 pl l ∧ ExAt w3 pr r) := ⟨G3.out.1.below hb, G3.out.2.1.below hb, G3.out.2.2.below hb⟩
              clear hb G3
              obtain ⟨B', rfl, x0, x1, x2, x3⟩ := HG.out w3 G4.out.2.1
              go_wp2_with fail
              have h8 := asks_any cd w3
              rw [HQ.out] at h8
              refine h8.mono ?_
              clear h8
              rintro _ w3 ⟨rfl, rfl⟩
              have t1 : w3.cell? ⟨w0.heap.size, 1, none⟩ = some (.slice (some ⟨bC, 0, none⟩) C.length C.length) := by rw [G4.out.1.kb.cell 1]; rfl
              have t2 : w3.cell? ⟨w0.heap.size, 2, none⟩ = some (.slice (some ⟨bI, 0, none⟩) I.length I.length) := by rw [G4.out.1.kb.cell 2]; rfl
              have tn := HCN.out w3 G4.out.1.tb
              go_wp2_with fail
              have h8 := scontains_any bC bI C I nn w3 G4.out.1.tb
              rw [HQ2.out] at h8
              refine h8.mono ?_
              clear h8
              rintro _ w3 ⟨rfl, rfl⟩
              obtain ⟨a4, c4, rfl⟩ := own_slice G4.out.1.ow
              have HOw : Hid (w3.ownsRow (w0.heap.size + 1) 71 5 (.slice a4 L.length c4) L.length (akc L)) := G4.out.1.ow
              have hlt3 := G4.out.1.lt
              go_wp2_with (at_builtin; refine wpList_append_own _ rfl _ _ 68 rfl (w0.heap.size + 1) 71 i0 (.agg #[.int .i64 0, .string ⟨#[]⟩, .int .i64 0, .int .i64 0, .string ⟨#[]⟩]) 5 56 Tryz.underlying68 hi hz0 hz1 hz2 rfl (by decide) _ _ _ rfl (HOw.out.alloc _) ⟨w3.heap.size, 0, none⟩ 1 1 (Ak.cells ⟨cd, nn, v'⟩) rfl rfl (news_ak w3 ⟨cd, nn, v'⟩ _) (by intro u hu; simp [Ak.cells] at hu; rcases hu with rfl | rfl | rfl | rfl | rfl <;> rfl) (by simp [maxLen]; omega) (by omega) (by simp; omega) ?_)
              intro v4 w4 ho4 hg4 _
              have G5 : Hid (AskW w0.heap.size be bC bI C I E (.slice (some ⟨b0, 0, none⟩) E.length c0) w0 (L ++ [⟨cd, nn, v'⟩]) v4 w4) := G4.out.1.snoc ⟨cd, nn, v'⟩ (by omega) HP.out.2.1 HP.out.2.2.1 HP.out.2.2.2.1 HP.out.1 hg4 ho4
              clear ho4 hg4 HOw G4
              go_wp2
              go_roundw
              case rel => exact ⟨k + 1, L ++ [⟨cd, nn, v'⟩], by omega, by go_num, (by show _ = _; rw [asksF_yes hlt (by rw [HX.out]; exact HN.out), ← hL.out]), G5⟩
              case measure => simp [intOf]; omega
        · have HA : Hid (pAskF C I (.node c v nm l r) = pAskG C I (c) l r) := by show _ = _; rw [pAskF, hj0, if_neg h0]
          have d0 : decide (j0 < 0) = false := decide_eq_false h0
          clear h0 hj0
          obtain ⟨j, hj⟩ : ∃ z, ownF C l = z := ⟨_, rfl⟩
          have HJ : Hid (ownF C l = j) := hj
          by_cases h1 : j < 0
          · have HN : Hid (pAskF C I (.node c v nm l r) = none) := by
              show _ = _
              rw [HA.out]
              cases r with
              | nil => rfl
              | node c' v' n' l' r' => rw [pAskG, hj, if_pos (Or.inl h1)]
            have d1 : decide (j < 0) = true := decide_eq_true h1
            clear h1 hj
            go_wp2_with fail
            go_quiet (fail)
            obtain ⟨w1, hw1⟩ : ∃ w1, wr.drewN nq = w1 := ⟨_, rfl⟩
            rw [hw1]
            have hb : Below wr.heap.size wr w1 := by rw [← hw1]; exact below_drewN (Below.refl _ _) nq
            have G2 : Hid (AskW w0.heap.size be bC bI C I E (.slice (some ⟨b0, 0, none⟩) E.length c0) w0 L u7 w1 ∧ ExAt w1 pl l ∧ ExAt w1 pr r) := ⟨G1.out.1.below hb, G1.out.2.1.below hb, G1.out.2.2.below hb⟩
            clear hb hw1
            go_wp2_with fail
            have h8 := ownC_any bC bI C I l pl be w1 G2.out.2.1 G2.out.1.ke G2.out.1.tb
            rw [HJ0.out] at h8
            refine h8.mono ?_
            clear h8
            rintro _ w2 ⟨rfl, hb⟩
            have G3 : Hid (AskW w0.heap.size be bC bI C I E (.slice (some ⟨b0, 0, none⟩) E.length c0) w0 L u7 w2 ∧ ExAt w2 pl l ∧ ExAt w2 pr r) := ⟨G2.out.1.below hb, G2.out.2.1.below hb, G2.out.2.2.below hb⟩
            clear hb G2
            go_wp2_with fail
            have h8 := ownC_any bC bI C I l pl be w2 G3.out.2.1 G3.out.1.ke G3.out.1.tb
            rw [HJ.out] at h8
            refine h8.mono ?_
            clear h8
            rintro _ w3 ⟨rfl, hb⟩
            have G4 : Hid (AskW w0.heap.size be bC bI C I E (.slice (some ⟨b0, 0, none⟩) E.length c0) w0 L u7 w3 ∧ ExAt w3 pl l ∧ ExAt w3 pr r) := ⟨G3.out.1.below hb, G3.out.2.1.below hb, G3.out.2.2.below hb⟩
            clear hb G3
            go_wp2
            go_roundw
            case rel => exact ⟨k + 1, L, by omega, by go_num, hL.out.trans (asksF_no hlt (by rw [HX.out]; exact HN.out)).symm, G4.out.1⟩
            case measure => simp [intOf]; omega
          have d1 : decide (j < 0) = false := decide_eq_false h1
          obtain ⟨q, hq⟩ : ∃ z, asksB c = z := ⟨_, rfl⟩
          have HQ : Hid (asksB c = q) := hq
          cases q
          · have HN : Hid (pAskF C I (.node c v nm l r) = none) := by
              show _ = _
              rw [HA.out]
              cases r with
              | nil => rfl
              | node c' v' n' l' r' => rw [pAskG, if_pos (Or.inr (Or.inl hq))]
            clear h1 hj hq
            go_wp2_with fail
            go_quiet (fail)
            obtain ⟨w1, hw1⟩ : ∃ w1, wr.drewN nq = w1 := ⟨_, rfl⟩
            rw [hw1]
            have hb : Below wr.heap.size wr w1 := by rw [← hw1]; exact below_drewN (Below.refl _ _) nq
            have G2 : Hid (AskW w0.heap.size be bC bI C I E (.slice (some ⟨b0, 0, none⟩) E.length c0) w0 L u7 w1 ∧ ExAt w1 pl l ∧ ExAt w1 pr r) := ⟨G1.out.1.below hb, G1.out.2.1.below hb, G1.out.2.2.below hb⟩
            clear hb hw1
            go_wp2_with fail
            have h8 := ownC_any bC bI C I l pl be w1 G2.out.2.1 G2.out.1.ke G2.out.1.tb
            rw [HJ0.out] at h8
            refine h8.mono ?_
            clear h8
            rintro _ w2 ⟨rfl, hb⟩
            have G3 : Hid (AskW w0.heap.size be bC bI C I E (.slice (some ⟨b0, 0, none⟩) E.length c0) w0 L u7 w2 ∧ ExAt w2 pl l ∧ ExAt w2 pr r) := ⟨G2.out.1.below hb, G2.out.2.1.below hb, G2.out.2.2.below hb⟩
            clear hb G2
            go_wp2_with fail
            have h8 := ownC_any bC bI C I l pl be w2 G3.out.2.1 G3.out.1.ke G3.out.1.tb
            rw [HJ.out] at h8
            refine h8.mono ?_
            clear h8
            rintro _ w3 ⟨rfl, hb⟩
            have G4 : Hid (AskW w0.heap.size be bC bI C I E (.slice (some ⟨b0, 0, none⟩) E.length c0) w0 L u7 w3 ∧ ExAt w3 pl l ∧ ExAt w3 pr r) := ⟨G3.out.1.below hb, G3.out.2.1.below hb, G3.out.2.2.below hb⟩
            clear hb G3
            go_wp2_with fail
            have h8 := asks_any c w3
            rw [HQ.out] at h8
            refine h8.mono ?_
            clear h8
            rintro _ w3 ⟨rfl, rfl⟩
            go_wp2
            go_roundw
            case rel => exact ⟨k + 1, L, by omega, by go_num, hL.out.trans (asksF_no hlt (by rw [HX.out]; exact HN.out)).symm, G4.out.1⟩
            case measure => simp [intOf]; omega
          clear hq
          by_cases hn : r = .nil
          · have HN : Hid (pAskF C I (.node c v nm l r) = none) := by show _ = _; rw [HA.out, hn]; rfl
            have HNL : Hid (r = .nil) := hn
            clear h1 hj hn
            go_wp2_with fail
            go_quiet (fail)
            obtain ⟨w1, hw1⟩ : ∃ w1, wr.drewN nq = w1 := ⟨_, rfl⟩
            rw [hw1]
            have hb : Below wr.heap.size wr w1 := by rw [← hw1]; exact below_drewN (Below.refl _ _) nq
            have G2 : Hid (AskW w0.heap.size be bC bI C I E (.slice (some ⟨b0, 0, none⟩) E.length c0) w0 L u7 w1 ∧ ExAt w1 pl l ∧ ExAt w1 pr r) := ⟨G1.out.1.below hb, G1.out.2.1.below hb, G1.out.2.2.below hb⟩
            clear hb hw1
            go_wp2_with fail
            have h8 := ownC_any bC bI C I l pl be w1 G2.out.2.1 G2.out.1.ke G2.out.1.tb
            rw [HJ0.out] at h8
            refine h8.mono ?_
            clear h8
            rintro _ w2 ⟨rfl, hb⟩
            have G3 : Hid (AskW w0.heap.size be bC bI C I E (.slice (some ⟨b0, 0, none⟩) E.length c0) w0 L u7 w2 ∧ ExAt w2 pl l ∧ ExAt w2 pr r) := ⟨G2.out.1.below hb, G2.out.2.1.below hb, G2.out.2.2.below hb⟩
            clear hb G2
            go_wp2_with fail
            have h8 := ownC_any bC bI C I l pl be w2 G3.out.2.1 G3.out.1.ke G3.out.1.tb
            rw [HJ.out] at h8
            refine h8.mono ?_
            clear h8
            rintro _ w3 ⟨rfl, hb⟩
            have G4 : Hid (AskW w0.heap.size be bC bI C I E (.slice (some ⟨b0, 0, none⟩) E.length c0) w0 L u7 w3 ∧ ExAt w3 pl l ∧ ExAt w3 pr r) := ⟨G3.out.1.below hb, G3.out.2.1.below hb, G3.out.2.2.below hb⟩
            clear hb G3
            obtain rfl : pr = none := by have h9 := G4.out.2.2; rw [HNL.out] at h9; exact h9
            go_wp2_with fail
            have h8 := asks_any c w3
            rw [HQ.out] at h8
            refine h8.mono ?_
            clear h8
            rintro _ w3 ⟨rfl, rfl⟩
            go_wp2
            go_roundw
            case rel => exact ⟨k + 1, L, by omega, by go_num, hL.out.trans (asksF_no hlt (by rw [HX.out]; exact HN.out)).symm, G4.out.1⟩
            case measure => simp [intOf]; omega
          · obtain ⟨c', v', n', l', r', hlit⟩ : ∃ c' v' n' l' r', r = .node c' v' n' l' r' := by
              cases r with
              | nil => exact absurd rfl hn
              | node c' v' n' l' r' => exact ⟨_, _, _, _, _, rfl⟩
            have HLIT : Hid (r = .node c' v' n' l' r') := hlit
            clear hn hlit
            have HG : Hid (∀ wx, ExAt wx pr r → ∃ B', pr = some ⟨B', 0, none⟩ ∧ wx.cell? ⟨B', 0, none⟩ = some (.int .i64 c') ∧ wx.cell? ⟨B', 1, none⟩ = some (.int .i64 v'.k) ∧ wx.cell? ⟨B', 2, none⟩ = some (.int .i64 v'.n) ∧ wx.cell? ⟨B', 3, none⟩ = some (.string v'.t)) := fun wx h => by rw [HLIT.out] at h; obtain ⟨B', _, _, e, _, ⟨x0, x1, x2, x3, _, _, _⟩, _, _⟩ := h; exact ⟨B', e, x0, x1, x2, x3⟩
            by_cases h2 : c' = 1
            rotate_left
            · have HN : Hid (pAskF C I (.node c v nm l r) = none) := by show _ = _; rw [HA.out, HLIT.out, pAskG, if_pos (Or.inr (Or.inr (Or.inl h2)))]
              have e2 : (c' != 1) = true := by simp [h2]
              clear h1 hj h2
              go_wp2_with fail
              go_quiet (fail)
              obtain ⟨w1, hw1⟩ : ∃ w1, wr.drewN nq = w1 := ⟨_, rfl⟩
              rw [hw1]
              have hb : Below wr.heap.size wr w1 := by rw [← hw1]; exact below_drewN (Below.refl _ _) nq
              have G2 : Hid (AskW w0.heap.size be bC bI C I E (.slice (some ⟨b0, 0, none⟩) E.length c0) w0 L u7 w1 ∧ ExAt w1 pl l ∧ ExAt w1 pr r) := ⟨G1.out.1.below hb, G1.out.2.1.below hb, G1.out.2.2.below hb⟩
              clear hb hw1
              go_wp2_with fail
              have h8 := ownC_any bC bI C I l pl be w1 G2.out.2.1 G2.out.1.ke G2.out.1.tb
              rw [HJ0.out] at h8
              refine h8.mono ?_
              clear h8
              rintro _ w2 ⟨rfl, hb⟩
              have G3 : Hid (AskW w0.heap.size be bC bI C I E (.slice (some ⟨b0, 0, none⟩) E.length c0) w0 L u7 w2 ∧ ExAt w2 pl l ∧ ExAt w2 pr r) := ⟨G2.out.1.below hb, G2.out.2.1.below hb, G2.out.2.2.below hb⟩
              clear hb G2
              go_wp2_with fail
              have h8 := ownC_any bC bI C I l pl be w2 G3.out.2.1 G3.out.1.ke G3.out.1.tb
              rw [HJ.out] at h8
              refine h8.mono ?_
              clear h8
              rintro _ w3 ⟨rfl, hb⟩
              have G4 : Hid (AskW w0.heap.size be bC bI C I E (.slice (some ⟨b0, 0, none⟩) E.length c0) w0 L u7 w3 ∧ ExAt w3 pl l ∧ ExAt w3 pr r) := ⟨G3.out.1.below hb, G3.out.2.1.below hb, G3.out.2.2.below hb⟩
              clear hb G3
              obtain ⟨B', rfl, x0, x1, x2, x3⟩ := HG.out w3 G4.out.2.2
              go_wp2_with fail
              have h8 := asks_any c w3
              rw [HQ.out] at h8
              refine h8.mono ?_
              clear h8
              rintro _ w3 ⟨rfl, rfl⟩
              go_wp2
              go_roundw
              case rel => exact ⟨k + 1, L, by omega, by go_num, hL.out.trans (asksF_no hlt (by rw [HX.out]; exact HN.out)).symm, G4.out.1⟩
              case measure => simp [intOf]; omega
            have e2 : (c' != 1) = false := by simp [h2]
            by_cases h3 : v'.k = 0
            · have HN : Hid (pAskF C I (.node c v nm l r) = none) := by show _ = _; rw [HA.out, HLIT.out, pAskG, if_pos (Or.inr (Or.inr (Or.inr (Or.inl h3))))]
              have e3 : (v'.k == 0) = true := by simp [h3]
              clear h1 hj h2 h3
              go_wp2_with fail
              go_quiet (fail)
              obtain ⟨w1, hw1⟩ : ∃ w1, wr.drewN nq = w1 := ⟨_, rfl⟩
              rw [hw1]
              have hb : Below wr.heap.size wr w1 := by rw [← hw1]; exact below_drewN (Below.refl _ _) nq
              have G2 : Hid (AskW w0.heap.size be bC bI C I E (.slice (some ⟨b0, 0, none⟩) E.length c0) w0 L u7 w1 ∧ ExAt w1 pl l ∧ ExAt w1 pr r) := ⟨G1.out.1.below hb, G1.out.2.1.below hb, G1.out.2.2.below hb⟩
              clear hb hw1
              go_wp2_with fail
              have h8 := ownC_any bC bI C I l pl be w1 G2.out.2.1 G2.out.1.ke G2.out.1.tb
              rw [HJ0.out] at h8
              refine h8.mono ?_
              clear h8
              rintro _ w2 ⟨rfl, hb⟩
              have G3 : Hid (AskW w0.heap.size be bC bI C I E (.slice (some ⟨b0, 0, none⟩) E.length c0) w0 L u7 w2 ∧ ExAt w2 pl l ∧ ExAt w2 pr r) := ⟨G2.out.1.below hb, G2.out.2.1.below hb, G2.out.2.2.below hb⟩
              clear hb G2
              go_wp2_with fail
              have h8 := ownC_any bC bI C I l pl be w2 G3.out.2.1 G3.out.1.ke G3.out.1.tb
              rw [HJ.out] at h8
              refine h8.mono ?_
              clear h8
              rintro _ w3 ⟨rfl, hb⟩
              have G4 : Hid (AskW w0.heap.size be bC bI C I E (.slice (some ⟨b0, 0, none⟩) E.length c0) w0 L u7 w3 ∧ ExAt w3 pl l ∧ ExAt w3 pr r) := ⟨G3.out.1.below hb, G3.out.2.1.below hb, G3.out.2.2.below hb⟩
              clear hb G3
              obtain ⟨B', rfl, x0, x1, x2, x3⟩ := HG.out w3 G4.out.2.2
              go_wp2_with fail
              have h8 := asks_any c w3
              rw [HQ.out] at h8
              refine h8.mono ?_
              clear h8
              rintro _ w3 ⟨rfl, rfl⟩
              go_wp2
              go_roundw
              case rel => exact ⟨k + 1, L, by omega, by go_num, hL.out.trans (asksF_no hlt (by rw [HX.out]; exact HN.out)).symm, G4.out.1⟩
              case measure => simp [intOf]; omega
            have e3 : (v'.k == 0) = false := by simp [h3]
            have hjl : j < C.length := by rw [← hj]; exact ownF_lt (by rw [hj]; omega)
            have hjn : (j.toNat : Int) = j := by omega
            have hjc : j.toNat < C.length := by omega
            obtain ⟨nn, hnn⟩ : ∃ z, nameAt C j = z := ⟨_, rfl⟩
            have hcn : C[j.toNat].nm = nn := by rw [← hnn, nameAt, List.getElem?_eq_getElem hjc]
            have HCN : Hid (∀ wx, TabW bC bI C I wx → wx.cell? ⟨bC, j.toNat * 4, none⟩ = some (.string nn)) := fun wx h => by rw [← hcn]; exact (h.kc j.toNat hjc).1
            obtain ⟨q2, hq2⟩ : ∃ z, hasN I nn = z := ⟨_, rfl⟩
            have HQ2 : Hid (hasN I nn = q2) := hq2
            cases q2
            · have HN : Hid (pAskF C I (.node c v nm l r) = none) := by show _ = _; rw [HA.out, HLIT.out, pAskG, hj, hnn, if_pos (Or.inr (Or.inr (Or.inr (Or.inr hq2))))]
              clear hj h2 h3 hnn hcn hq2
              go_wp2_with fail
              go_quiet (fail)
              obtain ⟨w1, hw1⟩ : ∃ w1, wr.drewN nq = w1 := ⟨_, rfl⟩
              rw [hw1]
              have hb : Below wr.heap.size wr w1 := by rw [← hw1]; exact below_drewN (Below.refl _ _) nq
              have G2 : Hid (AskW w0.heap.size be bC bI C I E (.slice (some ⟨b0, 0, none⟩) E.length c0) w0 L u7 w1 ∧ ExAt w1 pl l ∧ ExAt w1 pr r) := ⟨G1.out.1.below hb, G1.out.2.1.below hb, G1.out.2.2.below hb⟩
              clear hb hw1
              go_wp2_with fail
              have h8 := ownC_any bC bI C I l pl be w1 G2.out.2.1 G2.out.1.ke G2.out.1.tb
              rw [HJ0.out] at h8
              refine h8.mono ?_
              clear h8
              rintro _ w2 ⟨rfl, hb⟩
              have G3 : Hid (AskW w0.heap.size be bC bI C I E (.slice (some ⟨b0, 0, none⟩) E.length c0) w0 L u7 w2 ∧ ExAt w2 pl l ∧ ExAt w2 pr r) := ⟨G2.out.1.below hb, G2.out.2.1.below hb, G2.out.2.2.below hb⟩
              clear hb G2
              go_wp2_with fail
              have h8 := ownC_any bC bI C I l pl be w2 G3.out.2.1 G3.out.1.ke G3.out.1.tb
              rw [HJ.out] at h8
              refine h8.mono ?_
              clear h8
              rintro _ w3 ⟨rfl, hb⟩
              have G4 : Hid (AskW w0.heap.size be bC bI C I E (.slice (some ⟨b0, 0, none⟩) E.length c0) w0 L u7 w3 ∧ ExAt w3 pl l ∧ ExAt w3 pr r) := ⟨G3.out.1.below hb, G3.out.2.1.below hb, G3.out.2.2.below hb⟩
              clear hb G3
              obtain ⟨B', rfl, x0, x1, x2, x3⟩ := HG.out w3 G4.out.2.2
              go_wp2_with fail
              have h8 := asks_any c w3
              rw [HQ.out] at h8
              refine h8.mono ?_
              clear h8
              rintro _ w3 ⟨rfl, rfl⟩
              have t1 : w3.cell? ⟨w0.heap.size, 1, none⟩ = some (.slice (some ⟨bC, 0, none⟩) C.length C.length) := by rw [G4.out.1.kb.cell 1]; rfl
              have t2 : w3.cell? ⟨w0.heap.size, 2, none⟩ = some (.slice (some ⟨bI, 0, none⟩) I.length I.length) := by rw [G4.out.1.kb.cell 2]; rfl
              have tn := HCN.out w3 G4.out.1.tb
              go_wp2_with fail
              have h8 := scontains_any bC bI C I nn w3 G4.out.1.tb
              rw [HQ2.out] at h8
              refine h8.mono ?_
              clear h8
              rintro _ w3 ⟨rfl, rfl⟩
              go_wp2
              go_roundw
              case rel => exact ⟨k + 1, L, by omega, by go_num, hL.out.trans (asksF_no hlt (by rw [HX.out]; exact HN.out)).symm, G4.out.1⟩
              case measure => simp [intOf]; omega
            · have HN : Hid (pAskF C I (.node c v nm l r) = some ⟨c, nn, v'⟩) := by
                show _ = _
                rw [HA.out, HLIT.out, pAskG, hj, hnn, if_neg (by rw [HQ.out, hq2]; intro h; rcases h with h | h | h | h | h; exact h1 h; cases h; exact h h2; exact h3 h; cases h)]
              clear hj h2 h3 hnn hcn hq2
              go_wp2_with fail
              go_quiet (fail)
              obtain ⟨w1, hw1⟩ : ∃ w1, wr.drewN nq = w1 := ⟨_, rfl⟩
              rw [hw1]
              have hb : Below wr.heap.size wr w1 := by rw [← hw1]; exact below_drewN (Below.refl _ _) nq
              have G2 : Hid (AskW w0.heap.size be bC bI C I E (.slice (some ⟨b0, 0, none⟩) E.length c0) w0 L u7 w1 ∧ ExAt w1 pl l ∧ ExAt w1 pr r) := ⟨G1.out.1.below hb, G1.out.2.1.below hb, G1.out.2.2.below hb⟩
              clear hb hw1
              go_wp2_with fail
              have h8 := ownC_any bC bI C I l pl be w1 G2.out.2.1 G2.out.1.ke G2.out.1.tb
              rw [HJ0.out] at h8
              refine h8.mono ?_
              clear h8
              rintro _ w2 ⟨rfl, hb⟩
              have G3 : Hid (AskW w0.heap.size be bC bI C I E (.slice (some ⟨b0, 0, none⟩) E.length c0) w0 L u7 w2 ∧ ExAt w2 pl l ∧ ExAt w2 pr r) := ⟨G2.out.1.below hb, G2.out.2.1.below hb, G2.out.2.2.below hb⟩
              clear hb G2
              go_wp2_with fail
              have h8 := ownC_any bC bI C I l pl be w2 G3.out.2.1 G3.out.1.ke G3.out.1.tb
              rw [HJ.out] at h8
              refine h8.mono ?_
              clear h8
              rintro _ w3 ⟨rfl, hb⟩
              have G4 : Hid (AskW w0.heap.size be bC bI C I E (.slice (some ⟨b0, 0, none⟩) E.length c0) w0 L u7 w3 ∧ ExAt w3 pl l ∧ ExAt w3 pr r) := ⟨G3.out.1.below hb, G3.out.2.1.below hb, G3.out.2.2.below hb⟩
              clear hb G3
              obtain ⟨B', rfl, x0, x1, x2, x3⟩ := HG.out w3 G4.out.2.2
              go_wp2_with fail
              have h8 := asks_any c w3
              rw [HQ.out] at h8
              refine h8.mono ?_
              clear h8
              rintro _ w3 ⟨rfl, rfl⟩
              have t1 : w3.cell? ⟨w0.heap.size, 1, none⟩ = some (.slice (some ⟨bC, 0, none⟩) C.length C.length) := by rw [G4.out.1.kb.cell 1]; rfl
              have t2 : w3.cell? ⟨w0.heap.size, 2, none⟩ = some (.slice (some ⟨bI, 0, none⟩) I.length I.length) := by rw [G4.out.1.kb.cell 2]; rfl
              have tn := HCN.out w3 G4.out.1.tb
              go_wp2_with fail
              have h8 := scontains_any bC bI C I nn w3 G4.out.1.tb
              rw [HQ2.out] at h8
              refine h8.mono ?_
              clear h8
              rintro _ w3 ⟨rfl, rfl⟩
              obtain ⟨a4, c4, rfl⟩ := own_slice G4.out.1.ow
              have HOw : Hid (w3.ownsRow (w0.heap.size + 1) 71 5 (.slice a4 L.length c4) L.length (akc L)) := G4.out.1.ow
              have hlt3 := G4.out.1.lt
              go_wp2_with (at_builtin; refine wpList_append_own _ rfl _ _ 68 rfl (w0.heap.size + 1) 71 i0 (.agg #[.int .i64 0, .string ⟨#[]⟩, .int .i64 0, .int .i64 0, .string ⟨#[]⟩]) 5 56 Tryz.underlying68 hi hz0 hz1 hz2 rfl (by decide) _ _ _ rfl (HOw.out.alloc _) ⟨w3.heap.size, 0, none⟩ 1 1 (Ak.cells ⟨c, nn, v'⟩) rfl rfl (news_ak w3 ⟨c, nn, v'⟩ _) (by intro u hu; simp [Ak.cells] at hu; rcases hu with rfl | rfl | rfl | rfl | rfl <;> rfl) (by simp [maxLen]; omega) (by omega) (by simp; omega) ?_)
              intro v4 w4 ho4 hg4 _
              have G5 : Hid (AskW w0.heap.size be bC bI C I E (.slice (some ⟨b0, 0, none⟩) E.length c0) w0 (L ++ [⟨c, nn, v'⟩]) v4 w4) := G4.out.1.snoc ⟨c, nn, v'⟩ (by omega) HP.out.2.1 HP.out.2.2.1 HP.out.2.2.2.1 HP.out.1 hg4 ho4
              clear ho4 hg4 HOw G4
              go_wp2
              go_roundw
              case rel => exact ⟨k + 1, L ++ [⟨c, nn, v'⟩], by omega, by go_num, (by show _ = _; rw [asksF_yes hlt (by rw [HX.out]; exact HN.out), ← hL.out]), G5⟩
              case measure => simp [intOf]; omega
    · obtain rfl : k = E.length := by omega
      have HF : Hid (L = asksF C I E) := by show _ = _; rw [hL.out, List.take_length]
      clear hL
      go_wp2
      go_ret
      exact ⟨_, rfl, by rw [← HF.out]; exact G0.out.ow, G0.out.be⟩
end Go.Proofs.YtmabfbffpedfnaaGreatDoor
