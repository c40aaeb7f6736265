/- The document's Tokens. -/
import Derived.Test.YtgmibjcccdgkgaaDoorLTokH
import Derived.Deep.CutBlock
import Derived.Deep.AppendLies
import Derived.Deep.DeepCutAuto
namespace Go.Proofs.YtgmibjcccdgkgaaDoor
open Go.RowKit

set_option maxRecDepth 100000 in
set_option maxHeartbeats 16000000 in
theorem tokens_any (s : ByteArray) (w : World) (hs : s.size ≤ 2000) (hfine : FineAt w) : Calls Tryd.prog 5 #[.string s] w fun e w' => ToldT w (lexS s) e w' := by
  obtain ⟨i0, hi, hz0, hz1, hz2⟩ := info_parts infoTok
  have HF0 : Hid (FineAt w) := hfine
  obtain ⟨R, hR⟩ : ∃ R, lexS s = R := ⟨_, rfl⟩
  have HR : Hid (Lx s R 0 s.size []) := by show Lx _ _ _ _ _; rw [← hR]; exact lx_start s
  rw [hR]
  clear hR hfine
  go_enter Tryd.func5, Tryd.ntmps5
  go_wp2
  go_loopw [4, 5] (fun v iv wr => ∃ (i f : Nat) (L : List Tok), i ≤ s.size ∧ L.length ≤ i ∧ iv = .int .i64 i ∧ Hid (Lx s R i f L) ∧ Hid (wr.ownsRow (w.heap.size + 1) 36 3 v L.length (tc L)) ∧ Hid (Below (w.alloc (.cells #[.int .i64 0, .int .i64 0] 25)).heap.size (w.alloc (.cells #[.int .i64 0, .int .i64 0] 25)) wr)) (fun _ iv _ => s.size - (intOf iv).toNat)
  case atStart => exact ⟨0, s.size, [], Nat.zero_le _, Nat.zero_le _, rfl, HR, World.ownsRow_nil _ _ _ _, Below.refl _ _⟩
  case round =>
    clear HR
    obtain ⟨i, f, L, hi1, hLi, rfl, HX, HO, HB⟩ := hrel
    obtain ⟨wo, rfl⟩ : ∃ wo, wo = wr := ⟨_, rfl⟩
    obtain ⟨vo, rfl⟩ : ∃ vo, vo = u4 := ⟨_, rfl⟩
    obtain ⟨a4, n4, c4, rfl⟩ : ∃ a n c, vo = .slice a n c := by
      rcases HO.out.2 with ⟨rfl, _⟩ | ⟨g, cap, cur, rfl, _⟩
      · exact ⟨none, 0, 0, rfl⟩
      · exact ⟨_, _, cap, rfl⟩
    have hn4 : n4 = L.length := by
      rcases HO.out.2 with ⟨e, h0⟩ | ⟨g, cap, cur, e, _⟩
      · cases e; exact h0.symm
      · cases e; rfl
    subst hn4
    have hsw := HB.out.size
    simp only [World.size_alloc] at hsw
    by_cases hlt : i < s.size
    · obtain ⟨f', rfl⟩ := lx_more HX.out hlt
      have hlt' : (i : Int) < (s.size : Int) := by omega
      obtain ⟨x, hx⟩ : ∃ x, s[i].toNat = x := ⟨_, rfl⟩
      have HC : Hid (s[i] = x.toUInt8 ∧ x < 256) := ⟨by rw [← hx]; simp, by rw [← hx]; exact UInt8.toNat_lt _⟩
      cases hbl : blankC s[i] with
      | true =>
        have HX2 : Hid (Lx s R (i + 1) f' L) := lx_blank HX.out hlt hbl
        have HB2 : Hid (Below (w.alloc (.cells #[.int .i64 0, .int .i64 0] 25)).heap.size (w.alloc (.cells #[.int .i64 0, .int .i64 0] 25)) (wo.alloc (.cells #[.int .i64 0, .string ⟨#[]⟩, .int .i64 (i : Int)] 36))) := HB.out.alloc (by simp; omega) _
        have HO2 : Hid ((wo.alloc (.cells #[.int .i64 0, .string ⟨#[]⟩, .int .i64 (i : Int)] 36)).ownsRow (w.heap.size + 1) 36 3 (.slice a4 L.length c4) L.length (tc L)) := HO.out.alloc _
        have key : (((x : Int) == 32) = true ∧ True) ∨ ((((x : Int) == 32) = false ∧ ((x : Int) == 9) = true) ∧ True) ∨ ((((x : Int) == 32) = false ∧ ((x : Int) == 9) = false ∧ ((x : Int) == 13) = true) ∧ True) ∨ ((((x : Int) == 32) = false ∧ ((x : Int) == 9) = false ∧ ((x : Int) == 13) = false ∧ ((x : Int) == 10) = true) ∧ True) := by
          simp only [blankC, hx, Bool.or_eq_true, decide_eq_true_eq] at hbl
          rcases hbl with ((h | h) | h) | h <;> subst h <;> decide
        clear hbl HX HO HB HC
        rcases key with ⟨j1, _⟩ | ⟨⟨j1, j2⟩, _⟩ | ⟨⟨j1, j2, j3⟩, _⟩ | ⟨⟨j1, j2, j3, j4⟩, _⟩
        all_goals
          go_wp2
          go_roundw
          case rel => exact ⟨i + 1, f', L, by omega, by omega, by go_num, HX2, HO2, HB2⟩
          case measure => simp [intOf]; omega
      | false =>
        have j1 : ((x : Int) == 32) = false := by
          have := hbl; simp [blankC, hx] at this; simp; omega
        have j2 : ((x : Int) == 9) = false := by
          have := hbl; simp [blankC, hx] at this; simp; omega
        have j3 : ((x : Int) == 13) = false := by
          have := hbl; simp [blankC, hx] at this; simp; omega
        have j4 : ((x : Int) == 10) = false := by
          have := hbl; simp [blankC, hx] at this; simp; omega
        have HBL : Hid (blankC s[i] = false) := hbl
        obtain ⟨wt, hwt⟩ : ∃ wt, wo.alloc (.cells #[.int .i64 0, .string ⟨#[]⟩, .int .i64 (i : Int)] 36) = wt := ⟨_, rfl⟩
        have HBt : Hid (Below (w.alloc (.cells #[.int .i64 0, .int .i64 0] 25)).heap.size (w.alloc (.cells #[.int .i64 0, .int .i64 0] 25)) wt) := by rw [← hwt]; exact HB.out.alloc (by simp; omega) _
        have hwts : wt.heap.size = wo.heap.size + 1 := by rw [← hwt]; simp
        have t0 : wt.cell? ⟨wo.heap.size, 0, none⟩ = some (.int .i64 0) := by rw [← hwt]; simp [go_sem]
        have t1 : wt.cell? ⟨wo.heap.size, 1, none⟩ = some (.string ⟨#[]⟩) := by rw [← hwt]; simp [go_sem]
        have t2 : wt.cell? ⟨wo.heap.size, 2, none⟩ = some (.int .i64 (i : Int)) := by rw [← hwt]; simp [go_sem]
        have z0 : wt.frozen? ⟨wo.heap.size, 0, none⟩ = false := by rw [← hwt]; simp [go_sem]
        have z1 : wt.frozen? ⟨wo.heap.size, 1, none⟩ = false := by rw [← hwt]; simp [go_sem]
        obtain ⟨⟨r0, r1⟩, y0, y1⟩ := res_cells HBt.out
        have HTo : Hid (Below wo.heap.size wo wt) := by rw [← hwt]; exact (Below.refl _ _).alloc (Nat.le_refl _) _
        clear hbl
        obtain ⟨bA, hbA⟩ : ∃ b, alphaN x = b := ⟨_, rfl⟩
        obtain ⟨bD, hbD⟩ : ∃ b, digN x = b := ⟨_, rfl⟩
        obtain ⟨bM, hbM⟩ : ∃ b, markC x.toUInt8 = b := ⟨_, rfl⟩
        have HAl : Hid (alphaN x = bA) := hbA
        have HDi : Hid (digN x = bD) := hbD
        have HMk : Hid (markC x.toUInt8 = bM) := hbM
        have hAl : isAl s[i] = bA := by rw [isAl, hx, hbA]
        have hDi : isDg s[i] = bD := by rw [isDg, hx, hbD]
        have hMk : markC s[i] = bM := by rw [HC.out.1, hbM]
        clear hbA hbD hbM
        go_upto_block 2 with fail
        go_cut [5, 7] (fun iv kv wx => ∃ (K : Int) (tb : ByteArray) (m : Nat), iv = .int .i64 (i : Int) ∧ kv = .int .i64 ((i + m : Nat) : Int) ∧ Hid (nextT (s[i] :: s.data.toList.drop (i + 1)) = some (K, tb.data.toList, m)) ∧ Hid (Below wo.heap.size wo wx) ∧ Hid (wx.cell? ⟨wo.heap.size, 0, none⟩ = some (.int .i64 K) ∧ wx.cell? ⟨wo.heap.size, 1, none⟩ = some (.string tb) ∧ wx.cell? ⟨wo.heap.size, 2, none⟩ = some (.int .i64 (i : Int))))
        case first =>
          cases bA with
          | true =>
            as_aux_lemma =>
              obtain ⟨E, hE⟩ : ∃ E, endW wordC s (i + 1) = E := ⟨_, rfl⟩
              have hE1 : i + 1 ≤ E := by rw [← hE]; exact endW_ge _ _ _
              have hE2 : E ≤ s.size := by rw [← hE]; exact endW_le (by omega)
              have HE0 : Hid (endW wordC s (i + 1) = E) := hE
              clear hE
              go_wp2_with (go_at_call 15; refine (alpha_as x true HAl.out _).mono ?_; rintro _ w0 ⟨rfl, hw0⟩; obtain rfl := hw0.symm)
              go_loopw [7] (fun kv wr => ∃ k : Nat, i + 1 ≤ k ∧ k ≤ E ∧ kv = .int .i64 k ∧ Hid (endW wordC s k = E) ∧ wr = wt) (fun kv _ => s.size - (intOf kv).toNat)
              case atStart => exact ⟨i + 1, Nat.le_refl _, hE1, by go_num, HE0, rfl⟩
              case round =>
                obtain ⟨k, hk1, hk2, rfl, hek, hwr⟩ := hrel
                obtain rfl : wt = wr := hwr.symm
                by_cases hks : k < s.size
                · have hks' : (k : Int) < (s.size : Int) := by omega
                  obtain ⟨y, hy⟩ : ∃ y, s[k].toNat = y := ⟨_, rfl⟩
                  obtain ⟨cA, hcA⟩ : ∃ b, alphaN y = b := ⟨_, rfl⟩
                  obtain ⟨cD, hcD⟩ : ∃ b, digN y = b := ⟨_, rfl⟩
                  have HcA : Hid (alphaN y = cA) := hcA
                  have HcD : Hid (digN y = cD) := hcD
                  have hwc : wordC s[k] = (cA || cD) := by rw [wordC, isAl, isDg, hy, hcA, hcD]
                  clear hcA hcD
                  cases cA with
                  | true =>
                    have HK2 : Hid (endW wordC s (k + 1) = E) := by show _ = _; rw [← endW_step hks (by rw [hwc]; rfl)]; exact hek.out
                    have hle : k + 1 ≤ E := by rw [← HK2.out]; exact endW_ge _ _ _
                    clear hwc hek
                    go_wp2_with (go_at_call 15; refine (alpha_as y true HcA.out _).mono ?_; rintro _ w0 ⟨rfl, hw0⟩; obtain rfl := hw0.symm)
                    go_roundw
                    case rel => exact ⟨k + 1, by omega, hle, by go_num, HK2, trivial⟩
                    case measure => simp [intOf]; omega
                  | false =>
                    cases cD with
                    | true =>
                      have HK2 : Hid (endW wordC s (k + 1) = E) := by show _ = _; rw [← endW_step hks (by rw [hwc]; rfl)]; exact hek.out
                      have hle : k + 1 ≤ E := by rw [← HK2.out]; exact endW_ge _ _ _
                      clear hwc hek
                      go_wp2_with first | (go_at_call 15; refine (alpha_as y false HcA.out _).mono ?_; rintro _ w0 ⟨rfl, hw0⟩; obtain rfl := hw0.symm) | (go_at_call 16; refine (digit_as y true HcD.out _).mono ?_; rintro _ w0 ⟨rfl, hw0⟩; obtain rfl := hw0.symm)
                      go_roundw
                      case rel => exact ⟨k + 1, by omega, hle, by go_num, HK2, trivial⟩
                      case measure => simp [intOf]; omega
                    | false =>
                      obtain rfl : k = E := by rw [← hek.out, endW_stop hks (by rw [hwc]; rfl)]
                      clear hwc hek
                      obtain ⟨E, rfl⟩ : ∃ E, E = k := ⟨_, rfl⟩
                      obtain ⟨tb, htb⟩ : ∃ tb, smallS (s.extract i E) = tb := ⟨_, rfl⟩
                      obtain ⟨m, hm⟩ : ∃ m, E = i + m := ⟨E - i, by omega⟩
                      have HN : Hid (nextT (s[i] :: s.data.toList.drop (i + 1)) = some (1, tb.data.toList, m)) := by
                        show _ = _
                        rw [nextT, if_pos hAl, ← htb, ← HE0.out, ext_end wordC s i hlt]
                        have e2 := HE0.out
                        rw [endW_at] at e2
                        rw [show m = ((s.data.toList.drop (i + 1)).takeWhile wordC).length + 1 by omega]
                        rfl
                      have HTb : Hid (smallS (s.extract i E) = tb) := htb
                      have HM : Hid (E = i + m) := hm
                      have k1 : (i : Int) ≤ (E : Int) := by omega
                      have k2 : (E : Int) ≤ (s.size : Int) := by omega
                      clear htb hm hAl hDi hMk
                      go_wp2_with first | (go_at_call 15; refine (alpha_as y false HcA.out _).mono ?_; rintro _ w0 ⟨rfl, hw0⟩; obtain rfl := hw0.symm) | (go_at_call 16; refine (digit_as y false HcD.out _).mono ?_; rintro _ w0 ⟨rfl, hw0⟩; obtain rfl := hw0.symm) | fail
                      refine (refSmall_any (s.extract i E) wt (by simp; omega)).mono ?_
                      rintro _ w5 ⟨rfl, hb5⟩
                      rw [HTb.out]
                      have e0 : w5.cell? ⟨wo.heap.size, 0, none⟩ = some (.int .i64 0) := (hb5.cell (p := ⟨wo.heap.size, 0, none⟩) (by simp only; omega)).trans t0
                      have e1 : w5.cell? ⟨wo.heap.size, 1, none⟩ = some (.string ⟨#[]⟩) := (hb5.cell (p := ⟨wo.heap.size, 1, none⟩) (by simp only; omega)).trans t1
                      have e2 : w5.cell? ⟨wo.heap.size, 2, none⟩ = some (.int .i64 (i : Int)) := (hb5.cell (p := ⟨wo.heap.size, 2, none⟩) (by simp only; omega)).trans t2
                      have x0 : w5.frozen? ⟨wo.heap.size, 0, none⟩ = false := by rw [World.frozen?_of_block (a := ⟨wo.heap.size, 0, none⟩) (hb5.block wo.heap.size (by omega))]; exact z0
                      have x1 : w5.frozen? ⟨wo.heap.size, 1, none⟩ = false := by rw [World.frozen?_of_block (a := ⟨wo.heap.size, 1, none⟩) (hb5.block wo.heap.size (by omega))]; exact z1
                      have HS : Hid _ := tok_set e0 e1 e2 (.int .i64 1) (.string tb)
                      have Hz : Hid (Below wo.heap.size wo ((w5.setCell ⟨wo.heap.size, 0, none⟩ (.int .i64 1)).setCell ⟨wo.heap.size, 1, none⟩ (.string tb))) := ((HTo.out.trans (hb5.mono (by omega))).setCell (Nat.le_refl _) _).setCell (Nat.le_refl _) _
                      clear hb5 t0 t1 t2 z0 z1 r0 r1 y0 y1 hwt
                      go_wp2
                      go_meet
                      exact ⟨1, tb, m, rfl, by rw [HM.out], HN, Hz, HS⟩

                · have hks' : ¬ (k : Int) < (s.size : Int) := by omega
                  obtain rfl : k = E := by rw [← hek.out, endW_end (by omega)]
                  clear hek
                  obtain ⟨E, rfl⟩ : ∃ E, E = k := ⟨_, rfl⟩
                  obtain ⟨tb, htb⟩ : ∃ tb, smallS (s.extract i E) = tb := ⟨_, rfl⟩
                  obtain ⟨m, hm⟩ : ∃ m, E = i + m := ⟨E - i, by omega⟩
                  have HN : Hid (nextT (s[i] :: s.data.toList.drop (i + 1)) = some (1, tb.data.toList, m)) := by
                    show _ = _
                    rw [nextT, if_pos hAl, ← htb, ← HE0.out, ext_end wordC s i hlt]
                    have e2 := HE0.out
                    rw [endW_at] at e2
                    rw [show m = ((s.data.toList.drop (i + 1)).takeWhile wordC).length + 1 by omega]
                    rfl
                  have HTb : Hid (smallS (s.extract i E) = tb) := htb
                  have HM : Hid (E = i + m) := hm
                  have k1 : (i : Int) ≤ (E : Int) := by omega
                  have k2 : (E : Int) ≤ (s.size : Int) := by omega
                  clear htb hm hAl hDi hMk
                  go_wp2_with fail
                  refine (refSmall_any (s.extract i E) wt (by simp; omega)).mono ?_
                  rintro _ w5 ⟨rfl, hb5⟩
                  rw [HTb.out]
                  have e0 : w5.cell? ⟨wo.heap.size, 0, none⟩ = some (.int .i64 0) := (hb5.cell (p := ⟨wo.heap.size, 0, none⟩) (by simp only; omega)).trans t0
                  have e1 : w5.cell? ⟨wo.heap.size, 1, none⟩ = some (.string ⟨#[]⟩) := (hb5.cell (p := ⟨wo.heap.size, 1, none⟩) (by simp only; omega)).trans t1
                  have e2 : w5.cell? ⟨wo.heap.size, 2, none⟩ = some (.int .i64 (i : Int)) := (hb5.cell (p := ⟨wo.heap.size, 2, none⟩) (by simp only; omega)).trans t2
                  have x0 : w5.frozen? ⟨wo.heap.size, 0, none⟩ = false := by rw [World.frozen?_of_block (a := ⟨wo.heap.size, 0, none⟩) (hb5.block wo.heap.size (by omega))]; exact z0
                  have x1 : w5.frozen? ⟨wo.heap.size, 1, none⟩ = false := by rw [World.frozen?_of_block (a := ⟨wo.heap.size, 1, none⟩) (hb5.block wo.heap.size (by omega))]; exact z1
                  have HS : Hid _ := tok_set e0 e1 e2 (.int .i64 1) (.string tb)
                  have Hz : Hid (Below wo.heap.size wo ((w5.setCell ⟨wo.heap.size, 0, none⟩ (.int .i64 1)).setCell ⟨wo.heap.size, 1, none⟩ (.string tb))) := ((HTo.out.trans (hb5.mono (by omega))).setCell (Nat.le_refl _) _).setCell (Nat.le_refl _) _
                  clear hb5 t0 t1 t2 z0 z1 r0 r1 y0 y1 hwt
                  go_wp2
                  go_meet
                  exact ⟨1, tb, m, rfl, by rw [HM.out], HN, Hz, HS⟩
          | false =>
            cases bD with
            | true =>
              as_aux_lemma =>
                obtain ⟨E, hE⟩ : ∃ E, endW isDg s (i + 1) = E := ⟨_, rfl⟩
                have hE1 : i + 1 ≤ E := by rw [← hE]; exact endW_ge _ _ _
                have hE2 : E ≤ s.size := by rw [← hE]; exact endW_le (by omega)
                have HE0 : Hid (endW isDg s (i + 1) = E) := hE
                clear hE
                go_wp2_with first | (go_at_call 15; refine (alpha_as x false HAl.out _).mono ?_; rintro _ w0 ⟨rfl, hw0⟩; obtain rfl := hw0.symm) | (go_at_call 16; refine (digit_as x true HDi.out _).mono ?_; rintro _ w0 ⟨rfl, hw0⟩; obtain rfl := hw0.symm)
                go_loopw [7] (fun kv wr => ∃ k : Nat, i + 1 ≤ k ∧ k ≤ E ∧ kv = .int .i64 k ∧ Hid (endW isDg s k = E) ∧ wr = wt) (fun kv _ => s.size - (intOf kv).toNat)
                case atStart => exact ⟨i + 1, Nat.le_refl _, hE1, by go_num, HE0, rfl⟩
                case round =>
                  obtain ⟨k, hk1, hk2, rfl, hek, hwr⟩ := hrel
                  obtain rfl : wt = wr := hwr.symm
                  by_cases hks : k < s.size
                  · have hks' : (k : Int) < (s.size : Int) := by omega
                    obtain ⟨y, hy⟩ : ∃ y, s[k].toNat = y := ⟨_, rfl⟩
                    obtain ⟨cD, hcD⟩ : ∃ b, digN y = b := ⟨_, rfl⟩
                    have HcD : Hid (digN y = cD) := hcD
                    have hwc : isDg s[k] = cD := by rw [isDg, hy, hcD]
                    clear hcD
                    cases cD with
                    | true =>
                      have HK2 : Hid (endW isDg s (k + 1) = E) := by show _ = _; rw [← endW_step hks hwc]; exact hek.out
                      have hle : k + 1 ≤ E := by rw [← HK2.out]; exact endW_ge _ _ _
                      clear hwc hek
                      go_wp2_with (go_at_call 16; refine (digit_as y true HcD.out _).mono ?_; rintro _ w0 ⟨rfl, hw0⟩; obtain rfl := hw0.symm)
                      go_roundw
                      case rel => exact ⟨k + 1, by omega, hle, by go_num, HK2, trivial⟩
                      case measure => simp [intOf]; omega
                    | false =>
                      obtain rfl : k = E := by rw [← hek.out, endW_stop hks hwc]
                      clear hwc hek
                      obtain ⟨E, rfl⟩ : ∃ E, E = k := ⟨_, rfl⟩
                      obtain ⟨tb, htb⟩ : ∃ tb, s.extract i E = tb := ⟨_, rfl⟩
                      obtain ⟨m, hm⟩ : ∃ m, E = i + m := ⟨E - i, by omega⟩
                      have HN : Hid (nextT (s[i] :: s.data.toList.drop (i + 1)) = some (2, tb.data.toList, m)) := by
                        show _ = _
                        rw [nextT, if_neg (by rw [hAl]; decide), if_pos hDi, ← htb, ← HE0.out, ext_end isDg s i hlt]
                        have e2 := HE0.out
                        rw [endW_at] at e2
                        rw [show m = ((s.data.toList.drop (i + 1)).takeWhile isDg).length + 1 by omega]
                      have HTb : Hid (s.extract i E = tb) := htb
                      have HM : Hid (E = i + m) := hm
                      have k1 : (i : Int) ≤ (E : Int) := by omega
                      have k2 : (E : Int) ≤ (s.size : Int) := by omega
                      have HS : Hid _ := tok_set t0 t1 t2 (.int .i64 2) (.string (s.extract i E))
                      have Hz : Hid (Below wo.heap.size wo ((wt.setCell ⟨wo.heap.size, 0, none⟩ (.int .i64 2)).setCell ⟨wo.heap.size, 1, none⟩ (.string (s.extract i E)))) := (HTo.out.setCell (Nat.le_refl _) _).setCell (Nat.le_refl _) _
                      clear htb hm hAl hDi hMk r0 r1 y0 y1 hwt
                      go_wp2_with (go_at_call 16; refine (digit_as y false HcD.out _).mono ?_; rintro _ w0 ⟨rfl, hw0⟩; obtain rfl := hw0.symm)
                      go_region
                      go_wp2
                      go_meet
                      exact ⟨2, tb, m, rfl, by rw [HM.out], HN, Hz.out.drew, by rw [← HTb.out]; exact HS.out⟩

                  · have hks' : ¬ (k : Int) < (s.size : Int) := by omega
                    obtain rfl : k = E := by rw [← hek.out, endW_end (by omega)]
                    clear hek
                    obtain ⟨E, rfl⟩ : ∃ E, E = k := ⟨_, rfl⟩
                    obtain ⟨tb, htb⟩ : ∃ tb, s.extract i E = tb := ⟨_, rfl⟩
                    obtain ⟨m, hm⟩ : ∃ m, E = i + m := ⟨E - i, by omega⟩
                    have HN : Hid (nextT (s[i] :: s.data.toList.drop (i + 1)) = some (2, tb.data.toList, m)) := by
                      show _ = _
                      rw [nextT, if_neg (by rw [hAl]; decide), if_pos hDi, ← htb, ← HE0.out, ext_end isDg s i hlt]
                      have e2 := HE0.out
                      rw [endW_at] at e2
                      rw [show m = ((s.data.toList.drop (i + 1)).takeWhile isDg).length + 1 by omega]
                    have HTb : Hid (s.extract i E = tb) := htb
                    have HM : Hid (E = i + m) := hm
                    have k1 : (i : Int) ≤ (E : Int) := by omega
                    have k2 : (E : Int) ≤ (s.size : Int) := by omega
                    have HS : Hid _ := tok_set t0 t1 t2 (.int .i64 2) (.string (s.extract i E))
                    have Hz : Hid (Below wo.heap.size wo ((wt.setCell ⟨wo.heap.size, 0, none⟩ (.int .i64 2)).setCell ⟨wo.heap.size, 1, none⟩ (.string (s.extract i E)))) := (HTo.out.setCell (Nat.le_refl _) _).setCell (Nat.le_refl _) _
                    clear htb hm hAl hDi hMk r0 r1 y0 y1 hwt
                    go_wp2
                    go_region
                    go_wp2
                    go_meet
                    exact ⟨2, tb, m, rfl, by rw [HM.out], HN, Hz.out.drew, by rw [← HTb.out]; exact HS.out⟩
            | false =>
              by_cases hq : x = 39
              · skip
                as_aux_lemma =>
                  have j5 : ((x : Int) == 39) = true := by simp; omega
                  obtain ⟨S, hS⟩ : ∃ S, strL (s.data.toList.drop (i + 1)) = S := ⟨_, rfl⟩
                  have HNS : Hid (nextT (s[i] :: s.data.toList.drop (i + 1)) = S.map fun y => (3, y.1, y.2 + 1)) := by
                    show _ = _
                    rw [nextT, if_neg (by rw [hAl]; decide), if_neg (by rw [hDi]; decide), if_pos (by rw [hx]; exact hq), hS]
                  have HS0 : Hid (Sx s S i (i + 1) ⟨#[]⟩) := by rw [← hS]; exact sx_start s i
                  have HT0 : Hid (TokAt wo i ⟨#[]⟩ (wt.setCell ⟨wo.heap.size, 0, none⟩ (.int .i64 3))) := tok_quote HTo.out t0 t1 t2 z1
                  clear hS hAl hDi hMk HC hq r0 r1 y0 y1
                  go_wp2_with first | (go_at_call 15; refine (alpha_as x false HAl.out _).mono ?_; rintro _ w0 ⟨rfl, hw0⟩; obtain rfl := hw0.symm) | (go_at_call 16; refine (digit_as x false HDi.out _).mono ?_; rintro _ w0 ⟨rfl, hw0⟩; obtain rfl := hw0.symm)
                  clear t0 t1 t2 z0 z1 hwt
                  go_loopw [7] (fun kv wr => ∃ (k : Nat) (tx : ByteArray), i + 1 ≤ k ∧ k ≤ s.size ∧ tx.size ≤ k ∧ kv = .int .i64 k ∧ Hid (Sx s S i k tx) ∧ Hid (TokAt wo i tx wr)) (fun kv _ => s.size - (intOf kv).toNat)
                  case atStart => exact ⟨i + 1, ⟨#[]⟩, Nat.le_refl _, by omega, Nat.zero_le _, by go_num, HS0, HT0⟩
                  case round =>
                    clear HS0 HT0
                    obtain ⟨k, tx, hk1, hk2, htx, rfl, hsx, HT⟩ := hrel
                    obtain ⟨c0, c1, c2⟩ := HT.out.2.1
                    have cz := HT.out.2.2
                    by_cases hks : k < s.size
                    · have hks' : (k : Int) < (s.size : Int) := by omega
                      have dk : decide ((s.size : Int) ≤ (k : Int)) = false := decide_eq_false (by omega)
                      obtain ⟨y, hy⟩ : ∃ y, s[k].toNat = y := ⟨_, rfl⟩
                      by_cases hy39 : y = 39
                      · have dy : ((y : Int) == 39) = true := by simp; omega
                        by_cases hk3 : k + 1 = s.size
                        · have dz : ((k : Int) + 1 == (s.size : Int)) = true := by simp; omega
                          have HS2 : Hid (S = some (tx.data.toList, k - (i + 1) + 1)) := sx_stop hsx.out (str_s1 hks (by rw [hy, hy39]) hk3)
                          have HN : Hid (nextT (s[i] :: s.data.toList.drop (i + 1)) = some (3, tx.data.toList, k - (i + 1) + 1 + 1)) := by
                            show _ = _
                            rw [HNS.out, HS2.out]; rfl
                          skip
                          clear hsx HNS
                          go_wp2
                          go_meet
                          exact ⟨3, tx, k - (i + 1) + 1 + 1, rfl, by go_num, HN, HT.out.1, HT.out.2.1⟩
                        · have hk4 : k + 1 < s.size := by omega
                          have hk4' : (k : Int) + 1 < (s.size : Int) := by omega
                          have dz : ((k : Int) + 1 == (s.size : Int)) = false := by simp; omega
                          obtain ⟨z, hz⟩ : ∃ z, s[k + 1].toNat = z := ⟨_, rfl⟩
                          by_cases hz39 : z = 39
                          · have dn : ((z : Int) != 39) = false := by simp; omega
                            have HS2 : Hid (Sx s S i (k + 1 + 1) (tx ++ s.extract (k + 1) (k + 1 + 1))) := sx_two hsx.out hk1 hks (by rw [hy, hy39]) hk4 (by rw [hz, hz39])
                            have HT2 : Hid (TokAt wo i (tx ++ s.extract (k + 1) (k + 1 + 1)) ((wr.setCell ⟨wo.heap.size, 1, none⟩ (.string (tx ++ s.extract (k + 1) (k + 1 + 1)))).drew)) := (HT.out.set _).drew
                            have ha := str_add tx (s.extract (k + 1) (k + 1 + 1)) (by simp; omega)
                            have k1 : (k : Int) + 1 + 1 ≤ (s.size : Int) := by omega
                            clear hsx
                            go_wp2
                            go_region
                            go_wp2
                            go_roundw
                            case rel => exact ⟨k + 1 + 1, tx ++ s.extract (k + 1) (k + 1 + 1), by omega, by omega, by simp; omega, by go_num, HS2, HT2⟩
                            case measure => simp [intOf]; omega
                          · have dn : ((z : Int) != 39) = true := by simp; omega
                            have HS2 : Hid (S = some (tx.data.toList, k - (i + 1) + 1)) := sx_stop hsx.out (str_s2 hks (by rw [hy, hy39]) hk4 (by rw [hz]; exact hz39))
                            have HN : Hid (nextT (s[i] :: s.data.toList.drop (i + 1)) = some (3, tx.data.toList, k - (i + 1) + 1 + 1)) := by
                              show _ = _
                              rw [HNS.out, HS2.out]; rfl
                            skip
                            clear hsx HNS
                            go_wp2
                            go_meet
                            exact ⟨3, tx, k - (i + 1) + 1 + 1, rfl, by go_num, HN, HT.out.1, HT.out.2.1⟩
                      · have dy : ((y : Int) == 39) = false := by simp; omega
                        have HS2 : Hid (Sx s S i (k + 1) (tx ++ s.extract k (k + 1))) := sx_one hsx.out hk1 hks (by rw [hy]; exact hy39)
                        have HT2 : Hid (TokAt wo i (tx ++ s.extract k (k + 1)) ((wr.setCell ⟨wo.heap.size, 1, none⟩ (.string (tx ++ s.extract k (k + 1)))).drew)) := (HT.out.set _).drew
                        have ha := str_add tx (s.extract k (k + 1)) (by simp; omega)
                        have k1 : (k : Int) + 1 ≤ (s.size : Int) := by omega
                        clear hsx
                        go_wp2
                        go_region
                        go_wp2
                        go_roundw
                        case rel => exact ⟨k + 1, tx ++ s.extract k (k + 1), by omega, by omega, by simp; omega, by go_num, HS2, HT2⟩
                        case measure => simp [intOf]; omega
                    · have hks' : ¬ (k : Int) < (s.size : Int) := by omega
                      have dk : decide ((s.size : Int) ≤ (k : Int)) = true := decide_eq_true (by omega)
                      obtain rfl : k = s.size := by omega
                      have HF : Hid (R = .error (3, i)) := lx_none HX.out hlt HBL.out (by rw [HNS.out, sx_end hsx.out]; rfl)
                      have HBz : Hid (Below (w.alloc (.cells #[.int .i64 0, .int .i64 0] 25)).heap.size (w.alloc (.cells #[.int .i64 0, .int .i64 0] 25)) wr) := HB.out.trans (HT.out.1.mono (by simp; omega))
                      obtain ⟨⟨r0, r1⟩, y0, y1⟩ := res_cells HBz.out
                      clear hsx HX HNS
                      go_wp2
                      refine bodyPost_ret (v := .tuple #[.slice none 0 0, .agg #[.int .i64 3, .int .i64 (i : Int)]]) (results_tc Tryd.results5 _ _ ⟨w.heap.size, 0, none⟩ rfl ?_) rfl ?_
                      · simp [go_sem, r0, r1]
                      exact ⟨.inl ⟨3, i, HF.out, rfl⟩, ((below_res HBz.out).setCell (Nat.le_refl _) _).setCell (Nat.le_refl _) _⟩
              · have j5 : ((x : Int) == 39) = false := by simp; omega
                cases bM with
                | true =>
                  as_aux_lemma =>
                    by_cases hs1 : i + 1 < s.size
                    · have hs1' : (i : Int) + 1 < (s.size : Int) := by omega
                      have k1 : (i : Int) + 1 + 1 ≤ (s.size : Int) := by omega
                      obtain ⟨y, hy⟩ : ∃ y, s[i + 1].toNat = y := ⟨_, rfl⟩
                      have he2 : (s.extract i (i + 1 + 1)).toList = [s[i], s[i + 1]] := by rw [ext_two s i hs1, ByteArray.toList_eq]
                      have hd2 : s.data.toList.drop (i + 1) = s[i + 1] :: s.data.toList.drop (i + 1 + 1) := drop_at s (i + 1) hs1
                      have key : ∀ (c d : UInt8), ((s.extract i (i + 1 + 1)).toList == [c, d]) = decide (x = c.toNat ∧ y = d.toNat) := by
                        intro c d
                        rw [he2, Bool.eq_iff_iff]
                        simp only [beq_iff_eq, decide_eq_true_eq, List.cons.injEq, and_true, ← UInt8.toNat_inj, hx, hy]
                      have q1 := key 60 62
                      have q2 := key 60 61
                      have q3 := key 62 61
                      clear key he2
                      cases h2 : twoC s[i] s[i + 1] with
                      | true =>
                        have hk : (x = 60 ∧ y = 62) ∨ (x = 60 ∧ y = 61) ∨ (x = 62 ∧ y = 61) := by
                          simp only [twoC, hx, hy, Bool.or_eq_true, decide_eq_true_eq] at h2
                          rcases h2 with (h | h) | h
                          · exact .inl h
                          · exact .inr (.inl h)
                          · exact .inr (.inr h)
                        rcases hk with hk | hk | hk
                        · rw [decide_eq_true (show x = UInt8.toNat 60 ∧ y = UInt8.toNat 62 from hk)] at q1
                          clear q2 q3 hk
                          have HN : Hid (nextT (s[i] :: s.data.toList.drop (i + 1)) = some (4, (s.extract i (i + 1 + 1)).data.toList, 2)) := by
                            show _ = _
                            rw [nextT, if_neg (by rw [hAl]; decide), if_neg (by rw [hDi]; decide), if_neg (by rw [hx]; exact hq), if_pos hMk]
                            rw [hd2, markT, if_pos h2, ext_two s i hs1]
                          clear h2 hd2
                          have HS : Hid _ := tok_set t0 t1 t2 (.int .i64 4) (.string (s.extract i (i + 1 + 1)))
                          have Hz : Hid (Below wo.heap.size wo ((wt.setCell ⟨wo.heap.size, 0, none⟩ (.int .i64 4)).setCell ⟨wo.heap.size, 1, none⟩ (.string (s.extract i (i + 1 + 1))))) := (HTo.out.setCell (Nat.le_refl _) _).setCell (Nat.le_refl _) _
                          clear hAl hDi hMk r0 r1 y0 y1 hwt HC hq
                          go_wp2_with first | (go_at_call 15; refine (alpha_as x false HAl.out _).mono ?_; rintro _ w0 ⟨rfl, hw0⟩; obtain rfl := hw0.symm) | (go_at_call 16; refine (digit_as x false HDi.out _).mono ?_; rintro _ w0 ⟨rfl, hw0⟩; obtain rfl := hw0.symm) | (go_at_call 18; refine (mark_as x true HMk.out _).mono ?_; rintro _ w0 ⟨n0, rfl, hn0, hw0⟩; obtain rfl := hw0.symm)
                          go_region
                          go_wp2
                          go_meet
                          exact ⟨4, s.extract i (i + 1 + 1), 2, rfl, by go_num, HN, Hz.out.drew, HS.out⟩
                        · rw [decide_eq_false (show ¬ (x = UInt8.toNat 60 ∧ y = UInt8.toNat 62) from fun h => by have h1 := h.2; have h2 := hk.2; rw [h2] at h1; exact absurd h1 (by decide))] at q1
                          rw [decide_eq_true (show x = UInt8.toNat 60 ∧ y = UInt8.toNat 61 from hk)] at q2
                          clear q3 hk
                          have HN : Hid (nextT (s[i] :: s.data.toList.drop (i + 1)) = some (4, (s.extract i (i + 1 + 1)).data.toList, 2)) := by
                            show _ = _
                            rw [nextT, if_neg (by rw [hAl]; decide), if_neg (by rw [hDi]; decide), if_neg (by rw [hx]; exact hq), if_pos hMk]
                            rw [hd2, markT, if_pos h2, ext_two s i hs1]
                          clear h2 hd2
                          have HS : Hid _ := tok_set t0 t1 t2 (.int .i64 4) (.string (s.extract i (i + 1 + 1)))
                          have Hz : Hid (Below wo.heap.size wo ((wt.setCell ⟨wo.heap.size, 0, none⟩ (.int .i64 4)).setCell ⟨wo.heap.size, 1, none⟩ (.string (s.extract i (i + 1 + 1))))) := (HTo.out.setCell (Nat.le_refl _) _).setCell (Nat.le_refl _) _
                          clear hAl hDi hMk r0 r1 y0 y1 hwt HC hq
                          go_wp2_with first | (go_at_call 15; refine (alpha_as x false HAl.out _).mono ?_; rintro _ w0 ⟨rfl, hw0⟩; obtain rfl := hw0.symm) | (go_at_call 16; refine (digit_as x false HDi.out _).mono ?_; rintro _ w0 ⟨rfl, hw0⟩; obtain rfl := hw0.symm) | (go_at_call 18; refine (mark_as x true HMk.out _).mono ?_; rintro _ w0 ⟨n0, rfl, hn0, hw0⟩; obtain rfl := hw0.symm)
                          go_region
                          go_wp2
                          go_meet
                          exact ⟨4, s.extract i (i + 1 + 1), 2, rfl, by go_num, HN, Hz.out.drew, HS.out⟩
                        · rw [decide_eq_false (show ¬ (x = UInt8.toNat 60 ∧ y = UInt8.toNat 62) from fun h => by have h1 := h.2; have h2 := hk.2; rw [h2] at h1; exact absurd h1 (by decide))] at q1
                          rw [decide_eq_false (show ¬ (x = UInt8.toNat 60 ∧ y = UInt8.toNat 61) from fun h => by have h1 := h.1; have h2 := hk.1; rw [h2] at h1; exact absurd h1 (by decide))] at q2
                          rw [decide_eq_true (show x = UInt8.toNat 62 ∧ y = UInt8.toNat 61 from hk)] at q3
                          clear hk
                          have HN : Hid (nextT (s[i] :: s.data.toList.drop (i + 1)) = some (4, (s.extract i (i + 1 + 1)).data.toList, 2)) := by
                            show _ = _
                            rw [nextT, if_neg (by rw [hAl]; decide), if_neg (by rw [hDi]; decide), if_neg (by rw [hx]; exact hq), if_pos hMk]
                            rw [hd2, markT, if_pos h2, ext_two s i hs1]
                          clear h2 hd2
                          have HS : Hid _ := tok_set t0 t1 t2 (.int .i64 4) (.string (s.extract i (i + 1 + 1)))
                          have Hz : Hid (Below wo.heap.size wo ((wt.setCell ⟨wo.heap.size, 0, none⟩ (.int .i64 4)).setCell ⟨wo.heap.size, 1, none⟩ (.string (s.extract i (i + 1 + 1))))) := (HTo.out.setCell (Nat.le_refl _) _).setCell (Nat.le_refl _) _
                          clear hAl hDi hMk r0 r1 y0 y1 hwt HC hq
                          go_wp2_with first | (go_at_call 15; refine (alpha_as x false HAl.out _).mono ?_; rintro _ w0 ⟨rfl, hw0⟩; obtain rfl := hw0.symm) | (go_at_call 16; refine (digit_as x false HDi.out _).mono ?_; rintro _ w0 ⟨rfl, hw0⟩; obtain rfl := hw0.symm) | (go_at_call 18; refine (mark_as x true HMk.out _).mono ?_; rintro _ w0 ⟨n0, rfl, hn0, hw0⟩; obtain rfl := hw0.symm)
                          go_region
                          go_wp2
                          go_meet
                          exact ⟨4, s.extract i (i + 1 + 1), 2, rfl, by go_num, HN, Hz.out.drew, HS.out⟩
                      | false =>
                        have hk : ¬ (x = 60 ∧ y = 62) ∧ ¬ (x = 60 ∧ y = 61) ∧ ¬ (x = 62 ∧ y = 61) := by
                          simp only [twoC, hx, hy, Bool.or_eq_false_iff, decide_eq_false_iff_not] at h2
                          exact ⟨h2.1.1, h2.1.2, h2.2⟩
                        rw [decide_eq_false (show ¬ (x = UInt8.toNat 60 ∧ y = UInt8.toNat 62) from hk.1)] at q1
                        rw [decide_eq_false (show ¬ (x = UInt8.toNat 60 ∧ y = UInt8.toNat 61) from hk.2.1)] at q2
                        rw [decide_eq_false (show ¬ (x = UInt8.toNat 62 ∧ y = UInt8.toNat 61) from hk.2.2)] at q3
                        have HN : Hid (nextT (s[i] :: s.data.toList.drop (i + 1)) = some (4, (s.extract i (i + 1)).data.toList, 1)) := by
                          show _ = _
                          rw [nextT, if_neg (by rw [hAl]; decide), if_neg (by rw [hDi]; decide), if_neg (by rw [hx]; exact hq), if_pos hMk]
                          rw [hd2, markT, if_neg (by rw [h2]; decide), ext_one s i hlt]
                        clear h2 hd2 hk
                        have HS : Hid _ := tok_set t0 t1 t2 (.int .i64 4) (.string (s.extract i (i + 1)))
                        have Hz : Hid (Below wo.heap.size wo ((wt.setCell ⟨wo.heap.size, 0, none⟩ (.int .i64 4)).setCell ⟨wo.heap.size, 1, none⟩ (.string (s.extract i (i + 1))))) := (HTo.out.setCell (Nat.le_refl _) _).setCell (Nat.le_refl _) _
                        clear hAl hDi hMk r0 r1 y0 y1 hwt HC hq
                        go_wp2_with first | (go_at_call 15; refine (alpha_as x false HAl.out _).mono ?_; rintro _ w0 ⟨rfl, hw0⟩; obtain rfl := hw0.symm) | (go_at_call 16; refine (digit_as x false HDi.out _).mono ?_; rintro _ w0 ⟨rfl, hw0⟩; obtain rfl := hw0.symm) | (go_at_call 18; refine (mark_as x true HMk.out _).mono ?_; rintro _ w0 ⟨n0, rfl, hn0, hw0⟩; obtain rfl := hw0.symm)
                        go_region
                        go_wp2
                        go_meet
                        exact ⟨4, s.extract i (i + 1), 1, rfl, by go_num, HN, Hz.out.drew, HS.out⟩
                    · have hs1' : ¬ (i : Int) + 1 < (s.size : Int) := by omega
                      have k1 : (i : Int) + 1 ≤ (s.size : Int) := by omega
                      have HN : Hid (nextT (s[i] :: s.data.toList.drop (i + 1)) = some (4, (s.extract i (i + 1)).data.toList, 1)) := by
                        show _ = _
                        rw [nextT, if_neg (by rw [hAl]; decide), if_neg (by rw [hDi]; decide), if_neg (by rw [hx]; exact hq), if_pos hMk]
                        rw [List.drop_eq_nil_of_le (by rw [ba_len]; omega), markT, ext_one s i hlt]
                      skip
                      have HS : Hid _ := tok_set t0 t1 t2 (.int .i64 4) (.string (s.extract i (i + 1)))
                      have Hz : Hid (Below wo.heap.size wo ((wt.setCell ⟨wo.heap.size, 0, none⟩ (.int .i64 4)).setCell ⟨wo.heap.size, 1, none⟩ (.string (s.extract i (i + 1))))) := (HTo.out.setCell (Nat.le_refl _) _).setCell (Nat.le_refl _) _
                      clear hAl hDi hMk r0 r1 y0 y1 hwt HC hq
                      go_wp2_with first | (go_at_call 15; refine (alpha_as x false HAl.out _).mono ?_; rintro _ w0 ⟨rfl, hw0⟩; obtain rfl := hw0.symm) | (go_at_call 16; refine (digit_as x false HDi.out _).mono ?_; rintro _ w0 ⟨rfl, hw0⟩; obtain rfl := hw0.symm) | (go_at_call 18; refine (mark_as x true HMk.out _).mono ?_; rintro _ w0 ⟨n0, rfl, hn0, hw0⟩; obtain rfl := hw0.symm)
                      go_region
                      go_wp2
                      go_meet
                      exact ⟨4, s.extract i (i + 1), 1, rfl, by go_num, HN, Hz.out.drew, HS.out⟩
                | false =>
                  have HF : Hid (R = .error (3, i)) := lx_none HX.out hlt HBL.out (by rw [nextT, if_neg (by rw [hAl]; decide), if_neg (by rw [hDi]; decide), if_neg (by rw [hx]; exact hq), if_neg (by rw [hMk]; decide)])
                  clear HX hAl hDi hMk HC
                  go_wp2_with first | (go_at_call 15; refine (alpha_as x false HAl.out _).mono ?_; rintro _ w0 ⟨rfl, hw0⟩; obtain rfl := hw0.symm) | (go_at_call 16; refine (digit_as x false HDi.out _).mono ?_; rintro _ w0 ⟨rfl, hw0⟩; obtain rfl := hw0.symm) | (go_at_call 18; refine (mark_as x false HMk.out _).mono ?_; rintro _ w0 ⟨n0, rfl, hn0, hw0⟩; obtain rfl := hw0.symm)
                  refine bodyPost_ret (v := .tuple #[.slice none 0 0, .agg #[.int .i64 3, .int .i64 (i : Int)]]) (results_tc Tryd.results5 _ _ ⟨w.heap.size, 0, none⟩ rfl ?_) rfl ?_
                  · simp [go_sem, r0, r1]
                  exact ⟨.inl ⟨3, i, HF.out, rfl⟩, ((below_res HBt.out).setCell (Nat.le_refl _) _).setCell (Nat.le_refl _) _⟩
        case rest =>
          as_aux_lemma =>
            clear HTo HBt t0 t1 t2 z0 z1 r0 r1 y0 y1 hwt hwts HAl HDi HMk hAl hDi hMk HC
            obtain ⟨K, tb, m, rfl, rfl, HN, Hz, HC0⟩ := hcut
            obtain ⟨wz, rfl⟩ : ∃ wz, wz = wc := ⟨_, rfl⟩
            obtain ⟨g0, g1, g2⟩ := HC0.out
            have hpos := nextT_pos HN.out
            rw [List.length_cons, List.length_drop, ba_len] at hpos
            have HBz : Hid (Below (w.alloc (.cells #[.int .i64 0, .int .i64 0] 25)).heap.size (w.alloc (.cells #[.int .i64 0, .int .i64 0] 25)) wz ∧ wz.ownsRow (w.heap.size + 1) 36 3 (.slice a4 L.length c4) L.length (tc L)) := ⟨HB.out.trans (Hz.out.mono (by simp; omega)), own_below HO.out Hz.out⟩
            have hsz := Hz.out.size
            obtain ⟨⟨r0, r1⟩, y0, y1⟩ := res_cells HBz.out.1
            have hEm : ((i + m : Nat) : Int) = (i : Int) + (m : Int) := by omega
            rw [hEm]
            have hw1 : (i : Int) + (m : Int) - (i : Int) = (m : Int) := by omega
            have no : ∀ h : (K = 2 ∧ 19 < m) ∨ L.length = 200, R = .error (4, i) := fun h => lx_lim HX.out hlt HBL.out HN.out h
            have yes : ∀ h : ¬ ((K = 2 ∧ 19 < m) ∨ L.length = 200), Lx s R (i + m) f' (L ++ [⟨K, tb, i⟩]) := fun h => (lx_tokB HX.out hlt HBL.out HN.out h).1
            have HNo : Hid (∀ h : (K = 2 ∧ 19 < m) ∨ L.length = 200, R = .error (4, i)) := no
            have HYes : Hid (∀ h : ¬ ((K = 2 ∧ 19 < m) ∨ L.length = 200), Lx s R (i + m) f' (L ++ [⟨K, tb, i⟩])) := yes
            clear no yes hEm HX HC0
            have key : ∃ bK bm bl, ((K == 2) = bK ∧ decide ((19 : Int) < (m : Int)) = bm ∧ ((L.length : Int) == 200) = bl) := ⟨_, _, _, rfl, rfl, rfl⟩
            obtain ⟨bK, bm, bl, hbK, hbm, hbl⟩ := key
            have HLim : Hid (((K = 2 ∧ 19 < m) ∨ L.length = 200) ↔ (bK && bm || bl) = true) := by
              show _ ↔ _
              rw [← hbK, ← hbm, ← hbl, Bool.or_eq_true, Bool.and_eq_true, beq_iff_eq, decide_eq_true_eq, beq_iff_eq]
              omega
            cases hlim : (bK && bm || bl) with
            | true =>
              have HF : Hid (R = .error (4, i)) := HNo.out (HLim.out.2 hlim)
              clear HNo HYes HLim
              cases bK <;> cases bm <;> cases bl <;> first
                | (exfalso; revert hlim; decide)
                | (clear hlim
                   go_wp2
                   refine bodyPost_ret (v := .tuple #[.slice none 0 0, .agg #[.int .i64 4, .int .i64 (i : Int)]]) (results_tc Tryd.results5 _ _ ⟨w.heap.size, 0, none⟩ rfl ?_) rfl ?_
                   · simp [go_sem, r0, r1]
                   exact ⟨.inl ⟨4, i, HF.out, rfl⟩, ((below_res HBz.out.1).setCell (Nat.le_refl _) _).setCell (Nat.le_refl _) _⟩
                  )
            | false =>
              have HX2 : Hid (Lx s R (i + m) f' (L ++ [⟨K, tb, i⟩])) := HYes.out (fun h => by rw [HLim.out, hlim] at h; cases h)
              clear HNo HYes HLim
              cases bK <;> cases bm <;> cases bl <;> first
                | (exfalso; revert hlim; decide)
                | (clear hlim
                   go_wp2_with (at_builtin; refine wpList_append_own _ rfl _ _ 22 rfl (w.heap.size + 1) 36 i0 (.agg #[.int .i64 0, .string ⟨#[]⟩, .int .i64 0]) 3 32 Tryd.underlying22 hi hz0 hz1 hz2 rfl (by decide) _ _ _ rfl (HBz.out.2.alloc _) ⟨wz.heap.size, 0, none⟩ 1 1 (tc [⟨K, tb, i⟩]) rfl rfl (news_tok wz ⟨K, tb, i⟩ 36) (one_tok _) (by simp [maxLen]; omega) (by omega) (by simp; omega) ?_)
                   intro v3 w3 ho3 hg3 _
                   have HB3 : Hid (Below (w.alloc (.cells #[.int .i64 0, .int .i64 0] 25)).heap.size (w.alloc (.cells #[.int .i64 0, .int .i64 0] 25)) w3) := (HBz.out.1.alloc (by simp; omega) _).grown hg3 (by simp; omega) (fun g hg => by have := (HBz.out.2.lt g hg).1; simp; omega)
                   have HO3 : Hid (w3.ownsRow (w.heap.size + 1) 36 3 v3 (L ++ [(⟨K, tb, i⟩ : Tok)]).length (tc (L ++ [(⟨K, tb, i⟩ : Tok)]))) := own_eq ho3 (by simp) (by rw [tc_append])
                   clear ho3 hg3
                   go_wp2
                   go_roundw
                   case rel => exact ⟨i + m, f', L ++ [⟨K, tb, i⟩], by omega, by simp; omega, by go_num, HX2, HO3, HB3⟩
                   case measure => simp [intOf]; omega)
    · skip
      as_aux_lemma =>
        obtain rfl : i = s.size := by omega
        have hlt' : ¬ ((s.size : Int) < (s.size : Int)) := by omega
        have HF : Hid (R = .ok (L ++ [⟨5, ⟨#[]⟩, s.size⟩])) := lx_end HX.out
        have hfb : 0 < w.heap.size := World.block_lt_of_cell? w _ HF0.out.1
        have HFn : Hid (∀ wx, Below (w.alloc (.cells #[.int .i64 0, .int .i64 0] 25)).heap.size (w.alloc (.cells #[.int .i64 0, .int .i64 0] 25)) wx → wx.cell? ⟨0, 0, none⟩ = some (.int .i64 0) ∧ wx.cell? ⟨0, 1, none⟩ = some (.int .i64 (-1))) := fun wx h => ⟨by rw [(below_res h).cell (p := ⟨0, 0, none⟩) hfb]; exact HF0.out.1, by rw [(below_res h).cell (p := ⟨0, 1, none⟩) hfb]; exact HF0.out.2⟩
        obtain ⟨⟨r0, r1⟩, y0, y1⟩ := res_cells HB.out
        clear HX
        go_wp2_with fail
        have HB : Hid (Below (w.alloc (.cells #[.int .i64 0, .int .i64 0] 25)).heap.size (w.alloc (.cells #[.int .i64 0, .int .i64 0] 25)) wo.drew) := HB.out.drew
        have HO : Hid (wo.drew.ownsRow (w.heap.size + 1) 36 3 (.slice a4 L.length c4) L.length (tc L)) := own_below HO.out (Below.refl _ _).drew
        have hBw : (w.alloc (.cells #[.int .i64 0, .int .i64 0] 25)).heap.size ≤ wo.drew.heap.size := by simp; exact hsw
        have HFs : Hid (∀ (wx : World) (v v' : Value), (wx.cell? ⟨0, 0, none⟩ = some (.int .i64 0) ∧ wx.cell? ⟨0, 1, none⟩ = some (.int .i64 (-1))) → ((wx.setCell ⟨w.heap.size, 0, none⟩ v).setCell ⟨w.heap.size, 1, none⟩ v').cell? ⟨0, 0, none⟩ = some (.int .i64 0) ∧ ((wx.setCell ⟨w.heap.size, 0, none⟩ v).setCell ⟨w.heap.size, 1, none⟩ v').cell? ⟨0, 1, none⟩ = some (.int .i64 (-1))) := fun wx v v' h => by
          have key : ∀ o, ((wx.setCell ⟨w.heap.size, 0, none⟩ v).setCell ⟨w.heap.size, 1, none⟩ v').cell? ⟨0, o, none⟩ = wx.cell? ⟨0, o, none⟩ := fun o => World.cell?_of_block (w := wx) (a := ⟨0, o, none⟩) ((Below.heap_setCell _ ⟨w.heap.size, 1, none⟩ v' 0 (fun e => by simp only at e; omega)).trans (Below.heap_setCell wx ⟨w.heap.size, 0, none⟩ v 0 (fun e => by simp only at e; omega)))
          rw [key, key]; exact h
        have hB1 : (w.alloc (.cells #[.int .i64 0, .int .i64 0] 25)).heap.size ≤ (wo.drew.alloc (.cells #[.int .i64 5, .string ⟨#[]⟩, .int .i64 (s.size : Int)] 36)).heap.size := by simp; omega
        have hb5 : w.heap.size + 1 ≤ (wo.drew.alloc (.cells #[.int .i64 5, .string ⟨#[]⟩, .int .i64 (s.size : Int)] 36)).heap.size := by simp; omega
        have HLt : Hid (∀ g, (Value.slice a4 L.length c4).ownBlock = some g → (w.alloc (.cells #[.int .i64 0, .int .i64 0] 25)).heap.size ≤ g) := fun g hg => by have := (HO.out.lt g hg).1; simp; omega
        go_region_held3 (fun w' => w'.cell? ⟨0, 0, none⟩ = some (.int .i64 0) ∧ w'.cell? ⟨0, 1, none⟩ = some (.int .i64 (-1))) (first | exact HFn.out _ HB.out | exact HFn.out _ (HB.out.alloc hBw _) | exact HFs.out _ _ _ (HFn.out _ HB.out)) ((refine step_append_lies _ rfl (.tmp 196) (.tmp 200) 22 rfl (w.heap.size + 1) 36 i0 (.agg #[.int .i64 0, .string ⟨#[]⟩, .int .i64 0]) 3 32 Tryd.underlying22 hi hz0 hz1 hz2 rfl (by decide) (.slice a4 L.length c4) L.length (tc L) (by simp [Act.eval]) (HO.out.alloc _) ⟨wo.heap.size, 0, none⟩ 1 1 (tc [⟨5, ⟨#[]⟩, s.size⟩]) (by simp [Act.eval]) rfl (news_tok wo.drew ⟨5, ⟨#[]⟩, s.size⟩ 36) (one_tok _) (by decide) (by simp [maxLen]; omega) (by omega) hb5 _ rfl ?_; intro g3 cap3 w3 ho3 hg3 _ _; have HB : Hid (Below (w.alloc (.cells #[.int .i64 0, .int .i64 0] 25)).heap.size (w.alloc (.cells #[.int .i64 0, .int .i64 0] 25)) w3) := (HB.out.alloc hBw _).grown hg3 hB1 HLt.out; have HO : Hid (w3.ownsRow (w.heap.size + 1) 36 3 (.slice (some ⟨g3, 0, none⟩) (L.length + 1) cap3) (L ++ [(⟨5, ⟨#[]⟩, s.size⟩ : Tok)]).length (tc (L ++ [(⟨5, ⟨#[]⟩, s.size⟩ : Tok)]))) := own_eq ho3 (by simp) (by rw [tc_append]); clear ho3 hg3 r0 r1 y0 y1; obtain ⟨⟨r0, r1⟩, y0, y1⟩ := res_cells HB.out))
        go_wp2
        refine bodyPost_ret (v := .tuple #[.slice (some ⟨g3, 0, none⟩) (L.length + 1) cap3, .agg #[.int .i64 0, .int .i64 (-1)]]) (results_tc Tryd.results5 _ _ ⟨w.heap.size, 0, none⟩ rfl ?_) rfl ?_
        · simp [go_sem, r0, r1]
        refine ⟨.inr ⟨_, _, HF.out, rfl, own_keep HO.out (Nat.le_succ _) (fun g hg => ?_)⟩, ((below_res HB.out).setCell (Nat.le_refl _) _).setCell (Nat.le_refl _) _⟩
        rw [Below.heap_setCell _ ⟨w.heap.size, 1, none⟩ _ g (fun e => by simp only at e; omega), Below.heap_setCell _ ⟨w.heap.size, 0, none⟩ _ g (fun e => by simp only at e; omega)]
end Go.Proofs.YtgmibjcccdgkgaaDoor
