/- Texts of the proof of FinderPlays: Rad, Rdr, PSort1. -/
import Derived.Test.YtabcficlnhajeaaGreatDoorF28
import Derived.Shelf.SlSortFuncK.WholeK
namespace Go.Proofs.YtabcficlnhajeaaGreatDoor
open Go.RowKit Go.Maps

theorem nd_cells (w : World) (n x : ByteArray) (r a : Int) : ∀ (j : Nat) (u : Value), [Value.string n, Value.string x, Value.int .i64 r, Value.int .i64 a][j]? = some u → (w.alloc (.cells #[.string n, .string x, .int .i64 r, .int .i64 a] 68)).cell? ((⟨w.heap.size, 0, none⟩ : Addr).add j) = some u := by
  intro j u hu
  have hV := VarN.new w #[.string n, .string x, .int .i64 r, .int .i64 a] 68 (by simp)
  rw [add_pl]
  exact hV.get hu
theorem nd_ones (n x : ByteArray) (r a : Int) : ∀ u ∈ [Value.string n, Value.string x, Value.int .i64 r, Value.int .i64 a], u.oneCell' = true := by
  intro u hu
  simp at hu
  rcases hu with rfl | rfl | rfl | rfl <;> rfl
theorem own_empty (w : World) : (w.alloc (.cells #[] 68)).ownsRow w.heap.size 68 4 (.slice (some ⟨w.heap.size, 0, none⟩) 0 0) 0 [] :=
  ⟨rfl, .inr ⟨w.heap.size, 0, #[], rfl, Nat.le_refl _, heap_alloc_new w _, Nat.le_refl _, Nat.zero_le _, rfl, rfl⟩⟩
theorem hasD_take {D : List Nd} {nm : ByteArray} {r : Nat} {ws : List ByteArray} {i : Nat} (hi : i < D.length) (h : ¬ hasD (D.take i) nm r ws) (k : ∀ x ∈ ws, ¬ (D[i].n = nm ∧ D[i].w = x ∧ D[i].r = r)) : ¬ hasD (D.take (i + 1)) nm r ws := by
  rintro ⟨x, hx, d, hd, e⟩
  rw [List.take_succ_eq_append_getElem hi, List.mem_append, List.mem_singleton] at hd
  rcases hd with hd | rfl
  · exact h ⟨x, hx, d, hd, e⟩
  · exact k x hx e
theorem noteL_snoc (nm : ByteArray) (r : Nat) : ∀ (i : Nat) (ws : List ByteArray) (k : Nat) (hk : k < ws.length), noteL nm r i (ws.take (k + 1)) = noteL nm r i (ws.take k) ++ [⟨nm, ws[k], r, i + k⟩]
  | i, x :: t, 0, _ => by simp [noteL]
  | i, x :: t, k + 1, hk => by
    have ih := noteL_snoc nm r (i + 1) t k (by simpa using hk)
    rw [List.take_succ_cons, List.take_succ_cons, noteL, noteL, ih, List.cons_append]
    simp only [List.getElem_cons_succ]
    congr 3
    congr 1
    omega
/-- no word hits -/
def noHit (dn dw : ByteArray) (dr : Nat) (nm : ByteArray) (ra : Nat) (l : List ByteArray) : Prop := ∀ x ∈ l, ¬ (dn = nm ∧ dw = x ∧ dr = ra)
section
variable {B0 b : Nat} {D : List Nd} {w : World}
set_option maxRecDepth 100000 in
set_option maxHeartbeats 8000000 in
theorem refAdd_any (hD : Nts D) (h : DocF B0 b D w) (nm s : ByteArray) (r : Int) (hs : s.size ≤ 1000) :
    Calls Tryz.prog 8 #[.pointer (some ⟨b, 0, none⟩), .string nm, .int .i64 r, .string s] w fun e w' => e = .returned (.int .i64 (addE D nm r s)) ∧ DocF B0 b (addD D nm r s) w' ∧ Only (fun k => k = b) w w' := by
  have hDl := hD.len
  have HD : Hid (DocF B0 b D w) := h
  obtain ⟨hle, v, hO, hR⟩ := h
  have HO : Hid (Own1 b v w) := hO
  have HR : Hid (w.ownsRow B0 68 4 v D.length (ndc D)) := hR
  have hbl := hO.lt
  obtain ⟨a9, c9, hv9⟩ := row_slice hR
  clear hO hR
  by_cases h1 : chkE nm r = 0
  · have HNM : Hid (Calls Tryz.prog 21 #[.string nm, .int .i64 r] w fun e w' => e = .returned (.int .i64 0) ∧ w' = w) := (named_any nm r w).mono (fun e w' hh => ⟨by rw [hh.1, h1], hh.2⟩)
    by_cases h2 : 40 < s.size
    · have he : addE D nm r s = 1 := by unfold addE; rw [if_pos h1, if_pos h2]
      have hd : addD D nm r s = D := by unfold addD; rw [he]; rfl
      rw [he, hd]
      have i2 : (40 : Int) < (s.size : Int) := by omega
      clear he hd h1 h2 hv9 hD
      go_enter Tryz.func8, Tryz.ntmps8
      go_wp2_with fail
      refine (show Calls _ _ _ _ _ from HNM.out).mono ?_
      rintro _ w9 ⟨rfl, h9⟩
      obtain rfl := h9.symm
      clear h9
      go_wp2
      go_ret
      exact ⟨rfl, HD.out, Only.refl _ _⟩
    · have i2 : ¬ (40 : Int) < (s.size : Int) := by omega
      have ht := text_ok h1 (s := s) (by omega)
      have hrr := (chkE_ok h1).2
      obtain ⟨ra, hra⟩ : ∃ ra : Nat, r = (ra : Nat) := ⟨r.toNat, by omega⟩
      have hrt : r.toNat = ra := by omega
      have htl := ht.len
      have HW : Hid _ := words_any s w (by omega)
      obtain ⟨ws, hws⟩ : ∃ ws, wordsL s.data.toList = ws := ⟨_, rfl⟩
      rw [hws] at HW htl
      have HE9 : Hid (hasD D nm ra ws → addE D nm r s = 9 ∧ addD D nm r s = D) := fun hh => by
        have he : addE D nm r s = 9 := by unfold addE; rw [if_pos h1, if_neg h2, hws, hrt, if_pos (hasNd_iff.2 hh)]
        exact ⟨he, by unfold addD; rw [he]; rfl⟩
      have HE12 : Hid (¬ hasD D nm ra ws → 500 < D.length + ws.length → addE D nm r s = 12 ∧ addD D nm r s = D) := fun hh hf => by
        have he : addE D nm r s = 12 := by unfold addE; rw [if_pos h1, if_neg h2, hws, hrt, if_neg (fun e => hh (hasNd_iff.1 e)), if_pos hf]
        exact ⟨he, by unfold addD; rw [he]; rfl⟩
      have HE0 : Hid (¬ hasD D nm ra ws → ¬ 500 < D.length + ws.length → addE D nm r s = 0 ∧ addD D nm r s = D ++ noteL nm ra 0 ws) := fun hh hf => by
        have he : addE D nm r s = 0 := by unfold addE; rw [if_pos h1, if_neg h2, hws, hrt, if_neg (fun e => hh (hasNd_iff.1 e)), if_neg hf]
        exact ⟨he, by unfold addD; rw [he, if_pos rfl, hws, hrt]⟩
      obtain ⟨AE, hAE⟩ : ∃ AE, addE D nm r s = AE := ⟨_, rfl⟩
      obtain ⟨AD, hAD⟩ : ∃ AD, addD D nm r s = AD := ⟨_, rfl⟩
      rw [hAE, hAD] at HE9 HE12 HE0 ⊢
      obtain ⟨m, hm⟩ : ∃ m, D.length = m := ⟨_, rfl⟩
      have HM : Hid (D.length = m) := hm
      obtain ⟨n, hn⟩ : ∃ n, ws.length = n := ⟨_, rfl⟩
      have HN : Hid (ws.length = n) := hn
      rw [hm] at hv9 hDl HE12 HE0
      rw [hn] at HE12 HE0 htl HW
      subst hv9 hra
      clear h1 h2 hAE hAD hws hm hn ht hrr hrt hD
      go_enter Tryz.func8, Tryz.ntmps8
      go_wp2_with fail
      refine (show Calls _ _ _ _ _ from HNM.out).mono ?_
      rintro _ w9 ⟨rfl, h9⟩
      obtain rfl := h9.symm
      clear h9 HNM
      go_wp2_with fail
      refine (show Calls _ _ _ _ _ from HW.out).mono ?_
      rintro _ w2 ⟨v2, rfl, hr2, hb2⟩
      obtain ⟨a2, c2, hv2⟩ := row_slice hr2
      subst hv2
      have HR2 : Hid (w2.ownsRow w.heap.size 9 1 (.slice a2 n c2) ws.length (sc ws)) := by rw [HN.out]; exact hr2
      have HB2 : Hid (Below w.heap.size w w2) := hb2
      have cb := (HO.out.below hb2).cell
      clear hr2 hb2 HW
      go_wp2_with fail
      clear cb
      go_loopw [34] (fun iv wr => ∃ (i : Nat), i ≤ m ∧ iv = .int .i64 (i : Nat) ∧ Hid (Below w.heap.size w wr) ∧ Hid (Below w2.heap.size w2 wr) ∧ Hid (¬ hasD (D.take i) nm ra ws)) (fun iv _ => m + 1 - (intOf iv).toNat)
      case atStart => exact ⟨0, Nat.zero_le _, rfl, HB2, Below.refl _ _, (show ¬ hasD (D.take 0) nm ra ws from fun hh => by obtain ⟨x, _, d, hd, _⟩ := hh; rw [List.take_zero] at hd; cases hd)⟩
      case round =>
        obtain ⟨i, hi, rfl, HB, HB9, HT⟩ := hrel
        by_cases hlt : i < m
        · have j1 : (i : Int) < (m : Int) := by omega
          have hil : i < D.length := by rw [HM.out]; exact hlt
          obtain ⟨g, cap, hv, hg0, hgl, k0, k1, k2, k3⟩ := nrow_at (row_below HR.out HB.out) hil
          rw [HM.out] at hv
          cases hv
          have hix := fun wx => index_nd g m c9 i hlt wx
          have HTK : Hid _ := hasD_take (nm := nm) (r := ra) (ws := ws) hil HT.out
          have HDM : Hid (D[i] ∈ D) := List.getElem_mem hil
          obtain ⟨d, hd⟩ : ∃ d, D[i] = d := ⟨_, rfl⟩
          rw [hd] at k0 k1 k2 k3 HTK HDM
          obtain ⟨dn, dw, dr, da⟩ := d
          simp only at k0 k1 k2 k3 HTK
          clear hd hil hg0 hgl
          have HBA : Hid (Below w.heap.size w (wr.alloc (.cells #[.string dn, .string dw, .int .i64 (dr : Nat), .int .i64 (da : Nat)] 68))) := HB.out.alloc HB.out.size _
          have HBA9 : Hid (Below w2.heap.size w2 (wr.alloc (.cells #[.string dn, .string dw, .int .i64 (dr : Nat), .int .i64 (da : Nat)] 68))) := HB9.out.alloc HB9.out.size _
          have HV : Hid (VarN wr.heap.size [.string dn, .string dw, .int .i64 (dr : Nat), .int .i64 (da : Nat)] (wr.alloc (.cells #[.string dn, .string dw, .int .i64 (dr : Nat), .int .i64 (da : Nat)] 68))) := VarN.new wr #[.string dn, .string dw, .int .i64 (dr : Nat), .int .i64 (da : Nat)] 68 (by simp)
          obtain ⟨wA, hwA⟩ : ∃ z, wr.alloc (.cells #[.string dn, .string dw, .int .i64 (dr : Nat), .int .i64 (da : Nat)] 68) = z := ⟨_, rfl⟩
          go_wp2_with fail
          rw [hwA] at HBA HBA9 HV
          clear k0 k1 k2 k3 hix hwA
          go_loopw [40] (fun jv wx => ∃ (j : Nat), j ≤ n ∧ jv = .int .i64 (j : Nat) ∧ wx = wA ∧ Hid (noHit dn dw dr nm ra (ws.take j))) (fun jv _ => n + 1 - (intOf jv).toNat)
          case atStart => exact ⟨0, Nat.zero_le _, rfl, rfl, (show noHit dn dw dr nm ra (ws.take 0) from fun x hx => by rw [List.take_zero] at hx; cases hx)⟩
          case round =>
            obtain ⟨j, hj, rfl, rfl, HJ⟩ := hrel
            by_cases hjn : j < n
            · have j2 : (j : Int) < (n : Int) := by omega
              have hjl : j < ws.length := by rw [HN.out]; exact hjn
              obtain ⟨g2, cap2, hv2, hcell2⟩ := srow_at (row_below HR2.out HBA9.out) hjl
              rw [HN.out] at hv2
              cases hv2
              have hix2 := fun wx => index_str g2 n c2 j hjn wx
              have HMX : Hid (ws[j] ∈ ws) := List.getElem_mem hjl
              have HJ2 : Hid (¬ (dn = nm ∧ dw = ws[j] ∧ dr = ra) → noHit dn dw dr nm ra (ws.take (j + 1))) := fun hq x hx => by
                rw [List.take_succ_eq_append_getElem hjl, List.mem_append, List.mem_singleton] at hx
                rcases hx with hx | rfl
                · exact HJ.out x hx
                · exact hq
              obtain ⟨x, hx⟩ : ∃ x, ws[j] = x := ⟨_, rfl⟩
              rw [hx] at hcell2 HMX HJ2
              clear hx hjl
              have q0 := HV.out.cell 0 (by simp)
              have q1 := HV.out.cell 1 (by simp)
              have q2 := HV.out.cell 2 (by simp)
              simp only [List.getElem_cons_zero, List.getElem_cons_succ] at q0 q1 q2
              by_cases e1 : dn = nm
              · subst e1
                by_cases e2 : dw = x
                · subst e2
                  by_cases e3 : dr = ra
                  · subst e3
                    have HHD : Hid (hasD D dn dr ws) := ⟨dw, HMX.out, _, HDM.out, rfl, rfl, rfl⟩
                    have hv : AE = 9 := (HE9.out HHD.out).1
                    have HDD : Hid (AD = D) := (HE9.out HHD.out).2
                    subst hv
                    go_wp2
                    go_ret
                    refine ⟨rfl, ?_, below_only HBA.out _⟩
                    rw [HDD.out]
                    exact HD.out.below HBA.out
                  · have e4 : ¬ (dr : Int) = (ra : Int) := by omega
                    have HQ : Hid (¬ dr = ra) := e3
                    clear e3
                    go_wp2_with fail
                    go_roundw
                    case rel => exact ⟨j + 1, by omega, by go_num, trivial, HJ2.out (fun hh => HQ.out hh.2.2)⟩
                    case measure => simp [intOf]; omega
                · have hq := str_neq e2
                  have HQ : Hid (¬ dw = x) := e2
                  clear e2
                  go_wp2_with fail
                  go_roundw
                  case rel => exact ⟨j + 1, by omega, by go_num, trivial, HJ2.out (fun hh => HQ.out hh.2.1)⟩
                  case measure => simp [intOf]; omega
              · have hq := str_neq e1
                have HQ : Hid (¬ dn = nm) := e1
                clear e1
                go_wp2_with fail
                go_roundw
                case rel => exact ⟨j + 1, by omega, by go_num, trivial, HJ2.out (fun hh => HQ.out hh.1)⟩
                case measure => simp [intOf]; omega
            · have j2 : ¬ (j : Int) < (n : Int) := by omega
              have HT2 : Hid (¬ hasD (D.take (i + 1)) nm ra ws) := HTK.out (fun x hx => HJ.out x (by rw [List.take_of_length_le (by rw [HN.out]; omega)]; exact hx))
              go_wp2_with fail
              go_roundw
              case rel => exact ⟨i + 1, by omega, by go_num, HBA, HBA9, HT2⟩
              case measure => simp [intOf]; omega
        · have j1 : ¬ (i : Int) < (m : Int) := by omega
          obtain rfl : m = i := by omega
          have HNO : Hid (¬ hasD D nm ra ws) := by
            have := HT.out
            rw [List.take_of_length_le (by rw [HM.out]; exact Nat.le_refl _)] at this
            exact this
          have cb := (HO.out.below HB.out).cell
          have hwp : IntKind.i64.wrap ((m : Int) + (n : Int)) = (m : Int) + (n : Int) := wraps_i64 _ (by omega) (by omega)
          by_cases hf : 500 < m + n
          · have hle2 : (500 : Int) < (m : Int) + (n : Int) := by omega
            have hv : AE = 12 := (HE12.out HNO.out hf).1
            have HDD : Hid (AD = D) := (HE12.out HNO.out hf).2
            subst hv
            clear hf
            go_wp2
            go_ret
            refine ⟨rfl, ?_, below_only HB.out _⟩
            rw [HDD.out]
            exact HD.out.below HB.out
          · have hle2 : ¬ (500 : Int) < (m : Int) + (n : Int) := by omega
            have hv : AE = 0 := (HE0.out HNO.out hf).1
            have HDD : Hid (AD = D ++ noteL nm ra 0 ws) := (HE0.out HNO.out hf).2
            subst hv
            clear hf
            obtain ⟨i0, hi0, hz0, hz1, hz2⟩ := pinfo_parts infoNd
            have HBE : Hid (Below w.heap.size w (wr.alloc (.cells #[] 68))) := HB.out.alloc HB.out.size _
            have HOE : Hid ((wr.alloc (.cells #[] 68)).ownsRow w2.heap.size 68 4 (.slice (some ⟨wr.heap.size, 0, none⟩) 0 0) 0 []) := row_base (own_empty wr) HB9.out.size
            have HBE2 : Hid (Below w2.heap.size w2 (wr.alloc (.cells #[] 68))) := HB9.out.alloc HB9.out.size _
            have cb2 := (HO.out.below HBE.out).cell
            have HRE : Hid ((wr.alloc (.cells #[] 68)).ownsRow B0 68 4 (.slice a9 m c9) m (ndc D)) := by
              have := row_below HR.out HBE.out
              rw [HM.out] at this
              exact this
            rcases HRE.out.2 with ⟨e, h0⟩ | ⟨g, cap, cur, e, hBg, hgb, _⟩
            · cases e
              have HB3 : Hid (Below w.heap.size w (wr.alloc (.cells #[] 68))) := HBE.out
              have HB32 : Hid (Below w2.heap.size w2 (wr.alloc (.cells #[] 68))) := HBE2.out
              have HO3 : Hid ((wr.alloc (.cells #[] 68)).ownsRow w2.heap.size 68 4 (.slice (some ⟨wr.heap.size, 0, none⟩) 0 0) 0 (ndc D)) := by
                have hd0 : D = [] := List.length_eq_zero_iff.1 HM.out
                show World.ownsRow _ _ _ _ _ _ _
                rw [hd0]
                exact HOE.out
              go_wp2_with (at_builtin; refine wpList_append_own_none rfl _ _ 32 rfl w2.heap.size 68 i0 4 Tryz.underlying32 hi0 _ 0 [] rfl HOE.out rfl ?_)
              go_wp2_with fail
              go_loopw [15, 80] (fun rv kv wx => ∃ (k : Nat), k ≤ n ∧ kv = .int .i64 (k : Nat) ∧ Hid (wx.ownsRow w2.heap.size 68 4 rv k (ndc (D ++ noteL nm ra 0 (ws.take k)))) ∧ Hid (Below w.heap.size w wx) ∧ Hid (Below w2.heap.size w2 wx)) (fun _ kv _ => n + 1 - (intOf kv).toNat)
              case atStart =>
                refine ⟨0, Nat.zero_le _, rfl, ?_, HB3, HB32⟩
                show World.ownsRow _ _ _ _ _ _ _
                rw [List.take_zero, noteL, List.append_nil]
                exact HO3.out
              case round =>
                clear HO3 HB3 HB32
                obtain ⟨k, hk, rfl, HOK, HBK, HBK2⟩ := hrel
                by_cases hkn : k < n
                · have j3 : (k : Int) < (n : Int) := by omega
                  have hkl : k < ws.length := by rw [HN.out]; exact hkn
                  obtain ⟨g2, cap2, hv2, hcell2⟩ := srow_at (row_below HR2.out HBK2.out) hkl
                  rw [HN.out] at hv2
                  cases hv2
                  have hix2 := fun wx => index_str g2 n c2 k hkn wx
                  have hsn := noteL_snoc nm ra 0 ws k hkl
                  obtain ⟨x, hx⟩ : ∃ x, ws[k] = x := ⟨_, rfl⟩
                  rw [hx, Nat.zero_add] at hsn
                  rw [hx] at hcell2
                  have HSN : Hid _ := hsn
                  clear hsn hx hkl
                  have hbA : Below wr.heap.size wr (wr.alloc (.cells #[.string nm, .string x, .int .i64 (ra : Nat), .int .i64 (k : Nat)] 68)) := (Below.refl _ _).alloc (Nat.le_refl _) _
                  have HOA : Hid ((wr.alloc (.cells #[.string nm, .string x, .int .i64 (ra : Nat), .int .i64 (k : Nat)] 68)).ownsRow w2.heap.size 68 4 u15 k (ndc (D ++ noteL nm ra 0 (ws.take k)))) := row_below HOK.out hbA
                  have HBA : Hid (Below w.heap.size w (wr.alloc (.cells #[.string nm, .string x, .int .i64 (ra : Nat), .int .i64 (k : Nat)] 68))) := HBK.out.alloc HBK.out.size _
                  have HBA2 : Hid (Below w2.heap.size w2 (wr.alloc (.cells #[.string nm, .string x, .int .i64 (ra : Nat), .int .i64 (k : Nat)] 68))) := HBK2.out.alloc HBK2.out.size _
                  have HNW : Hid _ := nd_cells wr nm x (ra : Nat) (k : Nat)
                  clear hbA
                  go_wp2_with (at_builtin; refine wpList_append_lies _ rfl _ _ 32 rfl w2.heap.size 68 i0 (.agg #[.string ⟨#[]⟩, .string ⟨#[]⟩, .int .i64 0, .int .i64 0]) 4 48 Tryz.underlying32 hi0 hz0 hz1 hz2 rfl (by decide) _ _ _ rfl HOA.out ⟨wr.heap.size, 0, none⟩ 1 1 [.string nm, .string x, .int .i64 (ra : Nat), .int .i64 (k : Nat)] rfl rfl HNW.out (nd_ones _ _ _ _) (by decide) (by simp only [maxLen]; omega) (by omega) HBA2.out.size _ rfl ?_; intro g' cap' w' hO hG hat hlt')
                  refine ⟨⟨k + 1, by omega, by go_num, ?_, ?_, ?_⟩, by simp [intOf]; omega⟩
                  · show World.ownsRow _ _ _ _ _ _ _
                    rw [HSN.out, ← List.append_assoc, ndc_append]
                    exact hO
                  · exact Only.below HBA.out (grown_only (S := fun q => w.heap.size ≤ q) hG (fun q e => Nat.le_trans HB2.out.size (World.ownsRow.lt HOA.out q e).1)) HBA.out.size (fun _ e => e)
                  · exact Only.below HBA2.out (grown_only (S := fun q => w2.heap.size ≤ q) hG (fun q e => (World.ownsRow.lt HOA.out q e).1)) HBA2.out.size (fun _ e => e)
                · have j3 : ¬ (k : Int) < (n : Int) := by omega
                  obtain rfl : n = k := by omega
                  obtain ⟨a15, c15, hv15⟩ := row_slice HOK.out
                  subst hv15
                  have cb9 := (HO.out.below HBK.out).cell
                  have fb9 := (HO.out.below HBK.out).free
                  have HOS : Hid (Own1 b (.slice a15 n c15) (wr.setCell ⟨b, 0, none⟩ (.slice a15 n c15))) := (HO.out.below HBK.out).set (.slice a15 n c15)
                  have HRS : Hid (wr.ownsRow w2.heap.size 68 4 (.slice a15 n c15) (D ++ noteL nm ra 0 ws).length (ndc (D ++ noteL nm ra 0 ws))) := by
                    have := HOK.out
                    rw [List.take_of_length_le (by rw [HN.out]; exact Nat.le_refl _)] at this
                    show World.ownsRow _ _ _ _ _ _ _
                    rw [List.length_append, noteL_len, HM.out, HN.out, Nat.zero_add]
                    exact this
                  go_wp2
                  go_ret
                  rw [HDD.out]
                  refine ⟨rfl, ⟨hle, (.slice a15 n c15), HOS.out, row_base (row_only HRS.out (Only.set b 0 (.slice a15 n c15) wr) (fun q e => by have e' : q = b := e; have := HB2.out.size; omega)) (by have := HB2.out.size; omega)⟩, ?_⟩
                  exact (below_only HBK.out (fun q => q = b)).trans (Only.set b 0 (.slice a15 n c15) wr) (fun _ e => .inl e)
            · cases e
              go_wp2_with (at_builtin; refine wpList_append_own _ rfl _ _ 32 rfl w2.heap.size 68 i0 (.agg #[.string ⟨#[]⟩, .string ⟨#[]⟩, .int .i64 0, .int .i64 0]) 4 48 Tryz.underlying32 hi0 hz0 hz1 hz2 rfl (by decide) _ 0 [] rfl HOE.out ⟨g, 0, none⟩ m c9 (ndc D) rfl (by rw [ndc_length, HM.out]) (fun j u hu => HRE.out.cells rfl j u hu) (ndc_one D) (by simp only [maxLen]; omega) (by omega) HBE2.out.size ?_; intro v3 w3 hO3 hG3 _)
              have HO3 : Hid (w3.ownsRow w2.heap.size 68 4 v3 m (ndc D)) := by
                have := hO3
                rw [Nat.zero_add, List.nil_append] at this
                exact this
              have HB3 : Hid (Below w.heap.size w w3) := Only.below HBE.out (grown_only (S := fun q => w.heap.size ≤ q) hG3 (fun q e => by cases e; exact HB.out.size)) HBE.out.size (fun _ e => e)
              have HB32 : Hid (Below w2.heap.size w2 w3) := Only.below HBE2.out (grown_only (S := fun q => w2.heap.size ≤ q) hG3 (fun q e => by cases e; exact HB9.out.size)) HBE2.out.size (fun _ e => e)
              clear hO3 hG3
              go_wp2_with fail
              go_loopw [15, 80] (fun rv kv wx => ∃ (k : Nat), k ≤ n ∧ kv = .int .i64 (k : Nat) ∧ Hid (wx.ownsRow w2.heap.size 68 4 rv (m + k) (ndc (D ++ noteL nm ra 0 (ws.take k)))) ∧ Hid (Below w.heap.size w wx) ∧ Hid (Below w2.heap.size w2 wx)) (fun _ kv _ => n + 1 - (intOf kv).toNat)
              case atStart =>
                refine ⟨0, Nat.zero_le _, rfl, ?_, HB3, HB32⟩
                show World.ownsRow _ _ _ _ _ _ _
                rw [List.take_zero, noteL, List.append_nil, Nat.add_zero]
                exact HO3.out
              case round =>
                clear HO3 HB3 HB32
                obtain ⟨k, hk, rfl, HOK, HBK, HBK2⟩ := hrel
                by_cases hkn : k < n
                · have j3 : (k : Int) < (n : Int) := by omega
                  have hkl : k < ws.length := by rw [HN.out]; exact hkn
                  obtain ⟨g2, cap2, hv2, hcell2⟩ := srow_at (row_below HR2.out HBK2.out) hkl
                  rw [HN.out] at hv2
                  cases hv2
                  have hix2 := fun wx => index_str g2 n c2 k hkn wx
                  have hsn := noteL_snoc nm ra 0 ws k hkl
                  obtain ⟨x, hx⟩ : ∃ x, ws[k] = x := ⟨_, rfl⟩
                  rw [hx, Nat.zero_add] at hsn
                  rw [hx] at hcell2
                  have HSN : Hid _ := hsn
                  clear hsn hx hkl
                  have hbA : Below wr.heap.size wr (wr.alloc (.cells #[.string nm, .string x, .int .i64 (ra : Nat), .int .i64 (k : Nat)] 68)) := (Below.refl _ _).alloc (Nat.le_refl _) _
                  have HOA : Hid ((wr.alloc (.cells #[.string nm, .string x, .int .i64 (ra : Nat), .int .i64 (k : Nat)] 68)).ownsRow w2.heap.size 68 4 u15 (m + k) (ndc (D ++ noteL nm ra 0 (ws.take k)))) := row_below HOK.out hbA
                  have HBA : Hid (Below w.heap.size w (wr.alloc (.cells #[.string nm, .string x, .int .i64 (ra : Nat), .int .i64 (k : Nat)] 68))) := HBK.out.alloc HBK.out.size _
                  have HBA2 : Hid (Below w2.heap.size w2 (wr.alloc (.cells #[.string nm, .string x, .int .i64 (ra : Nat), .int .i64 (k : Nat)] 68))) := HBK2.out.alloc HBK2.out.size _
                  have HNW : Hid _ := nd_cells wr nm x (ra : Nat) (k : Nat)
                  clear hbA
                  go_wp2_with (at_builtin; refine wpList_append_lies _ rfl _ _ 32 rfl w2.heap.size 68 i0 (.agg #[.string ⟨#[]⟩, .string ⟨#[]⟩, .int .i64 0, .int .i64 0]) 4 48 Tryz.underlying32 hi0 hz0 hz1 hz2 rfl (by decide) _ _ _ rfl HOA.out ⟨wr.heap.size, 0, none⟩ 1 1 [.string nm, .string x, .int .i64 (ra : Nat), .int .i64 (k : Nat)] rfl rfl HNW.out (nd_ones _ _ _ _) (by decide) (by simp only [maxLen]; omega) (by omega) HBA2.out.size _ rfl ?_; intro g' cap' w' hO hG hat hlt')
                  refine ⟨⟨k + 1, by omega, by go_num, ?_, ?_, ?_⟩, by simp [intOf]; omega⟩
                  · show World.ownsRow _ _ _ _ _ _ _
                    rw [HSN.out, ← List.append_assoc, ndc_append]
                    exact hO
                  · exact Only.below HBA.out (grown_only (S := fun q => w.heap.size ≤ q) hG (fun q e => Nat.le_trans HB2.out.size (World.ownsRow.lt HOA.out q e).1)) HBA.out.size (fun _ e => e)
                  · exact Only.below HBA2.out (grown_only (S := fun q => w2.heap.size ≤ q) hG (fun q e => (World.ownsRow.lt HOA.out q e).1)) HBA2.out.size (fun _ e => e)
                · have j3 : ¬ (k : Int) < (n : Int) := by omega
                  obtain rfl : n = k := by omega
                  obtain ⟨a15, c15, hv15⟩ := row_slice HOK.out
                  subst hv15
                  have cb9 := (HO.out.below HBK.out).cell
                  have fb9 := (HO.out.below HBK.out).free
                  have HOS : Hid (Own1 b (.slice a15 (m + n) c15) (wr.setCell ⟨b, 0, none⟩ (.slice a15 (m + n) c15))) := (HO.out.below HBK.out).set (.slice a15 (m + n) c15)
                  have HRS : Hid (wr.ownsRow w2.heap.size 68 4 (.slice a15 (m + n) c15) (D ++ noteL nm ra 0 ws).length (ndc (D ++ noteL nm ra 0 ws))) := by
                    have := HOK.out
                    rw [List.take_of_length_le (by rw [HN.out]; exact Nat.le_refl _)] at this
                    show World.ownsRow _ _ _ _ _ _ _
                    rw [List.length_append, noteL_len, HM.out, HN.out]
                    exact this
                  go_wp2
                  go_ret
                  rw [HDD.out]
                  refine ⟨rfl, ⟨hle, (.slice a15 (m + n) c15), HOS.out, row_base (row_only HRS.out (Only.set b 0 (.slice a15 (m + n) c15) wr) (fun q e => by have e' : q = b := e; have := HB2.out.size; omega)) (by have := HB2.out.size; omega)⟩, ?_⟩
                  exact (below_only HBK.out (fun q => q = b)).trans (Only.set b 0 (.slice a15 (m + n) c15) wr) (fun _ e => .inl e)
  · have he : addE D nm r s = chkE nm r := by unfold addE; rw [if_neg h1]
    have hd : addD D nm r s = D := by unfold addD; rw [he, if_neg h1]
    have HNM : Hid _ := named_any nm r w
    rw [he, hd]
    obtain ⟨c, hc⟩ : ∃ c, chkE nm r = c := ⟨_, rfl⟩
    rw [hc] at HNM h1 ⊢
    clear he hd hc hv9 hD
    go_enter Tryz.func8, Tryz.ntmps8
    go_wp2_with fail
    refine (show Calls _ _ _ _ _ from HNM.out).mono ?_
    rintro _ w9 ⟨rfl, h9⟩
    obtain rfl := h9.symm
    clear h9
    go_wp2
    go_ret
    exact ⟨rfl, HD.out, Only.refl _ _⟩
end
end Go.Proofs.YtabcficlnhajeaaGreatDoor
namespace Go.Proofs.YtabcficlnhajeaaGreatDoor
open Go.RowKit Go.Maps

theorem dropD_take {D : List Nd} {nm : ByteArray} {r : Nat} {ws : List ByteArray} {i : Nat} (hi : i < D.length) : dropD (D.take (i + 1)) nm r ws = dropD (D.take i) nm r ws ++ (if D[i].out nm r ws = true then [] else [D[i]]) := by
  unfold dropD
  rw [List.take_succ_eq_append_getElem hi, List.filter_append, List.filter_cons]
  cases D[i].out nm r ws <;> rfl
/-- whether a word hit -/
def hitB (gb : Bool) (dn dw : ByteArray) (dr : Nat) (nm : ByteArray) (ra : Nat) (l : List ByteArray) : Prop := gb = true ↔ (dn = nm ∧ dw ∈ l ∧ dr = ra)
theorem hitB_nil (dn dw : ByteArray) (dr : Nat) (nm : ByteArray) (ra : Nat) (ws : List ByteArray) : hitB false dn dw dr nm ra (ws.take 0) := by
  unfold hitB
  rw [List.take_zero]
  simp
theorem hitB_step {gb : Bool} {dn dw nm x : ByteArray} {dr ra j : Nat} {ws : List ByteArray} (hj : j < ws.length) (hx : ws[j] = x) (h : hitB gb dn dw dr nm ra (ws.take j)) {gc : Bool} (hc : gc = true ↔ (gb = true ∨ (dn = nm ∧ dw = x ∧ dr = ra))) : hitB gc dn dw dr nm ra (ws.take (j + 1)) := by
  unfold hitB at h ⊢
  rw [hc, h, List.take_succ_eq_append_getElem hj, List.mem_append, List.mem_singleton, hx]
  constructor
  · rintro (⟨a, b, c⟩ | ⟨a, b, c⟩)
    · exact ⟨a, .inl b, c⟩
    · exact ⟨a, .inr b, c⟩
  · rintro ⟨a, b | b, c⟩
    · exact .inl ⟨a, b, c⟩
    · exact .inr ⟨a, b, c⟩
section
variable {B0 b : Nat} {D : List Nd} {w : World}
set_option maxRecDepth 100000 in
set_option maxHeartbeats 8000000 in
theorem refDrop_any (hDl : D.length ≤ 500) (h : DocF B0 b D w) (nm s : ByteArray) (r : Int) (hs : s.size ≤ 1000) :
    Calls Tryz.prog 10 #[.pointer (some ⟨b, 0, none⟩), .string nm, .int .i64 r, .string s] w fun e w' => e = .returned (.int .i64 (chkE nm r)) ∧ DocF B0 b (drpD D nm r s) w' ∧ Only (fun k => k = b) w w' := by
  have HD : Hid (DocF B0 b D w) := h
  obtain ⟨hle, v, hO, hR⟩ := h
  have HO : Hid (Own1 b v w) := hO
  have HR : Hid (w.ownsRow B0 68 4 v D.length (ndc D)) := hR
  have hbl := hO.lt
  obtain ⟨a9, c9, hv9⟩ := row_slice hR
  clear hO hR
  by_cases h1 : chkE nm r = 0
  · have HNM : Hid (Calls Tryz.prog 21 #[.string nm, .int .i64 r] w fun e w' => e = .returned (.int .i64 0) ∧ w' = w) := (named_any nm r w).mono (fun e w' hh => ⟨by rw [hh.1, h1], hh.2⟩)
    have hrr := (chkE_ok h1).2
    obtain ⟨ra, hra⟩ : ∃ ra : Nat, r = (ra : Nat) := ⟨r.toNat, by omega⟩
    have hrt : r.toNat = ra := by omega
    have hwl := words_count s
    have HW : Hid _ := fun wx => words_any s wx (by omega)
    obtain ⟨ws, hws⟩ : ∃ ws, wordsL s.data.toList = ws := ⟨_, rfl⟩
    rw [hws] at hwl
    simp only [hws] at HW
    have HDD : Hid (drpD D nm r s = dropD D nm ra ws) := by show _ = _; unfold drpD; rw [if_pos h1, hws, hrt]
    rw [HDD.out, h1]
    obtain ⟨m, hm⟩ : ∃ m, D.length = m := ⟨_, rfl⟩
    have HM : Hid (D.length = m) := hm
    obtain ⟨n, hn⟩ : ∃ n, ws.length = n := ⟨_, rfl⟩
    have HN : Hid (ws.length = n) := hn
    rw [hm] at hv9 hDl
    rw [hn] at hwl
    subst hv9 hra
    obtain ⟨i0, hi0, hz0, hz1, hz2⟩ := pinfo_parts infoNd
    have cb := HO.out.cell
    clear h1 hws hm hn hrr hrt HDD
    go_enter Tryz.func10, Tryz.ntmps10
    go_wp2_with fail
    refine (show Calls _ _ _ _ _ from HNM.out).mono ?_
    rintro _ w9 ⟨rfl, h9⟩
    obtain rfl := h9.symm
    clear h9 HNM
    go_wp2_with fail
    clear cb
    go_loopw [10, 27] (fun rv iv wr => ∃ (i : Nat), i ≤ m ∧ iv = .int .i64 (i : Nat) ∧ Hid (wr.ownsRow w.heap.size 68 4 rv (dropD (D.take i) nm ra ws).length (ndc (dropD (D.take i) nm ra ws))) ∧ Hid (Below w.heap.size w wr)) (fun _ iv _ => m + 1 - (intOf iv).toNat)
    case atStart => exact ⟨0, Nat.zero_le _, rfl, World.ownsRow_nil _ _ _ _, Below.refl _ _⟩
    case round =>
      obtain ⟨i, hi, rfl, HOI, HB⟩ := hrel
      by_cases hlt : i < m
      · have j1 : (i : Int) < (m : Int) := by omega
        have hil : i < D.length := by rw [HM.out]; exact hlt
        obtain ⟨g, cap, hv, hg0, hgl, k0, k1, k2, k3⟩ := nrow_at (row_below HR.out HB.out) hil
        rw [HM.out] at hv
        cases hv
        have hix := fun wx => index_nd g m c9 i hlt wx
        have HTK : Hid _ := dropD_take (nm := nm) (r := ra) (ws := ws) hil
        have hlen : (dropD (D.take i) nm ra ws).length ≤ i := by
          unfold dropD
          exact Nat.le_trans (List.length_filter_le _ _) (by rw [List.length_take]; omega)
        obtain ⟨d, hd⟩ : ∃ d, D[i] = d := ⟨_, rfl⟩
        rw [hd] at k0 k1 k2 k3 HTK
        obtain ⟨dn, dw, dr, da⟩ := d
        simp only at k0 k1 k2 k3
        clear hd hil hg0 hgl
        have HBA : Hid (Below w.heap.size w (wr.alloc (.cells #[.string dn, .string dw, .int .i64 (dr : Nat), .int .i64 (da : Nat)] 68))) := HB.out.alloc HB.out.size _
        have HOA : Hid ((wr.alloc (.cells #[.string dn, .string dw, .int .i64 (dr : Nat), .int .i64 (da : Nat)] 68)).ownsRow w.heap.size 68 4 u10 (dropD (D.take i) nm ra ws).length (ndc (dropD (D.take i) nm ra ws))) := row_below HOI.out ((Below.refl _ _).alloc (Nat.le_refl _) _)
        have HV : Hid (VarN wr.heap.size [.string dn, .string dw, .int .i64 (dr : Nat), .int .i64 (da : Nat)] (wr.alloc (.cells #[.string dn, .string dw, .int .i64 (dr : Nat), .int .i64 (da : Nat)] 68))) := VarN.new wr #[.string dn, .string dw, .int .i64 (dr : Nat), .int .i64 (da : Nat)] 68 (by simp)
        obtain ⟨wA, hwA⟩ : ∃ z, wr.alloc (.cells #[.string dn, .string dw, .int .i64 (dr : Nat), .int .i64 (da : Nat)] 68) = z := ⟨_, rfl⟩
        obtain ⟨E, hE⟩ : ∃ E, dropD (D.take i) nm ra ws = E := ⟨_, rfl⟩
        rw [hE] at HOA HTK hlen
        go_wp2_with fail
        refine (show Calls _ _ _ _ _ from HW.out wA).mono ?_
        rintro _ w4 ⟨v4, rfl, hr4, hb4⟩
        rw [hwA] at HBA HOA HV
        obtain ⟨a4, c4, hv4⟩ := row_slice hr4
        rw [HN.out] at hv4
        subst hv4
        have HR4 : Hid (w4.ownsRow wA.heap.size 9 1 (.slice a4 n c4) ws.length (sc ws)) := hr4
        have HB4 : Hid (Below w.heap.size w w4) := HBA.out.trans (hb4.mono HBA.out.size)
        have HO4 : Hid (w4.ownsRow w.heap.size 68 4 u10 E.length (ndc E)) := row_below HOA.out hb4
        have HV4 : Hid (VarN wr.heap.size [.string dn, .string dw, .int .i64 (dr : Nat), .int .i64 (da : Nat)] w4) := HV.out.below hb4
        clear k0 k1 k2 k3 hix hwA hr4 hb4 hE HV HOA HOI HBA
        go_wp2_with fail
        go_loopw [13, 34] (fun gv jv wx => ∃ (j : Nat) (gb : Bool), j ≤ n ∧ gv = .bool gb ∧ jv = .int .i64 (j : Nat) ∧ w4 = wx ∧ Hid (hitB gb dn dw dr nm ra (ws.take j))) (fun _ jv _ => n + 1 - (intOf jv).toNat)
        case atStart => exact ⟨0, false, Nat.zero_le _, rfl, rfl, rfl, hitB_nil _ _ _ _ _ _⟩
        case round =>
          obtain ⟨j, gb, hj, rfl, rfl, rfl, HJ⟩ := hrel
          by_cases hjn : j < n
          · have j2 : (j : Int) < (n : Int) := by omega
            have hjl : j < ws.length := by rw [HN.out]; exact hjn
            obtain ⟨g2, cap2, hv2, hcell2⟩ := srow_at HR4.out hjl
            rw [HN.out] at hv2
            cases hv2
            have hix2 := fun wx => index_str g2 n c4 j hjn wx
            obtain ⟨x, hx⟩ : ∃ x, ws[j] = x := ⟨_, rfl⟩
            have HST : Hid (∀ gc : Bool, (gc = true ↔ (gb = true ∨ (dn = nm ∧ dw = x ∧ dr = ra))) → hitB gc dn dw dr nm ra (ws.take (j + 1))) := fun gc hc => hitB_step hjl hx HJ.out hc
            rw [hx] at hcell2
            clear hx hjl
            have q0 := HV4.out.cell 0 (by simp)
            have q1 := HV4.out.cell 1 (by simp)
            have q2 := HV4.out.cell 2 (by simp)
            simp only [List.getElem_cons_zero, List.getElem_cons_succ] at q0 q1 q2
            cases gb
            · by_cases e1 : dn = nm
              · by_cases e2 : dw = x
                · by_cases e3 : dr = ra
                  · have HQ : Hid _ := HST.out true ⟨fun _ => .inr ⟨e1, e2, e3⟩, fun _ => rfl⟩
                    subst e1 e2 e3
                    go_wp2_with fail
                    go_roundw
                    case rel => exact ⟨j + 1, true, by omega, rfl, by go_num, trivial, HQ⟩
                    case measure => simp [intOf]; omega
                  · have e4 : ((dr : Int) == (ra : Int)) = false := beq_eq_false_iff_ne.2 (by omega)
                    have HQ : Hid _ := HST.out false ⟨fun e => (by cases e), fun e => by rcases e with e | e; exact e; exact absurd e.2.2 e3⟩
                    subst e1 e2
                    clear e3
                    go_wp2_with fail
                    go_roundw
                    case rel => exact ⟨j + 1, false, by omega, rfl, by go_num, trivial, HQ⟩
                    case measure => simp [intOf]; omega
                · have hq := str_neq e2
                  have HQ : Hid _ := HST.out false ⟨fun e => (by cases e), fun e => by rcases e with e | e; exact e; exact absurd e.2.1 e2⟩
                  subst e1
                  clear e2
                  go_wp2_with fail
                  go_roundw
                  case rel => exact ⟨j + 1, false, by omega, rfl, by go_num, trivial, HQ⟩
                  case measure => simp [intOf]; omega
              · have hq := str_neq e1
                have HQ : Hid _ := HST.out false ⟨fun e => (by cases e), fun e => by rcases e with e | e; exact e; exact absurd e.1 e1⟩
                clear e1
                go_wp2_with fail
                go_roundw
                case rel => exact ⟨j + 1, false, by omega, rfl, by go_num, trivial, HQ⟩
                case measure => simp [intOf]; omega
            · have HQ : Hid _ := HST.out true ⟨fun _ => .inl rfl, fun _ => rfl⟩
              go_wp2_with fail
              go_roundw
              case rel => exact ⟨j + 1, true, by omega, rfl, by go_num, trivial, HQ⟩
              case measure => simp [intOf]; omega
          · have j2 : ¬ (j : Int) < (n : Int) := by omega
            have HOUT : Hid (gb = true ↔ (⟨dn, dw, dr, da⟩ : Nd).out nm ra ws = true) := by
              have := HJ.out
              unfold hitB at this
              rw [List.take_of_length_le (by rw [HN.out]; omega)] at this
              show _ ↔ _
              rw [this, out_iff]
            cases gb
            · have HNX : Hid (dropD (D.take (i + 1)) nm ra ws = E ++ [⟨dn, dw, dr, da⟩]) := by
                show _ = _
                rw [HTK.out, if_neg (fun e => by have := HOUT.out.2 e; cases this)]
              have q0 := HV4.out.cell 0 (by simp)
              have q1 := HV4.out.cell 1 (by simp)
              have q2 := HV4.out.cell 2 (by simp)
              have q3 := HV4.out.cell 3 (by simp)
              simp only [List.getElem_cons_zero, List.getElem_cons_succ] at q0 q1 q2 q3
              have hbA : Below w4.heap.size w4 (w4.alloc (.cells #[.string dn, .string dw, .int .i64 (dr : Nat), .int .i64 (da : Nat)] 68)) := (Below.refl _ _).alloc (Nat.le_refl _) _
              have HOA : Hid ((w4.alloc (.cells #[.string dn, .string dw, .int .i64 (dr : Nat), .int .i64 (da : Nat)] 68)).ownsRow w.heap.size 68 4 u10 E.length (ndc E)) := row_below HO4.out hbA
              have HBA : Hid (Below w.heap.size w (w4.alloc (.cells #[.string dn, .string dw, .int .i64 (dr : Nat), .int .i64 (da : Nat)] 68))) := HB4.out.alloc HB4.out.size _
              have HNW : Hid _ := nd_cells w4 dn dw (dr : Nat) (da : Nat)
              clear hbA
              go_wp2_with (at_builtin; refine wpList_append_lies _ rfl _ _ 32 rfl w.heap.size 68 i0 (.agg #[.string ⟨#[]⟩, .string ⟨#[]⟩, .int .i64 0, .int .i64 0]) 4 48 Tryz.underlying32 hi0 hz0 hz1 hz2 rfl (by decide) _ _ _ rfl HOA.out ⟨w4.heap.size, 0, none⟩ 1 1 [.string dn, .string dw, .int .i64 (dr : Nat), .int .i64 (da : Nat)] rfl rfl HNW.out (nd_ones _ _ _ _) (by decide) (by simp only [maxLen]; omega) (by omega) HBA.out.size _ rfl ?_; intro g' cap' w' hO hG hat hlt')
              refine ⟨⟨i + 1, by omega, by go_num, ?_, ?_⟩, by simp [intOf]; omega⟩
              · show World.ownsRow _ _ _ _ _ _ _
                rw [HNX.out, List.length_append, ndc_append]
                exact hO
              · exact Only.below HBA.out (grown_only (S := fun q => w.heap.size ≤ q) hG (fun q e => (World.ownsRow.lt HOA.out q e).1)) HBA.out.size (fun _ e => e)
            · have HNX : Hid (dropD (D.take (i + 1)) nm ra ws = E) := by
                show _ = _
                rw [HTK.out, if_pos (HOUT.out.1 rfl), List.append_nil]
              go_wp2_with fail
              go_roundw
              case rel =>
                refine ⟨i + 1, by omega, by go_num, ?_, HB4⟩
                show World.ownsRow _ _ _ _ _ _ _
                rw [HNX.out]
                exact HO4.out
              case measure => simp [intOf]; omega
      · have j1 : ¬ (i : Int) < (m : Int) := by omega
        obtain rfl : m = i := by omega
        have HRS : Hid (wr.ownsRow w.heap.size 68 4 u10 (dropD D nm ra ws).length (ndc (dropD D nm ra ws))) := by
          have := HOI.out
          rw [List.take_of_length_le (by rw [HM.out]; exact Nat.le_refl _)] at this
          exact this
        obtain ⟨a15, c15, hv15⟩ := row_slice HRS.out
        obtain ⟨q, hq⟩ : ∃ q, (dropD D nm ra ws).length = q := ⟨_, rfl⟩
        rw [hq] at hv15
        subst hv15
        have cb9 := (HO.out.below HB.out).cell
        have fb9 := (HO.out.below HB.out).free
        have HOS : Hid (Own1 b (.slice a15 q c15) (wr.setCell ⟨b, 0, none⟩ (.slice a15 q c15))) := (HO.out.below HB.out).set _
        clear hq HOI
        go_wp2
        go_ret
        refine ⟨rfl, ⟨hle, _, HOS.out, row_base (row_only HRS.out (Only.set b 0 _ wr) (fun q e => by have e' : q = b := e; omega)) (by omega)⟩, ?_⟩
        exact (below_only HB.out (fun q => q = b)).trans (Only.set b 0 _ wr) (fun _ e => .inl e)
  · have hd : drpD D nm r s = D := by unfold drpD; rw [if_neg h1]
    have HNM : Hid _ := named_any nm r w
    rw [hd]
    obtain ⟨c, hc⟩ : ∃ c, chkE nm r = c := ⟨_, rfl⟩
    rw [hc] at HNM h1 ⊢
    clear hd hc hv9
    go_enter Tryz.func10, Tryz.ntmps10
    go_wp2_with fail
    refine (show Calls _ _ _ _ _ from HNM.out).mono ?_
    rintro _ w9 ⟨rfl, h9⟩
    obtain rfl := h9.symm
    clear h9
    go_wp2
    go_ret
    exact ⟨rfl, HD.out, Only.refl _ _⟩
end
end Go.Proofs.YtabcficlnhajeaaGreatDoor
namespace Go.Proofs.YtabcficlnhajeaaGreatDoor
open Go.RowKit

instance : Inhabited Pl := ⟨⟨0, 0⟩⟩
def cellsP (p : Pl) : List Value := [.int .i64 p.r, .int .i64 p.a]
theorem cellsP_len (p : Pl) : (cellsP p).length = 2 := rfl
def ltB (p q : Pl) : Bool := decide (cmpP p q < 0)

/-- a row of places that is sorted: where it lies, and what swaps two of it -/
structure Sl where
  blk : Nat
  off : Nat
  c : Nat
  Bs : Nat
  n : Nat
  sf : Nat
  sb : Array Value
def Sl.less (s : Sl) : Value := .func (.func 86) #[] #[.pointer (some ⟨s.Bs, 0, none⟩)]
def Sl.swap (s : Sl) : Value := .func (.func s.sf) #[] s.sb

def SS (s : Sl) (d : Array Pl) (w : World) : Prop :=
  Sort.HoldsK cellsP 2 w s.blk s.off d ∧ d.size = s.n ∧ w.cell? ⟨s.Bs, 0, none⟩ = some (.slice (some ⟨s.blk, s.off, none⟩) s.n s.c) ∧ (s.Bs ≠ s.blk ∧ s.blk < w.heap.size ∧ s.Bs < w.heap.size ∧ s.n < 1000000) ∧ SwapSwapsK Tryz.prog s.sf s.sb cellsP 2 s.blk s.off s.n

theorem holds_block {w w' : World} {blk off : Nat} {d : Array Pl} (h : Sort.HoldsK cellsP 2 w blk off d) (hb : w'.heap[blk]? = w.heap[blk]?) : Sort.HoldsK cellsP 2 w' blk off d := by
  intro j hj
  obtain ⟨h1, h2⟩ := h j hj
  exact ⟨by rw [World.cell?_of_block (w := w) (a := ⟨blk, off + j, none⟩) hb]; exact h1, by rw [World.frozen?_of_block (w := w) (a := ⟨blk, off + j, none⟩) hb]; exact h2⟩
theorem SS.below {s : Sl} {d : Array Pl} {w w' : World} (h : SS s d w) (hb : Below w.heap.size w w') : SS s d w' := by
  obtain ⟨h1, h2, h3, ⟨h4, h5, h6, h7⟩, h8⟩ := h
  have := hb.size
  exact ⟨holds_block h1 (hb.block _ h5), h2, by rw [hb.cell (p := ⟨s.Bs, _, none⟩) h6]; exact h3, ⟨h4, by omega, by omega, h7⟩, h8⟩
theorem SS.grown {s : Sl} {d d' : Array Pl} {w w' : World} (h : SS s d w) (hg : w.grownBy w' (some s.blk)) (hd : Sort.HoldsK cellsP 2 w' s.blk s.off d') (hs : d'.size = d.size) : SS s d' w' := by
  obtain ⟨h1, h2, h3, ⟨h4, h5, h6, h7⟩, h8⟩ := h
  have := hg.size
  exact ⟨hd, by omega, hg.cell h3 (by simpa using h4), ⟨h4, by omega, by omega, h7⟩, h8⟩
theorem grownBy_refl (w : World) (r : Option Nat) : w.grownBy w r := ⟨rfl, rfl, rfl, Nat.le_refl _, fun _ _ _ => rfl⟩
theorem grown_put (w : World) (blk off : Nat) (d : Array Pl) (n : Nat) (os : Array Obj) : w.grownBy (Sort.grow (Sort.putRowK cellsP 2 (Sort.ahead w n) blk off d) os) (some blk) := by
  refine ⟨rfl, rfl, rfl, ?_, fun k hk hne => ?_⟩
  · simp [Sort.grow, Sort.putRowK, Sort.putRow, Sort.mapBlock, Sort.ahead]
  · simp only [Sort.grow, Sort.putRowK, Sort.putRow, Sort.mapBlock, Sort.ahead]
    rw [Array.getElem?_append_left (by simpa using hk), Array.getElem?_modify, if_neg (fun e => hne (by rw [e]))]

theorem SS.swapped {s : Sl} {d : Array Pl} {w : World} (h : SS s d w) (i j : Nat) (hi : i < s.n) (hj : j < s.n) :
    SS s (Sort.swp d i j) ((w.setCells s.blk (s.off + i * 2) (cellsP d[j]!)).setCells s.blk (s.off + j * 2) (cellsP d[i]!)) ∧ w.grownBy ((w.setCells s.blk (s.off + i * 2) (cellsP d[j]!)).setCells s.blk (s.off + j * 2) (cellsP d[i]!)) (some s.blk) := by
  have e := Sort.swap_worldK cellsP 2 cellsP_len w 0 0 s.blk s.off d i j (by rw [h.2.1]; exact hi) (by rw [h.2.1]; exact hj)
  rw [show (Sort.putRowK cellsP 2 (Sort.ahead w 0) s.blk s.off d).drewN 0 = w from Sort.putRowK_self cellsP 2 w s.blk s.off d h.1] at e
  have e2 : Sort.putRowK cellsP 2 (Sort.ahead w (0 + 0)) s.blk s.off (Sort.swp d i j) = Sort.grow (Sort.putRowK cellsP 2 (Sort.ahead w (0 + 0)) s.blk s.off (Sort.swp d i j)) #[] := by rw [Sort.grow_empty]
  have hg : w.grownBy ((w.setCells s.blk (s.off + i * 2) (cellsP d[j]!)).setCells s.blk (s.off + j * 2) (cellsP d[i]!)) (some s.blk) := by
    rw [e, e2]; exact grown_put _ _ _ _ _ _
  refine ⟨SS.grown h hg ?_ (Sort.size_swp _ _ _), hg⟩
  rw [e]
  exact Sort.holdsK_putRowK cellsP 2 _ s.blk s.off d _ (Sort.holdsK_ahead _ _ _ _ _ _ _ h.1) (Sort.size_swp _ _ _)

/-- what is known in a round of less -/
def LE (blk off c Bs n i j : Nat) (p q : Pl) (w w' : World) : Prop :=
  (w'.cell? ⟨Bs, 0, none⟩ = some (.slice (some ⟨blk, off, none⟩) n c) ∧ w'.cell? ⟨blk, off + i * 2, none⟩ = some (.int .i64 p.r) ∧ w'.cell? ⟨blk, off + i * 2 + 1, none⟩ = some (.int .i64 p.a) ∧ w'.cell? ⟨blk, off + j * 2, none⟩ = some (.int .i64 q.r) ∧ w'.cell? ⟨blk, off + j * 2 + 1, none⟩ = some (.int .i64 q.a)) ∧ (blk < w.heap.size ∧ Bs < w.heap.size) ∧ Below w.heap.size w w'
theorem LE.step {blk off c Bs n i j : Nat} {p q : Pl} {w a b : World} (h : LE blk off c Bs n i j p q w a) (hb : Below a.heap.size a b) : LE blk off c Bs n i j p q w b := by
  obtain ⟨⟨x1, x2, x3, x4, x5⟩, ⟨y1, y2⟩, x6⟩ := h
  have := x6.size
  refine ⟨⟨?_, ?_, ?_, ?_, ?_⟩, ⟨y1, y2⟩, x6.trans (hb.mono this)⟩
  · rw [hb.cell (p := ⟨Bs, _, none⟩) (by show Bs < _; omega)]; exact x1
  · rw [hb.cell (p := ⟨blk, _, none⟩) (by show blk < _; omega)]; exact x2
  · rw [hb.cell (p := ⟨blk, _, none⟩) (by show blk < _; omega)]; exact x3
  · rw [hb.cell (p := ⟨blk, _, none⟩) (by show blk < _; omega)]; exact x4
  · rw [hb.cell (p := ⟨blk, _, none⟩) (by show blk < _; omega)]; exact x5
theorem LE.drew {blk off c Bs n i j : Nat} {p q : Pl} {w a : World} (h : LE blk off c Bs n i j p q w a) : LE blk off c Bs n i j p q w a.drew := h.step (Below.refl _ _).drew

set_option maxRecDepth 100000 in
set_option maxHeartbeats 1000000 in
theorem less_ss (s : Sl) (d : Array Pl) (w : World) (h : SS s d w) (i j : Nat) (hi : i < s.n) (hj : j < s.n) :
    Calls Tryz.prog 86 #[.int .i64 i, .int .i64 j, .pointer (some ⟨s.Bs, 0, none⟩)] w fun e w' => e = .returned (.bool (ltB d[i]! d[j]!)) ∧ Below w.heap.size w w' := by
  obtain ⟨h1, h2, h3, ⟨h4, h5, h6, h7⟩, h8⟩ := h
  have c1 := (h1.cell (i := i) (c := 0) (by omega) (by omega)).1
  have c2 := (h1.cell (i := i) (c := 1) (by omega) (by omega)).1
  have c3 := (h1.cell (i := j) (c := 0) (by omega) (by omega)).1
  have c4 := (h1.cell (i := j) (c := 1) (by omega) (by omega)).1
  generalize d[i]! = p at *
  generalize d[j]! = q at *
  rw [Nat.add_zero] at c1 c3
  have k1 : w.cell? ⟨s.blk, s.off + i * 2, none⟩ = some (.int .i64 p.r) := c1
  have k2 : w.cell? ⟨s.blk, s.off + i * 2 + 1, none⟩ = some (.int .i64 p.a) := c2
  have k3 : w.cell? ⟨s.blk, s.off + j * 2, none⟩ = some (.int .i64 q.r) := c3
  have k4 : w.cell? ⟨s.blk, s.off + j * 2 + 1, none⟩ = some (.int .i64 q.a) := c4
  clear c1 c2 c3 c4 h1 h8
  obtain ⟨lb, hlb⟩ : ∃ lb, decide (cmpP p q < 0) = lb := ⟨_, rfl⟩
  have HL : Hid (decide (cmpP p q < 0) = lb) := hlb
  rw [ltB, hlb]
  clear hlb
  obtain ⟨blk, off, c, Bs, n, sf, sb⟩ := s
  simp only at *
  have i1 : (i : Int) < (n : Int) := by omega
  have i2 : (j : Int) < (n : Int) := by omega
  have HF : Hid (LE blk off c Bs n i j p q w w) := ⟨⟨h3, k1, k2, k3, k4⟩, ⟨h5, h6⟩, Below.refl _ _⟩
  clear h3 k1 k2 k3 k4
  go_enter Tryz.func86, Tryz.ntmps86
  go_wp2_with fail
  have HF : Hid _ := LE.drew HF.out
  go_region_held3 (fun w' => w'.cell? ⟨Bs, 0, none⟩ = some (.slice (some ⟨blk, off, none⟩) n c) ∧ w'.cell? ⟨blk, off + i * 2, none⟩ = some (.int .i64 p.r) ∧ w'.cell? ⟨blk, off + i * 2 + 1, none⟩ = some (.int .i64 p.a) ∧ w'.cell? ⟨blk, off + j * 2, none⟩ = some (.int .i64 q.r) ∧ w'.cell? ⟨blk, off + j * 2 + 1, none⟩ = some (.int .i64 q.a)) (exact HF.out.1)
    ((go_at_call 87; refine Calls.mono (before_as lb p q HL.out _) ?_; rintro _ w2 ⟨rfl, hb2⟩; have HF : Hid _ := LE.step HF.out hb2; clear hb2))
  go_wp2
  go_ret
  exact ⟨rfl, HF.out.2.2⟩
end Go.Proofs.YtabcficlnhajeaaGreatDoor
