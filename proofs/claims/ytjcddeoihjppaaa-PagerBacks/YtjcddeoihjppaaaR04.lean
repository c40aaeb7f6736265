/- Texts of the proof of PagerBacks: Cdo. -/
import Derived.Test.YtjcddeoihjppaaaR03
import Derived.Deep.DeepCutAuto
import Derived.Deep.CutBlock
import Derived.BigQuiet
namespace Go.Proofs.Ytjcddeoihjppaaa
open Go.RowKit Go.Maps

theorem Arow.only {b : Nat} {q a c : Int} {w w' : World} {S : Nat → Prop} (h : Arow b q a c w) (ho : Only S w w') (hs : ¬ S b) : Arow b q a c w' :=
  ⟨(ho.cell h.lt hs 0).trans h.q, (ho.cell h.lt hs 1).trans h.a, (ho.cell h.lt hs 2).trans h.n⟩
theorem pick_8 (a : Int) (w : World) : Calls Try.prog 16 #[.int .i64 a, .int .i64 8] w fun e w' => e = .returned (.int .i64 (pk a 8 : Nat)) ∧ w' = w := pick_any a 8 (by omega) (by omega) w
theorem pick_2000 (a : Int) (w : World) : Calls Try.prog 16 #[.int .i64 a, .int .i64 2000] w fun e w' => e = .returned (.int .i64 (pk a 2000 : Nat)) ∧ w' = w := pick_any a 2000 (by omega) (by omega) w
theorem pick_65536 (a : Int) (w : World) : Calls Try.prog 16 #[.int .i64 a, .int .i64 65536] w fun e w' => e = .returned (.int .i64 (pk a 65536 : Nat)) ∧ w' = w := pick_any a 65536 (by omega) (by omega) w
theorem five_ways (q : Int) : (q = 0 ∧ True) ∨ (q = 1 ∧ True) ∨ (q = 2 ∧ True) ∨ (q = 3 ∧ True) ∨ (q = 4 ∧ True) ∨ ((q == 0) = false ∧ (q == 1) = false ∧ (q == 2) = false ∧ (q == 3) = false ∧ (q == 4) = false) := by
  by_cases h0 : q = 0
  · exact .inl ⟨h0, trivial⟩
  by_cases h1 : q = 1
  · exact .inr (.inl ⟨h1, trivial⟩)
  by_cases h2 : q = 2
  · exact .inr (.inr (.inl ⟨h2, trivial⟩))
  by_cases h3 : q = 3
  · exact .inr (.inr (.inr (.inl ⟨h3, trivial⟩)))
  by_cases h4 : q = 4
  · exact .inr (.inr (.inr (.inr (.inl ⟨h4, trivial⟩))))
  exact .inr (.inr (.inr (.inr (.inr ⟨by simpa using h0, by simpa using h1, by simpa using h2, by simpa using h3, by simpa using h4⟩))))

theorem arow_new (w : World) (q a c : Int) : Arow w.heap.size q a c (w.alloc (.cells #[.int .i64 q, .int .i64 a, .int .i64 c] 84)) := by
  have hn : (w.alloc (.cells #[.int .i64 q, .int .i64 a, .int .i64 c] 84)).heap[w.heap.size]? = some (.cells #[.int .i64 q, .int .i64 a, .int .i64 c] 84) := heap_alloc_new w _
  refine ⟨?_, ?_, ?_⟩ <;> (simp only [World.cell?, hn]; rfl)
section
variable {bp bd bm K N : Nat} {s : St} {c : Int} {w0 w1 w : World} {b1 : Nat} {p : Pg}
set_option maxRecDepth 100000 in
set_option maxHeartbeats 20000000 in
theorem does_any (h : Dst bp bd s c K N w0 w1 b1 p bm w) (hK : K ≤ 1000) (hN : N ≤ 900000) (ad : Option Addr) (len cap : Nat) (xs : List Ac) (hr : Row3 w0 ad len xs) (hl : xs.length ≤ 30) :
    Calls Try.prog 8 #[.pointer (some ⟨bp, 0, none⟩), .slice ad len cap] w fun e w' => e = .returned (.tuple #[]) ∧ ∃ p' bm', Dst bp bd s c (K + xs.length) (N + xs.length) w0 w1 b1 p' bm' w' := by
  obtain ⟨rfl, hm, hx⟩ := hr
  clear hm
  have HE : Hid (Dst bp bd s c K N w0 w1 b1 p bm w) := h
  clear h
  go_enter Try.func8, Try.ntmps8
  go_wp2_with fail
  go_loopw [4] (fun i wr => ∃ (k : Nat) (p : Pg) (bm : Nat), k ≤ xs.length ∧ i = .int .i64 k ∧ Hid (Dst bp bd s c (K + k) (N + k) w0 w1 b1 p bm wr)) (fun i _ => xs.length - (intOf i).toNat)
  case atStart => exact ⟨0, p, bm, Nat.zero_le _, rfl, HE⟩
  case round =>
    clear HE
    obtain ⟨k, p, bm, hk, rfl, HE⟩ := hrel
    by_cases hlt : k < xs.length
    · have h1 : (k : Int) < (xs.length : Int) := by omega
      rcases hx with hx | ⟨b0, off0, rfl, hb0, hrow⟩
      · exact absurd hlt (by rw [hx]; simp)
      obtain ⟨g0, g1, g2⟩ := hrow k hlt
      clear hrow
      obtain ⟨y, hy⟩ : ∃ y, xs[k] = y := ⟨_, rfl⟩
      rw [hy] at g0 g1 g2
      clear hy
      obtain ⟨q, a, t⟩ := y
      simp only at g0 g1 g2
      have e0 := (HE.out.below.cell (p := ⟨b0, off0 + k * 3, none⟩) hb0).trans g0
      have e1 := (HE.out.below.cell (p := ⟨b0, off0 + k * 3 + 1, none⟩) hb0).trans g1
      have e2 := (HE.out.below.cell (p := ⟨b0, off0 + k * 3 + 2, none⟩) hb0).trans g2
      clear g0 g1 g2
      have HX : Hid (Arow wr.heap.size q a t (wr.alloc (.cells #[.int .i64 q, .int .i64 a, .int .i64 t] 84))) := arow_new wr q a t
      have HE1 : Hid (Dst bp bd s c (K + k) (N + k) w0 w1 b1 p bm (wr.alloc (.cells #[.int .i64 q, .int .i64 a, .int .i64 t] 84))) := HE.out.step ((Below.refl _ wr).alloc (Nat.le_refl _) _)
      have HNB : Hid (bp ≠ wr.heap.size) := Nat.ne_of_lt HE.out.pgr.lt
      have hi := pk_lt a 12 (by omega)
      obtain ⟨i, hii⟩ : ∃ i, pk a 12 = i := ⟨_, rfl⟩
      rw [hii] at hi
      have HII : Hid (pk a 12 = i) := hii
      clear hii
      go_wp2_with fail
      refine (pick_any a 12 (by omega) (by omega) _).mono ?_
      rintro _ wa ⟨rfl, hwa⟩
      subst wa
      rw [HII.out]
      clear HII e0 e1 e2 HE
      obtain ⟨wx, hwx⟩ : ∃ wx, wr.alloc (.cells #[.int .i64 q, .int .i64 a, .int .i64 t] 84) = wx := ⟨_, rfl⟩
      obtain ⟨bx, hbx⟩ : ∃ bx, wr.heap.size = bx := ⟨_, rfl⟩
      rw [hwx] at HX HE1
      rw [hbx] at HX HNB
      rw [hwx]
      try rw [hbx]
      clear hwx hbx
      obtain ⟨j, HJ, hj3⟩ : ∃ j : Nat, Hid (1 + (i : Int) = (j : Int)) ∧ j < 2000 := ⟨1 + i, (show 1 + (i : Int) = ((1 + i : Nat) : Int) by omega), by omega⟩
      have x0 := HX.out.q
      have x1 := HX.out.a
      have x2 := HX.out.n
      rcases five_ways q with ⟨rfl, _⟩ | ⟨rfl, _⟩ | ⟨rfl, _⟩ | ⟨rfl, _⟩ | ⟨rfl, _⟩ | ⟨n0, n1, n2, n3, n4⟩
      · obtain ⟨m, m0, m1, m2, m3⟩ := least_free2 p.used (K + k + 1) (by omega) (HE1.out.few _ (by omega) (by omega))
        have HM : Hid (p.used m = false ∧ ∀ j, 0 < j → j < m → p.used j = true) := ⟨m2, m3⟩
        clear m2 m3
        go_wp2_with fail
        refine (allocp_any HE1.out.pgr (by omega) HE1.out.down m m0 (by omega) HM.out.1 HM.out.2).mono ?_
        rintro _ w2 ⟨rfl, hP2, hO2⟩
        have HE2 : Hid _ := HE1.out.alloc m0 m1 (by omega) hP2 hO2
        clear hP2 hO2 HE1 x0 x1 x2 HX
        go_wp2_with fail
        go_roundw
        case rel => exact ⟨k + 1, p.alloc m, bm, by omega, by go_num, HE2⟩
        case measure => simp [intOf]; omega
      · by_cases hu : p.used j = true
        · have HU : Hid (p.used j = true) := hu
          clear hu
          go_wp2_with fail
          rw [HJ.out]
          refine (freep_yes HE1.out.pgr HE1.out.down j hj3 HU.out).mono ?_
          rintro _ w2 ⟨rfl, hP2, hO2⟩
          have HE2 : Hid _ := (HE1.out.free j hP2 hO2).mono (K' := K + (k + 1)) (N' := N + (k + 1)) (by omega) (by omega)
          clear hP2 hO2 HE1 x0 x1 x2 HX
          go_wp2_with fail
          go_roundw
          case rel => exact ⟨k + 1, p.free j, bm, by omega, by go_num, HE2⟩
          case measure => simp [intOf]; omega
        · have HU : Hid (p.code j = 2) := Pg.code_no (fun e => hu (by have := e.2.2; rwa [Int.toNat_natCast] at this))
          clear hu
          go_wp2_with fail
          rw [HJ.out]
          refine (freep_no HE1.out.pgr.cells j HU.out).mono ?_
          rintro _ w2 ⟨rfl, hw2⟩
          subst w2
          have HE2 : Hid _ := HE1.out.mono (K' := K + (k + 1)) (N' := N + (k + 1)) (by omega) (by omega)
          clear HE1 x0 x1 x2 HX
          go_wp2_with fail
          go_roundw
          case rel => exact ⟨k + 1, p, bm, by omega, by go_num, HE2⟩
          case measure => simp [intOf]; omega
      · go_wp2_with fail
        refine (page2_any t _).mono ?_
        rintro _ wp ⟨rfl, hb1⟩
        have HE2 : Hid _ := HE1.out.step hb1
        clear hb1 HE1 x0 x1 x2 HX
        by_cases hu : p.used j = true
        · have HU : Hid (p.used j = true) := hu
          clear hu
          go_wp2_with fail
          rw [HJ.out]
          refine (writep_yes HE2.out.pgr (by omega) HE2.out.down j hj3 HU.out (pageOf t) (pageOf_size t)).mono ?_
          rintro _ w2 ⟨rfl, hP2, hO2⟩
          have HE3 : Hid _ := (HE2.out.write hj3 HU.out (pageOf t) (pageOf_size t) hP2 hO2).mono (K' := K + (k + 1)) (N' := N + (k + 1)) (by omega) (by omega)
          clear hP2 hO2 HE2
          go_wp2_with fail
          go_roundw
          case rel => exact ⟨k + 1, p.write j (pageOf t), bm, by omega, by go_num, HE3⟩
          case measure => simp [intOf]; omega
        · have HU : Hid (p.code j = 2) := Pg.code_no (fun e => hu (by have := e.2.2; rwa [Int.toNat_natCast] at this))
          clear hu
          go_wp2_with fail
          rw [HJ.out]
          refine (writep_no HE2.out.pgr.cells j HU.out (pageOf t)).mono ?_
          rintro _ w2 ⟨rfl, hw2⟩
          subst w2
          have HE3 : Hid _ := HE2.out.mono (K' := K + (k + 1)) (N' := N + (k + 1)) (by omega) (by omega)
          clear HE2
          go_wp2_with fail
          go_roundw
          case rel => exact ⟨k + 1, p, bm, by omega, by go_num, HE3⟩
          case measure => simp [intOf]; omega
      · have l1 := pk_lt a 8 (by omega)
        have l2 := pk_lt t 2000 (by omega)
        have l3 := pk_lt t 65536 (by omega)
        have HI2 : Hid (inB (pk t 2000 : Nat) 2000 = true) := by show inB _ _ = true; unfold inB; simp; omega
        have HI3 : Hid (inB (pk t 65536 : Nat) 65536 = true) := by show inB _ _ = true; unfold inB; simp; omega
        have L1 : Hid _ := l1
        clear l1 l2 l3
        have HE2 : Hid (Dst bp bd s c (K + k) (N + k) w0 w1 b1 p bm wx.drew) := HE1.out.drew
        have HX2 : Hid (Arow bx 3 a t wx.drew) := HX.out.below (Below.refl _ wx).drew
        go_wp2_with fail
        clear HE1 HX x0 x1 x2
        have A1 : Hid True := trivial
        have A2 : Hid True := trivial
        go_region_held3 (fun w' => w'.cell? ⟨bx, 1, none⟩ = some (.int .i64 a) ∧ w'.cell? ⟨bx, 2, none⟩ = some (.int .i64 t)) (first | exact ⟨HX2.out.a, HX2.out.n⟩ | exact ⟨HX3.out.a, HX3.out.n⟩)
          (first
            | (go_at_call 16; clear A1; refine (pick_8 a _).mono ?_; rintro _ wy ⟨rfl, hwy⟩; subst wy)
            | (go_at_call 16; clear A2; refine (pick_2000 t _).mono ?_; rintro _ wy ⟨rfl, hwy⟩; subst wy)
            | (go_at_call 16; refine (pick_65536 t _).mono ?_; rintro _ wy ⟨rfl, hwy⟩; subst wy)
            | (go_at_call 31; refine (setRoot_yes HE2.out.pgr.cells HE2.out.down (pk a 8) L1.out (pk t 2000 : Nat) (pk t 65536 : Nat) HI2.out HI3.out).mono ?_; rintro _ w3 ⟨rfl, hC3, hO3⟩; have HX3 : Hid (Arow bx 3 a t w3) := HX2.out.only hO3 (fun e => HNB.out e.symm); have HE3 : Hid _ := (HE2.out.setRoot (pk a 8) HI2.out HI3.out hC3 hO3).mono (K' := K + (k + 1)) (N' := N + (k + 1)) (by omega) (by omega); clear hC3 hO3))
        go_wp2_with fail
        go_roundw
        case rel => exact ⟨k + 1, _, bm, by omega, by go_num, HE3⟩
        case measure => simp [intOf]; omega
      · go_wp2_with fail
        refine (rollback_any HE1.out.pgr HE1.out.prg HE1.out.down).mono ?_
        rintro _ w2 ⟨rfl, ⟨bm2, hl2, hP2⟩, hD2, hO2⟩
        have HE2 : Hid _ := (HE1.out.rollback hl2 hP2 hD2 hO2).mono (K' := K + (k + 1)) (N' := N + (k + 1)) (by omega) (by omega)
        clear hP2 hO2 hD2 HE1 x0 x1 x2 HX
        go_wp2_with fail
        go_roundw
        case rel => exact ⟨k + 1, _, bm2, by omega, by go_num, HE2⟩
        case measure => simp [intOf]; omega
      · have HE2 : Hid _ := HE1.out.mono (K' := K + (k + 1)) (N' := N + (k + 1)) (by omega) (by omega)
        clear HE1 HX
        go_wp2_with fail
        go_roundw
        case rel => exact ⟨k + 1, p, bm, by omega, by go_num, HE2⟩
        case measure => simp [intOf]; omega
    · have h1 : ¬ (k : Int) < (xs.length : Int) := by omega
      obtain rfl : k = xs.length := by omega
      clear hx
      go_wp2
      go_end0
      exact ⟨rfl, p, bm, HE.out⟩
end
end Go.Proofs.Ytjcddeoihjppaaa
