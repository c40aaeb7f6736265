/- Part 31 of 39. -/
import Derived.Test.YtbdcbaamjkjhaaaGreatDoorG30
namespace Go.Proofs.YtbdcbaamjkjhaaaGreatDoor
open Go.RowKit

set_option maxRecDepth 100000 in
set_option maxHeartbeats 16000000 in
theorem create_any (A : Nat) (l : List KT) (w : World) (h : RdIs A l w) : Calls Tryz.prog 89 #[.pointer (some ⟨A, 0, none⟩)] w fun e w' => ToldT A (createF l) w e w' := by
  skip
  obtain ⟨W1, hW1⟩ : ∃ W, (w.alloc (.cells #[.pointer (some ⟨A, 0, none⟩)] 104)).alloc (.cells #[.int .i64 0, .string ⟨#[]⟩, .string ⟨#[]⟩, .slice none 0 0, .string ⟨#[]⟩, .slice none 0 0, .slice none 0 0, .pointer none, .pointer none, .slice none 0 0, .pointer none, .slice none 0 0, .int .i64 0] 30) = W := ⟨_, rfl⟩
  have hb1 : Below w.heap.size w W1 := by rw [← hW1]; exact ((Below.refl _ _).alloc (Nat.le_refl _) _).alloc (by simp) _
  have hs1 : W1.heap.size = w.heap.size + 2 := by rw [← hW1]; simp
  have hkx : Blk w.heap.size #[.pointer (some ⟨A, 0, none⟩)] 104 W1 := by rw [← hW1]; exact (Blk.new _ _ _).below ((Below.refl _ _).alloc (Nat.le_refl _) _)
  have hk1 : Blk (w.heap.size + 1) svZ.cells 30 W1 := by
    have := Blk.new (w.alloc (.cells #[.pointer (some ⟨A, 0, none⟩)] 104)) #[.int .i64 0, .string ⟨#[]⟩, .string ⟨#[]⟩, .slice none 0 0, .string ⟨#[]⟩, .slice none 0 0, .slice none 0 0, .pointer none, .pointer none, .slice none 0 0, .pointer none, .slice none 0 0, .int .i64 0] 30
    rw [hW1, World.size_alloc] at this
    exact this
  have HB1 : Hid (Blk w.heap.size #[.pointer (some ⟨A, 0, none⟩)] 104 W1 ∧ Blk (w.heap.size + 1) svZ.cells 30 W1 ∧ w.grownBy W1 (some A) ∧ W1.heap.size = w.heap.size + 2 ∧ A < w.heap.size) := ⟨hkx, hk1, grown_of_belowA hb1 _, hs1, h.lt⟩
  have cxW1 : W1.cell? ⟨w.heap.size, 0, none⟩ = some (.pointer (some ⟨A, 0, none⟩)) := by rw [hkx.cell 0]; rfl
  have HW : Hid (RdIs A l W1 ∧ W1.grownBy W1 (some A)) := ⟨h.below hb1, grownA_refl _ _⟩
  obtain ⟨R, hR⟩ : ∃ R, createF l = R := ⟨_, rfl⟩
  have E0 : Hid (R = createF l) := hR.symm
  unfold ToldT
  rw [hR]
  clear h hR hb1 hs1 hk1 hkx
  go_enter Tryz.func89, Tryz.ntmps89
  obtain ⟨b1, hb1⟩ : ∃ b, isT ⟨#[105, 110, 100, 101, 120]⟩ l = b := ⟨_, rfl⟩
  have HS3 : Hid (isT ⟨#[105, 110, 100, 101, 120]⟩ l = b1) := hb1
  clear hb1
  go_wp2_with fail
  refine (has_any A l ⟨#[105, 110, 100, 101, 120]⟩ b1 HS3.out W1 HW.out.1).mono ?_
  rintro _ w2 ⟨rfl, hr, hg⟩
  cases b1
  · have H4 : Hid (RdIs A l w2 ∧ W1.grownBy w2 (some A)) := ⟨hr, HW.out.2.trans hg⟩
    have E6 : Hid (R = (needF ⟨#[116, 97, 98, 108, 101]⟩ l).bind fun l1 => (nameF l1).bind fun a => (insideF (listF colmF) a.2).map fun b => ({ ofS 1 a.1 with cols := b.1 }, b.2)) := by show _ = _; rw [E0.out]; unfold createF; rw [if_neg (by rw [HS3.out]; decide)]
    have cxw2 : w2.cell? ⟨w.heap.size, 0, none⟩ = some (.pointer (some ⟨A, 0, none⟩)) := by rw [(HB1.out.1.keep (by have := HB1.out.2.2.2.2; omega) H4.out.2).cell 0]; rfl
    clear hr hg
    go_wp2_with fail
    refine (need_any A l ⟨#[116, 97, 98, 108, 101]⟩ w2 H4.out.1).mono ?_
    rintro _ w8 ⟨hg, ⟨l9, hn, rfl, hr⟩ | ⟨hn, n1, m1, rfl⟩⟩
    · have H10 : Hid (RdIs A l9 w8 ∧ W1.grownBy w8 (some A)) := ⟨hr, H4.out.2.trans hg⟩
      have E11 : Hid (R = (nameF l9).bind fun a => (insideF (listF colmF) a.2).map fun b => ({ ofS 1 a.1 with cols := b.1 }, b.2)) := by show _ = _; rw [E6.out, hn]; first | rw [Option.bind_some] | rw [Option.map_some]
      have cxw8 : w8.cell? ⟨w.heap.size, 0, none⟩ = some (.pointer (some ⟨A, 0, none⟩)) := by rw [(HB1.out.1.keep (by have := HB1.out.2.2.2.2; omega) H10.out.2).cell 0]; rfl
      clear hg hn hr
      go_wp2_with fail
      refine (name_any A l9 w8 H10.out.1).mono ?_
      rintro _ w12 ⟨hg, ⟨nm14, l13, hn, rfl, hr, hz15⟩ | ⟨hn, n1, m1, rfl⟩⟩
      · have H16 : Hid (RdIs A l13 w12 ∧ W1.grownBy w12 (some A)) := ⟨hr, H10.out.2.trans hg⟩
        have E17 : Hid (R = (insideF (listF colmF) l13).map fun b => ({ ofS 1 nm14 with cols := b.1 }, b.2)) := by show _ = _; rw [E11.out, hn]; first | rw [Option.bind_some] | rw [Option.map_some]
        have cxw12 : w12.cell? ⟨w.heap.size, 0, none⟩ = some (.pointer (some ⟨A, 0, none⟩)) := by rw [(HB1.out.1.keep (by have := HB1.out.2.2.2.2; omega) H16.out.2).cell 0]; rfl
        clear hg hn hr
        go_wp2_with fail
        refine (of_any 1 nm14 w12).mono ?_
        rintro _ w18 ⟨rfl, hb⟩
        have hkA : Blk w18.heap.size svZ.cells 30 (w18.alloc (.cells #[.int .i64 0, .string ⟨#[]⟩, .string ⟨#[]⟩, .slice none 0 0, .string ⟨#[]⟩, .slice none 0 0, .slice none 0 0, .pointer none, .pointer none, .slice none 0 0, .pointer none, .slice none 0 0, .int .i64 0] 30)) := Blk.new _ _ _
        have HKA : Hid (Blk w18.heap.size svZ.cells 30 (w18.alloc (.cells #[.int .i64 0, .string ⟨#[]⟩, .string ⟨#[]⟩, .slice none 0 0, .string ⟨#[]⟩, .slice none 0 0, .slice none 0 0, .pointer none, .pointer none, .slice none 0 0, .pointer none, .slice none 0 0, .int .i64 0] 30))) := hkA
        obtain ⟨V19, hV19⟩ : ∃ V, (w18.alloc (.cells #[.int .i64 0, .string ⟨#[]⟩, .string ⟨#[]⟩, .slice none 0 0, .string ⟨#[]⟩, .slice none 0 0, .slice none 0 0, .pointer none, .pointer none, .slice none 0 0, .pointer none, .slice none 0 0, .int .i64 0] 30)).setCells w18.heap.size 0 (svOf 1 nm14).cells.toList = V := ⟨_, rfl⟩
        have hgV : w18.grownBy V19 (some A) := by rw [← hV19]; exact grown_sets _ 0 (grown_alloc _ _ _) (Nat.le_refl _)
        have H20 : Hid (SI A w18.heap.size W1 (ofS 1 nm14) l13 V19) := by
          refine ⟨?_, (H16.out.2.trans (grown_of_belowA hb _)).trans hgV, ⟨svOf 1 nm14, ?_, svis_of _ _ _ _⟩, by have := HB1.out.2.2.2; omega, by have h1 := (H16.out.2.trans (grown_of_belowA hb (some A))).size; exact h1⟩
          · rw [← hV19]
            exact RdIs.setsN _ 0 ((H16.out.1.below hb).below ((Below.refl _ _).alloc (Nat.le_refl _) _)) ((H16.out.1.below hb).lt)
          · rw [← hV19]
            exact hkA.stored
        have cxV19 : V19.cell? ⟨w.heap.size, 0, none⟩ = some (.pointer (some ⟨A, 0, none⟩)) := by rw [(HB1.out.1.keep (by have := HB1.out.2.2.2.2; omega) H20.out.gr).cell 0]; rfl
        clear hb hkA hgV
        go_wp2_with (refine wpList_store_mid rfl 30 _ _ rfl _ 0 (svOf 1 nm14).cells rfl rfl (HKA.out.there rfl) (s30 _) (svOf_rows 1 nm14).one ?_; rw [hV19])
        clear HKA
        obtain ⟨sv26, hA1, hA2⟩ := H20.out.acc_cols (x := w.heap.size) rfl (HB1.out.1.keep (by have := HB1.out.2.2.2; omega) H20.out.gr) (by have := HB1.out.2.2.2; omega) (by have h1 := HB1.out.2.2.2; have h2 := H20.out.S0; omega)
        have HA : Hid (_ ∧ _) := ⟨hA1, hA2⟩
        clear hA1 hA2
        go_wp2_with fail
        refine (in_cc HA.out.2 HA.out.1).mono ?_
        rintro _ w21 (⟨L23, l22, hn, rfl, ha⟩ | ⟨hn, ⟨n1, m1, rfl⟩, hg⟩)
        · have H24 : Hid (SI A w18.heap.size W1 { (ofS 1 nm14) with cols := L23 } l22 w21) := SI.of_cols ha (inside_ne hn)
          have E25 : Hid (R = some ({ ofS 1 nm14 with cols := L23 }, l22)) := by show _ = _; rw [E17.out, hn]; first | rw [Option.bind_some] | rw [Option.map_some]
          have cxw21 : w21.cell? ⟨w.heap.size, 0, none⟩ = some (.pointer (some ⟨A, 0, none⟩)) := by rw [(HB1.out.1.keep (by have := HB1.out.2.2.2.2; omega) H24.out.gr).cell 0]; rfl
          clear hn ha HA
          obtain ⟨sv, hk, hv⟩ := H24.out.st
          have HK : Hid (Blk w18.heap.size sv.cells 30 w21 ∧ Blk (w.heap.size + 1) svZ.cells 30 w21 ∧ SVIs W1.heap.size sv { (ofS 1 nm14) with cols := L23 } w21) := ⟨hk, HB1.out.2.1.keep (by have := HB1.out.2.2.2; omega) H24.out.gr, hv⟩
          clear hk hv
          go_wp2_with (first | (refine wpList_load_mid rfl 30 _ rfl _ 0 rfl sv.cells.toList _ HK.out.1.range Tryz.underlying30 rfl (s30 sv) ?_) | (refine wpList_store_mid rfl 30 _ _ rfl _ 0 sv.cells rfl rfl (HK.out.2.1.there rfl) (s30 _) (HK.out.2.2.rowsOk).one ?_))
          refine bodyPost_ret (v := .agg sv.cells) (results_c Tryz.results89 _ _ _ rfl (load30 HK.out.2.1.stored)) rfl ?_
          refine ⟨grown_sets _ 0 (HB1.out.2.2.1.trans H24.out.gr) (by omega), .inl ⟨_, _, sv, E25.out, rfl, ?_, RdIs.setsN _ 0 H24.out.rd (by have := HB1.out.2.2.2; omega)⟩⟩
          exact (HK.out.2.2.st (by have := HB1.out.2.2.2; omega) (fr_sets _ 0 HK.out.2.1)).low (by have := HB1.out.2.2.2; omega)
        · have HG : Hid (w.grownBy w21 (some A) ∧ R = none) := ⟨HB1.out.2.2.1.trans hg, by rw [E17.out, hn]; rfl⟩
          clear hg hn
          go_wp2
          exact ⟨by first | rfl | trivial, HG.out.1, .inr ⟨HG.out.2, n1, m1, rfl⟩⟩
      · have HG : Hid (w.grownBy w12 (some A) ∧ R = none) := ⟨HB1.out.2.2.1.trans (H10.out.2.trans hg), by rw [E11.out, hn]; rfl⟩
        clear hg hn
        go_wp2
        exact ⟨by first | rfl | trivial, HG.out.1, .inr ⟨HG.out.2, n1, m1, rfl⟩⟩
    · have HG : Hid (w.grownBy w8 (some A) ∧ R = none) := ⟨HB1.out.2.2.1.trans (H4.out.2.trans hg), by rw [E6.out, hn]; rfl⟩
      clear hg hn
      go_wp2
      exact ⟨by first | rfl | trivial, HG.out.1, .inr ⟨HG.out.2, n1, m1, rfl⟩⟩
  · have H5 : Hid (RdIs A l.tail w2 ∧ W1.grownBy w2 (some A)) := ⟨hr, HW.out.2.trans hg⟩
    have E7 : Hid (R = (needF ⟨#[111, 110]⟩ l.tail).bind fun l1 => (nameF l1).bind fun a => (insideF nameF a.2).map fun b => ({ ofS 2 a.1 with name := b.1 }, b.2)) := by show _ = _; rw [E0.out]; unfold createF; rw [if_pos HS3.out]
    have cxw2 : w2.cell? ⟨w.heap.size, 0, none⟩ = some (.pointer (some ⟨A, 0, none⟩)) := by rw [(HB1.out.1.keep (by have := HB1.out.2.2.2.2; omega) H5.out.2).cell 0]; rfl
    clear hr hg
    go_wp2_with fail
    refine (need_any A l.tail ⟨#[111, 110]⟩ w2 H5.out.1).mono ?_
    rintro _ w27 ⟨hg, ⟨l28, hn, rfl, hr⟩ | ⟨hn, n1, m1, rfl⟩⟩
    · have H29 : Hid (RdIs A l28 w27 ∧ W1.grownBy w27 (some A)) := ⟨hr, H5.out.2.trans hg⟩
      have E30 : Hid (R = (nameF l28).bind fun a => (insideF nameF a.2).map fun b => ({ ofS 2 a.1 with name := b.1 }, b.2)) := by show _ = _; rw [E7.out, hn]; first | rw [Option.bind_some] | rw [Option.map_some]
      have cxw27 : w27.cell? ⟨w.heap.size, 0, none⟩ = some (.pointer (some ⟨A, 0, none⟩)) := by rw [(HB1.out.1.keep (by have := HB1.out.2.2.2.2; omega) H29.out.2).cell 0]; rfl
      clear hg hn hr
      go_wp2_with fail
      refine (name_any A l28 w27 H29.out.1).mono ?_
      rintro _ w31 ⟨hg, ⟨nm33, l32, hn, rfl, hr, hz34⟩ | ⟨hn, n1, m1, rfl⟩⟩
      · have H35 : Hid (RdIs A l32 w31 ∧ W1.grownBy w31 (some A)) := ⟨hr, H29.out.2.trans hg⟩
        have E36 : Hid (R = (insideF nameF l32).map fun b => ({ ofS 2 nm33 with name := b.1 }, b.2)) := by show _ = _; rw [E30.out, hn]; first | rw [Option.bind_some] | rw [Option.map_some]
        have cxw31 : w31.cell? ⟨w.heap.size, 0, none⟩ = some (.pointer (some ⟨A, 0, none⟩)) := by rw [(HB1.out.1.keep (by have := HB1.out.2.2.2.2; omega) H35.out.2).cell 0]; rfl
        clear hg hn hr
        go_wp2_with fail
        refine (of_any 2 nm33 w31).mono ?_
        rintro _ w37 ⟨rfl, hb⟩
        have hkA : Blk w37.heap.size svZ.cells 30 (w37.alloc (.cells #[.int .i64 0, .string ⟨#[]⟩, .string ⟨#[]⟩, .slice none 0 0, .string ⟨#[]⟩, .slice none 0 0, .slice none 0 0, .pointer none, .pointer none, .slice none 0 0, .pointer none, .slice none 0 0, .int .i64 0] 30)) := Blk.new _ _ _
        have HKA : Hid (Blk w37.heap.size svZ.cells 30 (w37.alloc (.cells #[.int .i64 0, .string ⟨#[]⟩, .string ⟨#[]⟩, .slice none 0 0, .string ⟨#[]⟩, .slice none 0 0, .slice none 0 0, .pointer none, .pointer none, .slice none 0 0, .pointer none, .slice none 0 0, .int .i64 0] 30))) := hkA
        obtain ⟨V38, hV38⟩ : ∃ V, (w37.alloc (.cells #[.int .i64 0, .string ⟨#[]⟩, .string ⟨#[]⟩, .slice none 0 0, .string ⟨#[]⟩, .slice none 0 0, .slice none 0 0, .pointer none, .pointer none, .slice none 0 0, .pointer none, .slice none 0 0, .int .i64 0] 30)).setCells w37.heap.size 0 (svOf 2 nm33).cells.toList = V := ⟨_, rfl⟩
        have hgV : w37.grownBy V38 (some A) := by rw [← hV38]; exact grown_sets _ 0 (grown_alloc _ _ _) (Nat.le_refl _)
        have H39 : Hid (SI A w37.heap.size W1 (ofS 2 nm33) l32 V38) := by
          refine ⟨?_, (H35.out.2.trans (grown_of_belowA hb _)).trans hgV, ⟨svOf 2 nm33, ?_, svis_of _ _ _ _⟩, by have := HB1.out.2.2.2; omega, by have h1 := (H35.out.2.trans (grown_of_belowA hb (some A))).size; exact h1⟩
          · rw [← hV38]
            exact RdIs.setsN _ 0 ((H35.out.1.below hb).below ((Below.refl _ _).alloc (Nat.le_refl _) _)) ((H35.out.1.below hb).lt)
          · rw [← hV38]
            exact hkA.stored
        have cxV38 : V38.cell? ⟨w.heap.size, 0, none⟩ = some (.pointer (some ⟨A, 0, none⟩)) := by rw [(HB1.out.1.keep (by have := HB1.out.2.2.2.2; omega) H39.out.gr).cell 0]; rfl
        clear hb hkA hgV
        go_wp2_with (refine wpList_store_mid rfl 30 _ _ rfl _ 0 (svOf 2 nm33).cells rfl rfl (HKA.out.there rfl) (s30 _) (svOf_rows 2 nm33).one ?_; rw [hV38])
        clear HKA
        have HP : Hid (PreN A w37.heap.size w.heap.size W1 (ofS 2 nm33) l32 V38) := ⟨H39.out, HB1.out.1.keep (by have := HB1.out.2.2.2; omega) H39.out.gr, by have := HB1.out.2.2.2; omega⟩
        go_wp2_with fail
        refine (in_ci HP.out).mono ?_
        rintro _ w40 (⟨nm42, l41, hn, rfl, ha⟩ | ⟨hn, ⟨n1, m1, rfl⟩, hg⟩)
        · have H43 : Hid (SI A w37.heap.size W1 { (ofS 2 nm33) with name := nm42 } l41 w40) := ha
          have E44 : Hid (R = some ({ ofS 2 nm33 with name := nm42 }, l41)) := by show _ = _; rw [E36.out, hn]; first | rw [Option.bind_some] | rw [Option.map_some]
          clear hn ha
          obtain ⟨sv, hk, hv⟩ := H43.out.st
          have HK : Hid (Blk w37.heap.size sv.cells 30 w40 ∧ Blk (w.heap.size + 1) svZ.cells 30 w40 ∧ SVIs W1.heap.size sv { (ofS 2 nm33) with name := nm42 } w40) := ⟨hk, HB1.out.2.1.keep (by have := HB1.out.2.2.2; omega) H43.out.gr, hv⟩
          clear hk hv
          go_wp2_with (first | (refine wpList_load_mid rfl 30 _ rfl _ 0 rfl sv.cells.toList _ HK.out.1.range Tryz.underlying30 rfl (s30 sv) ?_) | (refine wpList_store_mid rfl 30 _ _ rfl _ 0 sv.cells rfl rfl (HK.out.2.1.there rfl) (s30 _) (HK.out.2.2.rowsOk).one ?_))
          refine bodyPost_ret (v := .agg sv.cells) (results_c Tryz.results89 _ _ _ rfl (load30 HK.out.2.1.stored)) rfl ?_
          refine ⟨grown_sets _ 0 (HB1.out.2.2.1.trans H43.out.gr) (by omega), .inl ⟨_, _, sv, E44.out, rfl, ?_, RdIs.setsN _ 0 H43.out.rd (by have := HB1.out.2.2.2; omega)⟩⟩
          exact (HK.out.2.2.st (by have := HB1.out.2.2.2; omega) (fr_sets _ 0 HK.out.2.1)).low (by have := HB1.out.2.2.2; omega)
        · have HG : Hid (w.grownBy w40 (some A) ∧ R = none) := ⟨HB1.out.2.2.1.trans hg, by rw [E36.out, hn]; rfl⟩
          clear hg hn
          go_wp2
          exact ⟨by first | rfl | trivial, HG.out.1, .inr ⟨HG.out.2, n1, m1, rfl⟩⟩
      · have HG : Hid (w.grownBy w31 (some A) ∧ R = none) := ⟨HB1.out.2.2.1.trans (H29.out.2.trans hg), by rw [E30.out, hn]; rfl⟩
        clear hg hn
        go_wp2
        exact ⟨by first | rfl | trivial, HG.out.1, .inr ⟨HG.out.2, n1, m1, rfl⟩⟩
    · have HG : Hid (w.grownBy w27 (some A) ∧ R = none) := ⟨HB1.out.2.2.1.trans (H5.out.2.trans hg), by rw [E7.out, hn]; rfl⟩
      clear hg hn
      go_wp2
      exact ⟨by first | rfl | trivial, HG.out.1, .inr ⟨HG.out.2, n1, m1, rfl⟩⟩
end Go.Proofs.YtbdcbaamjkjhaaaGreatDoor
namespace Go.Proofs.YtbdcbaamjkjhaaaGreatDoor
open Go.RowKit

def ToldI (A : Nat) (R : Option ((Int × Ex) × List KT)) (w : World) (e : Ending) (w' : World) : Prop :=
  w.grownBy w' (some A) ∧ ((∃ x l p, R = some (x, l) ∧ e = .returned (.agg #[.int .i64 x.1, .pointer p]) ∧ ExIs (w.heap.size - 1) w' p x.2 ∧ RdIs A l w') ∨ (R = none ∧ Thr e))
def PreI (A x X : Nat) (k : Int) (w0 : World) (l : List KT) (w : World) : Prop := RdIs A l w ∧ w0.grownBy w (some A) ∧ Blk x #[.pointer (some ⟨A, 0, none⟩)] 104 w ∧ Blk X #[.int .i64 k, .pointer none] 148 w ∧ (x ≠ A ∧ w0.heap.size ≤ X ∧ A < w0.heap.size)
def InvI (A X : Nat) (k : Int) (w0 : World) (a : Ex) (l : List KT) (w : World) : Prop := RdIs A l w ∧ w0.grownBy w (some A) ∧ (w0.heap.size ≤ X ∧ A < w0.heap.size) ∧ ∃ p, Blk X #[.int .i64 k, .pointer p] 148 w ∧ ExIs (w0.heap.size - 1) w p a
set_option maxRecDepth 100000 in
set_option maxHeartbeats 4000000 in
theorem item1_any (hE : ESpec Ef 0) (A x X : Nat) (k : Int) (w0 : World) (l : List KT) (w : World) (h : PreI A x X k w0 l w) : Calls Tryz.prog 150 #[.pointer (some ⟨X, 0, none⟩), .pointer (some ⟨x, 0, none⟩)] w fun e w' =>
    (∃ a l2, itemI k l = some (a, l2) ∧ e = .returned (.tuple #[]) ∧ InvI A X k w0 a l2 w') ∨ (itemI k l = none ∧ Thr e ∧ w0.grownBy w' (some A)) := by
  have HE : Hid (ESpec Ef 0) := hE
  have H : Hid (PreI A x X k w0 l w) := h
  have c0 : w.cell? ⟨X, 0, none⟩ = some (.int .i64 k) := by rw [h.2.2.2.1.cell 0]; rfl
  have cx : w.cell? ⟨x, 0, none⟩ = some (.pointer (some ⟨A, 0, none⟩)) := by rw [h.2.2.1.cell 0]; rfl
  obtain ⟨R, hR⟩ : ∃ R, itemI k l = R := ⟨_, rfl⟩
  have HR : Hid (itemI k l = R) := hR
  rw [hR]
  have hXA : X ≠ A := by have h1 := h.2.2.2.2.2.1; have h2 := h.2.2.2.2.2.2; omega
  have hAX : A < X := by have h1 := h.2.2.2.2.2.1; have h2 := h.2.2.2.2.2.2; omega
  clear hE h hR
  by_cases hk1 : k = 1
  · subst hk1
    obtain ⟨b, hb⟩ : ∃ b, isT ⟨#[42]⟩ l = b := ⟨_, rfl⟩
    have HS : Hid (isT ⟨#[42]⟩ l = b) := hb
    clear hb
    go_enter Tryz.func150, Tryz.ntmps150
    go_wp2_with fail
    refine (has_any A l ⟨#[42]⟩ b HS.out w H.out.1).mono ?_
    rintro _ w1 ⟨rfl, hr1, hg1⟩
    have kx := H.out.2.2.1.keep H.out.2.2.2.2.1 hg1
    have H1 : Hid (RdIs A (if b then l.tail else l) w1 ∧ w0.grownBy w1 (some A) ∧ Blk X #[.int .i64 1, .pointer none] 148 w1) := ⟨hr1, H.out.2.1.trans hg1, H.out.2.2.2.1.keep hXA hg1⟩
    have cx1 : w1.cell? ⟨x, 0, none⟩ = some (.pointer (some ⟨A, 0, none⟩)) := by rw [kx.cell 0]; rfl
    clear hr1 hg1 kx c0 cx
    cases b
    · have HR1 : Hid (Ef l = R) := by show _ = _; rw [← HR.out]; unfold itemI; rw [if_neg (by rw [HS.out]; simp)]
      go_wp2_with fail
      refine (HE.out A l w1 H1.out.1).mono ?_
      rintro _ w2 ⟨hg2, ⟨e, l2, p, hs2, rfl, hx2, hr2⟩ | ⟨hs2, n1, m1, rfl⟩⟩
      · have k2 := H1.out.2.2.keep hXA hg2
        have q1 : w2.cell? ⟨X, 1, none⟩ = some (.pointer none) := by rw [k2.cell 1]; rfl
        have f1 := k2.free 1
        have H2 : Hid (R = some (e, l2) ∧ InvI A X 1 w0 e l2 (w2.setCell ⟨X, 1, none⟩ (.pointer p))) := by
          refine ⟨by rw [← HR1.out]; exact hs2, hr2.set hAX 1 _, grown_new (H1.out.2.1.trans hg2) H.out.2.2.2.2.2.1 1 _, H.out.2.2.2.2.2, p, k2.set 1 _, ?_⟩
          exact ExIs.setB k2 (by decide) 1 _ (hx2.mono (by have := H1.out.2.1.size; omega))
        clear hs2 hx2 hr2 hg2 k2
        go_wp2
        go_end0
        exact .inl ⟨_, _, H2.out.1, rfl, H2.out.2⟩
      · have H2 : Hid (R = none ∧ w0.grownBy w2 (some A)) := ⟨by rw [← HR1.out]; exact hs2, H1.out.2.1.trans hg2⟩
        clear hs2 hg2
        go_wp2
        exact ⟨by first | rfl | trivial, .inr ⟨H2.out.1, ⟨n1, m1, rfl⟩, H2.out.2⟩⟩
    · have HR1 : Hid (R = some (.nil, l.tail)) := by show _ = _; rw [← HR.out]; unfold itemI; rw [if_pos ⟨by first | rfl | trivial, HS.out⟩]
      go_wp2
      go_end0
      exact .inl ⟨_, _, HR1.out, rfl, H1.out.1, H1.out.2.1, H.out.2.2.2.2.2, none, H1.out.2.2, rfl⟩
  · have d1 : (k != 1) = true := by simpa using hk1
    have HR1 : Hid (Ef l = R) := by show _ = _; rw [← HR.out]; unfold itemI; rw [if_neg (fun h => hk1 h.1)]
    have H1 : Hid (RdIs A l w ∧ w0.grownBy w (some A) ∧ Blk X #[.int .i64 k, .pointer none] 148 w) := ⟨H.out.1, H.out.2.1, H.out.2.2.2.1⟩
    clear hk1
    go_enter Tryz.func150, Tryz.ntmps150
    go_wp2_with fail
    refine (HE.out A l w H1.out.1).mono ?_
    rintro _ w2 ⟨hg2, ⟨e, l2, p, hs2, rfl, hx2, hr2⟩ | ⟨hs2, n1, m1, rfl⟩⟩
    · have k2 := H1.out.2.2.keep hXA hg2
      have q1 : w2.cell? ⟨X, 1, none⟩ = some (.pointer none) := by rw [k2.cell 1]; rfl
      have f1 := k2.free 1
      have H2 : Hid (R = some (e, l2) ∧ InvI A X k w0 e l2 (w2.setCell ⟨X, 1, none⟩ (.pointer p))) := by
        refine ⟨by rw [← HR1.out]; exact hs2, hr2.set hAX 1 _, grown_new (H1.out.2.1.trans hg2) H.out.2.2.2.2.2.1 1 _, H.out.2.2.2.2.2, p, k2.set 1 _, ?_⟩
        exact ExIs.setB k2 (by decide) 1 _ (hx2.mono (by have := H1.out.2.1.size; omega))
      clear hs2 hx2 hr2 hg2 k2
      go_wp2
      go_end0
      exact .inl ⟨_, _, H2.out.1, rfl, H2.out.2⟩
    · have H2 : Hid (R = none ∧ w0.grownBy w2 (some A)) := ⟨by rw [← HR1.out]; exact hs2, H1.out.2.1.trans hg2⟩
      clear hs2 hg2
      go_wp2
      exact ⟨by first | rfl | trivial, .inr ⟨H2.out.1, ⟨n1, m1, rfl⟩, H2.out.2⟩⟩
theorem inI_any (hE : ESpec Ef 0) (A x X : Nat) (k : Int) (w0 : World) (l : List KT) (w : World) (h : PreI A x X k w0 l w) :
    Calls Tryz.prog 116 #[.pointer (some ⟨A, 0, none⟩), .func (.func 150) #[] #[.pointer (some ⟨X, 0, none⟩), .pointer (some ⟨x, 0, none⟩)]] w fun e w' =>
      (∃ a l2, insideF (itemI k) l = some (a, l2) ∧ e = .returned (.tuple #[]) ∧ InvI A X k w0 a l2 w') ∨ (insideF (itemI k) l = none ∧ Thr e ∧ w0.grownBy w' (some A)) := by
  refine inside_i A _ _ (PreI A x X k w0) (InvI A X k w0) (fun w' => w0.grownBy w' (some A)) (fun l w h => h.1) ?_ (fun a l w h => h.1) ?_ (fun l w w1 h hg => h.2.1.trans hg) (fun a l w w1 h hg => h.2.1.trans hg) (fun l w h => item1_any hE A x X k w0 l w h) l w h
  · intro l l1 w w1 h hr hg _
    exact ⟨hr, h.2.1.trans hg, h.2.2.1.keep h.2.2.2.2.1 hg, h.2.2.2.1.keep (by have h1 := h.2.2.2.2.2.1; have h2 := h.2.2.2.2.2.2; omega) hg, h.2.2.2.2⟩
  · rintro a l l1 w w1 ⟨h1, h2, h3, p, h4, h5⟩ hr hg _
    exact ⟨hr, h2.trans hg, h3, p, h4.keep (by omega) hg, ExIs.grownN (by omega) hg h5⟩
theorem item_agg {l : List KT} {s : ByteArray × Int} (h : aggL.find? (fun s => isT s.1 l) = some s) : itemF l = (insideF (itemI s.2) l.tail).map fun x => ((s.2, x.1), x.2) := by unfold itemF; rw [h]
theorem item_none {l : List KT} (h : aggL.find? (fun s => isT s.1 l) = none) : itemF l = (Ef l).map fun x => ((0, x.1), x.2) := by unfold itemF; rw [h]
set_option maxRecDepth 100000 in
set_option maxHeartbeats 16000000 in
theorem item_any (hE : ESpec Ef 0) (A : Nat) (l : List KT) (w : World) (h : RdIs A l w) : Calls Tryz.prog 130 #[.pointer (some ⟨A, 0, none⟩)] w fun e w' => ToldI A (itemF l) w e w' := by
  have HE : Hid (ESpec Ef 0) := hE
  obtain ⟨W1, hW1⟩ : ∃ W, W = (w.alloc (.cells #[.pointer (some ⟨A, 0, none⟩)] 104)).alloc (.cells #[.int .i64 0, .pointer none] 148) := ⟨_, rfl⟩
  have hb1 : Below w.heap.size w W1 := by rw [hW1]; exact ((Below.refl _ _).alloc (Nat.le_refl _) _).alloc (by simp) _
  have hs1 : W1.heap.size = w.heap.size + 2 := by rw [hW1]; simp
  have hkx : Blk w.heap.size #[.pointer (some ⟨A, 0, none⟩)] 104 W1 := by rw [hW1]; exact (Blk.new _ _ _).below ((Below.refl _ _).alloc (Nat.le_refl _) _)
  have hk1 : Blk (w.heap.size + 1) #[.int .i64 0, .pointer none] 148 W1 := by
    have := Blk.new (w.alloc (.cells #[.pointer (some ⟨A, 0, none⟩)] 104)) #[.int .i64 0, .pointer none] 148
    rw [← hW1, World.size_alloc] at this
    exact this
  have HB1 : Hid (Blk w.heap.size #[.pointer (some ⟨A, 0, none⟩)] 104 W1 ∧ Blk (w.heap.size + 1) #[.int .i64 0, .pointer none] 148 W1 ∧ w.grownBy W1 (some A) ∧ W1.heap.size = w.heap.size + 2) := ⟨hkx, hk1, grown_of_belowA hb1 _, hs1⟩
  obtain ⟨W, hW⟩ : ∃ W, W = W1.alloc (.cells #[.int .i64 0, .pointer none] 148) := ⟨_, rfl⟩
  have hbW : Below W1.heap.size W1 W := by rw [hW]; exact (Below.refl _ _).alloc (Nat.le_refl _) _
  have hA := h.lt
  have HW : Hid (RdIs A l W ∧ W1.grownBy W (some A) ∧ Blk (w.heap.size + 2) #[.int .i64 0, .pointer none] 148 W) := ⟨(h.below hb1).below hbW, grown_of_belowA hbW _, by rw [hW, ← hs1]; exact Blk.new _ _ _⟩
  have HWe : Hid (W = ((w.alloc (.cells #[.pointer (some ⟨A, 0, none⟩)] 104)).alloc (.cells #[.int .i64 0, .pointer none] 148)).alloc (.cells #[.int .i64 0, .pointer none] 148)) := by show _ = _; rw [hW, hW1]
  have cx : W.cell? ⟨w.heap.size, 0, none⟩ = some (.pointer (some ⟨A, 0, none⟩)) := by rw [(hkx.below hbW).cell 0]; rfl
  obtain ⟨q0', hq0⟩ : ∃ q0, w.heap.size - 1 = q0 := ⟨_, rfl⟩
  have HQe : Hid (w.heap.size - 1 = q0') := hq0
  obtain ⟨R, hR⟩ : ∃ R, itemF l = R := ⟨_, rfl⟩
  have HR : Hid (itemF l = R) := hR
  unfold ToldI
  rw [hR, hq0]
  clear h hE hR hq0 hbW hb1 hs1 hkx hk1 hW hW1
  go_enter Tryz.func130, Tryz.ntmps130
  obtain ⟨b0, hb0⟩ : ∃ b, isT ⟨#[99, 111, 117, 110, 116]⟩ l = b := ⟨_, rfl⟩
  have HS0 : Hid (isT ⟨#[99, 111, 117, 110, 116]⟩ l = b0) := hb0
  clear hb0
  go_wp2_with fail
  rw [← HWe.out]
  refine (has_any A l ⟨#[99, 111, 117, 110, 116]⟩ b0 HS0.out W HW.out.1).mono ?_
  rintro _ w1 ⟨rfl, hr0, hg0⟩
  have K0 : Hid (RdIs A (if b0 then l.tail else l) w1 ∧ W1.grownBy w1 (some A) ∧ Blk (w.heap.size + 2) #[.int .i64 0, .pointer none] 148 w1) := ⟨hr0, HW.out.2.1.trans hg0, HW.out.2.2.keep (by omega) hg0⟩
  have cx0 : w1.cell? ⟨w.heap.size, 0, none⟩ = some (.pointer (some ⟨A, 0, none⟩)) := by rw [(HB1.out.1.keep (by omega) K0.out.2.1).cell 0]; rfl
  clear hr0 hg0 cx
  cases b0
  · skip
    obtain ⟨b1, hb1⟩ : ∃ b, isT ⟨#[115, 117, 109]⟩ l = b := ⟨_, rfl⟩
    have HS1 : Hid (isT ⟨#[115, 117, 109]⟩ l = b1) := hb1
    clear hb1
    go_wp2_with fail
    skip
    refine (has_any A l ⟨#[115, 117, 109]⟩ b1 HS1.out w1 K0.out.1).mono ?_
    rintro _ w2 ⟨rfl, hr1, hg1⟩
    have K1 : Hid (RdIs A (if b1 then l.tail else l) w2 ∧ W1.grownBy w2 (some A) ∧ Blk (w.heap.size + 2) #[.int .i64 0, .pointer none] 148 w2) := ⟨hr1, K0.out.2.1.trans hg1, K0.out.2.2.keep (by omega) hg1⟩
    have cx1 : w2.cell? ⟨w.heap.size, 0, none⟩ = some (.pointer (some ⟨A, 0, none⟩)) := by rw [(HB1.out.1.keep (by omega) K1.out.2.1).cell 0]; rfl
    clear hr1 hg1 cx0
    cases b1
    · skip
      obtain ⟨b2, hb2⟩ : ∃ b, isT ⟨#[109, 105, 110]⟩ l = b := ⟨_, rfl⟩
      have HS2 : Hid (isT ⟨#[109, 105, 110]⟩ l = b2) := hb2
      clear hb2
      go_wp2_with fail
      skip
      refine (has_any A l ⟨#[109, 105, 110]⟩ b2 HS2.out w2 K1.out.1).mono ?_
      rintro _ w3 ⟨rfl, hr2, hg2⟩
      have K2 : Hid (RdIs A (if b2 then l.tail else l) w3 ∧ W1.grownBy w3 (some A) ∧ Blk (w.heap.size + 2) #[.int .i64 0, .pointer none] 148 w3) := ⟨hr2, K1.out.2.1.trans hg2, K1.out.2.2.keep (by omega) hg2⟩
      have cx2 : w3.cell? ⟨w.heap.size, 0, none⟩ = some (.pointer (some ⟨A, 0, none⟩)) := by rw [(HB1.out.1.keep (by omega) K2.out.2.1).cell 0]; rfl
      clear hr2 hg2 cx1
      cases b2
      · skip
        obtain ⟨b3, hb3⟩ : ∃ b, isT ⟨#[109, 97, 120]⟩ l = b := ⟨_, rfl⟩
        have HS3 : Hid (isT ⟨#[109, 97, 120]⟩ l = b3) := hb3
        clear hb3
        go_wp2_with fail
        skip
        refine (has_any A l ⟨#[109, 97, 120]⟩ b3 HS3.out w3 K2.out.1).mono ?_
        rintro _ w4 ⟨rfl, hr3, hg3⟩
        have K3 : Hid (RdIs A (if b3 then l.tail else l) w4 ∧ W1.grownBy w4 (some A) ∧ Blk (w.heap.size + 2) #[.int .i64 0, .pointer none] 148 w4) := ⟨hr3, K2.out.2.1.trans hg3, K2.out.2.2.keep (by omega) hg3⟩
        have cx3 : w4.cell? ⟨w.heap.size, 0, none⟩ = some (.pointer (some ⟨A, 0, none⟩)) := by rw [(HB1.out.1.keep (by omega) K3.out.2.1).cell 0]; rfl
        clear hr3 hg3 cx2
        cases b3
        · skip
          have HRp : Hid (R = (Ef l).map fun x => ((0, x.1), x.2)) := by
            show _ = _
            rw [← HR.out]
            exact item_none (by simp [aggL, HS0.out, HS1.out, HS2.out, HS3.out])
          go_wp2_with fail
          refine (HE.out A l w4 K3.out.1).mono ?_
          rintro _ w7 ⟨hg7, ⟨a, l7, p7, hs7, rfl, hx7, hr7⟩ | ⟨hs7, n1, m1, rfl⟩⟩
          · have k0 := HB1.out.2.1.keep (by omega) (K3.out.2.1.trans hg7)
            have a0 : w7.cell? ⟨w.heap.size + 1, 0, none⟩ = some (.int .i64 0) := by rw [k0.cell 0]; rfl
            have a1 : w7.cell? ⟨w.heap.size + 1, 1, none⟩ = some (.pointer none) := by rw [k0.cell 1]; rfl
            have f0 : ∀ i, w7.frozen? ⟨w.heap.size + 1, i, none⟩ = false := fun i => k0.free i
            have HF : Hid (R = some ((0, a), l7) ∧ w.grownBy w7 (some A) ∧ RdIs A l7 w7 ∧ Blk (w.heap.size + 1) #[.int .i64 0, .pointer none] 148 w7 ∧ ExIs q0' w7 p7 a) := ⟨by rw [HRp.out, hs7]; rfl, HB1.out.2.2.1.trans (K3.out.2.1.trans hg7), hr7, k0, hx7.mono (by have h1 := HB1.out.2.2.2; have h2 := HQe.out; have h3 := K3.out.2.1.size; omega)⟩
            clear hs7 hr7 hg7 hx7 k0
            go_wp2
            refine bodyPost_ret (v := .agg #[.int .i64 0, .pointer p7]) (results_c Tryz.results130 _ _ _ rfl ?_) rfl ?_
            · simp [go_sem, a0, a1]
            · have x1 := ExIs.setB HF.out.2.2.2.1 (by decide) 0 (.int .i64 0) HF.out.2.2.2.2
              have x2 := ExIs.setB (HF.out.2.2.2.1.set 0 (.int .i64 0)) (by decide) 1 (.pointer p7) x1
              exact ⟨grown_new (grown_new HF.out.2.1 (by omega) _ _) (by omega) _ _, .inl ⟨_, _, p7, HF.out.1, rfl, x2, (HF.out.2.2.1.set (by omega) _ _).set (by omega) _ _⟩⟩
          · have HG : Hid (w.grownBy w7 (some A) ∧ R = none) := ⟨HB1.out.2.2.1.trans (K3.out.2.1.trans hg7), by rw [HRp.out, hs7]; rfl⟩
            clear hg7 hs7
            go_wp2
            exact ⟨by first | rfl | trivial, HG.out.1, .inr ⟨HG.out.2, n1, m1, rfl⟩⟩
        · skip
          have q0 : w4.cell? ⟨w.heap.size + 2, 0, none⟩ = some (.int .i64 0) := by rw [K3.out.2.2.cell 0]; rfl
          have g0 := K3.out.2.2.free 0
          obtain ⟨wp, hwp⟩ : ∃ wp, w4.setCell ⟨w.heap.size + 2, 0, none⟩ (.int .i64 4) = wp := ⟨_, rfl⟩
          have HP : Hid (PreI A w.heap.size (w.heap.size + 2) 4 W1 l.tail wp) := by
            rw [← hwp]
            exact ⟨K3.out.1.set (by omega) 0 _, grown_new K3.out.2.1 (by rw [HB1.out.2.2.2]; exact Nat.le_refl _) 0 _, (HB1.out.1.keep (by omega) K3.out.2.1).other (by omega) 0 _, K3.out.2.2.set 0 _, by omega, by rw [HB1.out.2.2.2]; exact Nat.le_refl _, by rw [HB1.out.2.2.2]; omega⟩
          have cxp : wp.cell? ⟨w.heap.size, 0, none⟩ = some (.pointer (some ⟨A, 0, none⟩)) := by rw [HP.out.2.2.1.cell 0]; rfl
          have HRp : Hid (R = (insideF (itemI 4) l.tail).map fun x => ((4, x.1), x.2)) := by
            show _ = _
            rw [← HR.out]
            exact item_agg (s := (⟨#[109, 97, 120]⟩, 4)) (by simp [aggL, HS0.out, HS1.out, HS2.out, HS3.out])
          go_wp2_with fail
          refine (inI_any HE.out A w.heap.size (w.heap.size + 2) 4 W1 l.tail wp HP.out).mono ?_
          rintro _ w7 (⟨a, l7, hs7, rfl, hr7, hg7, _, p7, hk7, hx7⟩ | ⟨hs7, ⟨n1, m1, rfl⟩, hg7⟩)
          · have k0 := HB1.out.2.1.keep (by omega) hg7
            have a0 : w7.cell? ⟨w.heap.size + 1, 0, none⟩ = some (.int .i64 0) := by rw [k0.cell 0]; rfl
            have a1 : w7.cell? ⟨w.heap.size + 1, 1, none⟩ = some (.pointer none) := by rw [k0.cell 1]; rfl
            have d0 : w7.cell? ⟨w.heap.size + 2, 0, none⟩ = some (.int .i64 4) := by rw [hk7.cell 0]; rfl
            have d1 : w7.cell? ⟨w.heap.size + 2, 1, none⟩ = some (.pointer p7) := by rw [hk7.cell 1]; rfl
            have f0 : ∀ i, w7.frozen? ⟨w.heap.size + 1, i, none⟩ = false := fun i => k0.free i
            have HF : Hid (R = some ((4, a), l7) ∧ w.grownBy w7 (some A) ∧ RdIs A l7 w7 ∧ Blk (w.heap.size + 1) #[.int .i64 0, .pointer none] 148 w7 ∧ ExIs q0' w7 p7 a) := ⟨by rw [HRp.out, hs7]; rfl, HB1.out.2.2.1.trans hg7, hr7, k0, hx7.mono (by have h1 := HB1.out.2.2.2; have h2 := HQe.out; omega)⟩
            clear hs7 hr7 hg7 hk7 hx7 k0
            go_wp2
            refine bodyPost_ret (v := .agg #[.int .i64 4, .pointer p7]) (results_c Tryz.results130 _ _ _ rfl ?_) rfl ?_
            · simp [go_sem, a0, a1]
            · have x1 := ExIs.setB HF.out.2.2.2.1 (by decide) 0 (.int .i64 4) HF.out.2.2.2.2
              have x2 := ExIs.setB (HF.out.2.2.2.1.set 0 (.int .i64 4)) (by decide) 1 (.pointer p7) x1
              exact ⟨grown_new (grown_new HF.out.2.1 (by omega) _ _) (by omega) _ _, .inl ⟨_, _, p7, HF.out.1, rfl, x2, (HF.out.2.2.1.set (by omega) _ _).set (by omega) _ _⟩⟩
          · have HG : Hid (w.grownBy w7 (some A) ∧ R = none) := ⟨HB1.out.2.2.1.trans hg7, by rw [HRp.out, hs7]; rfl⟩
            clear hg7 hs7
            go_wp2
            exact ⟨by first | rfl | trivial, HG.out.1, .inr ⟨HG.out.2, n1, m1, rfl⟩⟩
      · skip
        have q0 : w3.cell? ⟨w.heap.size + 2, 0, none⟩ = some (.int .i64 0) := by rw [K2.out.2.2.cell 0]; rfl
        have g0 := K2.out.2.2.free 0
        obtain ⟨wp, hwp⟩ : ∃ wp, w3.setCell ⟨w.heap.size + 2, 0, none⟩ (.int .i64 3) = wp := ⟨_, rfl⟩
        have HP : Hid (PreI A w.heap.size (w.heap.size + 2) 3 W1 l.tail wp) := by
          rw [← hwp]
          exact ⟨K2.out.1.set (by omega) 0 _, grown_new K2.out.2.1 (by rw [HB1.out.2.2.2]; exact Nat.le_refl _) 0 _, (HB1.out.1.keep (by omega) K2.out.2.1).other (by omega) 0 _, K2.out.2.2.set 0 _, by omega, by rw [HB1.out.2.2.2]; exact Nat.le_refl _, by rw [HB1.out.2.2.2]; omega⟩
        have cxp : wp.cell? ⟨w.heap.size, 0, none⟩ = some (.pointer (some ⟨A, 0, none⟩)) := by rw [HP.out.2.2.1.cell 0]; rfl
        have HRp : Hid (R = (insideF (itemI 3) l.tail).map fun x => ((3, x.1), x.2)) := by
          show _ = _
          rw [← HR.out]
          exact item_agg (s := (⟨#[109, 105, 110]⟩, 3)) (by simp [aggL, HS0.out, HS1.out, HS2.out])
        go_wp2_with fail
        refine (inI_any HE.out A w.heap.size (w.heap.size + 2) 3 W1 l.tail wp HP.out).mono ?_
        rintro _ w7 (⟨a, l7, hs7, rfl, hr7, hg7, _, p7, hk7, hx7⟩ | ⟨hs7, ⟨n1, m1, rfl⟩, hg7⟩)
        · have k0 := HB1.out.2.1.keep (by omega) hg7
          have a0 : w7.cell? ⟨w.heap.size + 1, 0, none⟩ = some (.int .i64 0) := by rw [k0.cell 0]; rfl
          have a1 : w7.cell? ⟨w.heap.size + 1, 1, none⟩ = some (.pointer none) := by rw [k0.cell 1]; rfl
          have d0 : w7.cell? ⟨w.heap.size + 2, 0, none⟩ = some (.int .i64 3) := by rw [hk7.cell 0]; rfl
          have d1 : w7.cell? ⟨w.heap.size + 2, 1, none⟩ = some (.pointer p7) := by rw [hk7.cell 1]; rfl
          have f0 : ∀ i, w7.frozen? ⟨w.heap.size + 1, i, none⟩ = false := fun i => k0.free i
          have HF : Hid (R = some ((3, a), l7) ∧ w.grownBy w7 (some A) ∧ RdIs A l7 w7 ∧ Blk (w.heap.size + 1) #[.int .i64 0, .pointer none] 148 w7 ∧ ExIs q0' w7 p7 a) := ⟨by rw [HRp.out, hs7]; rfl, HB1.out.2.2.1.trans hg7, hr7, k0, hx7.mono (by have h1 := HB1.out.2.2.2; have h2 := HQe.out; omega)⟩
          clear hs7 hr7 hg7 hk7 hx7 k0
          go_wp2
          refine bodyPost_ret (v := .agg #[.int .i64 3, .pointer p7]) (results_c Tryz.results130 _ _ _ rfl ?_) rfl ?_
          · simp [go_sem, a0, a1]
          · have x1 := ExIs.setB HF.out.2.2.2.1 (by decide) 0 (.int .i64 3) HF.out.2.2.2.2
            have x2 := ExIs.setB (HF.out.2.2.2.1.set 0 (.int .i64 3)) (by decide) 1 (.pointer p7) x1
            exact ⟨grown_new (grown_new HF.out.2.1 (by omega) _ _) (by omega) _ _, .inl ⟨_, _, p7, HF.out.1, rfl, x2, (HF.out.2.2.1.set (by omega) _ _).set (by omega) _ _⟩⟩
        · have HG : Hid (w.grownBy w7 (some A) ∧ R = none) := ⟨HB1.out.2.2.1.trans hg7, by rw [HRp.out, hs7]; rfl⟩
          clear hg7 hs7
          go_wp2
          exact ⟨by first | rfl | trivial, HG.out.1, .inr ⟨HG.out.2, n1, m1, rfl⟩⟩
    · skip
      have q0 : w2.cell? ⟨w.heap.size + 2, 0, none⟩ = some (.int .i64 0) := by rw [K1.out.2.2.cell 0]; rfl
      have g0 := K1.out.2.2.free 0
      obtain ⟨wp, hwp⟩ : ∃ wp, w2.setCell ⟨w.heap.size + 2, 0, none⟩ (.int .i64 2) = wp := ⟨_, rfl⟩
      have HP : Hid (PreI A w.heap.size (w.heap.size + 2) 2 W1 l.tail wp) := by
        rw [← hwp]
        exact ⟨K1.out.1.set (by omega) 0 _, grown_new K1.out.2.1 (by rw [HB1.out.2.2.2]; exact Nat.le_refl _) 0 _, (HB1.out.1.keep (by omega) K1.out.2.1).other (by omega) 0 _, K1.out.2.2.set 0 _, by omega, by rw [HB1.out.2.2.2]; exact Nat.le_refl _, by rw [HB1.out.2.2.2]; omega⟩
      have cxp : wp.cell? ⟨w.heap.size, 0, none⟩ = some (.pointer (some ⟨A, 0, none⟩)) := by rw [HP.out.2.2.1.cell 0]; rfl
      have HRp : Hid (R = (insideF (itemI 2) l.tail).map fun x => ((2, x.1), x.2)) := by
        show _ = _
        rw [← HR.out]
        exact item_agg (s := (⟨#[115, 117, 109]⟩, 2)) (by simp [aggL, HS0.out, HS1.out])
      go_wp2_with fail
      refine (inI_any HE.out A w.heap.size (w.heap.size + 2) 2 W1 l.tail wp HP.out).mono ?_
      rintro _ w7 (⟨a, l7, hs7, rfl, hr7, hg7, _, p7, hk7, hx7⟩ | ⟨hs7, ⟨n1, m1, rfl⟩, hg7⟩)
      · have k0 := HB1.out.2.1.keep (by omega) hg7
        have a0 : w7.cell? ⟨w.heap.size + 1, 0, none⟩ = some (.int .i64 0) := by rw [k0.cell 0]; rfl
        have a1 : w7.cell? ⟨w.heap.size + 1, 1, none⟩ = some (.pointer none) := by rw [k0.cell 1]; rfl
        have d0 : w7.cell? ⟨w.heap.size + 2, 0, none⟩ = some (.int .i64 2) := by rw [hk7.cell 0]; rfl
        have d1 : w7.cell? ⟨w.heap.size + 2, 1, none⟩ = some (.pointer p7) := by rw [hk7.cell 1]; rfl
        have f0 : ∀ i, w7.frozen? ⟨w.heap.size + 1, i, none⟩ = false := fun i => k0.free i
        have HF : Hid (R = some ((2, a), l7) ∧ w.grownBy w7 (some A) ∧ RdIs A l7 w7 ∧ Blk (w.heap.size + 1) #[.int .i64 0, .pointer none] 148 w7 ∧ ExIs q0' w7 p7 a) := ⟨by rw [HRp.out, hs7]; rfl, HB1.out.2.2.1.trans hg7, hr7, k0, hx7.mono (by have h1 := HB1.out.2.2.2; have h2 := HQe.out; omega)⟩
        clear hs7 hr7 hg7 hk7 hx7 k0
        go_wp2
        refine bodyPost_ret (v := .agg #[.int .i64 2, .pointer p7]) (results_c Tryz.results130 _ _ _ rfl ?_) rfl ?_
        · simp [go_sem, a0, a1]
        · have x1 := ExIs.setB HF.out.2.2.2.1 (by decide) 0 (.int .i64 2) HF.out.2.2.2.2
          have x2 := ExIs.setB (HF.out.2.2.2.1.set 0 (.int .i64 2)) (by decide) 1 (.pointer p7) x1
          exact ⟨grown_new (grown_new HF.out.2.1 (by omega) _ _) (by omega) _ _, .inl ⟨_, _, p7, HF.out.1, rfl, x2, (HF.out.2.2.1.set (by omega) _ _).set (by omega) _ _⟩⟩
      · have HG : Hid (w.grownBy w7 (some A) ∧ R = none) := ⟨HB1.out.2.2.1.trans hg7, by rw [HRp.out, hs7]; rfl⟩
        clear hg7 hs7
        go_wp2
        exact ⟨by first | rfl | trivial, HG.out.1, .inr ⟨HG.out.2, n1, m1, rfl⟩⟩
  · skip
    have q0 : w1.cell? ⟨w.heap.size + 2, 0, none⟩ = some (.int .i64 0) := by rw [K0.out.2.2.cell 0]; rfl
    have g0 := K0.out.2.2.free 0
    obtain ⟨wp, hwp⟩ : ∃ wp, w1.setCell ⟨w.heap.size + 2, 0, none⟩ (.int .i64 1) = wp := ⟨_, rfl⟩
    have HP : Hid (PreI A w.heap.size (w.heap.size + 2) 1 W1 l.tail wp) := by
      rw [← hwp]
      exact ⟨K0.out.1.set (by omega) 0 _, grown_new K0.out.2.1 (by rw [HB1.out.2.2.2]; exact Nat.le_refl _) 0 _, (HB1.out.1.keep (by omega) K0.out.2.1).other (by omega) 0 _, K0.out.2.2.set 0 _, by omega, by rw [HB1.out.2.2.2]; exact Nat.le_refl _, by rw [HB1.out.2.2.2]; omega⟩
    have cxp : wp.cell? ⟨w.heap.size, 0, none⟩ = some (.pointer (some ⟨A, 0, none⟩)) := by rw [HP.out.2.2.1.cell 0]; rfl
    have HRp : Hid (R = (insideF (itemI 1) l.tail).map fun x => ((1, x.1), x.2)) := by
      show _ = _
      rw [← HR.out]
      exact item_agg (s := (⟨#[99, 111, 117, 110, 116]⟩, 1)) (by simp [aggL, HS0.out])
    go_wp2_with fail
    refine (inI_any HE.out A w.heap.size (w.heap.size + 2) 1 W1 l.tail wp HP.out).mono ?_
    rintro _ w7 (⟨a, l7, hs7, rfl, hr7, hg7, _, p7, hk7, hx7⟩ | ⟨hs7, ⟨n1, m1, rfl⟩, hg7⟩)
    · have k0 := HB1.out.2.1.keep (by omega) hg7
      have a0 : w7.cell? ⟨w.heap.size + 1, 0, none⟩ = some (.int .i64 0) := by rw [k0.cell 0]; rfl
      have a1 : w7.cell? ⟨w.heap.size + 1, 1, none⟩ = some (.pointer none) := by rw [k0.cell 1]; rfl
      have d0 : w7.cell? ⟨w.heap.size + 2, 0, none⟩ = some (.int .i64 1) := by rw [hk7.cell 0]; rfl
      have d1 : w7.cell? ⟨w.heap.size + 2, 1, none⟩ = some (.pointer p7) := by rw [hk7.cell 1]; rfl
      have f0 : ∀ i, w7.frozen? ⟨w.heap.size + 1, i, none⟩ = false := fun i => k0.free i
      have HF : Hid (R = some ((1, a), l7) ∧ w.grownBy w7 (some A) ∧ RdIs A l7 w7 ∧ Blk (w.heap.size + 1) #[.int .i64 0, .pointer none] 148 w7 ∧ ExIs q0' w7 p7 a) := ⟨by rw [HRp.out, hs7]; rfl, HB1.out.2.2.1.trans hg7, hr7, k0, hx7.mono (by have h1 := HB1.out.2.2.2; have h2 := HQe.out; omega)⟩
      clear hs7 hr7 hg7 hk7 hx7 k0
      go_wp2
      refine bodyPost_ret (v := .agg #[.int .i64 1, .pointer p7]) (results_c Tryz.results130 _ _ _ rfl ?_) rfl ?_
      · simp [go_sem, a0, a1]
      · have x1 := ExIs.setB HF.out.2.2.2.1 (by decide) 0 (.int .i64 1) HF.out.2.2.2.2
        have x2 := ExIs.setB (HF.out.2.2.2.1.set 0 (.int .i64 1)) (by decide) 1 (.pointer p7) x1
        exact ⟨grown_new (grown_new HF.out.2.1 (by omega) _ _) (by omega) _ _, .inl ⟨_, _, p7, HF.out.1, rfl, x2, (HF.out.2.2.1.set (by omega) _ _).set (by omega) _ _⟩⟩
    · have HG : Hid (w.grownBy w7 (some A) ∧ R = none) := ⟨HB1.out.2.2.1.trans hg7, by rw [HRp.out, hs7]; rfl⟩
      clear hg7 hs7
      go_wp2
      exact ⟨by first | rfl | trivial, HG.out.1, .inr ⟨HG.out.2, n1, m1, rfl⟩⟩
end Go.Proofs.YtbdcbaamjkjhaaaGreatDoor
