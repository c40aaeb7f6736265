/- Part 34 of 39. -/
import Derived.Test.YtbdcbaamjkjhaaaGreatDoorG33
import Derived.Stop.Asserts
import Derived.Defers
import Derived.Recover
namespace Go.Proofs.YtbdcbaamjkjhaaaGreatDoor
open Go.RowKit

set_option maxRecDepth 100000 in
set_option maxHeartbeats 16000000 in
theorem statement_any (hE : ESpec Ef 0) (A : Nat) (l : List KT) (w : World) (h : RdIs A l w) : Calls Tryz.prog 49 #[.pointer (some ⟨A, 0, none⟩)] w fun e w' => ToldT A (stmF l) w e w' := by
  have HE : Hid (ESpec Ef 0) := hE
  obtain ⟨W1, hW1⟩ : ∃ W, w.alloc (.cells #[.int .i64 0, .string ⟨#[]⟩, .string ⟨#[]⟩, .slice none 0 0, .string ⟨#[]⟩, .slice none 0 0, .slice none 0 0, .pointer none, .pointer none, .slice none 0 0, .pointer none, .slice none 0 0, .int .i64 0] 30) = W := ⟨_, rfl⟩
  have hb1 : Below w.heap.size w W1 := by rw [← hW1]; exact (Below.refl _ _).alloc (Nat.le_refl _) _
  have hs1 : W1.heap.size = w.heap.size + 1 := by rw [← hW1]; simp
  have hk1 : Blk w.heap.size svZ.cells 30 W1 := by rw [← hW1]; exact Blk.new _ _ _
  have HB1 : Hid (True ∧ Blk w.heap.size svZ.cells 30 W1 ∧ w.grownBy W1 (some A) ∧ W1.heap.size = w.heap.size + 1 ∧ A < w.heap.size) := ⟨trivial, hk1, grown_of_belowA hb1 _, hs1, h.lt⟩
  have HW : Hid (RdIs A l W1 ∧ W1.grownBy W1 (some A)) := ⟨h.below hb1, grownA_refl _ _⟩
  obtain ⟨R, hR⟩ : ∃ R, stmF l = R := ⟨_, rfl⟩
  have E0 : Hid (R = stmF l) := hR.symm
  unfold ToldT
  rw [hR]
  clear h hR hb1 hs1 hk1
  go_enter Tryz.func49, Tryz.ntmps49
  obtain ⟨b3, hb3⟩ : ∃ b, isT ⟨#[98, 101, 103, 105, 110]⟩ l = b := ⟨_, rfl⟩
  have HS2 : Hid (isT ⟨#[98, 101, 103, 105, 110]⟩ l = b3) := hb3
  clear hb3
  go_wp2_with fail
  refine (has_any A l ⟨#[98, 101, 103, 105, 110]⟩ b3 HS2.out _ HW.out.1).mono ?_
  rintro _ w1 ⟨rfl, hr, hg⟩
  have HX : Hid (RdIs A (if b3 then l.tail else l) w1 ∧ W1.grownBy w1 (some A)) := ⟨hr, HW.out.2.trans hg⟩
  clear hr hg
  cases b3
  case true =>
    have HT : Hid (RdIs A l.tail w1 ∧ W1.grownBy w1 (some A)) := HX
    have EA : Hid (R = some (ofS 8 ⟨#[]⟩, l.tail)) := by show _ = _; rw [E0.out]; unfold stmF; rw [if_pos HS2.out]
    clear HX
    go_wp2_with fail
    refine (of_any 8 ⟨#[]⟩ w1).mono ?_
    rintro _ wz ⟨rfl, hb⟩
    have HK : Hid (Blk w.heap.size svZ.cells 30 wz ∧ SVIs wz.heap.size (svOf 8 ⟨#[]⟩) (ofS 8 ⟨#[]⟩) wz ∧ RdIs A l.tail wz ∧ w.grownBy wz (some A) ∧ w.heap.size < wz.heap.size) := ⟨HB1.out.2.1.keep (by have := HB1.out.2.2.2; omega) (HT.out.2.trans (grown_of_belowA hb (some A))), svis_of _ _ _ _, (HT.out.1).below hb, HB1.out.2.2.1.trans (HT.out.2.trans (grown_of_belowA hb (some A))), by have h1 := HB1.out.2.2.2; have h2 := (HT.out.2.trans (grown_of_belowA hb (some A))).size; omega⟩
    go_wp2_with (refine wpList_store_mid rfl 30 _ _ rfl _ 0 (svOf 8 ⟨#[]⟩).cells rfl rfl (HK.out.1.there rfl) (s30 _) (HK.out.2.1.rowsOk).one ?_)
    refine bodyPost_ret (v := .agg (svOf 8 ⟨#[]⟩).cells) (results_c Tryz.results49 _ _ _ rfl (load30 HK.out.1.stored)) rfl ?_
    refine ⟨grown_sets _ 0 HK.out.2.2.2.1 (Nat.le_refl _), .inl ⟨_, _, (svOf 8 ⟨#[]⟩), EA.out, rfl, ?_, RdIs.setsN _ 0 HK.out.2.2.1 (by have := HB1.out.2.2.2; omega)⟩⟩
    exact (HK.out.2.1.st (by have := HK.out.2.2.2.2; omega) (fr_sets _ 0 HK.out.1)).low (by have := HK.out.2.2.2.2; omega)
  have H4 : Hid (RdIs A l w1 ∧ W1.grownBy w1 (some A)) := HX
  clear HX
  obtain ⟨b7, hb7⟩ : ∃ b, isT ⟨#[99, 111, 109, 109, 105, 116]⟩ l = b := ⟨_, rfl⟩
  have HS6 : Hid (isT ⟨#[99, 111, 109, 109, 105, 116]⟩ l = b7) := hb7
  clear hb7
  go_wp2_with fail
  refine (has_any A l ⟨#[99, 111, 109, 109, 105, 116]⟩ b7 HS6.out _ H4.out.1).mono ?_
  rintro _ w5 ⟨rfl, hr, hg⟩
  have HX : Hid (RdIs A (if b7 then l.tail else l) w5 ∧ W1.grownBy w5 (some A)) := ⟨hr, H4.out.2.trans hg⟩
  clear hr hg
  cases b7
  case true =>
    have HT : Hid (RdIs A l.tail w5 ∧ W1.grownBy w5 (some A)) := HX
    have EA : Hid (R = some (ofS 9 ⟨#[]⟩, l.tail)) := by show _ = _; rw [E0.out]; unfold stmF; rw [if_neg (by rw [HS2.out]; decide), if_pos HS6.out]
    clear HX
    go_wp2_with fail
    refine (of_any 9 ⟨#[]⟩ w5).mono ?_
    rintro _ wz ⟨rfl, hb⟩
    have HK : Hid (Blk w.heap.size svZ.cells 30 wz ∧ SVIs wz.heap.size (svOf 9 ⟨#[]⟩) (ofS 9 ⟨#[]⟩) wz ∧ RdIs A l.tail wz ∧ w.grownBy wz (some A) ∧ w.heap.size < wz.heap.size) := ⟨HB1.out.2.1.keep (by have := HB1.out.2.2.2; omega) (HT.out.2.trans (grown_of_belowA hb (some A))), svis_of _ _ _ _, (HT.out.1).below hb, HB1.out.2.2.1.trans (HT.out.2.trans (grown_of_belowA hb (some A))), by have h1 := HB1.out.2.2.2; have h2 := (HT.out.2.trans (grown_of_belowA hb (some A))).size; omega⟩
    go_wp2_with (refine wpList_store_mid rfl 30 _ _ rfl _ 0 (svOf 9 ⟨#[]⟩).cells rfl rfl (HK.out.1.there rfl) (s30 _) (HK.out.2.1.rowsOk).one ?_)
    refine bodyPost_ret (v := .agg (svOf 9 ⟨#[]⟩).cells) (results_c Tryz.results49 _ _ _ rfl (load30 HK.out.1.stored)) rfl ?_
    refine ⟨grown_sets _ 0 HK.out.2.2.2.1 (Nat.le_refl _), .inl ⟨_, _, (svOf 9 ⟨#[]⟩), EA.out, rfl, ?_, RdIs.setsN _ 0 HK.out.2.2.1 (by have := HB1.out.2.2.2; omega)⟩⟩
    exact (HK.out.2.1.st (by have := HK.out.2.2.2.2; omega) (fr_sets _ 0 HK.out.1)).low (by have := HK.out.2.2.2.2; omega)
  have H8 : Hid (RdIs A l w5 ∧ W1.grownBy w5 (some A)) := HX
  clear HX
  obtain ⟨b11, hb11⟩ : ∃ b, isT ⟨#[114, 111, 108, 108, 98, 97, 99, 107]⟩ l = b := ⟨_, rfl⟩
  have HS10 : Hid (isT ⟨#[114, 111, 108, 108, 98, 97, 99, 107]⟩ l = b11) := hb11
  clear hb11
  go_wp2_with fail
  refine (has_any A l ⟨#[114, 111, 108, 108, 98, 97, 99, 107]⟩ b11 HS10.out _ H8.out.1).mono ?_
  rintro _ w9 ⟨rfl, hr, hg⟩
  have HX : Hid (RdIs A (if b11 then l.tail else l) w9 ∧ W1.grownBy w9 (some A)) := ⟨hr, H8.out.2.trans hg⟩
  clear hr hg
  cases b11
  case true =>
    have HT : Hid (RdIs A l.tail w9 ∧ W1.grownBy w9 (some A)) := HX
    have EA : Hid (R = some (ofS 10 ⟨#[]⟩, l.tail)) := by show _ = _; rw [E0.out]; unfold stmF; rw [if_neg (by rw [HS2.out]; decide), if_neg (by rw [HS6.out]; decide), if_pos HS10.out]
    clear HX
    go_wp2_with fail
    refine (of_any 10 ⟨#[]⟩ w9).mono ?_
    rintro _ wz ⟨rfl, hb⟩
    have HK : Hid (Blk w.heap.size svZ.cells 30 wz ∧ SVIs wz.heap.size (svOf 10 ⟨#[]⟩) (ofS 10 ⟨#[]⟩) wz ∧ RdIs A l.tail wz ∧ w.grownBy wz (some A) ∧ w.heap.size < wz.heap.size) := ⟨HB1.out.2.1.keep (by have := HB1.out.2.2.2; omega) (HT.out.2.trans (grown_of_belowA hb (some A))), svis_of _ _ _ _, (HT.out.1).below hb, HB1.out.2.2.1.trans (HT.out.2.trans (grown_of_belowA hb (some A))), by have h1 := HB1.out.2.2.2; have h2 := (HT.out.2.trans (grown_of_belowA hb (some A))).size; omega⟩
    go_wp2_with (refine wpList_store_mid rfl 30 _ _ rfl _ 0 (svOf 10 ⟨#[]⟩).cells rfl rfl (HK.out.1.there rfl) (s30 _) (HK.out.2.1.rowsOk).one ?_)
    refine bodyPost_ret (v := .agg (svOf 10 ⟨#[]⟩).cells) (results_c Tryz.results49 _ _ _ rfl (load30 HK.out.1.stored)) rfl ?_
    refine ⟨grown_sets _ 0 HK.out.2.2.2.1 (Nat.le_refl _), .inl ⟨_, _, (svOf 10 ⟨#[]⟩), EA.out, rfl, ?_, RdIs.setsN _ 0 HK.out.2.2.1 (by have := HB1.out.2.2.2; omega)⟩⟩
    exact (HK.out.2.1.st (by have := HK.out.2.2.2.2; omega) (fr_sets _ 0 HK.out.1)).low (by have := HK.out.2.2.2.2; omega)
  have H12 : Hid (RdIs A l w9 ∧ W1.grownBy w9 (some A)) := HX
  clear HX
  obtain ⟨b15, hb15⟩ : ∃ b, isT ⟨#[99, 114, 101, 97, 116, 101]⟩ l = b := ⟨_, rfl⟩
  have HS14 : Hid (isT ⟨#[99, 114, 101, 97, 116, 101]⟩ l = b15) := hb15
  clear hb15
  go_wp2_with fail
  refine (has_any A l ⟨#[99, 114, 101, 97, 116, 101]⟩ b15 HS14.out _ H12.out.1).mono ?_
  rintro _ w13 ⟨rfl, hr, hg⟩
  have HX : Hid (RdIs A (if b15 then l.tail else l) w13 ∧ W1.grownBy w13 (some A)) := ⟨hr, H12.out.2.trans hg⟩
  clear hr hg
  cases b15
  case true =>
    have HT : Hid (RdIs A l.tail w13 ∧ W1.grownBy w13 (some A)) := HX
    have EA : Hid (R = createF l.tail) := by show _ = _; rw [E0.out]; unfold stmF; rw [if_neg (by rw [HS2.out]; decide), if_neg (by rw [HS6.out]; decide), if_neg (by rw [HS10.out]; decide), if_pos HS14.out]
    clear HX
    go_wp2_with fail
    refine (create_any A l.tail w13 HT.out.1).mono ?_
    rintro _ wz ⟨hg, ⟨st, lz, sv, hn, rfl, hv, hr⟩ | ⟨hn, n1, m1, rfl⟩⟩
    · have EZ : Hid (R = some (st, lz)) := by show _ = _; rw [EA.out, hn]
      have HK : Hid (Blk w.heap.size svZ.cells 30 wz ∧ SVIs w13.heap.size sv st wz ∧ RdIs A lz wz ∧ w.grownBy wz (some A) ∧ w.heap.size < w13.heap.size) := ⟨HB1.out.2.1.keep (by have := HB1.out.2.2.2; omega) (HT.out.2.trans hg), hv, hr, HB1.out.2.2.1.trans (HT.out.2.trans hg), by have h1 := HB1.out.2.2.2; have h2 := (HT.out.2).size; omega⟩
      go_wp2_with (refine wpList_store_mid rfl 30 _ _ rfl _ 0 sv.cells rfl rfl (HK.out.1.there rfl) (s30 _) (HK.out.2.1.rowsOk).one ?_)
      refine bodyPost_ret (v := .agg sv.cells) (results_c Tryz.results49 _ _ _ rfl (load30 HK.out.1.stored)) rfl ?_
      refine ⟨grown_sets _ 0 HK.out.2.2.2.1 (Nat.le_refl _), .inl ⟨_, _, sv, EZ.out, rfl, ?_, RdIs.setsN _ 0 HK.out.2.2.1 (by have := HB1.out.2.2.2; omega)⟩⟩
      exact (HK.out.2.1.st (by have := HK.out.2.2.2.2; omega) (fr_sets _ 0 HK.out.1)).low (by have := HK.out.2.2.2.2; omega)
    · have HG : Hid (w.grownBy wz (some A) ∧ R = none) := ⟨HB1.out.2.2.1.trans (HT.out.2.trans hg), by rw [EA.out, hn]⟩
      clear hg hn
      go_wp2
      exact ⟨by first | rfl | trivial, HG.out.1, .inr ⟨HG.out.2, n1, m1, rfl⟩⟩
  have H16 : Hid (RdIs A l w13 ∧ W1.grownBy w13 (some A)) := HX
  clear HX
  obtain ⟨b19, hb19⟩ : ∃ b, isT ⟨#[100, 114, 111, 112]⟩ l = b := ⟨_, rfl⟩
  have HS18 : Hid (isT ⟨#[100, 114, 111, 112]⟩ l = b19) := hb19
  clear hb19
  go_wp2_with fail
  refine (has_any A l ⟨#[100, 114, 111, 112]⟩ b19 HS18.out _ H16.out.1).mono ?_
  rintro _ w17 ⟨rfl, hr, hg⟩
  have HX : Hid (RdIs A (if b19 then l.tail else l) w17 ∧ W1.grownBy w17 (some A)) := ⟨hr, H16.out.2.trans hg⟩
  clear hr hg
  cases b19
  case true =>
    have HT : Hid (RdIs A l.tail w17 ∧ W1.grownBy w17 (some A)) := HX
    have EA : Hid (R = dropF l.tail) := by show _ = _; rw [E0.out]; unfold stmF; rw [if_neg (by rw [HS2.out]; decide), if_neg (by rw [HS6.out]; decide), if_neg (by rw [HS10.out]; decide), if_neg (by rw [HS14.out]; decide), if_pos HS18.out]
    clear HX
    have EB : Hid (R = (needF ⟨#[116, 97, 98, 108, 101]⟩ l.tail).bind fun l1 => (nameF l1).map fun a => (ofS 3 a.1, a.2)) := by show _ = _; rw [EA.out]; rfl
    go_wp2_with fail
    refine (need_any A l.tail ⟨#[116, 97, 98, 108, 101]⟩ w17 HT.out.1).mono ?_
    rintro _ w21 ⟨hg, ⟨l22, hn, rfl, hr⟩ | ⟨hn, n1, m1, rfl⟩⟩
    · have H23 : Hid (RdIs A l22 w21 ∧ W1.grownBy w21 (some A)) := ⟨hr, HT.out.2.trans hg⟩
      have E24 : Hid (R = (nameF l22).map fun a => (ofS 3 a.1, a.2)) := by show _ = _; rw [EB.out, hn]; first | rw [Option.bind_some] | rw [Option.map_some]
  
      clear hg hn hr
      go_wp2_with fail
      refine (name_any A l22 w21 H23.out.1).mono ?_
      rintro _ w25 ⟨hg, ⟨nm27, l26, hn, rfl, hr, hz28⟩ | ⟨hn, n1, m1, rfl⟩⟩
      · have H29 : Hid (RdIs A l26 w25 ∧ W1.grownBy w25 (some A)) := ⟨hr, H23.out.2.trans hg⟩
        have E30 : Hid (R = some (ofS 3 nm27, l26)) := by show _ = _; rw [E24.out, hn]; first | rw [Option.bind_some] | rw [Option.map_some]
  
        clear hg hn hr
        go_wp2_with fail
        refine (of_any 3 nm27 w25).mono ?_
        rintro _ wz ⟨rfl, hb⟩
        have HK : Hid (Blk w.heap.size svZ.cells 30 wz ∧ SVIs wz.heap.size (svOf 3 nm27) (ofS 3 nm27) wz ∧ RdIs A l26 wz ∧ w.grownBy wz (some A) ∧ w.heap.size < wz.heap.size) := ⟨HB1.out.2.1.keep (by have := HB1.out.2.2.2; omega) (H29.out.2.trans (grown_of_belowA hb (some A))), svis_of _ _ _ _, (H29.out.1).below hb, HB1.out.2.2.1.trans (H29.out.2.trans (grown_of_belowA hb (some A))), by have h1 := HB1.out.2.2.2; have h2 := (H29.out.2.trans (grown_of_belowA hb (some A))).size; omega⟩
        go_wp2_with (refine wpList_store_mid rfl 30 _ _ rfl _ 0 (svOf 3 nm27).cells rfl rfl (HK.out.1.there rfl) (s30 _) (HK.out.2.1.rowsOk).one ?_)
        refine bodyPost_ret (v := .agg (svOf 3 nm27).cells) (results_c Tryz.results49 _ _ _ rfl (load30 HK.out.1.stored)) rfl ?_
        refine ⟨grown_sets _ 0 HK.out.2.2.2.1 (Nat.le_refl _), .inl ⟨_, _, (svOf 3 nm27), E30.out, rfl, ?_, RdIs.setsN _ 0 HK.out.2.2.1 (by have := HB1.out.2.2.2; omega)⟩⟩
        exact (HK.out.2.1.st (by have := HK.out.2.2.2.2; omega) (fr_sets _ 0 HK.out.1)).low (by have := HK.out.2.2.2.2; omega)
      · have HG : Hid (w.grownBy w25 (some A) ∧ R = none) := ⟨HB1.out.2.2.1.trans (H23.out.2.trans hg), by rw [E24.out, hn]; rfl⟩
        clear hg hn
        go_wp2
        exact ⟨by first | rfl | trivial, HG.out.1, .inr ⟨HG.out.2, n1, m1, rfl⟩⟩
    · have HG : Hid (w.grownBy w21 (some A) ∧ R = none) := ⟨HB1.out.2.2.1.trans (HT.out.2.trans hg), by rw [EB.out, hn]; rfl⟩
      clear hg hn
      go_wp2
      exact ⟨by first | rfl | trivial, HG.out.1, .inr ⟨HG.out.2, n1, m1, rfl⟩⟩
  have H20 : Hid (RdIs A l w17 ∧ W1.grownBy w17 (some A)) := HX
  clear HX
  obtain ⟨b33, hb33⟩ : ∃ b, isT ⟨#[105, 110, 115, 101, 114, 116]⟩ l = b := ⟨_, rfl⟩
  have HS32 : Hid (isT ⟨#[105, 110, 115, 101, 114, 116]⟩ l = b33) := hb33
  clear hb33
  go_wp2_with fail
  refine (has_any A l ⟨#[105, 110, 115, 101, 114, 116]⟩ b33 HS32.out _ H20.out.1).mono ?_
  rintro _ w31 ⟨rfl, hr, hg⟩
  have HX : Hid (RdIs A (if b33 then l.tail else l) w31 ∧ W1.grownBy w31 (some A)) := ⟨hr, H20.out.2.trans hg⟩
  clear hr hg
  cases b33
  case true =>
    have HT : Hid (RdIs A l.tail w31 ∧ W1.grownBy w31 (some A)) := HX
    have EA : Hid (R = insertF l.tail) := by show _ = _; rw [E0.out]; unfold stmF; rw [if_neg (by rw [HS2.out]; decide), if_neg (by rw [HS6.out]; decide), if_neg (by rw [HS10.out]; decide), if_neg (by rw [HS14.out]; decide), if_neg (by rw [HS18.out]; decide), if_pos HS32.out]
    clear HX
    go_wp2_with fail
    refine (insert_any HE.out A l.tail w31 HT.out.1).mono ?_
    rintro _ wz ⟨hg, ⟨st, lz, sv, hn, rfl, hv, hr⟩ | ⟨hn, n1, m1, rfl⟩⟩
    · have EZ : Hid (R = some (st, lz)) := by show _ = _; rw [EA.out, hn]
      have HK : Hid (Blk w.heap.size svZ.cells 30 wz ∧ SVIs w31.heap.size sv st wz ∧ RdIs A lz wz ∧ w.grownBy wz (some A) ∧ w.heap.size < w31.heap.size) := ⟨HB1.out.2.1.keep (by have := HB1.out.2.2.2; omega) (HT.out.2.trans hg), hv, hr, HB1.out.2.2.1.trans (HT.out.2.trans hg), by have h1 := HB1.out.2.2.2; have h2 := (HT.out.2).size; omega⟩
      go_wp2_with (refine wpList_store_mid rfl 30 _ _ rfl _ 0 sv.cells rfl rfl (HK.out.1.there rfl) (s30 _) (HK.out.2.1.rowsOk).one ?_)
      refine bodyPost_ret (v := .agg sv.cells) (results_c Tryz.results49 _ _ _ rfl (load30 HK.out.1.stored)) rfl ?_
      refine ⟨grown_sets _ 0 HK.out.2.2.2.1 (Nat.le_refl _), .inl ⟨_, _, sv, EZ.out, rfl, ?_, RdIs.setsN _ 0 HK.out.2.2.1 (by have := HB1.out.2.2.2; omega)⟩⟩
      exact (HK.out.2.1.st (by have := HK.out.2.2.2.2; omega) (fr_sets _ 0 HK.out.1)).low (by have := HK.out.2.2.2.2; omega)
    · have HG : Hid (w.grownBy wz (some A) ∧ R = none) := ⟨HB1.out.2.2.1.trans (HT.out.2.trans hg), by rw [EA.out, hn]⟩
      clear hg hn
      go_wp2
      exact ⟨by first | rfl | trivial, HG.out.1, .inr ⟨HG.out.2, n1, m1, rfl⟩⟩
  have H34 : Hid (RdIs A l w31 ∧ W1.grownBy w31 (some A)) := HX
  clear HX
  obtain ⟨b37, hb37⟩ : ∃ b, isT ⟨#[100, 101, 108, 101, 116, 101]⟩ l = b := ⟨_, rfl⟩
  have HS36 : Hid (isT ⟨#[100, 101, 108, 101, 116, 101]⟩ l = b37) := hb37
  clear hb37
  go_wp2_with fail
  refine (has_any A l ⟨#[100, 101, 108, 101, 116, 101]⟩ b37 HS36.out _ H34.out.1).mono ?_
  rintro _ w35 ⟨rfl, hr, hg⟩
  have HX : Hid (RdIs A (if b37 then l.tail else l) w35 ∧ W1.grownBy w35 (some A)) := ⟨hr, H34.out.2.trans hg⟩
  clear hr hg
  cases b37
  case true =>
    have HT : Hid (RdIs A l.tail w35 ∧ W1.grownBy w35 (some A)) := HX
    have EA : Hid (R = deleteF l.tail) := by show _ = _; rw [E0.out]; unfold stmF; rw [if_neg (by rw [HS2.out]; decide), if_neg (by rw [HS6.out]; decide), if_neg (by rw [HS10.out]; decide), if_neg (by rw [HS14.out]; decide), if_neg (by rw [HS18.out]; decide), if_neg (by rw [HS32.out]; decide), if_pos HS36.out]
    clear HX
    go_wp2_with fail
    refine (delete_any HE.out A l.tail w35 HT.out.1).mono ?_
    rintro _ wz ⟨hg, ⟨st, lz, sv, hn, rfl, hv, hr⟩ | ⟨hn, n1, m1, rfl⟩⟩
    · have EZ : Hid (R = some (st, lz)) := by show _ = _; rw [EA.out, hn]
      have HK : Hid (Blk w.heap.size svZ.cells 30 wz ∧ SVIs w35.heap.size sv st wz ∧ RdIs A lz wz ∧ w.grownBy wz (some A) ∧ w.heap.size < w35.heap.size) := ⟨HB1.out.2.1.keep (by have := HB1.out.2.2.2; omega) (HT.out.2.trans hg), hv, hr, HB1.out.2.2.1.trans (HT.out.2.trans hg), by have h1 := HB1.out.2.2.2; have h2 := (HT.out.2).size; omega⟩
      go_wp2_with (refine wpList_store_mid rfl 30 _ _ rfl _ 0 sv.cells rfl rfl (HK.out.1.there rfl) (s30 _) (HK.out.2.1.rowsOk).one ?_)
      refine bodyPost_ret (v := .agg sv.cells) (results_c Tryz.results49 _ _ _ rfl (load30 HK.out.1.stored)) rfl ?_
      refine ⟨grown_sets _ 0 HK.out.2.2.2.1 (Nat.le_refl _), .inl ⟨_, _, sv, EZ.out, rfl, ?_, RdIs.setsN _ 0 HK.out.2.2.1 (by have := HB1.out.2.2.2; omega)⟩⟩
      exact (HK.out.2.1.st (by have := HK.out.2.2.2.2; omega) (fr_sets _ 0 HK.out.1)).low (by have := HK.out.2.2.2.2; omega)
    · have HG : Hid (w.grownBy wz (some A) ∧ R = none) := ⟨HB1.out.2.2.1.trans (HT.out.2.trans hg), by rw [EA.out, hn]⟩
      clear hg hn
      go_wp2
      exact ⟨by first | rfl | trivial, HG.out.1, .inr ⟨HG.out.2, n1, m1, rfl⟩⟩
  have H38 : Hid (RdIs A l w35 ∧ W1.grownBy w35 (some A)) := HX
  clear HX
  obtain ⟨b41, hb41⟩ : ∃ b, isT ⟨#[117, 112, 100, 97, 116, 101]⟩ l = b := ⟨_, rfl⟩
  have HS40 : Hid (isT ⟨#[117, 112, 100, 97, 116, 101]⟩ l = b41) := hb41
  clear hb41
  go_wp2_with fail
  refine (has_any A l ⟨#[117, 112, 100, 97, 116, 101]⟩ b41 HS40.out _ H38.out.1).mono ?_
  rintro _ w39 ⟨rfl, hr, hg⟩
  have HX : Hid (RdIs A (if b41 then l.tail else l) w39 ∧ W1.grownBy w39 (some A)) := ⟨hr, H38.out.2.trans hg⟩
  clear hr hg
  cases b41
  case true =>
    have HT : Hid (RdIs A l.tail w39 ∧ W1.grownBy w39 (some A)) := HX
    have EA : Hid (R = updateF l.tail) := by show _ = _; rw [E0.out]; unfold stmF; rw [if_neg (by rw [HS2.out]; decide), if_neg (by rw [HS6.out]; decide), if_neg (by rw [HS10.out]; decide), if_neg (by rw [HS14.out]; decide), if_neg (by rw [HS18.out]; decide), if_neg (by rw [HS32.out]; decide), if_neg (by rw [HS36.out]; decide), if_pos HS40.out]
    clear HX
    go_wp2_with fail
    refine (update_any HE.out A l.tail w39 HT.out.1).mono ?_
    rintro _ wz ⟨hg, ⟨st, lz, sv, hn, rfl, hv, hr⟩ | ⟨hn, n1, m1, rfl⟩⟩
    · have EZ : Hid (R = some (st, lz)) := by show _ = _; rw [EA.out, hn]
      have HK : Hid (Blk w.heap.size svZ.cells 30 wz ∧ SVIs w39.heap.size sv st wz ∧ RdIs A lz wz ∧ w.grownBy wz (some A) ∧ w.heap.size < w39.heap.size) := ⟨HB1.out.2.1.keep (by have := HB1.out.2.2.2; omega) (HT.out.2.trans hg), hv, hr, HB1.out.2.2.1.trans (HT.out.2.trans hg), by have h1 := HB1.out.2.2.2; have h2 := (HT.out.2).size; omega⟩
      go_wp2_with (refine wpList_store_mid rfl 30 _ _ rfl _ 0 sv.cells rfl rfl (HK.out.1.there rfl) (s30 _) (HK.out.2.1.rowsOk).one ?_)
      refine bodyPost_ret (v := .agg sv.cells) (results_c Tryz.results49 _ _ _ rfl (load30 HK.out.1.stored)) rfl ?_
      refine ⟨grown_sets _ 0 HK.out.2.2.2.1 (Nat.le_refl _), .inl ⟨_, _, sv, EZ.out, rfl, ?_, RdIs.setsN _ 0 HK.out.2.2.1 (by have := HB1.out.2.2.2; omega)⟩⟩
      exact (HK.out.2.1.st (by have := HK.out.2.2.2.2; omega) (fr_sets _ 0 HK.out.1)).low (by have := HK.out.2.2.2.2; omega)
    · have HG : Hid (w.grownBy wz (some A) ∧ R = none) := ⟨HB1.out.2.2.1.trans (HT.out.2.trans hg), by rw [EA.out, hn]⟩
      clear hg hn
      go_wp2
      exact ⟨by first | rfl | trivial, HG.out.1, .inr ⟨HG.out.2, n1, m1, rfl⟩⟩
  have H42 : Hid (RdIs A l w39 ∧ W1.grownBy w39 (some A)) := HX
  clear HX
  have EQ : Hid (R = (needF ⟨#[115, 101, 108, 101, 99, 116]⟩ l).bind choiceF) := by show _ = _; rw [E0.out]; unfold stmF; rw [if_neg (by rw [HS2.out]; decide), if_neg (by rw [HS6.out]; decide), if_neg (by rw [HS10.out]; decide), if_neg (by rw [HS14.out]; decide), if_neg (by rw [HS18.out]; decide), if_neg (by rw [HS32.out]; decide), if_neg (by rw [HS36.out]; decide), if_neg (by rw [HS40.out]; decide)]
  go_wp2_with fail
  refine (need_any A l ⟨#[115, 101, 108, 101, 99, 116]⟩ w39 H42.out.1).mono ?_
  rintro _ w43 ⟨hg, ⟨l44, hn, rfl, hr⟩ | ⟨hn, n1, m1, rfl⟩⟩
  · have H45 : Hid (RdIs A l44 w43 ∧ W1.grownBy w43 (some A)) := ⟨hr, H42.out.2.trans hg⟩
    have E46 : Hid (R = choiceF l44) := by show _ = _; rw [EQ.out, hn]; first | rw [Option.bind_some] | rw [Option.map_some]
  
    clear hg hn hr
    go_wp2_with fail
    refine (choice_any HE.out A l44 w43 H45.out.1).mono ?_
    rintro _ wz ⟨hg, ⟨st, lz, sv, hn, rfl, hv, hr⟩ | ⟨hn, n1, m1, rfl⟩⟩
    · have EZ : Hid (R = some (st, lz)) := by show _ = _; rw [E46.out, hn]
      have HK : Hid (Blk w.heap.size svZ.cells 30 wz ∧ SVIs w43.heap.size sv st wz ∧ RdIs A lz wz ∧ w.grownBy wz (some A) ∧ w.heap.size < w43.heap.size) := ⟨HB1.out.2.1.keep (by have := HB1.out.2.2.2; omega) (H45.out.2.trans hg), hv, hr, HB1.out.2.2.1.trans (H45.out.2.trans hg), by have h1 := HB1.out.2.2.2; have h2 := (H45.out.2).size; omega⟩
      go_wp2_with (refine wpList_store_mid rfl 30 _ _ rfl _ 0 sv.cells rfl rfl (HK.out.1.there rfl) (s30 _) (HK.out.2.1.rowsOk).one ?_)
      refine bodyPost_ret (v := .agg sv.cells) (results_c Tryz.results49 _ _ _ rfl (load30 HK.out.1.stored)) rfl ?_
      refine ⟨grown_sets _ 0 HK.out.2.2.2.1 (Nat.le_refl _), .inl ⟨_, _, sv, EZ.out, rfl, ?_, RdIs.setsN _ 0 HK.out.2.2.1 (by have := HB1.out.2.2.2; omega)⟩⟩
      exact (HK.out.2.1.st (by have := HK.out.2.2.2.2; omega) (fr_sets _ 0 HK.out.1)).low (by have := HK.out.2.2.2.2; omega)
    · have HG : Hid (w.grownBy wz (some A) ∧ R = none) := ⟨HB1.out.2.2.1.trans (H45.out.2.trans hg), by rw [E46.out, hn]⟩
      clear hg hn
      go_wp2
      exact ⟨by first | rfl | trivial, HG.out.1, .inr ⟨HG.out.2, n1, m1, rfl⟩⟩
  · have HG : Hid (w.grownBy w43 (some A) ∧ R = none) := ⟨HB1.out.2.2.1.trans (H42.out.2.trans hg), by rw [EQ.out, hn]; rfl⟩
    clear hg hn
    go_wp2
    exact ⟨by first | rfl | trivial, HG.out.1, .inr ⟨HG.out.2, n1, m1, rfl⟩⟩
end Go.Proofs.YtbdcbaamjkjhaaaGreatDoor
namespace Go.Proofs.YtbdcbaamjkjhaaaGreatDoor
open Go.RowKit

theorem below_grown {A : Nat} {w w' : World} (h : w.grownBy w' (some A)) (hA : w.heap.size ≤ A) : Below w.heap.size w w' := ⟨h.os, h.tape, h.output, h.size, fun k hk => h.block k hk (fun e => by cases e; omega)⟩
/-- what read tells -/
def ToldR (R : Option Stm) (w : World) (e : Ending) (w' : World) : Prop :=
  Below w.heap.size w w' ∧ ((∃ st sv, R = some st ∧ e = .returned (.agg sv.cells) ∧ SVIs w.heap.size sv st w') ∨ (R = none ∧ Thr e))
set_option maxRecDepth 100000 in
set_option maxHeartbeats 16000000 in
theorem read_any (hE : ESpec Ef 0) (L : List Tok) (a : Option Addr) (c : Nat) (w : World) (hrow : RowK w.heap.size w a L) (hc : L.length ≤ c) (hok : OkT (L.map Tok.kt)) (hvr : VrAt w) (hlo : 13 ≤ w.heap.size) : Calls Tryz.prog 28 #[.slice a L.length c] w fun e w' => ToldR (readF (L.map Tok.kt)) w e w' := by
  have HE : Hid (ESpec Ef 0) := hE
  obtain ⟨l, hl⟩ : ∃ l, L.map Tok.kt = l := ⟨_, rfl⟩
  rw [hl] at hok ⊢
  have hln : L.length = l.length := by rw [← hl]; simp
  obtain ⟨W1, hW1⟩ : ∃ W, (w.alloc (.cells #[.int .i64 0, .string ⟨#[]⟩, .string ⟨#[]⟩, .slice none 0 0, .string ⟨#[]⟩, .slice none 0 0, .slice none 0 0, .pointer none, .pointer none, .slice none 0 0, .pointer none, .slice none 0 0, .int .i64 0] 30)).alloc (.cells #[.slice a L.length c] 106) = W := ⟨_, rfl⟩
  have hb1 : Below w.heap.size w W1 := by rw [← hW1]; exact ((Below.refl _ _).alloc (Nat.le_refl _) _).alloc (by simp) _
  have hs1 : W1.heap.size = w.heap.size + 2 := by rw [← hW1]; simp
  have hk1 : Blk w.heap.size svZ.cells 30 W1 := by rw [← hW1]; exact (Blk.new _ _ _).below ((Below.refl _ _).alloc (Nat.le_refl _) _)
  have hk2 : Blk (w.heap.size + 1) #[.slice a L.length c] 106 W1 := by
    have := Blk.new (w.alloc (.cells #[.int .i64 0, .string ⟨#[]⟩, .string ⟨#[]⟩, .slice none 0 0, .string ⟨#[]⟩, .slice none 0 0, .slice none 0 0, .pointer none, .pointer none, .slice none 0 0, .pointer none, .slice none 0 0, .int .i64 0] 30)) #[.slice a L.length c] 106
    rw [hW1, World.size_alloc] at this
    exact this
  have HB1 : Hid (Blk w.heap.size svZ.cells 30 W1 ∧ w.grownBy W1 (some (w.heap.size + 1)) ∧ W1.heap.size = w.heap.size + 2) := ⟨hk1, grown_of_belowA hb1 _, hs1⟩
  have HW : Hid (RdIs (w.heap.size + 1) l W1) := by
    refine ⟨⟨L, a, c, hl, by rw [← hln]; exact hk2, ?_, by omega⟩, hok, hvr.keep (fun k hk => hb1.block k (by omega)), by omega⟩
    rcases hrow with h0 | ⟨b, off, e, hb, hcells⟩
    · exact .inl h0
    · refine .inr ⟨b, off, e, by omega, fun j hj => ?_⟩
      obtain ⟨h1, h2, h3⟩ := hcells j hj
      exact ⟨(hb1.cell (p := ⟨b, _, none⟩) hb).trans h1, (hb1.cell (p := ⟨b, _, none⟩) hb).trans h2, (hb1.cell (p := ⟨b, _, none⟩) hb).trans h3⟩
  obtain ⟨R, hR⟩ : ∃ R, readF l = R := ⟨_, rfl⟩
  have E0 : Hid (R = readF l) := hR.symm
  unfold ToldR
  rw [hR]
  clear hR hb1 hs1 hk1 hk2 hrow hok hvr hl hln
  go_enter Tryz.func28, Tryz.ntmps28
  go_wp2_with fail
  refine (statement_any HE.out (w.heap.size + 1) l W1 HW.out).mono ?_
  rintro _ w2 ⟨hg, ⟨st, lz, sv, hn, rfl, hv, hr⟩ | ⟨hn, n1, m1, rfl⟩⟩
  · have E1 : Hid (R = if (hdT (semiF lz)).1 = 5 then some st else none) := by show _ = _; rw [E0.out]; unfold readF; rw [hn, Option.bind_some]
    have hkA : Blk w2.heap.size svZ.cells 30 (w2.alloc (.cells #[.int .i64 0, .string ⟨#[]⟩, .string ⟨#[]⟩, .slice none 0 0, .string ⟨#[]⟩, .slice none 0 0, .slice none 0 0, .pointer none, .pointer none, .slice none 0 0, .pointer none, .slice none 0 0, .int .i64 0] 30)) := Blk.new _ _ _
    have HKA : Hid (Blk w2.heap.size svZ.cells 30 (w2.alloc (.cells #[.int .i64 0, .string ⟨#[]⟩, .string ⟨#[]⟩, .slice none 0 0, .string ⟨#[]⟩, .slice none 0 0, .slice none 0 0, .pointer none, .pointer none, .slice none 0 0, .pointer none, .slice none 0 0, .int .i64 0] 30)) ∧ sv.Rows) := ⟨hkA, hv.rowsOk⟩
    obtain ⟨V, hV⟩ : ∃ V, (w2.alloc (.cells #[.int .i64 0, .string ⟨#[]⟩, .string ⟨#[]⟩, .slice none 0 0, .string ⟨#[]⟩, .slice none 0 0, .slice none 0 0, .pointer none, .pointer none, .slice none 0 0, .pointer none, .slice none 0 0, .int .i64 0] 30)).setCells w2.heap.size 0 sv.cells.toList = V := ⟨_, rfl⟩
    have hgV : w2.grownBy V (some (w.heap.size + 1)) := by rw [← hV]; exact grown_sets _ 0 (grown_alloc _ _ _) (Nat.le_refl _)
    have hs2 := hg.size
    have HS : Hid (SI (w.heap.size + 1) w2.heap.size W1 st lz V) := by
      refine ⟨?_, hg.trans hgV, ⟨sv, ?_, ?_⟩, by have := HB1.out.2.2; omega, hs2⟩
      · rw [← hV]
        exact RdIs.setsN _ 0 (hr.below ((Below.refl _ _).alloc (Nat.le_refl _) _)) hr.lt
      · rw [← hV]
        exact hkA.stored
      · exact hv.grown (by have := HB1.out.2.2; omega) hgV
    clear hg hn hr hkA hgV hv
    go_wp2_with (refine wpList_store_mid rfl 30 _ _ rfl _ 0 sv.cells rfl rfl (HKA.out.1.there rfl) (s30 _) HKA.out.2.one ?_; rw [hV])
    clear HKA
    obtain ⟨b, hb⟩ : ∃ b, isT ⟨#[59]⟩ lz = b := ⟨_, rfl⟩
    have HSb : Hid (isT ⟨#[59]⟩ lz = b) := hb
    have hse : semiF lz = (if b then lz.tail else lz) := by unfold semiF; rw [hb]
    clear hb
    go_wp2_with fail
    refine (has_any (w.heap.size + 1) lz ⟨#[59]⟩ b HSb.out _ HS.out.rd).mono ?_
    rintro _ w3 ⟨rfl, hr, hg⟩
    rw [← hse] at hr
    clear hse
    obtain ⟨K, hK⟩ : ∃ K, (hdT (semiF lz)).1 = K := ⟨_, rfl⟩
    obtain ⟨T, hT⟩ : ∃ T, (hdT (semiF lz)).2 = T := ⟨_, rfl⟩
    have HK : Hid ((hdT (semiF lz)).1 = K ∧ (hdT (semiF lz)).2 = T) := ⟨hK, hT⟩
    have E2 : Hid (R = if K = 5 then some st else none) := by show _ = _; rw [E1.out, hK]
    have HS3 : Hid (SI (w.heap.size + 1) w2.heap.size W1 st (semiF lz) w3) := HS.out.grown hr hg
    clear hr hg hK hT HS HSb
    go_wp2_with fail
    refine (now_any (w.heap.size + 1) (semiF lz) w3 HS3.out.rd).mono ?_
    rintro _ w4 ⟨⟨p, rfl⟩, hb4⟩
    rw [HK.out.1, HK.out.2]
    have HS4 : Hid (SI (w.heap.size + 1) w2.heap.size W1 st (semiF lz) w4) := HS3.out.grown (HS3.out.rd.below hb4) (grown_of_belowA hb4 _)
    clear hb4
    have hf0 := field0 K p T
    by_cases hk5 : K = 5
    · subst hk5
      have E3 : Hid (R = some st) := by show _ = _; rw [E2.out]; rfl
      go_wp2_with fail
      refine (must_yes (w.heap.size + 1) w4).mono ?_
      rintro _ w5 ⟨rfl, rfl⟩
      obtain ⟨sv, hk, hv⟩ := HS4.out.st
      have HZ : Hid (Blk w2.heap.size sv.cells 30 w5 ∧ Blk w.heap.size svZ.cells 30 w5 ∧ SVIs W1.heap.size sv st w5) := ⟨hk, HB1.out.1.keep (by omega) HS4.out.gr, hv⟩
      clear hk hv
      go_wp2_with (first | (refine wpList_load_mid rfl 30 _ rfl _ 0 rfl sv.cells.toList _ HZ.out.1.range Tryz.underlying30 rfl (s30 sv) ?_) | (refine wpList_store_mid rfl 30 _ _ rfl _ 0 sv.cells rfl rfl (HZ.out.2.1.there rfl) (s30 _) (HZ.out.2.2.rowsOk).one ?_))
      refine bodyPost_ret (v := .agg sv.cells) (results_c Tryz.results28 _ _ _ rfl (load30 HZ.out.2.1.stored)) rfl ?_
      refine ⟨below_grown (grown_sets _ 0 (HB1.out.2.1.trans HS4.out.gr) (Nat.le_refl _)) (by omega), .inl ⟨_, sv, E3.out, rfl, ?_⟩⟩
      exact (HZ.out.2.2.st (by have := HB1.out.2.2; omega) (fr_sets _ 0 HZ.out.2.1)).low (by have := HB1.out.2.2; omega)
    · have E3 : Hid (R = none) := by show _ = _; rw [E2.out, if_neg hk5]
      have hk6 : (K == 5) = false := beq_eq_false_iff_ne.mpr hk5
      go_wp2_with fail
      refine (must_no (w.heap.size + 1) (semiF lz) w4 HS4.out.rd).mono ?_
      rintro _ w5 ⟨⟨n1, m1, rfl⟩, hb5⟩
      have HG : Hid (Below w.heap.size w w5 ∧ R = none) := ⟨below_grown (HB1.out.2.1.trans (HS4.out.gr.trans (grown_of_belowA hb5 _))) (by omega), E3.out⟩
      clear hb5
      go_wp2
      exact ⟨by first | rfl | trivial, HG.out.1, .inr ⟨HG.out.2, n1, m1, rfl⟩⟩
  · have HG : Hid (Below w.heap.size w w2 ∧ R = none) := ⟨below_grown (HB1.out.2.1.trans hg) (by omega), by rw [E0.out]; unfold readF; rw [hn]; rfl⟩
    clear hg hn
    go_wp2
    exact ⟨by first | rfl | trivial, HG.out.1, .inr ⟨HG.out.2, n1, m1, rfl⟩⟩
end Go.Proofs.YtbdcbaamjkjhaaaGreatDoor
namespace Go.Proofs.YtbdcbaamjkjhaaaGreatDoor
open Go.RowKit

set_option maxRecDepth 100000 in
set_option maxHeartbeats 2000000 in
theorem told_any (n p : Int) (w : World) : Calls Tryz.prog 27 #[.iface 102 (.agg #[.int .i64 n, .int .i64 p])] w fun e w' => (∃ t v, e = .returned (.iface t v)) ∧ Below w.heap.size w w' := by
  have hta : ∀ w : World, (Instr.typeAssert (.iface 102 (.agg #[.int .i64 n, .int .i64 p])) 20 102 true).run Tryz.prog w = .ok (.tuple #[.agg #[.int .i64 n, .int .i64 p], .bool true]) w := fun _ => by kernel_rfl
  go_enter Tryz.func27, Tryz.ntmps27
  go_wp2
  go_ret
  refine ⟨⟨_, _, rfl⟩, ?_⟩
  refine Below.alloc ?_ (by simp) _
  first
  | exact (((Below.refl _ _).alloc (Nat.le_refl _) _).setCell (Nat.le_refl _) _).setCell (Nat.le_refl _) _
  | exact (Below.refl _ _).alloc (Nat.le_refl _) _
set_option maxRecDepth 100000 in
set_option maxHeartbeats 2000000 in
theorem catch_idle (p q : Addr) (w : World) :
    CallsD Tryz.prog 26 #[.pointer (some p), .pointer (some q)] .returning w fun e u' w' => e = .returned (.tuple #[]) ∧ u' = .returning ∧ w' = w := by
  refine callsD_of_wpS Tryz.func26 rfl fun c₀ cs hu => ?_
  simp only [Tryz.ntmps26, List.size_toArray, List.length_cons, List.length_nil, Nat.reduceAdd, Nat.reduceSub, Array.replicate_succ, Array.replicate_zero, List.push_toArray, List.append_toArray, List.nil_append, List.cons_append]
  apply wpS_seq
  apply wpS_region
  simp [wpOpsS, go_sem, recoverD, hu, Exit.thenS]
  refine wpS_of_wp ?_
  go_wp2
  cases c₀
  simp_all [bodyPostS, results, Tryz.results26]
set_option maxRecDepth 100000 in
set_option maxHeartbeats 2000000 in
theorem catch_thrown (b : Nat) (n p : Int) (w : World) (k0 : Blk b svZ.cells 30 w) (k1 : Blk (b + 1) #[.nilIface] 32 w) :
    CallsD Tryz.prog 26 #[.pointer (some ⟨b, 0, none⟩), .pointer (some ⟨b + 1, 0, none⟩)] (.panicking [{ v := .iface 102 (.agg #[.int .i64 n, .int .i64 p]), recovered := false }]) w fun e u' w' => e = .returned (.tuple #[]) ∧ u' = .panicking [{ v := .iface 102 (.agg #[.int .i64 n, .int .i64 p]), recovered := true }] ∧ Blk b svZ.cells 30 w' ∧ (∃ t v, w'.cell? ⟨b + 1, 0, none⟩ = some (.iface t v)) ∧ Below b w w' := by
  refine callsD_of_wpS Tryz.func26 rfl fun c₀ cs hu => ?_
  simp only [Tryz.ntmps26, List.size_toArray, List.length_cons, List.length_nil, Nat.reduceAdd, Nat.reduceSub, Array.replicate_succ, Array.replicate_zero, List.push_toArray, List.append_toArray, List.nil_append, List.cons_append]
  apply wpS_seq
  apply wpS_region
  simp [wpOpsS, go_sem, recoverD, hu, Exit.thenS]
  refine wpS_of_wp ?_
  go_wp2_with fail
  refine (told_any n p w).mono ?_
  rintro _ w1 ⟨⟨ty, ve, rfl⟩, hb1⟩
  have hlt := k1.lt
  have HK0 : Hid (Blk b svZ.cells 30 w1 ∧ Below b w w1) := ⟨k0.below hb1, hb1.mono (by omega)⟩
  obtain ⟨V, hV⟩ : ∃ V, w1.setCells b 0 svZ.cells.toList = V := ⟨_, rfl⟩
  have hk1 : Blk (b + 1) #[.nilIface] 32 V := by rw [← hV]; exact Blk.othersN _ 0 (k1.below hb1) (by omega)
  have z1 : V.cell? ⟨b + 1, 0, none⟩ = some .nilIface := by rw [hk1.cell 0]; rfl
  have f1 : V.frozen? ⟨b + 1, 0, none⟩ = false := hk1.free 0
  have HV : Hid (Blk b svZ.cells 30 V ∧ Below b w V) := by rw [← hV]; exact ⟨HK0.out.1.stored, below_sets _ 0 HK0.out.2 (Nat.le_refl _)⟩
  clear hb1 k0 k1 hlt hk1
  go_wp2_with (refine wpList_store_mid rfl 30 _ _ rfl _ 0 svZ.cells rfl rfl (HK0.out.1.there rfl) (s30 _) svZ_rows.one ?_; rw [hV])
  refine ⟨rfl, _, rfl, .tuple #[], by simp [results, Tryz.results26], rfl, rfl, ?_, ⟨ty, ve, ?_⟩, HV.out.2.setCell (Nat.le_succ _) _⟩
  · exact HV.out.1.other (by omega) 0 _
  · exact World.cell?_setCell_same _ _ _ z1
end Go.Proofs.YtbdcbaamjkjhaaaGreatDoor
namespace Go.Proofs.YtbdcbaamjkjhaaaGreatDoor
open Go.RowKit

/-- tokens in a row -/
def RowT (w : World) (a : Option Addr) (L : List Tok) : Prop :=
  L.length ≤ 5000 ∧ (L = [] ∨ ∃ b off, a = some ⟨b, off, none⟩ ∧ b < w.heap.size ∧ ∀ j (h : j < L.length), w.cell? ⟨b, off + j * 3, none⟩ = some (.int .i64 L[j].k) ∧ w.cell? ⟨b, off + j * 3 + 1, none⟩ = some (.string L[j].t) ∧ w.cell? ⟨b, off + j * 3 + 2, none⟩ = some (.int .i64 (L[j].p : Int)))
theorem RowT.below {w w' : World} {a : Option Addr} {L : List Tok} (h : RowT w a L) (hb : Below w.heap.size w w') : RowT w' a L := by
  refine ⟨h.1, ?_⟩
  rcases h.2 with h | ⟨b, off, e, hlt, hc⟩
  · exact .inl h
  · refine .inr ⟨b, off, e, Nat.lt_of_lt_of_le hlt hb.size, fun j hj => ?_⟩
    have := hc j hj
    exact ⟨by rw [hb.cell (p := ⟨b, _, none⟩) hlt]; exact this.1, by rw [hb.cell (p := ⟨b, _, none⟩) hlt]; exact this.2.1, by rw [hb.cell (p := ⟨b, _, none⟩) hlt]; exact this.2.2⟩
theorem tc_at (L : List Tok) : ∀ j (h : j < L.length), (tc L)[j * 3]? = some (.int .i64 L[j].k) ∧ (tc L)[j * 3 + 1]? = some (.string L[j].t) ∧ (tc L)[j * 3 + 2]? = some (.int .i64 (L[j].p : Int)) := by
  induction L with
  | nil => intro j h; cases h
  | cons x L ih =>
    intro j h
    have e : tc (x :: L) = .int .i64 x.k :: .string x.t :: .int .i64 (x.p : Int) :: tc L := rfl
    rw [e]
    cases j with
    | zero => exact ⟨rfl, rfl, rfl⟩
    | succ j =>
      have := ih j (by simpa using h)
      rw [show (j + 1) * 3 = j * 3 + 1 + 1 + 1 by omega]
      simpa using this
theorem rowT_of_own {w : World} {B : Nat} {ty : TypeId} {v : Value} {L : List Tok} (h : w.ownsRow B ty 3 v L.length (tc L)) (hl : L.length ≤ 5000) : ∃ a c, v = .slice a L.length c ∧ RowT w a L := by
  rcases h.2 with ⟨rfl, h0⟩ | ⟨g, cap, cur, rfl, _, hg, _⟩
  · have : L = [] := List.length_eq_zero_iff.1 h0
    subst this
    exact ⟨none, 0, rfl, by simp, .inl rfl⟩
  · refine ⟨_, cap, rfl, hl, .inr ⟨g, 0, rfl, (Array.getElem?_eq_some_iff.1 hg).1, fun j hj => ?_⟩⟩
    have t := tc_at L j hj
    have k0 := h.cells (g := g) rfl (j * 3) _ t.1
    have k1 := h.cells (g := g) rfl (j * 3 + 1) _ t.2.1
    have k2 := h.cells (g := g) rfl (j * 3 + 2) _ t.2.2
    rw [Go.WideShapes.add_plain] at k0 k1 k2
    exact ⟨k0, k1, k2⟩
/-- what the program's Split tells -/
def SplitTo (s : ByteArray) (w : World) (e : Ending) (w' : World) : Prop :=
  ∃ a n c E, e = .returned (.tuple #[.slice a n c, E]) ∧ ((∃ (k : Int) (p : Nat), lexS s = .error (k, p) ∧ n = 0 ∧ ∃ t v, E = .iface t v) ∨ (∃ L, lexS s = .ok L ∧ n = L.length ∧ RowT w' a L ∧ E = .nilIface)) ∧ Below w.heap.size w w'
def VarsAt (w : World) : Prop := MarksAt w ∧ MaxAt w
def LSplitSpec : Prop := ∀ (s : ByteArray) (w : World), s.size ≤ 4000 → VarsAt w → Calls Tryz.prog 25 #[.string s] w fun e w' => SplitTo s w e w'
theorem lexL_len (f : Nat) : ∀ i n l L, lexL f i n l = .ok L → L.length ≤ l.length + 1 := by
  induction f with
  | zero => intro i n l L h; cases h; simp
  | succ f ih =>
    intro i n l L h
    cases l with
    | nil => cases h; simp
    | cons c l =>
      rw [lexL] at h
      split at h
      · have := ih _ _ _ _ h; simp only [List.length_cons]; omega
      · split at h
        · cases h
        · rename_i k t m hm
          have hp := nextT_pos hm
          split at h
          · cases h
          · cases ho : lexL f (i + m) (n + 1) ((c :: l).drop m) with
            | error e => rw [ho] at h; cases h
            | ok M =>
              rw [ho] at h
              have e : L = ⟨k, ⟨t.toArray⟩, i⟩ :: M := by
                have : Except.ok (ε := Int × Nat) (⟨k, ⟨t.toArray⟩, i⟩ :: M) = .ok L := h
                exact (Except.ok.inj this).symm
              have := ih _ _ _ _ ho
              rw [List.length_drop, List.length_cons] at this
              rw [e, List.length_cons, List.length_cons]
              omega
theorem lexS_len {s : ByteArray} {L : List Tok} (h : lexS s = .ok L) (hs : s.size ≤ 4000) : L.length ≤ 5000 := by
  have := lexL_len _ _ _ _ _ h
  rw [ba_len] at this
  omega

end Go.Proofs.YtbdcbaamjkjhaaaGreatDoor
namespace Go.Proofs.YtbdcbaamjkjhaaaGreatDoor

theorem nextT_ok {l : List UInt8} {k : Int} {t : List UInt8} {m : Nat} (h : nextT l = some (k, t, m)) : k ≠ 5 ∧ (k = 2 → t.all isDg = true ∧ t.length = m) := by
  cases l with
  | nil => cases h
  | cons c l =>
    rw [nextT] at h
    split at h
    · cases h; exact ⟨by decide, fun e => absurd e (by decide)⟩
    · split at h
      · rename_i hd
        cases h
        refine ⟨by decide, fun _ => ⟨?_, by simp⟩⟩
        rw [List.all_cons, hd, Bool.true_and]
        exact List.all_takeWhile
      · split at h
        · obtain ⟨x, _, hx⟩ := Option.map_eq_some_iff.1 h
          cases hx; exact ⟨by decide, fun e => absurd e (by decide)⟩
        · split at h
          · have h' := Option.some.inj h
            unfold markT at h'
            split at h'
            · split at h' <;> (cases h'; exact ⟨by decide, fun e => absurd e (by decide)⟩)
            · cases h'; exact ⟨by decide, fun e => absurd e (by decide)⟩
          · cases h
theorem lexL_ok (f : Nat) : ∀ i n l L, lexL f i n l = .ok L → n ≤ 200 → l.length ≤ 4000 → ∃ C p, L = C ++ [⟨5, ⟨#[]⟩, p⟩] ∧ (∀ x ∈ C, x.k ≠ 5 ∧ x.t.size ≤ 4000 ∧ (x.k = 2 → digsB x.t = true)) ∧ C.length + n ≤ 200 := by
  induction f with
  | zero => intro i n l L h hn _; cases h; exact ⟨[], _, rfl, fun x hx => absurd hx (by simp), by simpa using hn⟩
  | succ f ih =>
    intro i n l L h hn hl
    cases l with
    | nil => cases h; exact ⟨[], _, rfl, fun x hx => absurd hx (by simp), by simpa using hn⟩
    | cons c l =>
      rw [lexL] at h
      simp only [List.length_cons] at hl
      split at h
      · exact ih _ _ _ _ h hn (by omega)
      · split at h
        · cases h
        · rename_i k t m hm
          have hp := nextT_pos hm
          have hk := nextT_ok hm
          split at h
          · cases h
          · rename_i hlim
            cases ho : lexL f (i + m) (n + 1) ((c :: l).drop m) with
            | error e => rw [ho] at h; cases h
            | ok M =>
              rw [ho] at h
              have e : L = ⟨k, ⟨t.toArray⟩, i⟩ :: M := by
                have : Except.ok (ε := Int × Nat) (⟨k, ⟨t.toArray⟩, i⟩ :: M) = .ok L := h
                exact (Except.ok.inj this).symm
              have hn2 : n ≠ 200 := fun e => hlim (.inr e)
              obtain ⟨C, p, e1, h1, h2⟩ := ih _ _ _ _ ho (by omega) (by rw [List.length_drop, List.length_cons]; omega)
              refine ⟨⟨k, ⟨t.toArray⟩, i⟩ :: C, p, by rw [e, e1]; rfl, ?_, by rw [List.length_cons]; omega⟩
              intro x hx
              rcases List.mem_cons.1 hx with rfl | hx
              · have hsz : (ByteArray.mk t.toArray).size = t.length := by simp [ByteArray.size]
                have hlc : (c :: l).length = l.length + 1 := List.length_cons
                refine ⟨hk.1, ?_, fun e2 => ?_⟩
                · show (ByteArray.mk t.toArray).size ≤ 4000
                  rw [hsz]; omega
                · have e3 : k = 2 := e2
                  obtain ⟨h3, h4⟩ := hk.2 e3
                  have hm19 : ¬ 19 < m := fun h5 => hlim (.inl ⟨e3, h5⟩)
                  show digsB ⟨t.toArray⟩ = true
                  unfold digsB
                  rw [hsz, show (ByteArray.mk t.toArray).data.toList = t from by simp, h3, decide_eq_true (by omega : 0 < t.length), decide_eq_true (by omega : t.length ≤ 19)]; rfl
              · exact h1 x hx
theorem lexS_ok {s : ByteArray} {L : List Tok} (h : lexS s = .ok L) (hs : s.size ≤ 4000) : OkT (L.map Tok.kt) := by
  obtain ⟨C, p, e, h1, h2⟩ := lexL_ok _ _ _ _ _ h (by omega) (by rw [ba_len]; exact hs)
  refine ⟨⟨C.map Tok.kt, by rw [e]; simp [Tok.kt], ?_⟩, by rw [e]; simp; omega⟩
  intro x hx
  obtain ⟨y, hy, rfl⟩ := List.mem_map.1 hx
  exact h1 y hy
end Go.Proofs.YtbdcbaamjkjhaaaGreatDoor
