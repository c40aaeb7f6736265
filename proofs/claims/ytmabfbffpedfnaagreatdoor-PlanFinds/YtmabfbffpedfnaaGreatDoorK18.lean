/- Part 18 of 30. -/
import Derived.Test.YtmabfbffpedfnaaGreatDoorK17
namespace Go.Proofs.YtmabfbffpedfnaaGreatDoor
open Go.RowKit

set_option maxRecDepth 100000 in
set_option maxHeartbeats 16000000 in
theorem choice_any (hE : ESpec Ef 0) (A : Nat) (l : List KT) (w : World) (h : RdIs A l w) : Calls Tryz.prog 90 #[.pointer (some ⟨A, 0, none⟩)] w fun e w' => ToldT A (choiceF l) w e w' := by
  have HE : Hid (ESpec Ef 0) := hE
  obtain ⟨W1, hW1⟩ : ∃ W, (w.alloc (.cells #[.pointer (some ⟨A, 0, none⟩)] 117)).alloc (.cells #[.int .i64 0, .string ⟨#[]⟩, .string ⟨#[]⟩, .slice none 0 0, .string ⟨#[]⟩, .slice none 0 0, .slice none 0 0, .pointer none, .pointer none, .slice none 0 0, .pointer none, .slice none 0 0, .int .i64 0] 62) = W := ⟨_, rfl⟩
  have hb1 : Below w.heap.size w W1 := by rw [← hW1]; exact ((Below.refl _ _).alloc (Nat.le_refl _) _).alloc (by simp) _
  have hs1 : W1.heap.size = w.heap.size + 2 := by rw [← hW1]; simp
  have hkx : Blk w.heap.size #[.pointer (some ⟨A, 0, none⟩)] 117 W1 := by rw [← hW1]; exact (Blk.new _ _ _).below ((Below.refl _ _).alloc (Nat.le_refl _) _)
  have hk1 : Blk (w.heap.size + 1) svZ.cells 62 W1 := by
    have := Blk.new (w.alloc (.cells #[.pointer (some ⟨A, 0, none⟩)] 117)) #[.int .i64 0, .string ⟨#[]⟩, .string ⟨#[]⟩, .slice none 0 0, .string ⟨#[]⟩, .slice none 0 0, .slice none 0 0, .pointer none, .pointer none, .slice none 0 0, .pointer none, .slice none 0 0, .int .i64 0] 62
    rw [hW1, World.size_alloc] at this
    exact this
  have HB1 : Hid (Blk w.heap.size #[.pointer (some ⟨A, 0, none⟩)] 117 W1 ∧ Blk (w.heap.size + 1) svZ.cells 62 W1 ∧ w.grownBy W1 (some A) ∧ W1.heap.size = w.heap.size + 2 ∧ A < w.heap.size) := ⟨hkx, hk1, grown_of_belowA hb1 _, hs1, h.lt⟩
  have cxW1 : W1.cell? ⟨w.heap.size, 0, none⟩ = some (.pointer (some ⟨A, 0, none⟩)) := by rw [hkx.cell 0]; rfl
  have HW : Hid (RdIs A l W1 ∧ W1.grownBy W1 (some A)) := ⟨h.below hb1, grownA_refl _ _⟩
  obtain ⟨R, hR⟩ : ∃ R, choiceF l = R := ⟨_, rfl⟩
  have E0 : Hid (R = choiceF l) := hR.symm
  unfold ToldT
  rw [hR]
  clear h hR hb1 hs1 hk1 hkx
  go_enter Tryz.func90, Tryz.ntmps90
  have E1 : Hid (R = (selItems l).bind fun a => (selTable a.2).bind fun b => (selJoin b.2).bind fun c => (whereF ⟨#[119, 104, 101, 114, 101]⟩ c.2).bind fun d => (selGroup d.2).bind fun e => (selOrder e.2).bind fun f => (selLimit f.2).map fun g => (⟨7, b.1, c.1.1, [], ⟨#[]⟩, [], [], c.1.2, d.1, a.1, e.1, f.1, g.1⟩, g.2)) := by show _ = _; rw [E0.out]; rfl
  go_wp2_with fail
  refine (of_any 7 ⟨#[]⟩ W1).mono ?_
  rintro _ w1 ⟨rfl, hb⟩
  have hkA : Blk w1.heap.size svZ.cells 62 (w1.alloc (.cells #[.int .i64 0, .string ⟨#[]⟩, .string ⟨#[]⟩, .slice none 0 0, .string ⟨#[]⟩, .slice none 0 0, .slice none 0 0, .pointer none, .pointer none, .slice none 0 0, .pointer none, .slice none 0 0, .int .i64 0] 62)) := Blk.new _ _ _
  have HKA : Hid (Blk w1.heap.size svZ.cells 62 (w1.alloc (.cells #[.int .i64 0, .string ⟨#[]⟩, .string ⟨#[]⟩, .slice none 0 0, .string ⟨#[]⟩, .slice none 0 0, .slice none 0 0, .pointer none, .pointer none, .slice none 0 0, .pointer none, .slice none 0 0, .int .i64 0] 62))) := hkA
  obtain ⟨V2, hV2⟩ : ∃ V, (w1.alloc (.cells #[.int .i64 0, .string ⟨#[]⟩, .string ⟨#[]⟩, .slice none 0 0, .string ⟨#[]⟩, .slice none 0 0, .slice none 0 0, .pointer none, .pointer none, .slice none 0 0, .pointer none, .slice none 0 0, .int .i64 0] 62)).setCells w1.heap.size 0 (svOf 7 ⟨#[]⟩).cells.toList = V := ⟨_, rfl⟩
  have hgV : w1.grownBy V2 (some A) := by rw [← hV2]; exact grown_sets _ 0 (grown_alloc _ _ _) (Nat.le_refl _)
  have H3 : Hid (SI A w1.heap.size W1 (ofS 7 ⟨#[]⟩) l V2) := by
    refine ⟨?_, (HW.out.2.trans (grown_of_belowA hb _)).trans hgV, ⟨svOf 7 ⟨#[]⟩, ?_, svis_of _ _ _ _⟩, by have := HB1.out.2.2.2; omega, by have h1 := (HW.out.2.trans (grown_of_belowA hb (some A))).size; exact h1⟩
    · rw [← hV2]
      exact RdIs.setsN _ 0 ((HW.out.1.below hb).below ((Below.refl _ _).alloc (Nat.le_refl _) _)) ((HW.out.1.below hb).lt)
    · rw [← hV2]
      exact hkA.stored
  have cxV2 : V2.cell? ⟨w.heap.size, 0, none⟩ = some (.pointer (some ⟨A, 0, none⟩)) := by rw [(HB1.out.1.keep (by have := HB1.out.2.2.2.2; omega) H3.out.gr).cell 0]; rfl
  clear hb hkA hgV
  go_wp2_with (refine wpList_store_mid rfl 62 _ _ rfl _ 0 (svOf 7 ⟨#[]⟩).cells rfl rfl (HKA.out.there rfl) (s30 _) (svOf_rows 7 ⟨#[]⟩).one ?_; rw [hV2])
  clear HKA
  obtain ⟨b4, hb4⟩ : ∃ b, isT ⟨#[42]⟩ l = b := ⟨_, rfl⟩
  have HS6 : Hid (isT ⟨#[42]⟩ l = b4) := hb4
  clear hb4
  go_wp2_with fail
  refine (has_any A l ⟨#[42]⟩ b4 HS6.out _ H3.out.rd).mono ?_
  rintro _ w5 ⟨rfl, hr, hg⟩
  have HX : Hid (SI A w1.heap.size W1 (ofS 7 ⟨#[]⟩) (if b4 then l.tail else l) w5) := H3.out.grown hr hg
  have cxw5 : w5.cell? ⟨w.heap.size, 0, none⟩ = some (.pointer (some ⟨A, 0, none⟩)) := by rw [(HB1.out.1.keep (by have := HB1.out.2.2.2.2; omega) HX.out.gr).cell 0]; rfl
  clear hr hg
  go_upto_if 7 with fail
  go_cut [] (fun wx => ∃ (ia : List (Int × Ex)) (l9 : List KT), Hid (selItems l = some (ia, l9)) ∧ Hid (SI A w1.heap.size W1 { (ofS 7 ⟨#[]⟩) with items := ia } l9 wx))
  case first =>
    cases b4
    · have H7 : Hid (SI A w1.heap.size W1 (ofS 7 ⟨#[]⟩) l w5) := HX
      have HP0 : Hid (selItems l = listF itemF l) := by show selItems l = _; unfold selItems; rw [if_neg (by rw [HS6.out]; decide)]
      obtain ⟨sv, hA1, hA2⟩ := H7.out.acc_items (x := w.heap.size) rfl (HB1.out.1.keep (by have := HB1.out.2.2.2; omega) H7.out.gr) (by have := HB1.out.2.2.2; omega) (by have h1 := HB1.out.2.2.2; have h2 := H7.out.S0; omega)
      have HA : Hid (_ ∧ _) := ⟨hA1, hA2⟩
      clear hA1 hA2
      go_wp2_with fail
      refine (li_si HE.out HA.out.2 HA.out.1).mono ?_
      rintro _ wl (⟨La, la, hn, rfl, ha⟩ | ⟨hn, ⟨n1, m1, rfl⟩, hg⟩)
      · have HM : Hid (SI A w1.heap.size W1 { (ofS 7 ⟨#[]⟩) with items := La } la wl ∧ selItems l = some (La, la)) := ⟨SI.of_items ha (listS_ne hn), by rw [HP0.out]; exact hn⟩
        clear hn ha HA
        go_wp2_with fail
        go_meet
        case rel => exact ⟨La, la, HM.out.2, HM.out.1⟩
      · have HG : Hid (w.grownBy wl (some A) ∧ R = none) := ⟨HB1.out.2.2.1.trans hg, by rw [E1.out, HP0.out, show listF itemF l = none from hn]; rfl⟩
        go_wp2
        exact ⟨by first | rfl | trivial, HG.out.1, .inr ⟨HG.out.2, n1, m1, rfl⟩⟩
    · have H8 : Hid (SI A w1.heap.size W1 (ofS 7 ⟨#[]⟩) l.tail w5) := HX
      have HP0 : Hid (selItems l = some ([], l.tail)) := by show selItems l = _; unfold selItems; rw [if_pos HS6.out]
      go_wp2_with fail
      go_meet
      case rel => exact ⟨[], l.tail, HP0, H8⟩
  case rest =>
  obtain ⟨ia, l9, HC11, H12⟩ := hcut
  obtain ⟨wr', rfl⟩ : ∃ u, u = wc := ⟨_, rfl⟩
  have E10 : Hid (R = (selTable l9).bind fun b => (selJoin b.2).bind fun c => (whereF ⟨#[119, 104, 101, 114, 101]⟩ c.2).bind fun d => (selGroup d.2).bind fun e => (selOrder e.2).bind fun f => (selLimit f.2).map fun g => (⟨7, b.1, c.1.1, [], ⟨#[]⟩, [], [], c.1.2, d.1, ia, e.1, f.1, g.1⟩, g.2)) := by show _ = _; rw [E1.out, HC11.out]; first | rw [Option.bind_some] | rw [Option.map_some]
  have cxr : wr'.cell? ⟨w.heap.size, 0, none⟩ = some (.pointer (some ⟨A, 0, none⟩)) := by rw [(HB1.out.1.keep (by have := HB1.out.2.2.2.2; omega) H12.out.gr).cell 0]; rfl
  clear HX HS6 HC11
  have EQ : Hid (R = (needF ⟨#[102, 114, 111, 109]⟩ l9).bind fun z => (nameF z).bind fun b => (selJoin b.2).bind fun c => (whereF ⟨#[119, 104, 101, 114, 101]⟩ c.2).bind fun d => (selGroup d.2).bind fun e => (selOrder e.2).bind fun f => (selLimit f.2).map fun g => (⟨7, b.1, c.1.1, [], ⟨#[]⟩, [], [], c.1.2, d.1, ia, e.1, f.1, g.1⟩, g.2)) := by show _ = _; rw [E10.out]; unfold selTable; exact Option.bind_assoc _ _ _
  go_wp2_with fail
  refine (need_any A l9 ⟨#[102, 114, 111, 109]⟩ wr' H12.out.rd).mono ?_
  rintro _ w14 ⟨hg, ⟨l15, hn, rfl, hr⟩ | ⟨hn, n1, m1, rfl⟩⟩
  · have H16 : Hid (SI A w1.heap.size W1 { (ofS 7 ⟨#[]⟩) with items := ia } l15 w14) := H12.out.grown hr hg
    have E17 : Hid (R = (nameF l15).bind fun b => (selJoin b.2).bind fun c => (whereF ⟨#[119, 104, 101, 114, 101]⟩ c.2).bind fun d => (selGroup d.2).bind fun e => (selOrder e.2).bind fun f => (selLimit f.2).map fun g => (⟨7, b.1, c.1.1, [], ⟨#[]⟩, [], [], c.1.2, d.1, ia, e.1, f.1, g.1⟩, g.2)) := by show _ = _; rw [EQ.out, hn]; first | rw [Option.bind_some] | rw [Option.map_some]
    have cxw14 : w14.cell? ⟨w.heap.size, 0, none⟩ = some (.pointer (some ⟨A, 0, none⟩)) := by rw [(HB1.out.1.keep (by have := HB1.out.2.2.2.2; omega) H16.out.gr).cell 0]; rfl
    clear hg hn hr
    go_wp2_with fail
    refine (name_any A l15 w14 H16.out.rd).mono ?_
    rintro _ w18 ⟨hg, ⟨nm20, l19, hn, rfl, hr, _⟩ | ⟨hn, n1, m1, rfl⟩⟩
    · have H21 : Hid (SI A w1.heap.size W1 { (ofS 7 ⟨#[]⟩) with items := ia } l19 w18) := H16.out.grown hr hg
      obtain ⟨⟨v0, c0⟩, f0⟩ := H21.out.cell (i := 1) (by decide)
      obtain ⟨w23, hwz⟩ : ∃ u, w18.setCell ⟨w1.heap.size, 1, none⟩ (.string nm20) = u := ⟨_, rfl⟩
      have H24 : Hid (SI A w1.heap.size W1 { { (ofS 7 ⟨#[]⟩) with items := ia } with table := nm20 } l19 w23) := by
        rw [← hwz]
        exact H21.out.set_table nm20
      have E22 : Hid (R = (selJoin l19).bind fun c => (whereF ⟨#[119, 104, 101, 114, 101]⟩ c.2).bind fun d => (selGroup d.2).bind fun e => (selOrder e.2).bind fun f => (selLimit f.2).map fun g => (⟨7, nm20, c.1.1, [], ⟨#[]⟩, [], [], c.1.2, d.1, ia, e.1, f.1, g.1⟩, g.2)) := by show _ = _; rw [E17.out, hn]; first | rw [Option.bind_some] | rw [Option.map_some]
      have cxw23 : w23.cell? ⟨w.heap.size, 0, none⟩ = some (.pointer (some ⟨A, 0, none⟩)) := by rw [(HB1.out.1.keep (by have := HB1.out.2.2.2.2; omega) H24.out.gr).cell 0]; rfl
      clear hg hn hr
      obtain ⟨b25, hb25⟩ : ∃ b, isT ⟨#[106, 111, 105, 110]⟩ l19 = b := ⟨_, rfl⟩
      have HS27 : Hid (isT ⟨#[106, 111, 105, 110]⟩ l19 = b25) := hb25
      clear hb25
      go_wp2_with fail
      refine (has_any A l19 ⟨#[106, 111, 105, 110]⟩ b25 HS27.out _ H24.out.rd).mono ?_
      rintro _ w26 ⟨rfl, hr, hg⟩
      have HX : Hid (SI A w1.heap.size W1 { { (ofS 7 ⟨#[]⟩) with items := ia } with table := nm20 } (if b25 then l19.tail else l19) w26) := H24.out.grown hr hg
      have cxw26 : w26.cell? ⟨w.heap.size, 0, none⟩ = some (.pointer (some ⟨A, 0, none⟩)) := by rw [(HB1.out.1.keep (by have := HB1.out.2.2.2.2; omega) HX.out.gr).cell 0]; rfl
      clear hr hg
      go_upto_if 17 with fail
      go_cut [] (fun wx => ∃ (jo : ByteArray) (je : Ex) (l30 : List KT), Hid (selJoin l19 = some ((jo, je), l30)) ∧ Hid (SI A w1.heap.size W1 { { { { (ofS 7 ⟨#[]⟩) with items := ia } with table := nm20 } with other := jo } with on := je } l30 wx))
      case first =>
        cases b25
        · have H28 : Hid (SI A w1.heap.size W1 { { (ofS 7 ⟨#[]⟩) with items := ia } with table := nm20 } l19 w26) := HX
          have HP0 : Hid (selJoin l19 = some ((⟨#[]⟩, .nil), l19)) := by show selJoin l19 = _; unfold selJoin; rw [if_neg (by rw [HS27.out]; decide)]
          go_wp2_with fail
          go_meet
          case rel => exact ⟨⟨#[]⟩, .nil, l19, HP0, H28⟩
        · have H29 : Hid (SI A w1.heap.size W1 { { (ofS 7 ⟨#[]⟩) with items := ia } with table := nm20 } l19.tail w26) := HX
          have HP0 : Hid (selJoin l19 = (nameF l19.tail).bind fun a => (needF ⟨#[111, 110]⟩ a.2).bind fun l2 => (Ef l2).map fun b => ((a.1, b.1), b.2)) := by show selJoin l19 = _; unfold selJoin; rw [if_pos HS27.out]
          go_wp2_with fail
          refine (name_any A l19.tail _ H29.out.rd).mono ?_
          rintro _ wa ⟨hg, ⟨nb, lb, hn, rfl, hr, _⟩ | ⟨hn, n1, m1, rfl⟩⟩
          · have HA1 : Hid (SI A w1.heap.size W1 { { (ofS 7 ⟨#[]⟩) with items := ia } with table := nm20 } lb wa) := H29.out.grown hr hg
            obtain ⟨⟨v0, c0⟩, f0⟩ := HA1.out.cell (i := 2) (by decide)
            obtain ⟨wb, hwb⟩ : ∃ u, wa.setCell ⟨w1.heap.size, 2, none⟩ (.string nb) = u := ⟨_, rfl⟩
            have HA2 : Hid (SI A w1.heap.size W1 { { { (ofS 7 ⟨#[]⟩) with items := ia } with table := nm20 } with other := nb } lb wb) := by
              rw [← hwb]
              exact HA1.out.set_other nb
            have HP1 : Hid (selJoin l19 = (needF ⟨#[111, 110]⟩ lb).bind fun l2 => (Ef l2).map fun b => ((nb, b.1), b.2)) := by show _ = _; rw [HP0.out, hn]; first | rw [Option.bind_some] | rw [Option.map_some]
            have cxb : wb.cell? ⟨w.heap.size, 0, none⟩ = some (.pointer (some ⟨A, 0, none⟩)) := by rw [(HB1.out.1.keep (by have := HB1.out.2.2.2.2; omega) HA2.out.gr).cell 0]; rfl
            clear hg hn hr
            go_wp2_with fail
            refine (need_any A lb ⟨#[111, 110]⟩ wb HA2.out.rd).mono ?_
            rintro _ wd ⟨hg, ⟨ld, hn, rfl, hr⟩ | ⟨hn, n1, m1, rfl⟩⟩
            · have HA3 : Hid (SI A w1.heap.size W1 { { { (ofS 7 ⟨#[]⟩) with items := ia } with table := nm20 } with other := nb } ld wd) := HA2.out.grown hr hg
              have HP2 : Hid (selJoin l19 = (Ef ld).map fun b => ((nb, b.1), b.2)) := by show _ = _; rw [HP1.out, hn]; first | rw [Option.bind_some] | rw [Option.map_some]
              have cxd : wd.cell? ⟨w.heap.size, 0, none⟩ = some (.pointer (some ⟨A, 0, none⟩)) := by rw [(HB1.out.1.keep (by have := HB1.out.2.2.2.2; omega) HA3.out.gr).cell 0]; rfl
              clear hg hn hr
              go_wp2_with fail
              refine (HE.out A ld wd HA3.out.rd).mono ?_
              rintro _ we ⟨hg, ⟨ee, le, pe, hn, rfl, hx, hr⟩ | ⟨hn, n1, m1, rfl⟩⟩
              · have HA4 : Hid (SI A w1.heap.size W1 { { { (ofS 7 ⟨#[]⟩) with items := ia } with table := nm20 } with other := nb } le we) := HA3.out.grown hr hg
                obtain ⟨⟨v1, c1⟩, f1⟩ := HA4.out.cell (i := 7) (by decide)
                have HM : Hid (SI A w1.heap.size W1 { { { { (ofS 7 ⟨#[]⟩) with items := ia } with table := nm20 } with other := nb } with on := ee } le (we.setCell ⟨w1.heap.size, 7, none⟩ (.pointer pe)) ∧ selJoin l19 = some ((nb, ee), le)) := ⟨HA4.out.set_on (hx.mono (by have := HA3.out.gr.size; omega)), by rw [HP2.out, hn]; first | rw [Option.bind_some] | rw [Option.map_some]⟩
                clear hg hn hx hr
                go_wp2_with fail
                go_meet
                case rel => exact ⟨nb, ee, le, HM.out.2, HM.out.1⟩
              · have HG : Hid (w.grownBy we (some A) ∧ R = none) := ⟨HB1.out.2.2.1.trans (HA3.out.gr.trans hg), by rw [E22.out, HP2.out, hn]; rfl⟩
                go_wp2
                exact ⟨by first | rfl | trivial, HG.out.1, .inr ⟨HG.out.2, n1, m1, rfl⟩⟩
            · have HG : Hid (w.grownBy wd (some A) ∧ R = none) := ⟨HB1.out.2.2.1.trans (HA2.out.gr.trans hg), by rw [E22.out, HP1.out, hn]; rfl⟩
              go_wp2
              exact ⟨by first | rfl | trivial, HG.out.1, .inr ⟨HG.out.2, n1, m1, rfl⟩⟩
          · have HG : Hid (w.grownBy wa (some A) ∧ R = none) := ⟨HB1.out.2.2.1.trans (H29.out.gr.trans hg), by rw [E22.out, HP0.out, hn]; rfl⟩
            go_wp2
            exact ⟨by first | rfl | trivial, HG.out.1, .inr ⟨HG.out.2, n1, m1, rfl⟩⟩
      case rest =>
      obtain ⟨jo, je, l30, HC32, H33⟩ := hcut
      obtain ⟨wr', rfl⟩ : ∃ u, u = wc := ⟨_, rfl⟩
      have E31 : Hid (R = (whereF ⟨#[119, 104, 101, 114, 101]⟩ l30).bind fun d => (selGroup d.2).bind fun e => (selOrder e.2).bind fun f => (selLimit f.2).map fun g => (⟨7, nm20, jo, [], ⟨#[]⟩, [], [], je, d.1, ia, e.1, f.1, g.1⟩, g.2)) := by show _ = _; rw [E22.out, HC32.out]; first | rw [Option.bind_some] | rw [Option.map_some]
      have cxr : wr'.cell? ⟨w.heap.size, 0, none⟩ = some (.pointer (some ⟨A, 0, none⟩)) := by rw [(HB1.out.1.keep (by have := HB1.out.2.2.2.2; omega) H33.out.gr).cell 0]; rfl
      clear HX HS27 HC32
      go_wp2_with fail
      refine (behind_any HE.out A l30 ⟨#[119, 104, 101, 114, 101]⟩ wr' H33.out.rd).mono ?_
      rintro _ w35 ⟨hg, ⟨e37, l36, p38, hn, rfl, hx, hr⟩ | ⟨hn, n1, m1, rfl⟩⟩
      · have H39 : Hid (SI A w1.heap.size W1 { { { { (ofS 7 ⟨#[]⟩) with items := ia } with table := nm20 } with other := jo } with on := je } l36 w35) := H33.out.grown hr hg
        obtain ⟨⟨v0, c0⟩, f0⟩ := H39.out.cell (i := 8) (by decide)
        obtain ⟨w41, hwz⟩ : ∃ u, w35.setCell ⟨w1.heap.size, 8, none⟩ (.pointer p38) = u := ⟨_, rfl⟩
        have H42 : Hid (SI A w1.heap.size W1 { { { { { (ofS 7 ⟨#[]⟩) with items := ia } with table := nm20 } with other := jo } with on := je } with wh := e37 } l36 w41) := by
          rw [← hwz]
          exact H39.out.set_wh (hx.mono (by have := H33.out.gr.size; omega))
        have E40 : Hid (R = (selGroup l36).bind fun e => (selOrder e.2).bind fun f => (selLimit f.2).map fun g => (⟨7, nm20, jo, [], ⟨#[]⟩, [], [], je, e37, ia, e.1, f.1, g.1⟩, g.2)) := by show _ = _; rw [E31.out, hn]; first | rw [Option.bind_some] | rw [Option.map_some]
        have cxw41 : w41.cell? ⟨w.heap.size, 0, none⟩ = some (.pointer (some ⟨A, 0, none⟩)) := by rw [(HB1.out.1.keep (by have := HB1.out.2.2.2.2; omega) H42.out.gr).cell 0]; rfl
        clear hg hn hx hr
        obtain ⟨b43, hb43⟩ : ∃ b, isT ⟨#[103, 114, 111, 117, 112]⟩ l36 = b := ⟨_, rfl⟩
        have HS45 : Hid (isT ⟨#[103, 114, 111, 117, 112]⟩ l36 = b43) := hb43
        clear hb43
        go_wp2_with fail
        refine (has_any A l36 ⟨#[103, 114, 111, 117, 112]⟩ b43 HS45.out _ H42.out.rd).mono ?_
        rintro _ w44 ⟨rfl, hr, hg⟩
        have HX : Hid (SI A w1.heap.size W1 { { { { { (ofS 7 ⟨#[]⟩) with items := ia } with table := nm20 } with other := jo } with on := je } with wh := e37 } (if b43 then l36.tail else l36) w44) := H42.out.grown hr hg
        have cxw44 : w44.cell? ⟨w.heap.size, 0, none⟩ = some (.pointer (some ⟨A, 0, none⟩)) := by rw [(HB1.out.1.keep (by have := HB1.out.2.2.2.2; omega) HX.out.gr).cell 0]; rfl
        clear hr hg
        go_upto_if 30 with fail
        go_cut [] (fun wx => ∃ (gr : Ex) (l48 : List KT), Hid (selGroup l36 = some (gr, l48)) ∧ Hid (SI A w1.heap.size W1 { { { { { { (ofS 7 ⟨#[]⟩) with items := ia } with table := nm20 } with other := jo } with on := je } with wh := e37 } with grp := gr } l48 wx))
        case first =>
          cases b43
          · have H46 : Hid (SI A w1.heap.size W1 { { { { { (ofS 7 ⟨#[]⟩) with items := ia } with table := nm20 } with other := jo } with on := je } with wh := e37 } l36 w44) := HX
            have HP0 : Hid (selGroup l36 = some (.nil, l36)) := by show selGroup l36 = _; unfold selGroup; rw [if_neg (by rw [HS45.out]; decide)]
            go_wp2_with fail
            go_meet
            case rel => exact ⟨.nil, l36, HP0, H46⟩
          · have H47 : Hid (SI A w1.heap.size W1 { { { { { (ofS 7 ⟨#[]⟩) with items := ia } with table := nm20 } with other := jo } with on := je } with wh := e37 } l36.tail w44) := HX
            have HP0 : Hid (selGroup l36 = (needF ⟨#[98, 121]⟩ l36.tail).bind Ef) := by show selGroup l36 = _; unfold selGroup; rw [if_pos HS45.out]
            go_wp2_with fail
            refine (need_any A l36.tail ⟨#[98, 121]⟩ _ H47.out.rd).mono ?_
            rintro _ wd ⟨hg, ⟨ld, hn, rfl, hr⟩ | ⟨hn, n1, m1, rfl⟩⟩
            · have HA3 : Hid (SI A w1.heap.size W1 { { { { { (ofS 7 ⟨#[]⟩) with items := ia } with table := nm20 } with other := jo } with on := je } with wh := e37 } ld wd) := H47.out.grown hr hg
              have HP2 : Hid (selGroup l36 = Ef ld) := by show _ = _; rw [HP0.out, hn]; first | rw [Option.bind_some] | rw [Option.map_some]
              have cxd : wd.cell? ⟨w.heap.size, 0, none⟩ = some (.pointer (some ⟨A, 0, none⟩)) := by rw [(HB1.out.1.keep (by have := HB1.out.2.2.2.2; omega) HA3.out.gr).cell 0]; rfl
              clear hg hn hr
              go_wp2_with fail
              refine (HE.out A ld wd HA3.out.rd).mono ?_
              rintro _ we ⟨hg, ⟨ee, le, pe, hn, rfl, hx, hr⟩ | ⟨hn, n1, m1, rfl⟩⟩
              · have HA4 : Hid (SI A w1.heap.size W1 { { { { { (ofS 7 ⟨#[]⟩) with items := ia } with table := nm20 } with other := jo } with on := je } with wh := e37 } le we) := HA3.out.grown hr hg
                obtain ⟨⟨v1, c1⟩, f1⟩ := HA4.out.cell (i := 10) (by decide)
                have HM : Hid (SI A w1.heap.size W1 { { { { { { (ofS 7 ⟨#[]⟩) with items := ia } with table := nm20 } with other := jo } with on := je } with wh := e37 } with grp := ee } le (we.setCell ⟨w1.heap.size, 10, none⟩ (.pointer pe)) ∧ selGroup l36 = some (ee, le)) := ⟨HA4.out.set_grp (hx.mono (by have := HA3.out.gr.size; omega)), by rw [HP2.out, hn]⟩
                clear hg hn hx hr
                go_wp2_with fail
                go_meet
                case rel => exact ⟨ee, le, HM.out.2, HM.out.1⟩
              · have HG : Hid (w.grownBy we (some A) ∧ R = none) := ⟨HB1.out.2.2.1.trans (HA3.out.gr.trans hg), by rw [E40.out, HP2.out, hn]; rfl⟩
                go_wp2
                exact ⟨by first | rfl | trivial, HG.out.1, .inr ⟨HG.out.2, n1, m1, rfl⟩⟩
            · have HG : Hid (w.grownBy wd (some A) ∧ R = none) := ⟨HB1.out.2.2.1.trans (H47.out.gr.trans hg), by rw [E40.out, HP0.out, hn]; rfl⟩
              go_wp2
              exact ⟨by first | rfl | trivial, HG.out.1, .inr ⟨HG.out.2, n1, m1, rfl⟩⟩
        case rest =>
        obtain ⟨gr, l48, HC50, H51⟩ := hcut
        obtain ⟨wr', rfl⟩ : ∃ u, u = wc := ⟨_, rfl⟩
        have E49 : Hid (R = (selOrder l48).bind fun f => (selLimit f.2).map fun g => (⟨7, nm20, jo, [], ⟨#[]⟩, [], [], je, e37, ia, gr, f.1, g.1⟩, g.2)) := by show _ = _; rw [E40.out, HC50.out]; first | rw [Option.bind_some] | rw [Option.map_some]
        have cxr : wr'.cell? ⟨w.heap.size, 0, none⟩ = some (.pointer (some ⟨A, 0, none⟩)) := by rw [(HB1.out.1.keep (by have := HB1.out.2.2.2.2; omega) H51.out.gr).cell 0]; rfl
        clear HX HS45 HC50
        obtain ⟨b53, hb53⟩ : ∃ b, isT ⟨#[111, 114, 100, 101, 114]⟩ l48 = b := ⟨_, rfl⟩
        have HS55 : Hid (isT ⟨#[111, 114, 100, 101, 114]⟩ l48 = b53) := hb53
        clear hb53
        go_wp2_with fail
        refine (has_any A l48 ⟨#[111, 114, 100, 101, 114]⟩ b53 HS55.out _ H51.out.rd).mono ?_
        rintro _ w54 ⟨rfl, hr, hg⟩
        have HX : Hid (SI A w1.heap.size W1 { { { { { { (ofS 7 ⟨#[]⟩) with items := ia } with table := nm20 } with other := jo } with on := je } with wh := e37 } with grp := gr } (if b53 then l48.tail else l48) w54) := H51.out.grown hr hg
        have cxw54 : w54.cell? ⟨w.heap.size, 0, none⟩ = some (.pointer (some ⟨A, 0, none⟩)) := by rw [(HB1.out.1.keep (by have := HB1.out.2.2.2.2; omega) HX.out.gr).cell 0]; rfl
        clear hr hg
        go_upto_if 37 with fail
        go_cut [] (fun wx => ∃ (oo : List (Ex × Bool)) (l58 : List KT), Hid (selOrder l48 = some (oo, l58)) ∧ Hid (SI A w1.heap.size W1 { { { { { { { (ofS 7 ⟨#[]⟩) with items := ia } with table := nm20 } with other := jo } with on := je } with wh := e37 } with grp := gr } with ord := oo } l58 wx))
        case first =>
          cases b53
          · have H56 : Hid (SI A w1.heap.size W1 { { { { { { (ofS 7 ⟨#[]⟩) with items := ia } with table := nm20 } with other := jo } with on := je } with wh := e37 } with grp := gr } l48 w54) := HX
            have HP0 : Hid (selOrder l48 = some ([], l48)) := by show selOrder l48 = _; unfold selOrder; rw [if_neg (by rw [HS55.out]; decide)]
            go_wp2_with fail
            go_meet
            case rel => exact ⟨[], l48, HP0, H56⟩
          · have H57 : Hid (SI A w1.heap.size W1 { { { { { { (ofS 7 ⟨#[]⟩) with items := ia } with table := nm20 } with other := jo } with on := je } with wh := e37 } with grp := gr } l48.tail w54) := HX
            have HP0 : Hid (selOrder l48 = (needF ⟨#[98, 121]⟩ l48.tail).bind (listF rankF)) := by show selOrder l48 = _; unfold selOrder; rw [if_pos HS55.out]
            go_wp2_with fail
            refine (need_any A l48.tail ⟨#[98, 121]⟩ _ H57.out.rd).mono ?_
            rintro _ wd ⟨hg, ⟨ld, hn, rfl, hr⟩ | ⟨hn, n1, m1, rfl⟩⟩
            · have HA3 : Hid (SI A w1.heap.size W1 { { { { { { (ofS 7 ⟨#[]⟩) with items := ia } with table := nm20 } with other := jo } with on := je } with wh := e37 } with grp := gr } ld wd) := H57.out.grown hr hg
              have HP2 : Hid (selOrder l48 = listF rankF ld) := by show _ = _; rw [HP0.out, hn]; first | rw [Option.bind_some] | rw [Option.map_some]
              have cxd : wd.cell? ⟨w.heap.size, 0, none⟩ = some (.pointer (some ⟨A, 0, none⟩)) := by rw [(HB1.out.1.keep (by have := HB1.out.2.2.2.2; omega) HA3.out.gr).cell 0]; rfl
              clear hg hn hr
              obtain ⟨sv, hA1, hA2⟩ := HA3.out.acc_ord (x := w.heap.size) rfl (HB1.out.1.keep (by have := HB1.out.2.2.2; omega) HA3.out.gr) (by have := HB1.out.2.2.2; omega) (by have h1 := HB1.out.2.2.2; have h2 := HA3.out.S0; omega)
              have HA : Hid (_ ∧ _) := ⟨hA1, hA2⟩
              clear hA1 hA2
              go_wp2_with fail
              refine (li_so HE.out HA.out.2 HA.out.1).mono ?_
              rintro _ wl (⟨La, la, hn, rfl, ha⟩ | ⟨hn, ⟨n1, m1, rfl⟩, hg⟩)
              · have HM : Hid (SI A w1.heap.size W1 { { { { { { { (ofS 7 ⟨#[]⟩) with items := ia } with table := nm20 } with other := jo } with on := je } with wh := e37 } with grp := gr } with ord := La } la wl ∧ selOrder l48 = some (La, la)) := ⟨SI.of_ord ha (listS_ne hn), by rw [HP2.out]; exact hn⟩
                clear hn ha HA
                go_wp2_with fail
                go_meet
                case rel => exact ⟨La, la, HM.out.2, HM.out.1⟩
              · have HG : Hid (w.grownBy wl (some A) ∧ R = none) := ⟨HB1.out.2.2.1.trans hg, by rw [E49.out, HP2.out, show listF rankF ld = none from hn]; rfl⟩
                go_wp2
                exact ⟨by first | rfl | trivial, HG.out.1, .inr ⟨HG.out.2, n1, m1, rfl⟩⟩
            · have HG : Hid (w.grownBy wd (some A) ∧ R = none) := ⟨HB1.out.2.2.1.trans (H57.out.gr.trans hg), by rw [E49.out, HP0.out, hn]; rfl⟩
              go_wp2
              exact ⟨by first | rfl | trivial, HG.out.1, .inr ⟨HG.out.2, n1, m1, rfl⟩⟩
        case rest =>
        obtain ⟨oo, l58, HC60, H61⟩ := hcut
        obtain ⟨wr', rfl⟩ : ∃ u, u = wc := ⟨_, rfl⟩
        have E59 : Hid (R = (selLimit l58).map fun g => (⟨7, nm20, jo, [], ⟨#[]⟩, [], [], je, e37, ia, gr, oo, g.1⟩, g.2)) := by show _ = _; rw [E49.out, HC60.out]; first | rw [Option.bind_some] | rw [Option.map_some]
        have cxr : wr'.cell? ⟨w.heap.size, 0, none⟩ = some (.pointer (some ⟨A, 0, none⟩)) := by rw [(HB1.out.1.keep (by have := HB1.out.2.2.2.2; omega) H61.out.gr).cell 0]; rfl
        clear HX HS55 HC60
        obtain ⟨b63, hb63⟩ : ∃ b, isT ⟨#[108, 105, 109, 105, 116]⟩ l58 = b := ⟨_, rfl⟩
        have HS65 : Hid (isT ⟨#[108, 105, 109, 105, 116]⟩ l58 = b63) := hb63
        clear hb63
        go_wp2_with fail
        refine (has_any A l58 ⟨#[108, 105, 109, 105, 116]⟩ b63 HS65.out _ H61.out.rd).mono ?_
        rintro _ w64 ⟨rfl, hr, hg⟩
        have HX : Hid (SI A w1.heap.size W1 { { { { { { { (ofS 7 ⟨#[]⟩) with items := ia } with table := nm20 } with other := jo } with on := je } with wh := e37 } with grp := gr } with ord := oo } (if b63 then l58.tail else l58) w64) := H61.out.grown hr hg
        have cxw64 : w64.cell? ⟨w.heap.size, 0, none⟩ = some (.pointer (some ⟨A, 0, none⟩)) := by rw [(HB1.out.1.keep (by have := HB1.out.2.2.2.2; omega) HX.out.gr).cell 0]; rfl
        clear hr hg
        go_upto_if 44 with fail
        go_cut [] (fun wx => ∃ (ln : Int) (l68 : List KT), Hid (selLimit l58 = some (ln, l68)) ∧ Hid (SI A w1.heap.size W1 { { { { { { { { (ofS 7 ⟨#[]⟩) with items := ia } with table := nm20 } with other := jo } with on := je } with wh := e37 } with grp := gr } with ord := oo } with lim := ln } l68 wx))
        case first =>
          cases b63
          · have H66 : Hid (SI A w1.heap.size W1 { { { { { { { (ofS 7 ⟨#[]⟩) with items := ia } with table := nm20 } with other := jo } with on := je } with wh := e37 } with grp := gr } with ord := oo } l58 w64) := HX
            have HP0 : Hid (selLimit l58 = some (-1, l58)) := by show selLimit l58 = _; unfold selLimit; rw [if_neg (by rw [HS65.out]; decide)]
            go_wp2_with fail
            go_meet
            case rel => exact ⟨-1, l58, HP0, H66⟩
          · have H67 : Hid (SI A w1.heap.size W1 { { { { { { { (ofS 7 ⟨#[]⟩) with items := ia } with table := nm20 } with other := jo } with on := je } with wh := e37 } with grp := gr } with ord := oo } l58.tail w64) := HX
            have HP0 : Hid (selLimit l58 = limitF l58.tail) := by show selLimit l58 = _; unfold selLimit; rw [if_pos HS65.out]
            go_wp2_with fail
            refine (limit_any A l58.tail _ H67.out.rd).mono ?_
            rintro _ we ⟨hg, ⟨ne, le, hn, rfl, hr⟩ | ⟨hn, n1, m1, rfl⟩⟩
            · have HA4 : Hid (SI A w1.heap.size W1 { { { { { { { (ofS 7 ⟨#[]⟩) with items := ia } with table := nm20 } with other := jo } with on := je } with wh := e37 } with grp := gr } with ord := oo } le we) := H67.out.grown hr hg
              obtain ⟨⟨v1, c1⟩, f1⟩ := HA4.out.cell (i := 12) (by decide)
              have HM : Hid (SI A w1.heap.size W1 { { { { { { { { (ofS 7 ⟨#[]⟩) with items := ia } with table := nm20 } with other := jo } with on := je } with wh := e37 } with grp := gr } with ord := oo } with lim := ne } le (we.setCell ⟨w1.heap.size, 12, none⟩ (.int .i64 ne)) ∧ selLimit l58 = some (ne, le)) := ⟨HA4.out.set_lim ne, by rw [HP0.out, hn]⟩
              clear hg hn hr
              go_wp2_with fail
              go_meet
              case rel => exact ⟨ne, le, HM.out.2, HM.out.1⟩
            · have HG : Hid (w.grownBy we (some A) ∧ R = none) := ⟨HB1.out.2.2.1.trans (H67.out.gr.trans hg), by rw [E59.out, HP0.out, hn]; rfl⟩
              go_wp2
              exact ⟨by first | rfl | trivial, HG.out.1, .inr ⟨HG.out.2, n1, m1, rfl⟩⟩
        case rest =>
        obtain ⟨ln, l68, HC70, H71⟩ := hcut
        obtain ⟨wr', rfl⟩ : ∃ u, u = wc := ⟨_, rfl⟩
        have E69 : Hid (R = some (⟨7, nm20, jo, [], ⟨#[]⟩, [], [], je, e37, ia, gr, oo, ln⟩, l68)) := by show _ = _; rw [E59.out, HC70.out]; first | rw [Option.bind_some] | rw [Option.map_some]
        have cxr : wr'.cell? ⟨w.heap.size, 0, none⟩ = some (.pointer (some ⟨A, 0, none⟩)) := by rw [(HB1.out.1.keep (by have := HB1.out.2.2.2.2; omega) H71.out.gr).cell 0]; rfl
        clear HX HS65 HC70
        obtain ⟨sv, hk, hv⟩ := H71.out.st
        have HK : Hid (Blk w1.heap.size sv.cells 62 wr' ∧ Blk (w.heap.size + 1) svZ.cells 62 wr' ∧ SVIs W1.heap.size sv { { { { { { { { (ofS 7 ⟨#[]⟩) with items := ia } with table := nm20 } with other := jo } with on := je } with wh := e37 } with grp := gr } with ord := oo } with lim := ln } wr') := ⟨hk, HB1.out.2.1.keep (by have := HB1.out.2.2.2; omega) H71.out.gr, hv⟩
        clear hk hv
        go_wp2_with (first | (refine wpList_load_mid rfl 62 _ rfl _ 0 rfl sv.cells.toList _ HK.out.1.range Tryz.underlying62 rfl (s30 sv) ?_) | (refine wpList_store_mid rfl 62 _ _ rfl _ 0 sv.cells rfl rfl (HK.out.2.1.there rfl) (s30 _) (HK.out.2.2.rowsOk).one ?_))
        refine bodyPost_ret (v := .agg sv.cells) (results_c Tryz.results90 _ _ _ rfl (load30 HK.out.2.1.stored)) rfl ?_
        refine ⟨grown_sets _ 0 (HB1.out.2.2.1.trans H71.out.gr) (by omega), .inl ⟨_, _, E69.out, sv, rfl, ?_, RdIs.setsN _ 0 H71.out.rd (by have := HB1.out.2.2.2; omega)⟩⟩
        exact (HK.out.2.2.st (by have := HB1.out.2.2.2; omega) (fr_sets _ 0 HK.out.2.1)).low (by have := HB1.out.2.2.2; omega)
      · have HG : Hid (w.grownBy w35 (some A) ∧ R = none) := ⟨HB1.out.2.2.1.trans (H33.out.gr.trans hg), by rw [E31.out, hn]; rfl⟩
        clear hg hn
        go_wp2
        exact ⟨by first | rfl | trivial, HG.out.1, .inr ⟨HG.out.2, n1, m1, rfl⟩⟩
    · have HG : Hid (w.grownBy w18 (some A) ∧ R = none) := ⟨HB1.out.2.2.1.trans (H16.out.gr.trans hg), by rw [E17.out, hn]; rfl⟩
      clear hg hn
      go_wp2
      exact ⟨by first | rfl | trivial, HG.out.1, .inr ⟨HG.out.2, n1, m1, rfl⟩⟩
  · have HG : Hid (w.grownBy w14 (some A) ∧ R = none) := ⟨HB1.out.2.2.1.trans (H12.out.gr.trans hg), by rw [EQ.out, hn]; rfl⟩
    clear hg hn
    go_wp2
    exact ⟨by first | rfl | trivial, HG.out.1, .inr ⟨HG.out.2, n1, m1, rfl⟩⟩
end Go.Proofs.YtmabfbffpedfnaaGreatDoor
namespace Go.Proofs.YtmabfbffpedfnaaGreatDoor
open Go.RowKit

set_option maxRecDepth 100000 in
set_option maxHeartbeats 16000000 in
theorem statement_any (hE : ESpec Ef 0) (A : Nat) (l : List KT) (w : World) (h : RdIs A l w) : Calls Tryz.prog 66 #[.pointer (some ⟨A, 0, none⟩)] w fun e w' => ToldT A (stmF l) w e w' := by
  have HE : Hid (ESpec Ef 0) := hE
  obtain ⟨W1, hW1⟩ : ∃ W, w.alloc (.cells #[.int .i64 0, .string ⟨#[]⟩, .string ⟨#[]⟩, .slice none 0 0, .string ⟨#[]⟩, .slice none 0 0, .slice none 0 0, .pointer none, .pointer none, .slice none 0 0, .pointer none, .slice none 0 0, .int .i64 0] 62) = W := ⟨_, rfl⟩
  have hb1 : Below w.heap.size w W1 := by rw [← hW1]; exact (Below.refl _ _).alloc (Nat.le_refl _) _
  have hs1 : W1.heap.size = w.heap.size + 1 := by rw [← hW1]; simp
  have hk1 : Blk w.heap.size svZ.cells 62 W1 := by rw [← hW1]; exact Blk.new _ _ _
  have HB1 : Hid (True ∧ Blk w.heap.size svZ.cells 62 W1 ∧ w.grownBy W1 (some A) ∧ W1.heap.size = w.heap.size + 1 ∧ A < w.heap.size) := ⟨trivial, hk1, grown_of_belowA hb1 _, hs1, h.lt⟩
  have HW : Hid (RdIs A l W1 ∧ W1.grownBy W1 (some A)) := ⟨h.below hb1, grownA_refl _ _⟩
  obtain ⟨R, hR⟩ : ∃ R, stmF l = R := ⟨_, rfl⟩
  have E0 : Hid (R = stmF l) := hR.symm
  unfold ToldT
  rw [hR]
  clear h hR hb1 hs1 hk1
  go_enter Tryz.func66, Tryz.ntmps66
  obtain ⟨b3, hb3⟩ : ∃ b, isT ⟨#[98, 101, 103, 105, 110]⟩ l = b := ⟨_, rfl⟩
  have HS2 : Hid (isT ⟨#[98, 101, 103, 105, 110]⟩ l = b3) := hb3
  clear hb3
  go_wp2_with fail
  refine (has_any A l ⟨#[98, 101, 103, 105, 110]⟩ b3 HS2.out _ HW.out.1).mono ?_
  rintro _ w1 ⟨rfl, hr, hg⟩
  have HX : Hid (RdIs A (if b3 then l.tail else l) w1 ∧ W1.grownBy w1 (some A)) := ⟨hr, HW.out.2.trans hg⟩
  clear hr hg
  cases b3
  case true =>
    have HT : Hid (RdIs A l.tail w1 ∧ W1.grownBy w1 (some A)) := HX
    have EA : Hid (R = some (ofS 8 ⟨#[]⟩, l.tail)) := by show _ = _; rw [E0.out]; unfold stmF; rw [if_pos HS2.out]
    clear HX
    go_wp2_with fail
    refine (of_any 8 ⟨#[]⟩ w1).mono ?_
    rintro _ wz ⟨rfl, hb⟩
    have HK : Hid (Blk w.heap.size svZ.cells 62 wz ∧ SVIs wz.heap.size (svOf 8 ⟨#[]⟩) (ofS 8 ⟨#[]⟩) wz ∧ RdIs A l.tail wz ∧ w.grownBy wz (some A) ∧ w.heap.size < wz.heap.size) := ⟨HB1.out.2.1.keep (by have := HB1.out.2.2.2; omega) (HT.out.2.trans (grown_of_belowA hb (some A))), svis_of _ _ _ _, (HT.out.1).below hb, HB1.out.2.2.1.trans (HT.out.2.trans (grown_of_belowA hb (some A))), by have h1 := HB1.out.2.2.2; have h2 := (HT.out.2.trans (grown_of_belowA hb (some A))).size; omega⟩
    go_wp2_with (refine wpList_store_mid rfl 62 _ _ rfl _ 0 (svOf 8 ⟨#[]⟩).cells rfl rfl (HK.out.1.there rfl) (s30 _) (HK.out.2.1.rowsOk).one ?_)
    refine bodyPost_ret (v := .agg (svOf 8 ⟨#[]⟩).cells) (results_c Tryz.results66 _ _ _ rfl (load30 HK.out.1.stored)) rfl ?_
    refine ⟨grown_sets _ 0 HK.out.2.2.2.1 (Nat.le_refl _), .inl ⟨_, _, (svOf 8 ⟨#[]⟩), EA.out, rfl, ?_, RdIs.setsN _ 0 HK.out.2.2.1 (by have := HB1.out.2.2.2; omega)⟩⟩
    exact (HK.out.2.1.st (by have := HK.out.2.2.2.2; omega) (fr_sets _ 0 HK.out.1)).low (by have := HK.out.2.2.2.2; omega)
  have H4 : Hid (RdIs A l w1 ∧ W1.grownBy w1 (some A)) := HX
  clear HX
  obtain ⟨b7, hb7⟩ : ∃ b, isT ⟨#[99, 111, 109, 109, 105, 116]⟩ l = b := ⟨_, rfl⟩
  have HS6 : Hid (isT ⟨#[99, 111, 109, 109, 105, 116]⟩ l = b7) := hb7
  clear hb7
  go_wp2_with fail
  refine (has_any A l ⟨#[99, 111, 109, 109, 105, 116]⟩ b7 HS6.out _ H4.out.1).mono ?_
  rintro _ w5 ⟨rfl, hr, hg⟩
  have HX : Hid (RdIs A (if b7 then l.tail else l) w5 ∧ W1.grownBy w5 (some A)) := ⟨hr, H4.out.2.trans hg⟩
  clear hr hg
  cases b7
  case true =>
    have HT : Hid (RdIs A l.tail w5 ∧ W1.grownBy w5 (some A)) := HX
    have EA : Hid (R = some (ofS 9 ⟨#[]⟩, l.tail)) := by show _ = _; rw [E0.out]; unfold stmF; rw [if_neg (by rw [HS2.out]; decide), if_pos HS6.out]
    clear HX
    go_wp2_with fail
    refine (of_any 9 ⟨#[]⟩ w5).mono ?_
    rintro _ wz ⟨rfl, hb⟩
    have HK : Hid (Blk w.heap.size svZ.cells 62 wz ∧ SVIs wz.heap.size (svOf 9 ⟨#[]⟩) (ofS 9 ⟨#[]⟩) wz ∧ RdIs A l.tail wz ∧ w.grownBy wz (some A) ∧ w.heap.size < wz.heap.size) := ⟨HB1.out.2.1.keep (by have := HB1.out.2.2.2; omega) (HT.out.2.trans (grown_of_belowA hb (some A))), svis_of _ _ _ _, (HT.out.1).below hb, HB1.out.2.2.1.trans (HT.out.2.trans (grown_of_belowA hb (some A))), by have h1 := HB1.out.2.2.2; have h2 := (HT.out.2.trans (grown_of_belowA hb (some A))).size; omega⟩
    go_wp2_with (refine wpList_store_mid rfl 62 _ _ rfl _ 0 (svOf 9 ⟨#[]⟩).cells rfl rfl (HK.out.1.there rfl) (s30 _) (HK.out.2.1.rowsOk).one ?_)
    refine bodyPost_ret (v := .agg (svOf 9 ⟨#[]⟩).cells) (results_c Tryz.results66 _ _ _ rfl (load30 HK.out.1.stored)) rfl ?_
    refine ⟨grown_sets _ 0 HK.out.2.2.2.1 (Nat.le_refl _), .inl ⟨_, _, (svOf 9 ⟨#[]⟩), EA.out, rfl, ?_, RdIs.setsN _ 0 HK.out.2.2.1 (by have := HB1.out.2.2.2; omega)⟩⟩
    exact (HK.out.2.1.st (by have := HK.out.2.2.2.2; omega) (fr_sets _ 0 HK.out.1)).low (by have := HK.out.2.2.2.2; omega)
  have H8 : Hid (RdIs A l w5 ∧ W1.grownBy w5 (some A)) := HX
  clear HX
  obtain ⟨b11, hb11⟩ : ∃ b, isT ⟨#[114, 111, 108, 108, 98, 97, 99, 107]⟩ l = b := ⟨_, rfl⟩
  have HS10 : Hid (isT ⟨#[114, 111, 108, 108, 98, 97, 99, 107]⟩ l = b11) := hb11
  clear hb11
  go_wp2_with fail
  refine (has_any A l ⟨#[114, 111, 108, 108, 98, 97, 99, 107]⟩ b11 HS10.out _ H8.out.1).mono ?_
  rintro _ w9 ⟨rfl, hr, hg⟩
  have HX : Hid (RdIs A (if b11 then l.tail else l) w9 ∧ W1.grownBy w9 (some A)) := ⟨hr, H8.out.2.trans hg⟩
  clear hr hg
  cases b11
  case true =>
    have HT : Hid (RdIs A l.tail w9 ∧ W1.grownBy w9 (some A)) := HX
    have EA : Hid (R = some (ofS 10 ⟨#[]⟩, l.tail)) := by show _ = _; rw [E0.out]; unfold stmF; rw [if_neg (by rw [HS2.out]; decide), if_neg (by rw [HS6.out]; decide), if_pos HS10.out]
    clear HX
    go_wp2_with fail
    refine (of_any 10 ⟨#[]⟩ w9).mono ?_
    rintro _ wz ⟨rfl, hb⟩
    have HK : Hid (Blk w.heap.size svZ.cells 62 wz ∧ SVIs wz.heap.size (svOf 10 ⟨#[]⟩) (ofS 10 ⟨#[]⟩) wz ∧ RdIs A l.tail wz ∧ w.grownBy wz (some A) ∧ w.heap.size < wz.heap.size) := ⟨HB1.out.2.1.keep (by have := HB1.out.2.2.2; omega) (HT.out.2.trans (grown_of_belowA hb (some A))), svis_of _ _ _ _, (HT.out.1).below hb, HB1.out.2.2.1.trans (HT.out.2.trans (grown_of_belowA hb (some A))), by have h1 := HB1.out.2.2.2; have h2 := (HT.out.2.trans (grown_of_belowA hb (some A))).size; omega⟩
    go_wp2_with (refine wpList_store_mid rfl 62 _ _ rfl _ 0 (svOf 10 ⟨#[]⟩).cells rfl rfl (HK.out.1.there rfl) (s30 _) (HK.out.2.1.rowsOk).one ?_)
    refine bodyPost_ret (v := .agg (svOf 10 ⟨#[]⟩).cells) (results_c Tryz.results66 _ _ _ rfl (load30 HK.out.1.stored)) rfl ?_
    refine ⟨grown_sets _ 0 HK.out.2.2.2.1 (Nat.le_refl _), .inl ⟨_, _, (svOf 10 ⟨#[]⟩), EA.out, rfl, ?_, RdIs.setsN _ 0 HK.out.2.2.1 (by have := HB1.out.2.2.2; omega)⟩⟩
    exact (HK.out.2.1.st (by have := HK.out.2.2.2.2; omega) (fr_sets _ 0 HK.out.1)).low (by have := HK.out.2.2.2.2; omega)
  have H12 : Hid (RdIs A l w9 ∧ W1.grownBy w9 (some A)) := HX
  clear HX
  obtain ⟨b15, hb15⟩ : ∃ b, isT ⟨#[99, 114, 101, 97, 116, 101]⟩ l = b := ⟨_, rfl⟩
  have HS14 : Hid (isT ⟨#[99, 114, 101, 97, 116, 101]⟩ l = b15) := hb15
  clear hb15
  go_wp2_with fail
  refine (has_any A l ⟨#[99, 114, 101, 97, 116, 101]⟩ b15 HS14.out _ H12.out.1).mono ?_
  rintro _ w13 ⟨rfl, hr, hg⟩
  have HX : Hid (RdIs A (if b15 then l.tail else l) w13 ∧ W1.grownBy w13 (some A)) := ⟨hr, H12.out.2.trans hg⟩
  clear hr hg
  cases b15
  case true =>
    have HT : Hid (RdIs A l.tail w13 ∧ W1.grownBy w13 (some A)) := HX
    have EA : Hid (R = createF l.tail) := by show _ = _; rw [E0.out]; unfold stmF; rw [if_neg (by rw [HS2.out]; decide), if_neg (by rw [HS6.out]; decide), if_neg (by rw [HS10.out]; decide), if_pos HS14.out]
    clear HX
    go_wp2_with fail
    refine (create_any A l.tail w13 HT.out.1).mono ?_
    rintro _ wz ⟨hg, ⟨st, lz, sv, hn, rfl, hv, hr⟩ | ⟨hn, n1, m1, rfl⟩⟩
    · have EZ : Hid (R = some (st, lz)) := by show _ = _; rw [EA.out, hn]
      have HK : Hid (Blk w.heap.size svZ.cells 62 wz ∧ SVIs w13.heap.size sv st wz ∧ RdIs A lz wz ∧ w.grownBy wz (some A) ∧ w.heap.size < w13.heap.size) := ⟨HB1.out.2.1.keep (by have := HB1.out.2.2.2; omega) (HT.out.2.trans hg), hv, hr, HB1.out.2.2.1.trans (HT.out.2.trans hg), by have h1 := HB1.out.2.2.2; have h2 := (HT.out.2).size; omega⟩
      go_wp2_with (refine wpList_store_mid rfl 62 _ _ rfl _ 0 sv.cells rfl rfl (HK.out.1.there rfl) (s30 _) (HK.out.2.1.rowsOk).one ?_)
      refine bodyPost_ret (v := .agg sv.cells) (results_c Tryz.results66 _ _ _ rfl (load30 HK.out.1.stored)) rfl ?_
      refine ⟨grown_sets _ 0 HK.out.2.2.2.1 (Nat.le_refl _), .inl ⟨_, _, sv, EZ.out, rfl, ?_, RdIs.setsN _ 0 HK.out.2.2.1 (by have := HB1.out.2.2.2; omega)⟩⟩
      exact (HK.out.2.1.st (by have := HK.out.2.2.2.2; omega) (fr_sets _ 0 HK.out.1)).low (by have := HK.out.2.2.2.2; omega)
    · have HG : Hid (w.grownBy wz (some A) ∧ R = none) := ⟨HB1.out.2.2.1.trans (HT.out.2.trans hg), by rw [EA.out, hn]⟩
      clear hg hn
      go_wp2
      exact ⟨by first | rfl | trivial, HG.out.1, .inr ⟨HG.out.2, n1, m1, rfl⟩⟩
  have H16 : Hid (RdIs A l w13 ∧ W1.grownBy w13 (some A)) := HX
  clear HX
  obtain ⟨b19, hb19⟩ : ∃ b, isT ⟨#[100, 114, 111, 112]⟩ l = b := ⟨_, rfl⟩
  have HS18 : Hid (isT ⟨#[100, 114, 111, 112]⟩ l = b19) := hb19
  clear hb19
  go_wp2_with fail
  refine (has_any A l ⟨#[100, 114, 111, 112]⟩ b19 HS18.out _ H16.out.1).mono ?_
  rintro _ w17 ⟨rfl, hr, hg⟩
  have HX : Hid (RdIs A (if b19 then l.tail else l) w17 ∧ W1.grownBy w17 (some A)) := ⟨hr, H16.out.2.trans hg⟩
  clear hr hg
  cases b19
  case true =>
    have HT : Hid (RdIs A l.tail w17 ∧ W1.grownBy w17 (some A)) := HX
    have EA : Hid (R = dropF l.tail) := by show _ = _; rw [E0.out]; unfold stmF; rw [if_neg (by rw [HS2.out]; decide), if_neg (by rw [HS6.out]; decide), if_neg (by rw [HS10.out]; decide), if_neg (by rw [HS14.out]; decide), if_pos HS18.out]
    clear HX
    have EB : Hid (R = (needF ⟨#[116, 97, 98, 108, 101]⟩ l.tail).bind fun l1 => (nameF l1).map fun a => (ofS 3 a.1, a.2)) := by show _ = _; rw [EA.out]; rfl
    go_wp2_with fail
    refine (need_any A l.tail ⟨#[116, 97, 98, 108, 101]⟩ w17 HT.out.1).mono ?_
    rintro _ w21 ⟨hg, ⟨l22, hn, rfl, hr⟩ | ⟨hn, n1, m1, rfl⟩⟩
    · have H23 : Hid (RdIs A l22 w21 ∧ W1.grownBy w21 (some A)) := ⟨hr, HT.out.2.trans hg⟩
      have E24 : Hid (R = (nameF l22).map fun a => (ofS 3 a.1, a.2)) := by show _ = _; rw [EB.out, hn]; first | rw [Option.bind_some] | rw [Option.map_some]
  
      clear hg hn hr
      go_wp2_with fail
      refine (name_any A l22 w21 H23.out.1).mono ?_
      rintro _ w25 ⟨hg, ⟨nm27, l26, hn, rfl, hr, hz28⟩ | ⟨hn, n1, m1, rfl⟩⟩
      · have H29 : Hid (RdIs A l26 w25 ∧ W1.grownBy w25 (some A)) := ⟨hr, H23.out.2.trans hg⟩
        have E30 : Hid (R = some (ofS 3 nm27, l26)) := by show _ = _; rw [E24.out, hn]; first | rw [Option.bind_some] | rw [Option.map_some]
  
        clear hg hn hr
        go_wp2_with fail
        refine (of_any 3 nm27 w25).mono ?_
        rintro _ wz ⟨rfl, hb⟩
        have HK : Hid (Blk w.heap.size svZ.cells 62 wz ∧ SVIs wz.heap.size (svOf 3 nm27) (ofS 3 nm27) wz ∧ RdIs A l26 wz ∧ w.grownBy wz (some A) ∧ w.heap.size < wz.heap.size) := ⟨HB1.out.2.1.keep (by have := HB1.out.2.2.2; omega) (H29.out.2.trans (grown_of_belowA hb (some A))), svis_of _ _ _ _, (H29.out.1).below hb, HB1.out.2.2.1.trans (H29.out.2.trans (grown_of_belowA hb (some A))), by have h1 := HB1.out.2.2.2; have h2 := (H29.out.2.trans (grown_of_belowA hb (some A))).size; omega⟩
        go_wp2_with (refine wpList_store_mid rfl 62 _ _ rfl _ 0 (svOf 3 nm27).cells rfl rfl (HK.out.1.there rfl) (s30 _) (HK.out.2.1.rowsOk).one ?_)
        refine bodyPost_ret (v := .agg (svOf 3 nm27).cells) (results_c Tryz.results66 _ _ _ rfl (load30 HK.out.1.stored)) rfl ?_
        refine ⟨grown_sets _ 0 HK.out.2.2.2.1 (Nat.le_refl _), .inl ⟨_, _, (svOf 3 nm27), E30.out, rfl, ?_, RdIs.setsN _ 0 HK.out.2.2.1 (by have := HB1.out.2.2.2; omega)⟩⟩
        exact (HK.out.2.1.st (by have := HK.out.2.2.2.2; omega) (fr_sets _ 0 HK.out.1)).low (by have := HK.out.2.2.2.2; omega)
      · have HG : Hid (w.grownBy w25 (some A) ∧ R = none) := ⟨HB1.out.2.2.1.trans (H23.out.2.trans hg), by rw [E24.out, hn]; rfl⟩
        clear hg hn
        go_wp2
        exact ⟨by first | rfl | trivial, HG.out.1, .inr ⟨HG.out.2, n1, m1, rfl⟩⟩
    · have HG : Hid (w.grownBy w21 (some A) ∧ R = none) := ⟨HB1.out.2.2.1.trans (HT.out.2.trans hg), by rw [EB.out, hn]; rfl⟩
      clear hg hn
      go_wp2
      exact ⟨by first | rfl | trivial, HG.out.1, .inr ⟨HG.out.2, n1, m1, rfl⟩⟩
  have H20 : Hid (RdIs A l w17 ∧ W1.grownBy w17 (some A)) := HX
  clear HX
  obtain ⟨b33, hb33⟩ : ∃ b, isT ⟨#[105, 110, 115, 101, 114, 116]⟩ l = b := ⟨_, rfl⟩
  have HS32 : Hid (isT ⟨#[105, 110, 115, 101, 114, 116]⟩ l = b33) := hb33
  clear hb33
  go_wp2_with fail
  refine (has_any A l ⟨#[105, 110, 115, 101, 114, 116]⟩ b33 HS32.out _ H20.out.1).mono ?_
  rintro _ w31 ⟨rfl, hr, hg⟩
  have HX : Hid (RdIs A (if b33 then l.tail else l) w31 ∧ W1.grownBy w31 (some A)) := ⟨hr, H20.out.2.trans hg⟩
  clear hr hg
  cases b33
  case true =>
    have HT : Hid (RdIs A l.tail w31 ∧ W1.grownBy w31 (some A)) := HX
    have EA : Hid (R = insertF l.tail) := by show _ = _; rw [E0.out]; unfold stmF; rw [if_neg (by rw [HS2.out]; decide), if_neg (by rw [HS6.out]; decide), if_neg (by rw [HS10.out]; decide), if_neg (by rw [HS14.out]; decide), if_neg (by rw [HS18.out]; decide), if_pos HS32.out]
    clear HX
    go_wp2_with fail
    refine (insert_any HE.out A l.tail w31 HT.out.1).mono ?_
    rintro _ wz ⟨hg, ⟨st, lz, sv, hn, rfl, hv, hr⟩ | ⟨hn, n1, m1, rfl⟩⟩
    · have EZ : Hid (R = some (st, lz)) := by show _ = _; rw [EA.out, hn]
      have HK : Hid (Blk w.heap.size svZ.cells 62 wz ∧ SVIs w31.heap.size sv st wz ∧ RdIs A lz wz ∧ w.grownBy wz (some A) ∧ w.heap.size < w31.heap.size) := ⟨HB1.out.2.1.keep (by have := HB1.out.2.2.2; omega) (HT.out.2.trans hg), hv, hr, HB1.out.2.2.1.trans (HT.out.2.trans hg), by have h1 := HB1.out.2.2.2; have h2 := (HT.out.2).size; omega⟩
      go_wp2_with (refine wpList_store_mid rfl 62 _ _ rfl _ 0 sv.cells rfl rfl (HK.out.1.there rfl) (s30 _) (HK.out.2.1.rowsOk).one ?_)
      refine bodyPost_ret (v := .agg sv.cells) (results_c Tryz.results66 _ _ _ rfl (load30 HK.out.1.stored)) rfl ?_
      refine ⟨grown_sets _ 0 HK.out.2.2.2.1 (Nat.le_refl _), .inl ⟨_, _, sv, EZ.out, rfl, ?_, RdIs.setsN _ 0 HK.out.2.2.1 (by have := HB1.out.2.2.2; omega)⟩⟩
      exact (HK.out.2.1.st (by have := HK.out.2.2.2.2; omega) (fr_sets _ 0 HK.out.1)).low (by have := HK.out.2.2.2.2; omega)
    · have HG : Hid (w.grownBy wz (some A) ∧ R = none) := ⟨HB1.out.2.2.1.trans (HT.out.2.trans hg), by rw [EA.out, hn]⟩
      clear hg hn
      go_wp2
      exact ⟨by first | rfl | trivial, HG.out.1, .inr ⟨HG.out.2, n1, m1, rfl⟩⟩
  have H34 : Hid (RdIs A l w31 ∧ W1.grownBy w31 (some A)) := HX
  clear HX
  obtain ⟨b37, hb37⟩ : ∃ b, isT ⟨#[100, 101, 108, 101, 116, 101]⟩ l = b := ⟨_, rfl⟩
  have HS36 : Hid (isT ⟨#[100, 101, 108, 101, 116, 101]⟩ l = b37) := hb37
  clear hb37
  go_wp2_with fail
  refine (has_any A l ⟨#[100, 101, 108, 101, 116, 101]⟩ b37 HS36.out _ H34.out.1).mono ?_
  rintro _ w35 ⟨rfl, hr, hg⟩
  have HX : Hid (RdIs A (if b37 then l.tail else l) w35 ∧ W1.grownBy w35 (some A)) := ⟨hr, H34.out.2.trans hg⟩
  clear hr hg
  cases b37
  case true =>
    have HT : Hid (RdIs A l.tail w35 ∧ W1.grownBy w35 (some A)) := HX
    have EA : Hid (R = deleteF l.tail) := by show _ = _; rw [E0.out]; unfold stmF; rw [if_neg (by rw [HS2.out]; decide), if_neg (by rw [HS6.out]; decide), if_neg (by rw [HS10.out]; decide), if_neg (by rw [HS14.out]; decide), if_neg (by rw [HS18.out]; decide), if_neg (by rw [HS32.out]; decide), if_pos HS36.out]
    clear HX
    go_wp2_with fail
    refine (delete_any HE.out A l.tail w35 HT.out.1).mono ?_
    rintro _ wz ⟨hg, ⟨st, lz, sv, hn, rfl, hv, hr⟩ | ⟨hn, n1, m1, rfl⟩⟩
    · have EZ : Hid (R = some (st, lz)) := by show _ = _; rw [EA.out, hn]
      have HK : Hid (Blk w.heap.size svZ.cells 62 wz ∧ SVIs w35.heap.size sv st wz ∧ RdIs A lz wz ∧ w.grownBy wz (some A) ∧ w.heap.size < w35.heap.size) := ⟨HB1.out.2.1.keep (by have := HB1.out.2.2.2; omega) (HT.out.2.trans hg), hv, hr, HB1.out.2.2.1.trans (HT.out.2.trans hg), by have h1 := HB1.out.2.2.2; have h2 := (HT.out.2).size; omega⟩
      go_wp2_with (refine wpList_store_mid rfl 62 _ _ rfl _ 0 sv.cells rfl rfl (HK.out.1.there rfl) (s30 _) (HK.out.2.1.rowsOk).one ?_)
      refine bodyPost_ret (v := .agg sv.cells) (results_c Tryz.results66 _ _ _ rfl (load30 HK.out.1.stored)) rfl ?_
      refine ⟨grown_sets _ 0 HK.out.2.2.2.1 (Nat.le_refl _), .inl ⟨_, _, sv, EZ.out, rfl, ?_, RdIs.setsN _ 0 HK.out.2.2.1 (by have := HB1.out.2.2.2; omega)⟩⟩
      exact (HK.out.2.1.st (by have := HK.out.2.2.2.2; omega) (fr_sets _ 0 HK.out.1)).low (by have := HK.out.2.2.2.2; omega)
    · have HG : Hid (w.grownBy wz (some A) ∧ R = none) := ⟨HB1.out.2.2.1.trans (HT.out.2.trans hg), by rw [EA.out, hn]⟩
      clear hg hn
      go_wp2
      exact ⟨by first | rfl | trivial, HG.out.1, .inr ⟨HG.out.2, n1, m1, rfl⟩⟩
  have H38 : Hid (RdIs A l w35 ∧ W1.grownBy w35 (some A)) := HX
  clear HX
  obtain ⟨b41, hb41⟩ : ∃ b, isT ⟨#[117, 112, 100, 97, 116, 101]⟩ l = b := ⟨_, rfl⟩
  have HS40 : Hid (isT ⟨#[117, 112, 100, 97, 116, 101]⟩ l = b41) := hb41
  clear hb41
  go_wp2_with fail
  refine (has_any A l ⟨#[117, 112, 100, 97, 116, 101]⟩ b41 HS40.out _ H38.out.1).mono ?_
  rintro _ w39 ⟨rfl, hr, hg⟩
  have HX : Hid (RdIs A (if b41 then l.tail else l) w39 ∧ W1.grownBy w39 (some A)) := ⟨hr, H38.out.2.trans hg⟩
  clear hr hg
  cases b41
  case true =>
    have HT : Hid (RdIs A l.tail w39 ∧ W1.grownBy w39 (some A)) := HX
    have EA : Hid (R = updateF l.tail) := by show _ = _; rw [E0.out]; unfold stmF; rw [if_neg (by rw [HS2.out]; decide), if_neg (by rw [HS6.out]; decide), if_neg (by rw [HS10.out]; decide), if_neg (by rw [HS14.out]; decide), if_neg (by rw [HS18.out]; decide), if_neg (by rw [HS32.out]; decide), if_neg (by rw [HS36.out]; decide), if_pos HS40.out]
    clear HX
    go_wp2_with fail
    refine (update_any HE.out A l.tail w39 HT.out.1).mono ?_
    rintro _ wz ⟨hg, ⟨st, lz, sv, hn, rfl, hv, hr⟩ | ⟨hn, n1, m1, rfl⟩⟩
    · have EZ : Hid (R = some (st, lz)) := by show _ = _; rw [EA.out, hn]
      have HK : Hid (Blk w.heap.size svZ.cells 62 wz ∧ SVIs w39.heap.size sv st wz ∧ RdIs A lz wz ∧ w.grownBy wz (some A) ∧ w.heap.size < w39.heap.size) := ⟨HB1.out.2.1.keep (by have := HB1.out.2.2.2; omega) (HT.out.2.trans hg), hv, hr, HB1.out.2.2.1.trans (HT.out.2.trans hg), by have h1 := HB1.out.2.2.2; have h2 := (HT.out.2).size; omega⟩
      go_wp2_with (refine wpList_store_mid rfl 62 _ _ rfl _ 0 sv.cells rfl rfl (HK.out.1.there rfl) (s30 _) (HK.out.2.1.rowsOk).one ?_)
      refine bodyPost_ret (v := .agg sv.cells) (results_c Tryz.results66 _ _ _ rfl (load30 HK.out.1.stored)) rfl ?_
      refine ⟨grown_sets _ 0 HK.out.2.2.2.1 (Nat.le_refl _), .inl ⟨_, _, sv, EZ.out, rfl, ?_, RdIs.setsN _ 0 HK.out.2.2.1 (by have := HB1.out.2.2.2; omega)⟩⟩
      exact (HK.out.2.1.st (by have := HK.out.2.2.2.2; omega) (fr_sets _ 0 HK.out.1)).low (by have := HK.out.2.2.2.2; omega)
    · have HG : Hid (w.grownBy wz (some A) ∧ R = none) := ⟨HB1.out.2.2.1.trans (HT.out.2.trans hg), by rw [EA.out, hn]⟩
      clear hg hn
      go_wp2
      exact ⟨by first | rfl | trivial, HG.out.1, .inr ⟨HG.out.2, n1, m1, rfl⟩⟩
  have H42 : Hid (RdIs A l w39 ∧ W1.grownBy w39 (some A)) := HX
  clear HX
  have EQ : Hid (R = (needF ⟨#[115, 101, 108, 101, 99, 116]⟩ l).bind choiceF) := by show _ = _; rw [E0.out]; unfold stmF; rw [if_neg (by rw [HS2.out]; decide), if_neg (by rw [HS6.out]; decide), if_neg (by rw [HS10.out]; decide), if_neg (by rw [HS14.out]; decide), if_neg (by rw [HS18.out]; decide), if_neg (by rw [HS32.out]; decide), if_neg (by rw [HS36.out]; decide), if_neg (by rw [HS40.out]; decide)]
  go_wp2_with fail
  refine (need_any A l ⟨#[115, 101, 108, 101, 99, 116]⟩ w39 H42.out.1).mono ?_
  rintro _ w43 ⟨hg, ⟨l44, hn, rfl, hr⟩ | ⟨hn, n1, m1, rfl⟩⟩
  · have H45 : Hid (RdIs A l44 w43 ∧ W1.grownBy w43 (some A)) := ⟨hr, H42.out.2.trans hg⟩
    have E46 : Hid (R = choiceF l44) := by show _ = _; rw [EQ.out, hn]; first | rw [Option.bind_some] | rw [Option.map_some]
  
    clear hg hn hr
    go_wp2_with fail
    refine (choice_any HE.out A l44 w43 H45.out.1).mono ?_
    rintro _ wz ⟨hg, ⟨st, lz, sv, hn, rfl, hv, hr⟩ | ⟨hn, n1, m1, rfl⟩⟩
    · have EZ : Hid (R = some (st, lz)) := by show _ = _; rw [E46.out, hn]
      have HK : Hid (Blk w.heap.size svZ.cells 62 wz ∧ SVIs w43.heap.size sv st wz ∧ RdIs A lz wz ∧ w.grownBy wz (some A) ∧ w.heap.size < w43.heap.size) := ⟨HB1.out.2.1.keep (by have := HB1.out.2.2.2; omega) (H45.out.2.trans hg), hv, hr, HB1.out.2.2.1.trans (H45.out.2.trans hg), by have h1 := HB1.out.2.2.2; have h2 := (H45.out.2).size; omega⟩
      go_wp2_with (refine wpList_store_mid rfl 62 _ _ rfl _ 0 sv.cells rfl rfl (HK.out.1.there rfl) (s30 _) (HK.out.2.1.rowsOk).one ?_)
      refine bodyPost_ret (v := .agg sv.cells) (results_c Tryz.results66 _ _ _ rfl (load30 HK.out.1.stored)) rfl ?_
      refine ⟨grown_sets _ 0 HK.out.2.2.2.1 (Nat.le_refl _), .inl ⟨_, _, sv, EZ.out, rfl, ?_, RdIs.setsN _ 0 HK.out.2.2.1 (by have := HB1.out.2.2.2; omega)⟩⟩
      exact (HK.out.2.1.st (by have := HK.out.2.2.2.2; omega) (fr_sets _ 0 HK.out.1)).low (by have := HK.out.2.2.2.2; omega)
    · have HG : Hid (w.grownBy wz (some A) ∧ R = none) := ⟨HB1.out.2.2.1.trans (H45.out.2.trans hg), by rw [E46.out, hn]⟩
      clear hg hn
      go_wp2
      exact ⟨by first | rfl | trivial, HG.out.1, .inr ⟨HG.out.2, n1, m1, rfl⟩⟩
  · have HG : Hid (w.grownBy w43 (some A) ∧ R = none) := ⟨HB1.out.2.2.1.trans (H42.out.2.trans hg), by rw [EQ.out, hn]; rfl⟩
    clear hg hn
    go_wp2
    exact ⟨by first | rfl | trivial, HG.out.1, .inr ⟨HG.out.2, n1, m1, rfl⟩⟩
end Go.Proofs.YtmabfbffpedfnaaGreatDoor
