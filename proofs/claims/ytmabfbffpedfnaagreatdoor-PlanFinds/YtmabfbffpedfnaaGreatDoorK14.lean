/- Part 14 of 30. -/
import Derived.Test.YtmabfbffpedfnaaGreatDoorK13
import Derived.Deep.RegionLaw
import Derived.Deep.AppendLies
namespace Go.Proofs.YtmabfbffpedfnaaGreatDoor
open Go.RowKit

set_option maxHeartbeats 2000000 in
theorem behind_any (hE : ESpec Ef 0) (A : Nat) (l : List KT) (s : ByteArray) (w : World) (h : RdIs A l w) : Calls Tryz.prog 107 #[.pointer (some ⟨A, 0, none⟩), .string s] w fun e w' => Told A (whereF s l) w e w' := by
  have HE : Hid (ESpec Ef 0) := hE
  have H : Hid (RdIs A l w) := h
  obtain ⟨b, hb⟩ : ∃ b, isT s l = b := ⟨_, rfl⟩
  have HS : Hid (isT s l = b) := hb
  have HF : Hid (whereF s l = if b then Ef l.tail else some (.nil, l)) := by show whereF s l = _; unfold whereF; rw [hb]
  clear h hE hb
  go_enter Tryz.func107, Tryz.ntmps107
  go_wp2_with fail
  refine (has_any A l s b HS.out w H.out).mono ?_
  rintro _ w1 ⟨rfl, hr1, hg1⟩
  have H1 : Hid (RdIs A (if b then l.tail else l) w1 ∧ w.grownBy w1 (some A)) := ⟨hr1, hg1⟩
  clear hr1 hg1
  cases b
  · go_wp2
    go_ret
    exact ⟨H1.out.2, .inl ⟨_, _, none, HF.out, rfl, rfl, H1.out.1⟩⟩
  · go_wp2_with fail
    refine (HE.out A l.tail w1 H1.out.1).mono ?_
    rintro _ w2 ht
    have HT := Told.from ht H1.out.2
    clear ht
    rcases HT with ⟨hg, ⟨x, l1, p, h1, rfl, h3, h4⟩ | ⟨h1, n1, m1, rfl⟩⟩
    · go_wp2
      go_ret
      exact ⟨hg, .inl ⟨x, l1, p, by rw [HF.out]; exact h1, rfl, h3, h4⟩⟩
    · go_wp2
      exact ⟨by first | rfl | trivial, hg, .inr ⟨by rw [HF.out]; exact h1, n1, m1, rfl⟩⟩
/-- what limit tells -/
def ToldL (A : Nat) (R : Option (Int × List KT)) (w : World) (e : Ending) (w' : World) : Prop :=
  w.grownBy w' (some A) ∧ ((∃ n l, R = some (n, l) ∧ e = .returned (.int .i64 n) ∧ RdIs A l w') ∨ (R = none ∧ Thr e))
set_option maxRecDepth 100000 in
set_option maxHeartbeats 4000000 in
theorem limit_any (A : Nat) (l : List KT) (w : World) (h : RdIs A l w) : Calls Tryz.prog 114 #[.pointer (some ⟨A, 0, none⟩)] w fun e w' => ToldL A (limitF l) w e w' := by
  have H : Hid (RdIs A l w) := h
  generalize hk : (hdT l).1 = k at *
  generalize ht : (hdT l).2 = t at *
  have HE : Hid ((hdT l).1 = k ∧ (hdT l).2 = t) := ⟨hk, ht⟩
  have hts := h.ok.size
  rw [ht] at hts
  have HD : Hid (k = 2 → digsB t = true) := fun e => by rw [← ht]; exact h.ok.digs (by rw [hk]; exact e)
  have HN : Hid (limitF l = if k = 2 ∧ t.size ≤ 9 then some (digV t, l.tail) else none) := by show limitF l = _; unfold limitF; rw [hk, ht]
  clear h hk ht
  go_enter Tryz.func114, Tryz.ntmps114
  go_wp2_with fail
  refine (now_any A l w H.out).mono ?_
  rintro _ w1 ⟨⟨p, rfl⟩, hb1⟩
  rw [HE.out.1, HE.out.2]
  obtain ⟨V, hV⟩ : ∃ V, w1.alloc (.cells #[.int .i64 k, .string t, .int .i64 p] 113) = V := ⟨_, rfl⟩
  have hbV : Below w1.heap.size w1 V := by rw [← hV]; exact (Below.refl _ _).alloc (Nat.le_refl _) _
  have hkV : Blk w1.heap.size #[.int .i64 k, .string t, .int .i64 p] 113 V := by rw [← hV]; exact Blk.new _ _ _
  have z0 : V.cell? ⟨w1.heap.size, 0, none⟩ = some (.int .i64 k) := by rw [hkV.cell 0]; rfl
  have z1 : V.cell? ⟨w1.heap.size, 1, none⟩ = some (.string t) := by rw [hkV.cell 1]; rfl
  have HV : Hid (RdIs A l V ∧ w.grownBy V (some A) ∧ Blk w1.heap.size #[.int .i64 k, .string t, .int .i64 p] 113 V ∧ w1.heap.size ≠ A) := ⟨(H.out.below hb1).below hbV, (grown_of_belowA hb1 _).trans (grown_of_belowA hbV _), hkV, by have := (H.out.below hb1).lt; omega⟩
  clear hb1 hbV hkV
  by_cases hk2 : k = 2
  · subst hk2
    go_wp2_with fail
    refine (must_yes A V).mono ?_
    rintro _ w2 ⟨rfl, rfl⟩
    by_cases h9 : t.size ≤ 9
    · have HR : Hid (limitF l = some (digV t, l.tail)) := by show _ = _; rw [HN.out]; simp [h9]
      go_wp2_with fail
      refine (most_yes A (t.size : Int) 9 (by omega) w2).mono ?_
      rintro _ w3 ⟨rfl, rfl⟩
      go_wp2_with fail
      refine (take_any A l w3 HV.out.1 (by rw [HE.out.1]; decide)).mono ?_
      rintro _ w4 ⟨rfl, hr4, hg4⟩
      have hk4 := HV.out.2.2.1.keep HV.out.2.2.2 hg4
      have y1 : w4.cell? ⟨w1.heap.size, 1, none⟩ = some (.string t) := by rw [hk4.cell 1]; rfl
      have H4 : Hid (RdIs A l.tail w4 ∧ w.grownBy w4 (some A)) := ⟨hr4, HV.out.2.1.trans hg4⟩
      clear hr4 hg4 hk4 z0 z1
      go_wp2_with fail
      refine (atoi_any t (HD.out (by first | rfl | trivial)) h9 w4).mono ?_
      rintro _ w5 ⟨rfl, hb5⟩
      have H5 : Hid (RdIs A l.tail w5 ∧ w.grownBy w5 (some A)) := ⟨H4.out.1.below hb5, H4.out.2.trans (grown_of_belowA hb5 _)⟩
      clear hb5
      go_wp2
      go_ret
      exact ⟨H5.out.2, .inl ⟨_, _, HR.out, rfl, H5.out.1⟩⟩
    · have HR : Hid (limitF l = none) := by show _ = _; rw [HN.out, if_neg (fun h => h9 h.2)]
      go_wp2_with fail
      refine (most_no A l (t.size : Int) 9 (by omega) w2 HV.out.1).mono ?_
      rintro _ w3 ⟨⟨n1, m1, rfl⟩, hb3⟩
      have HG : Hid (w.grownBy w3 (some A)) := HV.out.2.1.trans (grown_of_belowA hb3 _)
      clear hb3
      go_wp2
      exact ⟨by first | rfl | trivial, HG.out, .inr ⟨HR.out, n1, m1, rfl⟩⟩
  · have d3 : (k == 2) = false := by rw [beq_eq_false_iff_ne]; exact hk2
    have HR : Hid (limitF l = none) := by show _ = _; rw [HN.out, if_neg (fun h => hk2 h.1)]
    clear hk2
    go_wp2_with fail
    refine (must_no A l V HV.out.1).mono ?_
    rintro _ w2 ⟨⟨n1, m1, rfl⟩, hb2⟩
    have HG : Hid (w.grownBy w2 (some A)) := HV.out.2.1.trans (grown_of_belowA hb2 _)
    clear hb2
    go_wp2
    exact ⟨by first | rfl | trivial, HG.out, .inr ⟨HR.out, n1, m1, rfl⟩⟩
end Go.Proofs.YtmabfbffpedfnaaGreatDoor
namespace Go.Proofs.YtmabfbffpedfnaaGreatDoor
open Go.RowKit

set_option maxRecDepth 100000 in
set_option maxHeartbeats 16000000 in
theorem delete_any (hE : ESpec Ef 0) (A : Nat) (l : List KT) (w : World) (h : RdIs A l w) : Calls Tryz.prog 88 #[.pointer (some ⟨A, 0, none⟩)] w fun e w' => ToldT A (deleteF l) w e w' := by
  have HE : Hid (ESpec Ef 0) := hE
  obtain ⟨W1, hW1⟩ : ∃ W, w.alloc (.cells #[.int .i64 0, .string ⟨#[]⟩, .string ⟨#[]⟩, .slice none 0 0, .string ⟨#[]⟩, .slice none 0 0, .slice none 0 0, .pointer none, .pointer none, .slice none 0 0, .pointer none, .slice none 0 0, .int .i64 0] 62) = W := ⟨_, rfl⟩
  have hb1 : Below w.heap.size w W1 := by rw [← hW1]; exact (Below.refl _ _).alloc (Nat.le_refl _) _
  have hs1 : W1.heap.size = w.heap.size + 1 := by rw [← hW1]; simp
  have hk1 : Blk w.heap.size svZ.cells 62 W1 := by rw [← hW1]; exact Blk.new _ _ _
  have HB1 : Hid (True ∧ Blk w.heap.size svZ.cells 62 W1 ∧ w.grownBy W1 (some A) ∧ W1.heap.size = w.heap.size + 1 ∧ A < w.heap.size) := ⟨trivial, hk1, grown_of_belowA hb1 _, hs1, h.lt⟩
  have HW : Hid (RdIs A l W1 ∧ W1.grownBy W1 (some A)) := ⟨h.below hb1, grownA_refl _ _⟩
  obtain ⟨R, hR⟩ : ∃ R, deleteF l = R := ⟨_, rfl⟩
  have E0 : Hid (R = deleteF l) := hR.symm
  unfold ToldT
  rw [hR]
  clear h hR hb1 hs1 hk1
  go_enter Tryz.func88, Tryz.ntmps88
  go_wp2_with fail
  refine (need_any A l ⟨#[102, 114, 111, 109]⟩ W1 HW.out.1).mono ?_
  rintro _ w1 ⟨hg, ⟨l2, hn, rfl, hr⟩ | ⟨hn, n1, m1, rfl⟩⟩
  · have H3 : Hid (RdIs A l2 w1 ∧ W1.grownBy w1 (some A)) := ⟨hr, HW.out.2.trans hg⟩
    have E4 : Hid (R = (nameF l2).bind fun a => (whereF ⟨#[119, 104, 101, 114, 101]⟩ a.2).map fun b => ({ ofS 5 a.1 with wh := b.1 }, b.2)) := by show _ = _; rw [E0.out]; unfold deleteF; rw [hn]; first | rw [Option.bind_some] | rw [Option.map_some]
  
    clear hg hn hr
    go_wp2_with fail
    refine (name_any A l2 w1 H3.out.1).mono ?_
    rintro _ w5 ⟨hg, ⟨nm7, l6, hn, rfl, hr, hz8⟩ | ⟨hn, n1, m1, rfl⟩⟩
    · have H9 : Hid (RdIs A l6 w5 ∧ W1.grownBy w5 (some A)) := ⟨hr, H3.out.2.trans hg⟩
      have E10 : Hid (R = (whereF ⟨#[119, 104, 101, 114, 101]⟩ l6).map fun b => ({ ofS 5 nm7 with wh := b.1 }, b.2)) := by show _ = _; rw [E4.out, hn]; first | rw [Option.bind_some] | rw [Option.map_some]
  
      clear hg hn hr
      go_wp2_with fail
      refine (of_any 5 nm7 w5).mono ?_
      rintro _ w11 ⟨rfl, hb⟩
      have hkA : Blk w11.heap.size svZ.cells 62 (w11.alloc (.cells #[.int .i64 0, .string ⟨#[]⟩, .string ⟨#[]⟩, .slice none 0 0, .string ⟨#[]⟩, .slice none 0 0, .slice none 0 0, .pointer none, .pointer none, .slice none 0 0, .pointer none, .slice none 0 0, .int .i64 0] 62)) := Blk.new _ _ _
      have HKA : Hid (Blk w11.heap.size svZ.cells 62 (w11.alloc (.cells #[.int .i64 0, .string ⟨#[]⟩, .string ⟨#[]⟩, .slice none 0 0, .string ⟨#[]⟩, .slice none 0 0, .slice none 0 0, .pointer none, .pointer none, .slice none 0 0, .pointer none, .slice none 0 0, .int .i64 0] 62))) := hkA
      obtain ⟨V12, hV12⟩ : ∃ V, (w11.alloc (.cells #[.int .i64 0, .string ⟨#[]⟩, .string ⟨#[]⟩, .slice none 0 0, .string ⟨#[]⟩, .slice none 0 0, .slice none 0 0, .pointer none, .pointer none, .slice none 0 0, .pointer none, .slice none 0 0, .int .i64 0] 62)).setCells w11.heap.size 0 (svOf 5 nm7).cells.toList = V := ⟨_, rfl⟩
      have hgV : w11.grownBy V12 (some A) := by rw [← hV12]; exact grown_sets _ 0 (grown_alloc _ _ _) (Nat.le_refl _)
      have H13 : Hid (SI A w11.heap.size W1 (ofS 5 nm7) l6 V12) := by
        refine ⟨?_, (H9.out.2.trans (grown_of_belowA hb _)).trans hgV, ⟨svOf 5 nm7, ?_, svis_of _ _ _ _⟩, by have := HB1.out.2.2.2; omega, by have h1 := (H9.out.2.trans (grown_of_belowA hb (some A))).size; exact h1⟩
        · rw [← hV12]
          exact RdIs.setsN _ 0 ((H9.out.1.below hb).below ((Below.refl _ _).alloc (Nat.le_refl _) _)) ((H9.out.1.below hb).lt)
        · rw [← hV12]
          exact hkA.stored
      clear hb hkA hgV
      go_wp2_with (refine wpList_store_mid rfl 62 _ _ rfl _ 0 (svOf 5 nm7).cells rfl rfl (HKA.out.there rfl) (s30 _) (svOf_rows 5 nm7).one ?_; rw [hV12])
      clear HKA
      go_wp2_with fail
      refine (behind_any HE.out A l6 ⟨#[119, 104, 101, 114, 101]⟩ V12 H13.out.rd).mono ?_
      rintro _ w14 ⟨hg, ⟨e16, l15, p17, hn, rfl, hx, hr⟩ | ⟨hn, n1, m1, rfl⟩⟩
      · have H18 : Hid (SI A w11.heap.size W1 (ofS 5 nm7) l15 w14) := H13.out.grown hr hg
        obtain ⟨⟨v0, c0⟩, f0⟩ := H18.out.cell (i := 8) (by decide)
        obtain ⟨w20, hwz⟩ : ∃ u, w14.setCell ⟨w11.heap.size, 8, none⟩ (.pointer p17) = u := ⟨_, rfl⟩
        have H21 : Hid (SI A w11.heap.size W1 { (ofS 5 nm7) with wh := e16 } l15 w20) := by
          rw [← hwz]
          exact H18.out.set_wh (hx.mono (by have := H13.out.gr.size; omega))
        have E19 : Hid (R = some ({ ofS 5 nm7 with wh := e16 }, l15)) := by show _ = _; rw [E10.out, hn]; first | rw [Option.bind_some] | rw [Option.map_some]
  
        clear hg hn hx hr
        obtain ⟨sv, hk, hv⟩ := H21.out.st
        have HK : Hid (Blk w11.heap.size sv.cells 62 w20 ∧ Blk w.heap.size svZ.cells 62 w20 ∧ SVIs W1.heap.size sv { (ofS 5 nm7) with wh := e16 } w20) := ⟨hk, HB1.out.2.1.keep (by have := HB1.out.2.2.2; omega) H21.out.gr, hv⟩
        clear hk hv
        go_wp2_with (first | (refine wpList_load_mid rfl 62 _ rfl _ 0 rfl sv.cells.toList _ HK.out.1.range Tryz.underlying62 rfl (s30 sv) ?_) | (refine wpList_store_mid rfl 62 _ _ rfl _ 0 sv.cells rfl rfl (HK.out.2.1.there rfl) (s30 _) (HK.out.2.2.rowsOk).one ?_))
        refine bodyPost_ret (v := .agg sv.cells) (results_c Tryz.results88 _ _ _ rfl (load30 HK.out.2.1.stored)) rfl ?_
        refine ⟨grown_sets _ 0 (HB1.out.2.2.1.trans H21.out.gr) (by omega), .inl ⟨_, _, sv, E19.out, rfl, ?_, RdIs.setsN _ 0 H21.out.rd (by have := HB1.out.2.2.2; omega)⟩⟩
        exact (HK.out.2.2.st (by have := HB1.out.2.2.2; omega) (fr_sets _ 0 HK.out.2.1)).low (by have := HB1.out.2.2.2; omega)
      · have HG : Hid (w.grownBy w14 (some A) ∧ R = none) := ⟨HB1.out.2.2.1.trans (H13.out.gr.trans hg), by rw [E10.out, hn]; rfl⟩
        clear hg hn
        go_wp2
        exact ⟨by first | rfl | trivial, HG.out.1, .inr ⟨HG.out.2, n1, m1, rfl⟩⟩
    · have HG : Hid (w.grownBy w5 (some A) ∧ R = none) := ⟨HB1.out.2.2.1.trans (H3.out.2.trans hg), by rw [E4.out, hn]; rfl⟩
      clear hg hn
      go_wp2
      exact ⟨by first | rfl | trivial, HG.out.1, .inr ⟨HG.out.2, n1, m1, rfl⟩⟩
  · have HG : Hid (w.grownBy w1 (some A) ∧ R = none) := ⟨HB1.out.2.2.1.trans (HW.out.2.trans hg), by rw [E0.out]; unfold deleteF; rw [hn]; rfl⟩
    clear hg hn
    go_wp2
    exact ⟨by first | rfl | trivial, HG.out.1, .inr ⟨HG.out.2, n1, m1, rfl⟩⟩
end Go.Proofs.YtmabfbffpedfnaaGreatDoor
namespace Go.Proofs.YtmabfbffpedfnaaGreatDoor
open Go.RowKit

set_option maxRecDepth 100000 in
set_option maxHeartbeats 64000000 in
theorem cl_r (hE : ESpec Ef 0) {A S x : Nat} {w0 : World} {J : World → Prop} (hJ : StaysJ A 26 58 J) {L : List Ex} {l : List KT} {w : World} (h : Acc 300 A S x w0 (fun v => #[v]) 58 26 1 (EP (w0.heap.size - 1)) J L l w) :
    Calls Tryz.prog 123 #[.pointer (some ⟨S, 0, none⟩), .pointer (some ⟨x, 0, none⟩)] w fun e w' => (∃ L2 l2, oneOf Ef L l = some (L2, l2) ∧ e = .returned (.tuple #[]) ∧ Acc 301 A S x w0 (fun v => #[v]) 58 26 1 (EP (w0.heap.size - 1)) J L2 l2 w') ∨ (oneOf Ef L l = none ∧ Thr e ∧ w0.grownBy w' (some A)) := by
  obtain ⟨i0, hi, hz0, hz1, hz2⟩ := info_parts infoPE
  have HE : Hid (ESpec Ef 0) := hE
  have H : Hid (Acc 300 A S x w0 (fun v => #[v]) 58 26 1 (EP (w0.heap.size - 1)) J L l w) := h
  have HJ : Hid (StaysJ A 26 58 J) := hJ
  obtain ⟨v, hst, cs, hcs, hown⟩ := h.st
  obtain ⟨a4, c4, rfl⟩ := own_slice hown
  have hcnt := h.cnt
  have hLr : L.length ≤ 300 := by omega
  have hlo := h.lo
  have hS0 := h.S0
  have HD : Hid (RdIs A l w.drew) := h.rd.below (Below.refl _ _).drew
  have HC : Hid (∀ wx, Fr (fun k o => k = A ∨ ∃ c fz, o = .cells c 26 fz) w.drew wx → wx.cell? ⟨S, 0, none⟩ = some (.slice a4 L.length c4) ∧ wx.frozen? ⟨S, 0, none⟩ = false ∧ wx.cell? ⟨x, 0, none⟩ = some (.pointer (some ⟨A, 0, none⟩)) ∧ w0.heap.size ≤ wx.heap.size) := fun wx hf => by
    have h1 := (hst.below (Below.refl _ _).drew).fr hf (by
      rintro (e | ⟨c, fz, e⟩)
      · omega
      · cases e)
    have h2 := (h.hx.below (Below.refl _ _).drew).fr hf (by
      rintro (e | ⟨c, fz, e⟩)
      · exact h.nx e
      · cases e)
    exact ⟨by rw [h1.cell 0]; rfl, h1.free 0, by rw [h2.cell 0]; rfl, by have := h1.lt; omega⟩
  have HFr : Hid (Fr (fun k o => k = A ∨ ∃ c fz, o = .cells c 26 fz) w.drew w.drew) := Fr.refl _ _
  have HOw : Hid (w.drew.ownsRow w0.heap.size 26 1 (.slice a4 L.length c4) L.length cs.flatten) := own_below hown (Below.refl _ _).drew
  have HKeep : Hid (All2 ((EP (w0.heap.size - 1)) w) L cs ∧ Blk S ((fun v => #[v]) (.slice a4 L.length c4)) 58 w ∧ w.ownsRow w0.heap.size 26 1 (.slice a4 L.length c4) L.length cs.flatten) := ⟨hcs, hst, hown⟩
  skip
  clear h hE hJ hst hcs hown
  obtain ⟨cS, fS, cX, lS⟩ := HC.out _ HFr.out
  cases hF : Ef l with
  | none =>
    have HR : Hid (oneOf Ef L l = none) := by show oneOf Ef L l = none; unfold oneOf; rw [hF]; rfl
    have HFn : Hid (Ef l = none) := hF
    clear hF
    go_enter Tryz.func123, Tryz.ntmps123
    go_wp2_with fail
    refine wp_region_held_drew (S := fun w' => w'.cell? ⟨S, 0, none⟩ = some (.slice a4 L.length c4) ∧ w'.cell? ⟨x, 0, none⟩ = some (.pointer (some ⟨A, 0, none⟩))) (by kernel_rfl) ⟨cS, cX⟩ (fun hHeld => ?_)
    refine wpAnyH_take (i := 0) (oi := { dst := some 2, op := Op.load 58 (Operand.tmp 0), type := 58, pos := "statement.go:94", after := #[], guard := none }) (v := (.slice a4 L.length c4)) rfl (by kernel_rfl) (by kernel_rfl) (by kernel_rfl) (fun _ _ _ h => h) (Or.inl ⟨by rfl, fun w' hSw => ?_⟩) hHeld ?_
    · (try dsimp only at hSw)
      go_simp
    simp only [Act.put, List.setIfInBounds_toArray, List.set_cons_zero, List.set_cons_succ]
    refine wpAnyH_take (i := 1) (oi := { dst := some 3, op := Op.load 117 (Operand.tmp 1), type := 117, pos := "statement.go:94", after := #[], guard := none }) (v := (.pointer (some ⟨A, 0, none⟩))) rfl (by kernel_rfl) (by kernel_rfl) (by kernel_rfl) (fun _ _ _ h => h) (Or.inl ⟨by rfl, fun w' hSw => ?_⟩) hHeld ?_
    · (try dsimp only at hSw)
      go_simp
    simp only [Act.put, List.setIfInBounds_toArray, List.set_cons_zero, List.set_cons_succ]
    refine wpAnyH_ready (rs := [2]) (by kernel_rfl) (by simp) ?_
    refine AllReadyH.cons (o := { dst := some 4, op := Op.call { callee := Callee.value (Operand.func 109), args := #[Operand.tmp 3, Operand.const (Value.int IntKind.i64 0)], argTypes := #[117, 3] }, type := 26, pos := "statement.go:94", after := #[{ on := 1, ground := Ground.data }], guard := none }) rfl (fun K hK => ?_) AllReadyH.nil
    clear hHeld
    go_simp
    refine (HE.out A l _ HD.out).mono ?_
    rw [HFn.out]
    rintro _ w10 ⟨hg2, ⟨a, l2, p, hs2, rfl, hx2, hr2⟩ | ⟨hs2, n9, m9, rfl⟩⟩
    · cases hs2
    · have HG : Hid (w0.grownBy w10 (some A)) := (H.out.gr.trans (grown_drew _ _)).trans hg2
      refine (show _ ∧ _ from ⟨?_, .inr ⟨HR.out, ⟨n9, m9, rfl⟩, HG.out⟩⟩)
      first | rfl | trivial
  | some r =>
    obtain ⟨a', l'⟩ := r
    have HR : Hid (oneOf Ef L l = some (L ++ [a'], l')) := by show oneOf Ef L l = _; unfold oneOf; rw [hF]; rfl
    have HRl : Hid (l'.length ≤ l.length) := (Ef_reads l H.out.rd.ok _ hF).2
    have HFs : Hid (Ef l = some (a', l')) := hF
    clear hF
    go_enter Tryz.func123, Tryz.ntmps123
    go_wp2_with fail
    go_region_law (first
      | (refine step_append_lies _ rfl (.tmp 2) (.tmp 5) 58 rfl w0.heap.size 26 i0 (.pointer none) 1 8 Tryz.underlying58 hi hz0 hz1 hz2 rfl (by decide) (.slice a4 L.length c4) L.length cs.flatten (by simp [Act.eval]) (HOw.out.alloc _) ⟨w10.heap.size, 0, none⟩ 1 1 [.pointer p] (by simp [Act.eval]) rfl (news_one w10 _ _) (by intro u hu; simp at hu; subst hu; rfl) (by decide) (by simp [maxLen]; omega) (by omega) (by simp; omega) _ rfl ?_; intro g3 cap3 w3 ho3 hg3 _ _; have HO3 : Hid (w3.ownsRow w0.heap.size 26 1 (.slice (some ⟨g3, 0, none⟩) (L.length + 1) cap3) (L.length + 1) (cs.flatten ++ [.pointer p])) := ho3; have HG3 : Hid ((w10.alloc (.cells #[.pointer p] 26)).grownBy w3 (Value.slice a4 L.length c4).ownBlock) := hg3; have HFr : Hid (Fr (fun k o => k = A ∨ ∃ c fz, o = .cells c 26 fz) w.drew w3) := (HFr.out.trans (Fr.of_below ((Below.refl _ _).alloc (Nat.le_refl _) _))).trans (Fr.row (fun _ _ _ => .inr ⟨_, _, rfl⟩) (HOw.out.alloc _) hg3); obtain ⟨cSd, fSd, cXd, lSd⟩ := HC.out _ HFr.out; clear ho3 hg3)
      | (go_wp2_with (go_at_call 109; refine Calls.mono (HE.out A l _ HD.out) ?_; rw [HFs.out]; rintro _ w10 ⟨hg2, hc2⟩; obtain ⟨a, l2, p, hs2, rfl, hx2, hr2⟩ := hc2.resolve_right (fun h => by cases h.1); obtain ⟨rfl, rfl⟩ := Prod.mk.inj (Option.some.inj hs2); have HG : Hid (w.drew.grownBy w10 (some A)) := hg2; have HFr : Hid (Fr (fun k o => k = A ∨ ∃ c fz, o = .cells c 26 fz) w.drew w10) := Fr.of_grown (fun _ => .inl rfl) hg2; have HX2 : Hid (ExIs (w0.heap.size - 1) w10 p a') := hx2.mono (by have h1 := H.out.gr.size; have h2 := (Below.refl w.heap.size w).drew.size; omega); have HR2 : Hid (RdIs A l' w10) := hr2; have HOw : Hid (w10.ownsRow w0.heap.size 26 1 (.slice a4 L.length c4) L.length cs.flatten) := own_grownN hlo HOw.out hg2; obtain ⟨cSb, fSb, cXb, lSb⟩ := HC.out _ HFr.out; obtain ⟨cSc, fSc, cXc, lSc⟩ := HC.out (w10.alloc (.cells #[.pointer p] 26)) (HFr.out.trans (Fr.of_below ((Below.refl _ _).alloc (Nat.le_refl _) _))); clear hx2 hr2 hg2 hs2)))
    all_goals
      go_end0
      exact .inl ⟨_, _, HR.out, rfl, Acc.snoc H.out (EP_stays (by have := H.out.lo; omega) (by decide)) HJ.out (by decide) HKeep.out.2.1 HKeep.out.1 HKeep.out.2.2 ((grown_drew _ _).trans HG.out) HR2.out ⟨p, rfl, HX2.out⟩ HG3.out HO3.out rfl HRl.out⟩
end Go.Proofs.YtmabfbffpedfnaaGreatDoor
namespace Go.Proofs.YtmabfbffpedfnaaGreatDoor
open Go.RowKit

set_option maxRecDepth 100000 in
set_option maxHeartbeats 4000000 in
theorem inside_ci {α : Type} {F : Rf α} (A : Nat) (x0 x1 : Value) (Pre : List KT → World → Prop) (Inv : α → List KT → World → Prop) (Err : World → Prop) (hR : ∀ l w, Pre l w → RdIs A l w) (hP : ∀ l l1 w w1, Pre l w → RdIs A l1 w1 → w.grownBy w1 (some A) → l1.length ≤ l.length → Pre l1 w1)
    (hJ : ∀ a l w, Inv a l w → RdIs A l w) (hK : ∀ a l l1 w w1, Inv a l w → RdIs A l1 w1 → w.grownBy w1 (some A) → l1.length ≤ l.length → Inv a l1 w1) (hE : ∀ l w w1, Pre l w → w.grownBy w1 (some A) → Err w1) (hE2 : ∀ a l w w1, Inv a l w → w.grownBy w1 (some A) → Err w1)
    (hO : ∀ l w, Pre l w → Calls Tryz.prog 98 #[x0, x1] w fun e w' => (∃ a l2, F l = some (a, l2) ∧ e = .returned (.tuple #[]) ∧ Inv a l2 w') ∨ (F l = none ∧ Thr e ∧ Err w')) (l : List KT) (w : World) (h : Pre l w) :
    Calls Tryz.prog 97 #[.pointer (some ⟨A, 0, none⟩), .func (.func 98) #[] #[x0, x1]] w fun e w' => (∃ a l2, insideF F l = some (a, l2) ∧ e = .returned (.tuple #[]) ∧ Inv a l2 w') ∨ (insideF F l = none ∧ Thr e ∧ Err w') := by
  have HO : Hid (∀ l w, Pre l w → Calls Tryz.prog 98 #[x0, x1] w fun e w' => (∃ a l2, F l = some (a, l2) ∧ e = .returned (.tuple #[]) ∧ Inv a l2 w') ∨ (F l = none ∧ Thr e ∧ Err w')) := hO
  have HP : Hid (∀ l l1 w w1, Pre l w → RdIs A l1 w1 → w.grownBy w1 (some A) → l1.length ≤ l.length → Pre l1 w1) := hP
  have HJ : Hid ((∀ a l w, Inv a l w → RdIs A l w) ∧ (∀ a l l1 w w1, Inv a l w → RdIs A l1 w1 → w.grownBy w1 (some A) → l1.length ≤ l.length → Inv a l1 w1) ∧ (∀ l w w1, Pre l w → w.grownBy w1 (some A) → Err w1) ∧ (∀ a l w w1, Inv a l w → w.grownBy w1 (some A) → Err w1)) := ⟨hJ, hK, hE, hE2⟩
  have H : Hid (Pre l w ∧ RdIs A l w) := ⟨h, hR l w h⟩
  obtain ⟨R, hRe⟩ : ∃ R, insideF F l = R := ⟨_, rfl⟩
  have HR : Hid (insideF F l = R) := hRe
  rw [hRe]
  clear hO hR hP hJ hK hE hE2 h hRe
  go_enter Tryz.func97, Tryz.ntmps97
  go_wp2_with fail
  refine (need_any A l ⟨#[40]⟩ w H.out.2).mono ?_
  rintro _ w1 ⟨hg1, ⟨l1, hn1, rfl, hr1⟩ | ⟨hn1, n1, m1, rfl⟩⟩
  · have H1 : Hid (Pre l1 w1) := HP.out l l1 w w1 H.out.1 hr1 hg1 (need_reads H.out.2.ok hn1).2
    have HR1 : Hid (R = (F l1).bind fun x => (needF ⟨#[41]⟩ x.2).map fun l2 => (x.1, l2)) := by
      show _ = _
      rw [← HR.out]; unfold insideF; rw [hn1]; rfl
    clear hg1 hn1 hr1
    go_wp2_with fail
    refine (HO.out l1 w1 H1.out).mono ?_
    rintro _ w2 (⟨a, l2, hf2, rfl, hi2⟩ | ⟨hf2, ⟨n1, m1, rfl⟩, he2⟩)
    · have HR2 : Hid (R = (needF ⟨#[41]⟩ l2).map fun l3 => (a, l3)) := by show _ = _; rw [HR1.out, hf2]; rfl
      have H2 : Hid (Inv a l2 w2) := hi2
      clear hf2 hi2
      go_wp2_with fail
      refine (need_any A l2 ⟨#[41]⟩ w2 (HJ.out.1 _ _ _ H2.out)).mono ?_
      rintro _ w3 ⟨hg3, ⟨l3, hn3, rfl, hr3⟩ | ⟨hn3, n1, m1, rfl⟩⟩
      · have H3 : Hid (Inv a l3 w3 ∧ R = some (a, l3)) := ⟨HJ.out.2.1 a l2 l3 w2 w3 H2.out hr3 hg3 (need_reads (HJ.out.1 _ _ _ H2.out).ok hn3).2, by rw [HR2.out, hn3]; rfl⟩
        clear hg3 hn3 hr3
        go_wp2
        go_end0
        exact .inl ⟨a, l3, H3.out.2, rfl, H3.out.1⟩
      · have H3 : Hid (Err w3 ∧ R = none) := ⟨HJ.out.2.2.2 a l2 w2 w3 H2.out hg3, by rw [HR2.out, hn3]; rfl⟩
        clear hg3 hn3
        go_wp2
        exact ⟨by first | rfl | trivial, .inr ⟨H3.out.2, ⟨n1, m1, rfl⟩, H3.out.1⟩⟩
    · have H3 : Hid (Err w2 ∧ R = none) := ⟨he2, by rw [HR1.out, hf2]; rfl⟩
      clear he2 hf2
      go_wp2
      exact ⟨by first | rfl | trivial, .inr ⟨H3.out.2, ⟨n1, m1, rfl⟩, H3.out.1⟩⟩
  · have H3 : Hid (Err w1 ∧ R = none) := ⟨HJ.out.2.2.1 l w w1 H.out.1 hg1, by rw [← HR.out]; unfold insideF; rw [hn1]; rfl⟩
    clear hg1 hn1
    go_wp2
    exact ⟨by first | rfl | trivial, .inr ⟨H3.out.2, ⟨n1, m1, rfl⟩, H3.out.1⟩⟩
set_option maxRecDepth 100000 in
set_option maxHeartbeats 4000000 in
theorem inside_cc {α : Type} {F : Rf α} (A : Nat) (x0 x1 : Value) (Pre : List KT → World → Prop) (Inv : α → List KT → World → Prop) (Err : World → Prop) (hR : ∀ l w, Pre l w → RdIs A l w) (hP : ∀ l l1 w w1, Pre l w → RdIs A l1 w1 → w.grownBy w1 (some A) → l1.length ≤ l.length → Pre l1 w1)
    (hJ : ∀ a l w, Inv a l w → RdIs A l w) (hK : ∀ a l l1 w w1, Inv a l w → RdIs A l1 w1 → w.grownBy w1 (some A) → l1.length ≤ l.length → Inv a l1 w1) (hE : ∀ l w w1, Pre l w → w.grownBy w1 (some A) → Err w1) (hE2 : ∀ a l w w1, Inv a l w → w.grownBy w1 (some A) → Err w1)
    (hO : ∀ l w, Pre l w → Calls Tryz.prog 99 #[x0, x1] w fun e w' => (∃ a l2, F l = some (a, l2) ∧ e = .returned (.tuple #[]) ∧ Inv a l2 w') ∨ (F l = none ∧ Thr e ∧ Err w')) (l : List KT) (w : World) (h : Pre l w) :
    Calls Tryz.prog 97 #[.pointer (some ⟨A, 0, none⟩), .func (.func 99) #[] #[x0, x1]] w fun e w' => (∃ a l2, insideF F l = some (a, l2) ∧ e = .returned (.tuple #[]) ∧ Inv a l2 w') ∨ (insideF F l = none ∧ Thr e ∧ Err w') := by
  have HO : Hid (∀ l w, Pre l w → Calls Tryz.prog 99 #[x0, x1] w fun e w' => (∃ a l2, F l = some (a, l2) ∧ e = .returned (.tuple #[]) ∧ Inv a l2 w') ∨ (F l = none ∧ Thr e ∧ Err w')) := hO
  have HP : Hid (∀ l l1 w w1, Pre l w → RdIs A l1 w1 → w.grownBy w1 (some A) → l1.length ≤ l.length → Pre l1 w1) := hP
  have HJ : Hid ((∀ a l w, Inv a l w → RdIs A l w) ∧ (∀ a l l1 w w1, Inv a l w → RdIs A l1 w1 → w.grownBy w1 (some A) → l1.length ≤ l.length → Inv a l1 w1) ∧ (∀ l w w1, Pre l w → w.grownBy w1 (some A) → Err w1) ∧ (∀ a l w w1, Inv a l w → w.grownBy w1 (some A) → Err w1)) := ⟨hJ, hK, hE, hE2⟩
  have H : Hid (Pre l w ∧ RdIs A l w) := ⟨h, hR l w h⟩
  obtain ⟨R, hRe⟩ : ∃ R, insideF F l = R := ⟨_, rfl⟩
  have HR : Hid (insideF F l = R) := hRe
  rw [hRe]
  clear hO hR hP hJ hK hE hE2 h hRe
  go_enter Tryz.func97, Tryz.ntmps97
  go_wp2_with fail
  refine (need_any A l ⟨#[40]⟩ w H.out.2).mono ?_
  rintro _ w1 ⟨hg1, ⟨l1, hn1, rfl, hr1⟩ | ⟨hn1, n1, m1, rfl⟩⟩
  · have H1 : Hid (Pre l1 w1) := HP.out l l1 w w1 H.out.1 hr1 hg1 (need_reads H.out.2.ok hn1).2
    have HR1 : Hid (R = (F l1).bind fun x => (needF ⟨#[41]⟩ x.2).map fun l2 => (x.1, l2)) := by
      show _ = _
      rw [← HR.out]; unfold insideF; rw [hn1]; rfl
    clear hg1 hn1 hr1
    go_wp2_with fail
    refine (HO.out l1 w1 H1.out).mono ?_
    rintro _ w2 (⟨a, l2, hf2, rfl, hi2⟩ | ⟨hf2, ⟨n1, m1, rfl⟩, he2⟩)
    · have HR2 : Hid (R = (needF ⟨#[41]⟩ l2).map fun l3 => (a, l3)) := by show _ = _; rw [HR1.out, hf2]; rfl
      have H2 : Hid (Inv a l2 w2) := hi2
      clear hf2 hi2
      go_wp2_with fail
      refine (need_any A l2 ⟨#[41]⟩ w2 (HJ.out.1 _ _ _ H2.out)).mono ?_
      rintro _ w3 ⟨hg3, ⟨l3, hn3, rfl, hr3⟩ | ⟨hn3, n1, m1, rfl⟩⟩
      · have H3 : Hid (Inv a l3 w3 ∧ R = some (a, l3)) := ⟨HJ.out.2.1 a l2 l3 w2 w3 H2.out hr3 hg3 (need_reads (HJ.out.1 _ _ _ H2.out).ok hn3).2, by rw [HR2.out, hn3]; rfl⟩
        clear hg3 hn3 hr3
        go_wp2
        go_end0
        exact .inl ⟨a, l3, H3.out.2, rfl, H3.out.1⟩
      · have H3 : Hid (Err w3 ∧ R = none) := ⟨HJ.out.2.2.2 a l2 w2 w3 H2.out hg3, by rw [HR2.out, hn3]; rfl⟩
        clear hg3 hn3
        go_wp2
        exact ⟨by first | rfl | trivial, .inr ⟨H3.out.2, ⟨n1, m1, rfl⟩, H3.out.1⟩⟩
    · have H3 : Hid (Err w2 ∧ R = none) := ⟨he2, by rw [HR1.out, hf2]; rfl⟩
      clear he2 hf2
      go_wp2
      exact ⟨by first | rfl | trivial, .inr ⟨H3.out.2, ⟨n1, m1, rfl⟩, H3.out.1⟩⟩
  · have H3 : Hid (Err w1 ∧ R = none) := ⟨HJ.out.2.2.1 l w w1 H.out.1 hg1, by rw [← HR.out]; unfold insideF; rw [hn1]; rfl⟩
    clear hg1 hn1
    go_wp2
    exact ⟨by first | rfl | trivial, .inr ⟨H3.out.2, ⟨n1, m1, rfl⟩, H3.out.1⟩⟩
set_option maxRecDepth 100000 in
set_option maxHeartbeats 4000000 in
theorem inside_r {α : Type} {F : Rf α} (A : Nat) (x0 x1 : Value) (Pre : List KT → World → Prop) (Inv : α → List KT → World → Prop) (Err : World → Prop) (hR : ∀ l w, Pre l w → RdIs A l w) (hP : ∀ l l1 w w1, Pre l w → RdIs A l1 w1 → w.grownBy w1 (some A) → l1.length ≤ l.length → Pre l1 w1)
    (hJ : ∀ a l w, Inv a l w → RdIs A l w) (hK : ∀ a l l1 w w1, Inv a l w → RdIs A l1 w1 → w.grownBy w1 (some A) → l1.length ≤ l.length → Inv a l1 w1) (hE : ∀ l w w1, Pre l w → w.grownBy w1 (some A) → Err w1) (hE2 : ∀ a l w w1, Inv a l w → w.grownBy w1 (some A) → Err w1)
    (hO : ∀ l w, Pre l w → Calls Tryz.prog 122 #[x0, x1] w fun e w' => (∃ a l2, F l = some (a, l2) ∧ e = .returned (.tuple #[]) ∧ Inv a l2 w') ∨ (F l = none ∧ Thr e ∧ Err w')) (l : List KT) (w : World) (h : Pre l w) :
    Calls Tryz.prog 97 #[.pointer (some ⟨A, 0, none⟩), .func (.func 122) #[] #[x0, x1]] w fun e w' => (∃ a l2, insideF F l = some (a, l2) ∧ e = .returned (.tuple #[]) ∧ Inv a l2 w') ∨ (insideF F l = none ∧ Thr e ∧ Err w') := by
  have HO : Hid (∀ l w, Pre l w → Calls Tryz.prog 122 #[x0, x1] w fun e w' => (∃ a l2, F l = some (a, l2) ∧ e = .returned (.tuple #[]) ∧ Inv a l2 w') ∨ (F l = none ∧ Thr e ∧ Err w')) := hO
  have HP : Hid (∀ l l1 w w1, Pre l w → RdIs A l1 w1 → w.grownBy w1 (some A) → l1.length ≤ l.length → Pre l1 w1) := hP
  have HJ : Hid ((∀ a l w, Inv a l w → RdIs A l w) ∧ (∀ a l l1 w w1, Inv a l w → RdIs A l1 w1 → w.grownBy w1 (some A) → l1.length ≤ l.length → Inv a l1 w1) ∧ (∀ l w w1, Pre l w → w.grownBy w1 (some A) → Err w1) ∧ (∀ a l w w1, Inv a l w → w.grownBy w1 (some A) → Err w1)) := ⟨hJ, hK, hE, hE2⟩
  have H : Hid (Pre l w ∧ RdIs A l w) := ⟨h, hR l w h⟩
  obtain ⟨R, hRe⟩ : ∃ R, insideF F l = R := ⟨_, rfl⟩
  have HR : Hid (insideF F l = R) := hRe
  rw [hRe]
  clear hO hR hP hJ hK hE hE2 h hRe
  go_enter Tryz.func97, Tryz.ntmps97
  go_wp2_with fail
  refine (need_any A l ⟨#[40]⟩ w H.out.2).mono ?_
  rintro _ w1 ⟨hg1, ⟨l1, hn1, rfl, hr1⟩ | ⟨hn1, n1, m1, rfl⟩⟩
  · have H1 : Hid (Pre l1 w1) := HP.out l l1 w w1 H.out.1 hr1 hg1 (need_reads H.out.2.ok hn1).2
    have HR1 : Hid (R = (F l1).bind fun x => (needF ⟨#[41]⟩ x.2).map fun l2 => (x.1, l2)) := by
      show _ = _
      rw [← HR.out]; unfold insideF; rw [hn1]; rfl
    clear hg1 hn1 hr1
    go_wp2_with fail
    refine (HO.out l1 w1 H1.out).mono ?_
    rintro _ w2 (⟨a, l2, hf2, rfl, hi2⟩ | ⟨hf2, ⟨n1, m1, rfl⟩, he2⟩)
    · have HR2 : Hid (R = (needF ⟨#[41]⟩ l2).map fun l3 => (a, l3)) := by show _ = _; rw [HR1.out, hf2]; rfl
      have H2 : Hid (Inv a l2 w2) := hi2
      clear hf2 hi2
      go_wp2_with fail
      refine (need_any A l2 ⟨#[41]⟩ w2 (HJ.out.1 _ _ _ H2.out)).mono ?_
      rintro _ w3 ⟨hg3, ⟨l3, hn3, rfl, hr3⟩ | ⟨hn3, n1, m1, rfl⟩⟩
      · have H3 : Hid (Inv a l3 w3 ∧ R = some (a, l3)) := ⟨HJ.out.2.1 a l2 l3 w2 w3 H2.out hr3 hg3 (need_reads (HJ.out.1 _ _ _ H2.out).ok hn3).2, by rw [HR2.out, hn3]; rfl⟩
        clear hg3 hn3 hr3
        go_wp2
        go_end0
        exact .inl ⟨a, l3, H3.out.2, rfl, H3.out.1⟩
      · have H3 : Hid (Err w3 ∧ R = none) := ⟨HJ.out.2.2.2 a l2 w2 w3 H2.out hg3, by rw [HR2.out, hn3]; rfl⟩
        clear hg3 hn3
        go_wp2
        exact ⟨by first | rfl | trivial, .inr ⟨H3.out.2, ⟨n1, m1, rfl⟩, H3.out.1⟩⟩
    · have H3 : Hid (Err w2 ∧ R = none) := ⟨he2, by rw [HR1.out, hf2]; rfl⟩
      clear he2 hf2
      go_wp2
      exact ⟨by first | rfl | trivial, .inr ⟨H3.out.2, ⟨n1, m1, rfl⟩, H3.out.1⟩⟩
  · have H3 : Hid (Err w1 ∧ R = none) := ⟨HJ.out.2.2.1 l w w1 H.out.1 hg1, by rw [← HR.out]; unfold insideF; rw [hn1]; rfl⟩
    clear hg1 hn1
    go_wp2
    exact ⟨by first | rfl | trivial, .inr ⟨H3.out.2, ⟨n1, m1, rfl⟩, H3.out.1⟩⟩
set_option maxRecDepth 100000 in
set_option maxHeartbeats 4000000 in
theorem inside_i {α : Type} {F : Rf α} (A : Nat) (x0 x1 : Value) (Pre : List KT → World → Prop) (Inv : α → List KT → World → Prop) (Err : World → Prop) (hR : ∀ l w, Pre l w → RdIs A l w) (hP : ∀ l l1 w w1, Pre l w → RdIs A l1 w1 → w.grownBy w1 (some A) → l1.length ≤ l.length → Pre l1 w1)
    (hJ : ∀ a l w, Inv a l w → RdIs A l w) (hK : ∀ a l l1 w w1, Inv a l w → RdIs A l1 w1 → w.grownBy w1 (some A) → l1.length ≤ l.length → Inv a l1 w1) (hE : ∀ l w w1, Pre l w → w.grownBy w1 (some A) → Err w1) (hE2 : ∀ a l w w1, Inv a l w → w.grownBy w1 (some A) → Err w1)
    (hO : ∀ l w, Pre l w → Calls Tryz.prog 127 #[x0, x1] w fun e w' => (∃ a l2, F l = some (a, l2) ∧ e = .returned (.tuple #[]) ∧ Inv a l2 w') ∨ (F l = none ∧ Thr e ∧ Err w')) (l : List KT) (w : World) (h : Pre l w) :
    Calls Tryz.prog 97 #[.pointer (some ⟨A, 0, none⟩), .func (.func 127) #[] #[x0, x1]] w fun e w' => (∃ a l2, insideF F l = some (a, l2) ∧ e = .returned (.tuple #[]) ∧ Inv a l2 w') ∨ (insideF F l = none ∧ Thr e ∧ Err w') := by
  have HO : Hid (∀ l w, Pre l w → Calls Tryz.prog 127 #[x0, x1] w fun e w' => (∃ a l2, F l = some (a, l2) ∧ e = .returned (.tuple #[]) ∧ Inv a l2 w') ∨ (F l = none ∧ Thr e ∧ Err w')) := hO
  have HP : Hid (∀ l l1 w w1, Pre l w → RdIs A l1 w1 → w.grownBy w1 (some A) → l1.length ≤ l.length → Pre l1 w1) := hP
  have HJ : Hid ((∀ a l w, Inv a l w → RdIs A l w) ∧ (∀ a l l1 w w1, Inv a l w → RdIs A l1 w1 → w.grownBy w1 (some A) → l1.length ≤ l.length → Inv a l1 w1) ∧ (∀ l w w1, Pre l w → w.grownBy w1 (some A) → Err w1) ∧ (∀ a l w w1, Inv a l w → w.grownBy w1 (some A) → Err w1)) := ⟨hJ, hK, hE, hE2⟩
  have H : Hid (Pre l w ∧ RdIs A l w) := ⟨h, hR l w h⟩
  obtain ⟨R, hRe⟩ : ∃ R, insideF F l = R := ⟨_, rfl⟩
  have HR : Hid (insideF F l = R) := hRe
  rw [hRe]
  clear hO hR hP hJ hK hE hE2 h hRe
  go_enter Tryz.func97, Tryz.ntmps97
  go_wp2_with fail
  refine (need_any A l ⟨#[40]⟩ w H.out.2).mono ?_
  rintro _ w1 ⟨hg1, ⟨l1, hn1, rfl, hr1⟩ | ⟨hn1, n1, m1, rfl⟩⟩
  · have H1 : Hid (Pre l1 w1) := HP.out l l1 w w1 H.out.1 hr1 hg1 (need_reads H.out.2.ok hn1).2
    have HR1 : Hid (R = (F l1).bind fun x => (needF ⟨#[41]⟩ x.2).map fun l2 => (x.1, l2)) := by
      show _ = _
      rw [← HR.out]; unfold insideF; rw [hn1]; rfl
    clear hg1 hn1 hr1
    go_wp2_with fail
    refine (HO.out l1 w1 H1.out).mono ?_
    rintro _ w2 (⟨a, l2, hf2, rfl, hi2⟩ | ⟨hf2, ⟨n1, m1, rfl⟩, he2⟩)
    · have HR2 : Hid (R = (needF ⟨#[41]⟩ l2).map fun l3 => (a, l3)) := by show _ = _; rw [HR1.out, hf2]; rfl
      have H2 : Hid (Inv a l2 w2) := hi2
      clear hf2 hi2
      go_wp2_with fail
      refine (need_any A l2 ⟨#[41]⟩ w2 (HJ.out.1 _ _ _ H2.out)).mono ?_
      rintro _ w3 ⟨hg3, ⟨l3, hn3, rfl, hr3⟩ | ⟨hn3, n1, m1, rfl⟩⟩
      · have H3 : Hid (Inv a l3 w3 ∧ R = some (a, l3)) := ⟨HJ.out.2.1 a l2 l3 w2 w3 H2.out hr3 hg3 (need_reads (HJ.out.1 _ _ _ H2.out).ok hn3).2, by rw [HR2.out, hn3]; rfl⟩
        clear hg3 hn3 hr3
        go_wp2
        go_end0
        exact .inl ⟨a, l3, H3.out.2, rfl, H3.out.1⟩
      · have H3 : Hid (Err w3 ∧ R = none) := ⟨HJ.out.2.2.2 a l2 w2 w3 H2.out hg3, by rw [HR2.out, hn3]; rfl⟩
        clear hg3 hn3
        go_wp2
        exact ⟨by first | rfl | trivial, .inr ⟨H3.out.2, ⟨n1, m1, rfl⟩, H3.out.1⟩⟩
    · have H3 : Hid (Err w2 ∧ R = none) := ⟨he2, by rw [HR1.out, hf2]; rfl⟩
      clear he2 hf2
      go_wp2
      exact ⟨by first | rfl | trivial, .inr ⟨H3.out.2, ⟨n1, m1, rfl⟩, H3.out.1⟩⟩
  · have H3 : Hid (Err w1 ∧ R = none) := ⟨HJ.out.2.2.1 l w w1 H.out.1 hg1, by rw [← HR.out]; unfold insideF; rw [hn1]; rfl⟩
    clear hg1 hn1
    go_wp2
    exact ⟨by first | rfl | trivial, .inr ⟨H3.out.2, ⟨n1, m1, rfl⟩, H3.out.1⟩⟩
end Go.Proofs.YtmabfbffpedfnaaGreatDoor
namespace Go.Proofs.YtmabfbffpedfnaaGreatDoor
open Go.RowKit

set_option maxRecDepth 100000 in
set_option maxHeartbeats 8000000 in
theorem list_si {σ : Type} {one : σ → Rf σ} (hr1 : ∀ s, Reads (one s)) (A : Nat) (x0 x1 : Value) (Pre Inv : σ → List KT → World → Prop) (Err : World → Prop) (hJ : ∀ s l w, Inv s l w → RdIs A l w)
    (hK : ∀ s l w w1, Inv s l w → RdIs A l w1 → w.grownBy w1 (some A) → Inv s l w1) (hU : ∀ s l w w1, Inv s l w → RdIs A l.tail w1 → w.grownBy w1 (some A) → l.tail.length < l.length → Pre s l.tail w1)
    (hO : ∀ s l w, Pre s l w → Calls Tryz.prog 110 #[x0, x1] w fun e w' => (∃ s2 l2, one s l = some (s2, l2) ∧ e = .returned (.tuple #[]) ∧ Inv s2 l2 w') ∨ (one s l = none ∧ Thr e ∧ Err w')) (s : σ) (l : List KT) (w : World) (h : Pre s l w) (hl : OkT l) :
    Calls Tryz.prog 100 #[.pointer (some ⟨A, 0, none⟩), .func (.func 110) #[] #[x0, x1]] w fun e w' => (∃ s2 l2, listS one s l = some (s2, l2) ∧ e = .returned (.tuple #[]) ∧ Inv s2 l2 w') ∨ (listS one s l = none ∧ Thr e ∧ Err w') := by
  have HO : Hid (∀ s l w, Pre s l w → Calls Tryz.prog 110 #[x0, x1] w fun e w' => (∃ s2 l2, one s l = some (s2, l2) ∧ e = .returned (.tuple #[]) ∧ Inv s2 l2 w') ∨ (one s l = none ∧ Thr e ∧ Err w')) := hO
  have HJ : Hid ((∀ s l w, Inv s l w → RdIs A l w) ∧ (∀ s l w w1, Inv s l w → RdIs A l w1 → w.grownBy w1 (some A) → Inv s l w1) ∧ (∀ s l w w1, Inv s l w → RdIs A l.tail w1 → w.grownBy w1 (some A) → l.tail.length < l.length → Pre s l.tail w1) ∧ ∀ s, Reads (one s)) := ⟨hJ, hK, hU, hr1⟩
  have H : Hid (Pre s l w ∧ OkT l) := ⟨h, hl⟩
  obtain ⟨R, hRe⟩ : ∃ R, listS one s l = R := ⟨_, rfl⟩
  have HR : Hid ((one s l).bind (fun x => eachL one x.2.length x.1 x.2) = R) := hRe
  rw [hRe]
  clear hO hJ hK hU hr1 h hRe hl
  go_enter Tryz.func100, Tryz.ntmps100
  go_wp2_with fail
  refine (HO.out s l w H.out.1).mono ?_
  rintro _ w1 (⟨s1, l1, hf1, rfl, hi1⟩ | ⟨hf1, ⟨n1, m1, rfl⟩, he1⟩)
  · have HS : Hid (eachL one l1.length s1 l1 = R ∧ Inv s1 l1 w1) := ⟨by have := HR.out; rw [hf1] at this; exact this, hi1⟩
    clear hf1 hi1 HR
    go_wp2
    go_loopw [6] (fun _ wr => ∃ (s' : σ) (l' : List KT), Hid (eachL one l'.length s' l' = R ∧ Inv s' l' wr)) (fun _ wr => lenCell (wr.cell? ⟨A, 0, none⟩))
    case atStart => exact ⟨_, _, HS⟩
    case round =>
      clear HS
      obtain ⟨s', l', HS⟩ := hrel
      obtain ⟨wo, rfl⟩ : ∃ wo, wo = wr := ⟨_, rfl⟩
      have hrd := HJ.out.1 _ _ _ HS.out.2
      have HRd : Hid (RdIs A l' wo) := hrd
      have HLen : Hid (lenCell (wo.cell? ⟨A, 0, none⟩) = l'.length) := hrd.len
      have HTl : Hid (l'.length = l'.tail.length + 1) := by show _ = _; rw [hrd.ok.cons]; rfl
      obtain ⟨b, hb⟩ : ∃ b, isT ⟨#[44]⟩ l' = b := ⟨_, rfl⟩
      have HSee : Hid (isT ⟨#[44]⟩ l' = b) := hb
      clear hb hrd
      cases b
      · have HE : Hid (R = some (s', l')) := by
          show _ = _
          rw [← HS.out.1]
          exact each_stop HSee.out _ _
        go_wp2_with fail
        refine (has_any A l' ⟨#[44]⟩ false HSee.out wo HRd.out).mono ?_
        rintro _ w2 ⟨rfl, hr2, hg2⟩
        have HI : Hid (Inv s' l' w2) := HJ.out.2.1 s' l' wo w2 HS.out.2 hr2 hg2
        clear hr2 hg2
        go_wp2
        go_end0
        exact .inl ⟨s', l', HE.out, rfl, HI.out⟩
      · have HE : Hid ((one s' l'.tail).bind (fun x => eachL one x.2.length x.1 x.2) = R) := by
          show _ = _
          rw [← HS.out.1]
          exact (each_step HJ.out.2.2.2 HRd.out.ok HSee.out s').symm
        go_wp2_with fail
        refine (has_any A l' ⟨#[44]⟩ true HSee.out wo HRd.out).mono ?_
        rintro _ w2 ⟨rfl, hr2, hg2⟩
        have HI : Hid (Pre s' l'.tail w2) := HJ.out.2.2.1 s' l' wo w2 HS.out.2 hr2 hg2 (by have := HTl.out; omega)
        have HOk : Hid (OkT l'.tail) := hr2.ok
        clear hr2 hg2
        go_wp2_with fail
        refine (HO.out s' l'.tail w2 HI.out).mono ?_
        rintro _ w3 (⟨s3, l3, hf3, rfl, hi3⟩ | ⟨hf3, ⟨n1, m1, rfl⟩, he3⟩)
        · have HN : Hid (eachL one l3.length s3 l3 = R ∧ Inv s3 l3 w3) := ⟨by have := HE.out; rw [hf3] at this; exact this, hi3⟩
          have HM : Hid (lenCell (w3.cell? ⟨A, 0, none⟩) < lenCell (wo.cell? ⟨A, 0, none⟩)) := by
            show _ < _
            rw [(HJ.out.1 _ _ _ hi3).len, HLen.out, HTl.out]
            have := (HJ.out.2.2.2 s' _ HOk.out _ hf3).2
            simp only at this
            omega
          clear hi3 hf3
          go_wp2
          go_roundw
          case rel => exact ⟨_, _, HN⟩
          case measure => exact HM.out
        · have H3 : Hid (Err w3 ∧ R = none) := ⟨he3, by rw [← HE.out, hf3]; rfl⟩
          clear he3 hf3
          go_wp2
          exact ⟨by first | rfl | trivial, .inr ⟨H3.out.2, ⟨n1, m1, rfl⟩, H3.out.1⟩⟩
  · have H3 : Hid (Err w1 ∧ R = none) := ⟨he1, by rw [← HR.out, hf1]; rfl⟩
    clear he1 hf1
    go_wp2
    exact ⟨by first | rfl | trivial, .inr ⟨H3.out.2, ⟨n1, m1, rfl⟩, H3.out.1⟩⟩
set_option maxRecDepth 100000 in
set_option maxHeartbeats 8000000 in
theorem list_so {σ : Type} {one : σ → Rf σ} (hr1 : ∀ s, Reads (one s)) (A : Nat) (x0 x1 : Value) (Pre Inv : σ → List KT → World → Prop) (Err : World → Prop) (hJ : ∀ s l w, Inv s l w → RdIs A l w)
    (hK : ∀ s l w w1, Inv s l w → RdIs A l w1 → w.grownBy w1 (some A) → Inv s l w1) (hU : ∀ s l w w1, Inv s l w → RdIs A l.tail w1 → w.grownBy w1 (some A) → l.tail.length < l.length → Pre s l.tail w1)
    (hO : ∀ s l w, Pre s l w → Calls Tryz.prog 112 #[x0, x1] w fun e w' => (∃ s2 l2, one s l = some (s2, l2) ∧ e = .returned (.tuple #[]) ∧ Inv s2 l2 w') ∨ (one s l = none ∧ Thr e ∧ Err w')) (s : σ) (l : List KT) (w : World) (h : Pre s l w) (hl : OkT l) :
    Calls Tryz.prog 100 #[.pointer (some ⟨A, 0, none⟩), .func (.func 112) #[] #[x0, x1]] w fun e w' => (∃ s2 l2, listS one s l = some (s2, l2) ∧ e = .returned (.tuple #[]) ∧ Inv s2 l2 w') ∨ (listS one s l = none ∧ Thr e ∧ Err w') := by
  have HO : Hid (∀ s l w, Pre s l w → Calls Tryz.prog 112 #[x0, x1] w fun e w' => (∃ s2 l2, one s l = some (s2, l2) ∧ e = .returned (.tuple #[]) ∧ Inv s2 l2 w') ∨ (one s l = none ∧ Thr e ∧ Err w')) := hO
  have HJ : Hid ((∀ s l w, Inv s l w → RdIs A l w) ∧ (∀ s l w w1, Inv s l w → RdIs A l w1 → w.grownBy w1 (some A) → Inv s l w1) ∧ (∀ s l w w1, Inv s l w → RdIs A l.tail w1 → w.grownBy w1 (some A) → l.tail.length < l.length → Pre s l.tail w1) ∧ ∀ s, Reads (one s)) := ⟨hJ, hK, hU, hr1⟩
  have H : Hid (Pre s l w ∧ OkT l) := ⟨h, hl⟩
  obtain ⟨R, hRe⟩ : ∃ R, listS one s l = R := ⟨_, rfl⟩
  have HR : Hid ((one s l).bind (fun x => eachL one x.2.length x.1 x.2) = R) := hRe
  rw [hRe]
  clear hO hJ hK hU hr1 h hRe hl
  go_enter Tryz.func100, Tryz.ntmps100
  go_wp2_with fail
  refine (HO.out s l w H.out.1).mono ?_
  rintro _ w1 (⟨s1, l1, hf1, rfl, hi1⟩ | ⟨hf1, ⟨n1, m1, rfl⟩, he1⟩)
  · have HS : Hid (eachL one l1.length s1 l1 = R ∧ Inv s1 l1 w1) := ⟨by have := HR.out; rw [hf1] at this; exact this, hi1⟩
    clear hf1 hi1 HR
    go_wp2
    go_loopw [6] (fun _ wr => ∃ (s' : σ) (l' : List KT), Hid (eachL one l'.length s' l' = R ∧ Inv s' l' wr)) (fun _ wr => lenCell (wr.cell? ⟨A, 0, none⟩))
    case atStart => exact ⟨_, _, HS⟩
    case round =>
      clear HS
      obtain ⟨s', l', HS⟩ := hrel
      obtain ⟨wo, rfl⟩ : ∃ wo, wo = wr := ⟨_, rfl⟩
      have hrd := HJ.out.1 _ _ _ HS.out.2
      have HRd : Hid (RdIs A l' wo) := hrd
      have HLen : Hid (lenCell (wo.cell? ⟨A, 0, none⟩) = l'.length) := hrd.len
      have HTl : Hid (l'.length = l'.tail.length + 1) := by show _ = _; rw [hrd.ok.cons]; rfl
      obtain ⟨b, hb⟩ : ∃ b, isT ⟨#[44]⟩ l' = b := ⟨_, rfl⟩
      have HSee : Hid (isT ⟨#[44]⟩ l' = b) := hb
      clear hb hrd
      cases b
      · have HE : Hid (R = some (s', l')) := by
          show _ = _
          rw [← HS.out.1]
          exact each_stop HSee.out _ _
        go_wp2_with fail
        refine (has_any A l' ⟨#[44]⟩ false HSee.out wo HRd.out).mono ?_
        rintro _ w2 ⟨rfl, hr2, hg2⟩
        have HI : Hid (Inv s' l' w2) := HJ.out.2.1 s' l' wo w2 HS.out.2 hr2 hg2
        clear hr2 hg2
        go_wp2
        go_end0
        exact .inl ⟨s', l', HE.out, rfl, HI.out⟩
      · have HE : Hid ((one s' l'.tail).bind (fun x => eachL one x.2.length x.1 x.2) = R) := by
          show _ = _
          rw [← HS.out.1]
          exact (each_step HJ.out.2.2.2 HRd.out.ok HSee.out s').symm
        go_wp2_with fail
        refine (has_any A l' ⟨#[44]⟩ true HSee.out wo HRd.out).mono ?_
        rintro _ w2 ⟨rfl, hr2, hg2⟩
        have HI : Hid (Pre s' l'.tail w2) := HJ.out.2.2.1 s' l' wo w2 HS.out.2 hr2 hg2 (by have := HTl.out; omega)
        have HOk : Hid (OkT l'.tail) := hr2.ok
        clear hr2 hg2
        go_wp2_with fail
        refine (HO.out s' l'.tail w2 HI.out).mono ?_
        rintro _ w3 (⟨s3, l3, hf3, rfl, hi3⟩ | ⟨hf3, ⟨n1, m1, rfl⟩, he3⟩)
        · have HN : Hid (eachL one l3.length s3 l3 = R ∧ Inv s3 l3 w3) := ⟨by have := HE.out; rw [hf3] at this; exact this, hi3⟩
          have HM : Hid (lenCell (w3.cell? ⟨A, 0, none⟩) < lenCell (wo.cell? ⟨A, 0, none⟩)) := by
            show _ < _
            rw [(HJ.out.1 _ _ _ hi3).len, HLen.out, HTl.out]
            have := (HJ.out.2.2.2 s' _ HOk.out _ hf3).2
            simp only at this
            omega
          clear hi3 hf3
          go_wp2
          go_roundw
          case rel => exact ⟨_, _, HN⟩
          case measure => exact HM.out
        · have H3 : Hid (Err w3 ∧ R = none) := ⟨he3, by rw [← HE.out, hf3]; rfl⟩
          clear he3 hf3
          go_wp2
          exact ⟨by first | rfl | trivial, .inr ⟨H3.out.2, ⟨n1, m1, rfl⟩, H3.out.1⟩⟩
  · have H3 : Hid (Err w1 ∧ R = none) := ⟨he1, by rw [← HR.out, hf1]; rfl⟩
    clear he1 hf1
    go_wp2
    exact ⟨by first | rfl | trivial, .inr ⟨H3.out.2, ⟨n1, m1, rfl⟩, H3.out.1⟩⟩
set_option maxRecDepth 100000 in
set_option maxHeartbeats 8000000 in
theorem list_r {σ : Type} {one : σ → Rf σ} (hr1 : ∀ s, Reads (one s)) (A : Nat) (x0 x1 : Value) (Pre Inv : σ → List KT → World → Prop) (Err : World → Prop) (hJ : ∀ s l w, Inv s l w → RdIs A l w)
    (hK : ∀ s l w w1, Inv s l w → RdIs A l w1 → w.grownBy w1 (some A) → Inv s l w1) (hU : ∀ s l w w1, Inv s l w → RdIs A l.tail w1 → w.grownBy w1 (some A) → l.tail.length < l.length → Pre s l.tail w1)
    (hO : ∀ s l w, Pre s l w → Calls Tryz.prog 123 #[x0, x1] w fun e w' => (∃ s2 l2, one s l = some (s2, l2) ∧ e = .returned (.tuple #[]) ∧ Inv s2 l2 w') ∨ (one s l = none ∧ Thr e ∧ Err w')) (s : σ) (l : List KT) (w : World) (h : Pre s l w) (hl : OkT l) :
    Calls Tryz.prog 100 #[.pointer (some ⟨A, 0, none⟩), .func (.func 123) #[] #[x0, x1]] w fun e w' => (∃ s2 l2, listS one s l = some (s2, l2) ∧ e = .returned (.tuple #[]) ∧ Inv s2 l2 w') ∨ (listS one s l = none ∧ Thr e ∧ Err w') := by
  have HO : Hid (∀ s l w, Pre s l w → Calls Tryz.prog 123 #[x0, x1] w fun e w' => (∃ s2 l2, one s l = some (s2, l2) ∧ e = .returned (.tuple #[]) ∧ Inv s2 l2 w') ∨ (one s l = none ∧ Thr e ∧ Err w')) := hO
  have HJ : Hid ((∀ s l w, Inv s l w → RdIs A l w) ∧ (∀ s l w w1, Inv s l w → RdIs A l w1 → w.grownBy w1 (some A) → Inv s l w1) ∧ (∀ s l w w1, Inv s l w → RdIs A l.tail w1 → w.grownBy w1 (some A) → l.tail.length < l.length → Pre s l.tail w1) ∧ ∀ s, Reads (one s)) := ⟨hJ, hK, hU, hr1⟩
  have H : Hid (Pre s l w ∧ OkT l) := ⟨h, hl⟩
  obtain ⟨R, hRe⟩ : ∃ R, listS one s l = R := ⟨_, rfl⟩
  have HR : Hid ((one s l).bind (fun x => eachL one x.2.length x.1 x.2) = R) := hRe
  rw [hRe]
  clear hO hJ hK hU hr1 h hRe hl
  go_enter Tryz.func100, Tryz.ntmps100
  go_wp2_with fail
  refine (HO.out s l w H.out.1).mono ?_
  rintro _ w1 (⟨s1, l1, hf1, rfl, hi1⟩ | ⟨hf1, ⟨n1, m1, rfl⟩, he1⟩)
  · have HS : Hid (eachL one l1.length s1 l1 = R ∧ Inv s1 l1 w1) := ⟨by have := HR.out; rw [hf1] at this; exact this, hi1⟩
    clear hf1 hi1 HR
    go_wp2
    go_loopw [6] (fun _ wr => ∃ (s' : σ) (l' : List KT), Hid (eachL one l'.length s' l' = R ∧ Inv s' l' wr)) (fun _ wr => lenCell (wr.cell? ⟨A, 0, none⟩))
    case atStart => exact ⟨_, _, HS⟩
    case round =>
      clear HS
      obtain ⟨s', l', HS⟩ := hrel
      obtain ⟨wo, rfl⟩ : ∃ wo, wo = wr := ⟨_, rfl⟩
      have hrd := HJ.out.1 _ _ _ HS.out.2
      have HRd : Hid (RdIs A l' wo) := hrd
      have HLen : Hid (lenCell (wo.cell? ⟨A, 0, none⟩) = l'.length) := hrd.len
      have HTl : Hid (l'.length = l'.tail.length + 1) := by show _ = _; rw [hrd.ok.cons]; rfl
      obtain ⟨b, hb⟩ : ∃ b, isT ⟨#[44]⟩ l' = b := ⟨_, rfl⟩
      have HSee : Hid (isT ⟨#[44]⟩ l' = b) := hb
      clear hb hrd
      cases b
      · have HE : Hid (R = some (s', l')) := by
          show _ = _
          rw [← HS.out.1]
          exact each_stop HSee.out _ _
        go_wp2_with fail
        refine (has_any A l' ⟨#[44]⟩ false HSee.out wo HRd.out).mono ?_
        rintro _ w2 ⟨rfl, hr2, hg2⟩
        have HI : Hid (Inv s' l' w2) := HJ.out.2.1 s' l' wo w2 HS.out.2 hr2 hg2
        clear hr2 hg2
        go_wp2
        go_end0
        exact .inl ⟨s', l', HE.out, rfl, HI.out⟩
      · have HE : Hid ((one s' l'.tail).bind (fun x => eachL one x.2.length x.1 x.2) = R) := by
          show _ = _
          rw [← HS.out.1]
          exact (each_step HJ.out.2.2.2 HRd.out.ok HSee.out s').symm
        go_wp2_with fail
        refine (has_any A l' ⟨#[44]⟩ true HSee.out wo HRd.out).mono ?_
        rintro _ w2 ⟨rfl, hr2, hg2⟩
        have HI : Hid (Pre s' l'.tail w2) := HJ.out.2.2.1 s' l' wo w2 HS.out.2 hr2 hg2 (by have := HTl.out; omega)
        have HOk : Hid (OkT l'.tail) := hr2.ok
        clear hr2 hg2
        go_wp2_with fail
        refine (HO.out s' l'.tail w2 HI.out).mono ?_
        rintro _ w3 (⟨s3, l3, hf3, rfl, hi3⟩ | ⟨hf3, ⟨n1, m1, rfl⟩, he3⟩)
        · have HN : Hid (eachL one l3.length s3 l3 = R ∧ Inv s3 l3 w3) := ⟨by have := HE.out; rw [hf3] at this; exact this, hi3⟩
          have HM : Hid (lenCell (w3.cell? ⟨A, 0, none⟩) < lenCell (wo.cell? ⟨A, 0, none⟩)) := by
            show _ < _
            rw [(HJ.out.1 _ _ _ hi3).len, HLen.out, HTl.out]
            have := (HJ.out.2.2.2 s' _ HOk.out _ hf3).2
            simp only at this
            omega
          clear hi3 hf3
          go_wp2
          go_roundw
          case rel => exact ⟨_, _, HN⟩
          case measure => exact HM.out
        · have H3 : Hid (Err w3 ∧ R = none) := ⟨he3, by rw [← HE.out, hf3]; rfl⟩
          clear he3 hf3
          go_wp2
          exact ⟨by first | rfl | trivial, .inr ⟨H3.out.2, ⟨n1, m1, rfl⟩, H3.out.1⟩⟩
  · have H3 : Hid (Err w1 ∧ R = none) := ⟨he1, by rw [← HR.out, hf1]; rfl⟩
    clear he1 hf1
    go_wp2
    exact ⟨by first | rfl | trivial, .inr ⟨H3.out.2, ⟨n1, m1, rfl⟩, H3.out.1⟩⟩
end Go.Proofs.YtmabfbffpedfnaaGreatDoor
namespace Go.Proofs.YtmabfbffpedfnaaGreatDoor
open Go.RowKit

theorem RowOf.low {N n : Nat} {u : World} {v : Value} {L : List Ex} (h : RowOf N 26 1 (EP (N - 1) u) u v L) (hn : n ≤ N) : RowOf n 26 1 (EP (n - 1) u) u v L := by
  obtain ⟨cs, h1, h2⟩ := h
  refine ⟨cs, h1.mono (fun a c ⟨p, e, hx⟩ => ⟨p, e, hx.mono (by omega)⟩), h2.1, ?_⟩
  rcases h2.2 with h3 | ⟨g, cap, cur, e1, e2, e3, e4⟩
  · exact .inl h3
  · exact .inr ⟨g, cap, cur, e1, by omega, e3, e4⟩
/-- what row tells -/
def ToldW (A : Nat) (R : Option (List Ex × List KT)) (w : World) (e : Ending) (w' : World) : Prop :=
  w.grownBy w' (some A) ∧ ((∃ x l v, R = some (x, l) ∧ e = .returned v ∧ RowOf w.heap.size 26 1 (EP (w.heap.size - 1) w') w' v x ∧ RdIs A l w') ∨ (R = none ∧ Thr e))
abbrev AccR (c A z x : Nat) (w0 : World) (L : List Ex) (l : List KT) (w : World) : Prop := Acc c A z x w0 (fun v => #[v]) 58 26 1 (EP (w0.heap.size - 1)) (fun _ => True) L l w
theorem listR_any (hE : ESpec Ef 0) {A z x : Nat} {w0 : World} {L : List Ex} {l : List KT} {w : World} (h : AccR 300 A z x w0 L l w) :
    Calls Tryz.prog 100 #[.pointer (some ⟨A, 0, none⟩), .func (.func 123) #[] #[.pointer (some ⟨z, 0, none⟩), .pointer (some ⟨x, 0, none⟩)]] w fun e w' =>
      (∃ L2 l2, listS (oneOf Ef) L l = some (L2, l2) ∧ e = .returned (.tuple #[]) ∧ AccR 301 A z x w0 L2 l2 w') ∨ (listS (oneOf Ef) L l = none ∧ Thr e ∧ w0.grownBy w' (some A)) := by
  have hs : Stays A 26 58 (EP (w0.heap.size - 1)) := EP_stays (by have := h.lo; omega) (by decide)
  refine list_r (fun s => oneOf_reads Ef_reads s) A _ _ (fun L l w => AccR 300 A z x w0 L l w) (fun L l w => AccR 301 A z x w0 L l w) (fun w' => w0.grownBy w' (some A)) (fun _ _ _ h => h.rd) ?_ ?_ (fun s l w h => cl_r hE (staysT _ _ _) h) L l w h h.rd.ok
  · intro L l w w1 h hr hg
    exact h.grown hs (staysT _ _ _) hr hg h.cnt
  · intro L l w w1 h hr hg hl
    exact h.grown hs (staysT _ _ _) hr hg (by have := h.cnt; omega)
set_option maxHeartbeats 2000000 in
theorem row1_any (hE : ESpec Ef 0) {A z x : Nat} {w0 : World} {l : List KT} {w : World} (h : AccR 300 A z x w0 [] l w) :
    Calls Tryz.prog 122 #[.pointer (some ⟨x, 0, none⟩), .pointer (some ⟨z, 0, none⟩)] w fun e w' =>
      (∃ L2 l2, listF Ef l = some (L2, l2) ∧ e = .returned (.tuple #[]) ∧ AccR 301 A z x w0 L2 l2 w') ∨ (listF Ef l = none ∧ Thr e ∧ w0.grownBy w' (some A)) := by
  have HE : Hid (ESpec Ef 0) := hE
  have H : Hid (AccR 300 A z x w0 [] l w) := h
  have cx : w.cell? ⟨x, 0, none⟩ = some (.pointer (some ⟨A, 0, none⟩)) := by rw [h.hx.cell 0]; rfl
  clear h hE
  go_enter Tryz.func122, Tryz.ntmps122
  go_wp2_with fail
  refine (listR_any HE.out H.out).mono ?_
  rintro _ w1 (⟨L2, l2, h1, rfl, h2⟩ | ⟨h1, ⟨n1, m1, rfl⟩, h2⟩)
  · go_wp2
    go_end0
    exact .inl ⟨_, _, h1, rfl, h2⟩
  · go_wp2
    exact ⟨by first | rfl | trivial, .inr ⟨h1, ⟨n1, m1, rfl⟩, h2⟩⟩
theorem inR_any (hE : ESpec Ef 0) {A z x : Nat} {w0 : World} {l : List KT} {w : World} (h : AccR 300 A z x w0 [] l w) :
    Calls Tryz.prog 97 #[.pointer (some ⟨A, 0, none⟩), .func (.func 122) #[] #[.pointer (some ⟨x, 0, none⟩), .pointer (some ⟨z, 0, none⟩)]] w fun e w' =>
      (∃ L2 l2, rowF l = some (L2, l2) ∧ e = .returned (.tuple #[]) ∧ AccR 301 A z x w0 L2 l2 w') ∨ (rowF l = none ∧ Thr e ∧ w0.grownBy w' (some A)) := by
  have hs : Stays A 26 58 (EP (w0.heap.size - 1)) := EP_stays (by have := h.lo; omega) (by decide)
  refine inside_r A _ _ (fun l w => AccR 300 A z x w0 [] l w) (fun L l w => AccR 301 A z x w0 L l w) (fun w' => w0.grownBy w' (some A)) (fun _ _ h => h.rd) ?_ (fun _ _ _ h => h.rd) ?_ (fun l w w1 h hg => h.gr.trans hg) (fun a l w w1 h hg => h.gr.trans hg) (fun l w h => row1_any hE h) l w h
  · intro l l1 w w1 h hr hg hl
    exact h.grown hs (staysT _ _ _) hr hg (by have := h.cnt; omega)
  · intro a l l1 w w1 h hr hg hl
    exact h.grown hs (staysT _ _ _) hr hg (by have := h.cnt; omega)
set_option maxRecDepth 100000 in
set_option maxHeartbeats 4000000 in
theorem row_any (hE : ESpec Ef 0) (A : Nat) (l : List KT) (w : World) (h : RdIs A l w) : Calls Tryz.prog 106 #[.pointer (some ⟨A, 0, none⟩)] w fun e w' => ToldW A (rowF l) w e w' := by
  have HE : Hid (ESpec Ef 0) := hE
  obtain ⟨W1, hW1⟩ : ∃ W, w.alloc (.cells #[.pointer (some ⟨A, 0, none⟩)] 117) = W := ⟨_, rfl⟩
  obtain ⟨W, hW⟩ : ∃ W, W1.alloc (.cells #[.slice none 0 0] 58) = W := ⟨_, rfl⟩
  have hb1 : Below w.heap.size w W1 := by rw [← hW1]; exact (Below.refl _ _).alloc (Nat.le_refl _) _
  have hb : Below W1.heap.size W1 W := by rw [← hW]; exact (Below.refl _ _).alloc (Nat.le_refl _) _
  have hs1 : W1.heap.size = w.heap.size + 1 := by rw [← hW1]; simp
  have hkx : Blk w.heap.size #[.pointer (some ⟨A, 0, none⟩)] 117 W := by
    have : Blk w.heap.size #[.pointer (some ⟨A, 0, none⟩)] 117 W1 := by rw [← hW1]; exact Blk.new _ _ _
    exact this.below hb
  have hkz : Blk (w.heap.size + 1) #[.slice none 0 0] 58 W := by rw [← hW, ← hs1]; exact Blk.new _ _ _
  have hA := h.lt
  have HW : Hid (AccR 300 A (w.heap.size + 1) w.heap.size w [] l W) := ⟨(h.below hb1).below hb, hkx, by omega, by omega, ⟨_, hkz, RowOf.nil _ _ _ _ _⟩, (grown_of_belowA hb1 _).trans (grown_of_belowA hb _), hA, by omega, by simpa using h.ok.2, trivial⟩
  have cx : W.cell? ⟨w.heap.size, 0, none⟩ = some (.pointer (some ⟨A, 0, none⟩)) := by rw [hkx.cell 0]; rfl
  clear h hE hb1 hb hkx hkz
  go_enter Tryz.func106, Tryz.ntmps106
  go_wp2_with fail
  refine (inR_any HE.out HW.out).mono ?_
  rintro _ w1 (⟨L2, l2, h1, rfl, h2⟩ | ⟨h1, ⟨n1, m1, rfl⟩, h2⟩)
  · obtain ⟨v, hk, hrow⟩ := h2.st
    have c1 : w1.cell? ⟨w.heap.size + 1, 0, none⟩ = some v := by rw [hk.cell 0]; rfl
    obtain ⟨cs, hcs, hown⟩ := hrow
    obtain ⟨a0, c0, rfl⟩ := own_slice hown
    have HF : Hid (rowF l = some (L2, l2) ∧ w.grownBy w1 (some A) ∧ RdIs A l2 w1 ∧ RowOf w.heap.size 26 1 (EP (w.heap.size - 1) w1) w1 (.slice a0 L2.length c0) L2) := ⟨h1, h2.gr, h2.rd, cs, hcs, hown⟩
    clear h1 h2 hk hcs hown
    go_wp2
    go_ret
    exact ⟨HF.out.2.1, .inl ⟨_, _, _, HF.out.1, rfl, HF.out.2.2.2, HF.out.2.2.1⟩⟩
  · go_wp2
    exact ⟨by first | rfl | trivial, h2, .inr ⟨h1, n1, m1, rfl⟩⟩
end Go.Proofs.YtmabfbffpedfnaaGreatDoor
