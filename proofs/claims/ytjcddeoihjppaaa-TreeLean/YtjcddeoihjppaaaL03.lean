/- Texts of the proof of TreeLean: Whw, Cmt0, Pge, Cal0, Ttw, Trp, Teh. -/
import Derived.Test.YtjcddeoihjppaaaL02
import Derived.Laws.IdiomStrings
import Derived.Handy
namespace Go.Proofs.Ytjcddeoihjppaaa
open Go.RowKit Go.Maps Go.Shelf

/-- what the bytes of a head say -/
structure IsHead (used upper : Nat → Bool) (rp rn : Nat → Int) (g : Nat → Nat) : Prop where
  used : ∀ k, k < 2000 → (g (k / 8)).testBit (k % 8) = used k
  upper : ∀ k, k < 2000 → (g (250 + k / 8)).testBit (k % 8) = upper k
  page : ∀ i, i < 8 → ((g (500 + 4 * i) * 256 + g (501 + 4 * i) : Nat) : Int) = rp i
  note : ∀ i, i < 8 → ((g (502 + 4 * i) * 256 + g (503 + 4 * i) : Nat) : Int) = rn i

set_option maxRecDepth 100000 in
set_option maxHeartbeats 3200000 in
theorem writeHead_any (used upper : Nat → Bool) (rp rn : Nat → Int) (hp : ∀ i, i < 8 → 0 ≤ rp i ∧ rp i < 65536) (hn : ∀ i, i < 8 → 0 ≤ rn i ∧ rn i < 65536) (w : World) :
    Calls Try.prog 63 #[.agg (flags used).toArray, .agg (flags upper).toArray, .agg (rootsL rp rn).toArray] w fun e w' => ∃ g : Nat → Nat, e = .returned (.string ⟨(bytesOf g).toArray⟩) ∧ IsHead used upper rp rn g ∧ (∀ j, g j < 256) ∧ Below w.heap.size w w' := by
  obtain ⟨F, hF⟩ : ∃ F, flags used = F := ⟨_, rfl⟩
  obtain ⟨G, hG⟩ : ∃ G, flags upper = G := ⟨_, rfl⟩
  obtain ⟨R, hR⟩ : ∃ R, rootsL rp rn = R := ⟨_, rfl⟩
  obtain ⟨w1, hmk, hw1⟩ := W4.start w F G R
  have sF : (Try.prog.info? 36).map (·.size) = some F.length := by rw [← hF]; exact size_flags _
  have sG : (Try.prog.info? 36).map (·.size) = some G.length := by rw [← hG]; exact size_flags _
  have sR : (Try.prog.info? 39).map (·.size) = some R.length := by rw [← hR]; exact size_roots _ _
  have HI : Hid (∀ k, k < 8 → R.toArray.extract (k * 2) (k * 2 + 2) = #[.int .i64 (rp k), .int .i64 (rn k)]) := by rw [← hR]; exact root_part rp rn
  have H1 : Hid (W4 w w1 F G R (fun _ => 0)) := hw1
  rw [hF, hG, hR]
  have HF : Hid (flags used = F ∧ flags upper = G) := ⟨hF, hG⟩
  clear hF hG hR hw1
  go_enter Try.func63, Try.ntmps63
  go_wp2_with fail
  refine wp_region_held_drew (S := fun wx => ∃ g, W4 w wx F G R g) (by kernel_rfl) ⟨_, H1.out.drew⟩ ?_
  intro g0
  refine wpAnyH_take (i := 0) (v := .slice (some ⟨w.heap.size + 1 + 1 + 1, 0, none⟩) 1024 1024) rfl (by kernel_rfl) (by kernel_rfl) (by kernel_rfl) (fun _ _ _ h => h) (.inl ⟨by rfl, fun wx _ => by go_simp⟩) g0 ?_
  simp only [Act.put, List.setIfInBounds_toArray]
  refine wpAnyH_take (i := 1) (v := .slice (some ⟨w.heap.size + 1 + 1 + 1, 0, none⟩) 250 1024) rfl (by kernel_rfl) (by kernel_rfl) (by kernel_rfl) (fun _ _ _ h => h) (.inl ⟨by rfl, fun wx _ => by go_simp⟩) g0 ?_
  simp only [Act.put]
  refine wpAnyH_take (i := 2) (v := .agg F.toArray) rfl (by kernel_rfl) (by kernel_rfl) (by kernel_rfl) (fun _ _ _ h => h) (yieldsIf_load_mid (by rfl) 36 _ rfl _ 0 rfl F _ (fun wx h => h.elim (fun _ h => h.used)) Try.underlying36 rfl sF) g0 ?_
  simp only [Act.put]
  refine wpAnyH_ready (rs := [3]) (by kernel_rfl) (by decide) (AllReadyH.cons rfl (fun K hK => ?_) AllReadyH.nil)
  rw [if_pos (by rfl)]
  go_simp
  have hc := writeFlags_any (w.heap.size + 1 + 1 + 1) 0 250 1024 (fun _ => 0) used w1.drew H1.out.drew.page (by omega) (by omega) (by omega) (fun _ _ => rfl)
  rw [HF.out.1] at hc
  refine hc.mono ?_
  rintro _ w2 ⟨rfl, ⟨g1, hg1, ho1, hb1⟩, hO1⟩
  have H2 : Hid (W4 w w2 F G R g1) := H1.out.drew.turn hO1 hg1
  clear hc hg1 hO1
  refine hK.out _ _ ⟨_, H2.out⟩ (fun _ => ?_)
  clear hK K
  refine wpAnyH_done (by kernel_rfl) ?_ _
  clear H1 hmk g0
  go_wp2_with fail
  refine wp_region_held_drew (S := fun wx => ∃ g, W4 w wx F G R g) (by kernel_rfl) ⟨_, H2.out.drew⟩ ?_
  intro g0
  refine wpAnyH_take (i := 0) (v := .slice (some ⟨w.heap.size + 1 + 1 + 1, 0, none⟩) 1024 1024) rfl (by kernel_rfl) (by kernel_rfl) (by kernel_rfl) (fun _ _ _ h => h) (.inl ⟨by rfl, fun wx _ => by go_simp⟩) g0 ?_
  simp only [Act.put, List.setIfInBounds_toArray]
  refine wpAnyH_take (i := 1) (v := .slice (some ⟨w.heap.size + 1 + 1 + 1, 250, none⟩) 774 774) rfl (by kernel_rfl) (by kernel_rfl) (by kernel_rfl) (fun _ _ _ h => h) (.inl ⟨by rfl, fun wx _ => by go_simp⟩) g0 ?_
  simp only [Act.put]
  refine wpAnyH_take (i := 2) (v := .agg G.toArray) rfl (by kernel_rfl) (by kernel_rfl) (by kernel_rfl) (fun _ _ _ h => h) (yieldsIf_load_mid (by rfl) 36 _ rfl _ 0 rfl G _ (fun wx h => h.elim (fun _ h => h.upper)) Try.underlying36 rfl sG) g0 ?_
  simp only [Act.put]
  refine wpAnyH_ready (rs := [3]) (by kernel_rfl) (by decide) (AllReadyH.cons rfl (fun K hK => ?_) AllReadyH.nil)
  rw [if_pos (by rfl)]
  go_simp
  have hc := writeFlags_any (w.heap.size + 1 + 1 + 1) 250 774 774 g1 upper w2.drew H2.out.drew.page (by omega) (by omega) (by omega) (fun i _ => ho1 (250 + i) (by omega))
  rw [HF.out.2] at hc
  refine hc.mono ?_
  rintro _ w3 ⟨rfl, ⟨g2, hg2, ho2, hb2⟩, hO2⟩
  have H3 : Hid (W4 w w3 F G R g2) := H2.out.drew.turn hO2 hg2
  clear hc hg2 hO2
  refine hK.out _ _ ⟨_, H3.out⟩ (fun _ => ?_)
  clear hK K
  refine wpAnyH_done (by kernel_rfl) ?_ _
  clear H2 g0
  go_wp2_with (refine wpList_load_mid rfl 39 _ rfl (w.heap.size + 1 + 1) 0 rfl R _ H3.out.roots Try.underlying39 rfl sR ?_)
  go_loopw [20] (fun i wr => ∃ k : Nat, k ≤ 8 ∧ i = .int .i64 k ∧ Hid (∃ g, W4 w wr F G R g ∧ (∀ j, j < 500 → g j = g2 j) ∧ ∀ i, i < k → ((g (500 + 4 * i) * 256 + g (501 + 4 * i) : Nat) : Int) = rp i ∧ ((g (502 + 4 * i) * 256 + g (503 + 4 * i) : Nat) : Int) = rn i)) (fun i _ => 8 - (intOf i).toNat)
  case atStart => exact ⟨0, by omega, rfl, g2, H3.out, fun _ _ => rfl, fun i hi => by omega⟩
  case round =>
    obtain ⟨k, hk, rfl, g, HW, hlow, hnum⟩ := hrel
    have HN : Hid _ := And.intro hlow hnum
    have HW : Hid (W4 w wr F G R g) := HW
    clear hlow hnum
    by_cases hlt : k < 8
    · have h1 : (k : Int) < 8 := by omega
      obtain ⟨a, ha⟩ : ∃ a : Nat, rp k = a := ⟨(rp k).toNat, by have := hp k hlt; omega⟩
      obtain ⟨b, hb⟩ : ∃ b : Nat, rn k = b := ⟨(rn k).toNat, by have := hn k hlt; omega⟩
      have ha2 : a < 65536 := by have := hp k hlt; omega
      have hb2 : b < 65536 := by have := hn k hlt; omega
      have hx := run_index_root R.toArray a b k hlt (by rw [HI.out k hlt, ha, hb]) wr
      go_wp2_with fail
      clear hx
      have hn9 : (wr.alloc (.cells #[.int .i64 (a : Int), .int .i64 (b : Int)] 38)).heap[wr.heap.size]? = some (.cells #[.int .i64 (a : Int), .int .i64 (b : Int)] 38) := heap_alloc_new wr _
      obtain ⟨wb, hwb⟩ : ∃ wb, wr.alloc (.cells #[.int .i64 (a : Int), .int .i64 (b : Int)] 38) = wb := ⟨_, rfl⟩
      have hbb : Below wr.heap.size wr wb := by rw [← hwb]; exact (Below.refl _ _).alloc (Nat.le_refl _) _
      rw [hwb] at hn9
      rw [hwb]
      have HWb : Hid (W4 w wb F G R g) := HW.out.later hbb
      have c0 : wb.cell? ⟨wr.heap.size, 0, none⟩ = some (.int .i64 (a : Int)) := by rw [cell_of_row _ _ _ _ _ _ hn9]; rfl
      have c1 : wb.cell? ⟨wr.heap.size, 1, none⟩ = some (.int .i64 (b : Int)) := by rw [cell_of_row _ _ _ _ _ _ hn9]; rfl
      have hBs : wr.heap.size < wb.heap.size := by rw [← hwb, World.size_alloc]; omega
      have hB3 := HW.out.page.lt
      have HK : Hid (∀ wx, Only (fun i => i = w.heap.size + 1 + 1 + 1) wb wx → wx.cell? ⟨wr.heap.size, 0, none⟩ = some (.int .i64 (a : Int)) ∧ wx.cell? ⟨wr.heap.size, 1, none⟩ = some (.int .i64 (b : Int))) := fun wx hx =>
        ⟨by rw [hx.cell hBs (by omega)]; exact c0, by rw [hx.cell hBs (by omega)]; exact c1⟩
      have HB0 : Hid (Only (fun i => i = w.heap.size + 1 + 1 + 1) wb wb.drew) := (Only.refl _ wb).drew
      clear hwb hbb hn9 HW
      have g1 : (500 + 4 * (k : Int)) ≤ 1024 := by omega
      refine wp_region_held_drew (S := fun wx => wx.cell? ⟨wr.heap.size, 0, none⟩ = some (.int .i64 (a : Int)) ∧ wx.cell? ⟨wr.heap.size, 1, none⟩ = some (.int .i64 (b : Int))) (by kernel_rfl) (HK.out _ HB0.out) ?_
      intro g0
      refine wpAnyH_take (i := 0) (v := .slice (some ⟨w.heap.size + 1 + 1 + 1, 0, none⟩) 1024 1024) rfl (by kernel_rfl) (by kernel_rfl) (by kernel_rfl) (fun _ _ _ h => h) (.inl ⟨by rfl, fun wx _ => by go_simp⟩) g0 ?_
      simp only [Act.put, List.setIfInBounds_toArray]
      refine wpAnyH_take (i := 1) (v := .int .i64 k) rfl (by kernel_rfl) (by kernel_rfl) (by kernel_rfl) (fun _ _ _ h => h) (.inl ⟨by rfl, fun wx _ => by go_simp⟩) g0 ?_
      simp only [Act.put]
      refine wpAnyH_take (i := 4) (v := .pointer (some ⟨wr.heap.size, 0, none⟩)) rfl (by kernel_rfl) (by kernel_rfl) (by kernel_rfl) (fun _ _ _ h => h) (.inl ⟨by rfl, fun wx _ => by go_simp⟩) g0 ?_
      simp only [Act.put]
      refine wpAnyH_take (i := 5) (v := .int .i64 a) rfl (by kernel_rfl) (by kernel_rfl) (by kernel_rfl) (fun _ _ _ h => h) (.inl ⟨by rfl, fun wx h => by have h8 := h.1; go_simp⟩) g0 ?_
      simp only [Act.put]
      refine wpAnyH_ready (rs := [2]) (by kernel_rfl) (by decide) (AllReadyH.cons rfl (fun K hK => ?_) AllReadyH.nil)
      rw [if_pos (by rfl)]
      go_simp
      refine (rootAt_any k hlt _).mono ?_
      rintro _ wy ⟨rfl, hwy⟩
      subst wy
      refine hK.out _ _ g0 (fun _ => ?_)
      clear hK K
      refine wpAnyH_take (i := 3) (v := .slice (some ⟨w.heap.size + 1 + 1 + 1, 500 + 4 * k, none⟩) (1024 - (500 + 4 * k)) (1024 - (500 + 4 * k))) rfl (by kernel_rfl) (by kernel_rfl) (by kernel_rfl) (fun _ _ _ h => h) (.inl ⟨by rfl, fun wx _ => by go_simp; rw [if_pos (show (0 : Int) ≤ 500 + 4 * (k : Int) by omega), if_neg (show ¬ 1024 = (500 + 4 * (k : Int)).toNat by omega), show (500 + 4 * (k : Int)).toNat = 500 + 4 * k by omega]⟩) g0 ?_
      simp only [Act.put]
      refine wpAnyH_ready (rs := [6]) (by kernel_rfl) (by decide) (AllReadyH.cons rfl (fun K hK => ?_) AllReadyH.nil)
      rw [if_pos (by rfl)]
      go_simp
      refine (writeNumber_any (w.heap.size + 1 + 1 + 1) (500 + 4 * k) (1024 - (500 + 4 * k)) (1024 - (500 + 4 * k)) g wb.drew HWb.out.drew.page (by omega) (by omega) a ha2).mono ?_
      rintro _ wc ⟨rfl, hpg, hO⟩
      have HOc : Hid (Only (fun i => i = w.heap.size + 1 + 1 + 1) wb wc) := HB0.out.trans hO (fun _ h => .inl h)
      have HWc : Hid (W4 w wc F G R (fun j => if j = 500 + 4 * k + 1 then a % 256 else if j = 500 + 4 * k then a / 256 else g j)) := HWb.out.drew.turn hO hpg
      refine hK.out _ _ (HK.out _ HOc.out) (fun _ => ?_)
      clear hK K hpg hO g0
      refine wpAnyH_done (by kernel_rfl) ?_ _
      go_wp2_with fail
      have HBc : Hid (Only (fun i => i = w.heap.size + 1 + 1 + 1) wb wc.drew) := HOc.out.drew
      refine wp_region_held_drew (S := fun wx => wx.cell? ⟨wr.heap.size, 0, none⟩ = some (.int .i64 (a : Int)) ∧ wx.cell? ⟨wr.heap.size, 1, none⟩ = some (.int .i64 (b : Int))) (by kernel_rfl) (HK.out _ HBc.out) ?_
      intro g0
      refine wpAnyH_take (i := 0) (v := .slice (some ⟨w.heap.size + 1 + 1 + 1, 0, none⟩) 1024 1024) rfl (by kernel_rfl) (by kernel_rfl) (by kernel_rfl) (fun _ _ _ h => h) (.inl ⟨by rfl, fun wx _ => by go_simp⟩) g0 ?_
      simp only [Act.put, List.setIfInBounds_toArray]
      refine wpAnyH_take (i := 1) (v := .int .i64 k) rfl (by kernel_rfl) (by kernel_rfl) (by kernel_rfl) (fun _ _ _ h => h) (.inl ⟨by rfl, fun wx _ => by go_simp⟩) g0 ?_
      simp only [Act.put]
      refine wpAnyH_take (i := 5) (v := .pointer (some ⟨wr.heap.size, 1, none⟩)) rfl (by kernel_rfl) (by kernel_rfl) (by kernel_rfl) (fun _ _ _ h => h) (.inl ⟨by rfl, fun wx _ => by go_simp⟩) g0 ?_
      simp only [Act.put]
      refine wpAnyH_take (i := 6) (v := .int .i64 b) rfl (by kernel_rfl) (by kernel_rfl) (by kernel_rfl) (fun _ _ _ h => h) (.inl ⟨by rfl, fun wx h => by have h8 := h.2; go_simp⟩) g0 ?_
      simp only [Act.put]
      refine wpAnyH_ready (rs := [2]) (by kernel_rfl) (by decide) (AllReadyH.cons rfl (fun K hK => ?_) AllReadyH.nil)
      rw [if_pos (by rfl)]
      go_simp
      refine (rootAt_any k hlt _).mono ?_
      rintro _ wy ⟨rfl, hwy⟩
      subst wy
      refine hK.out _ _ g0 (fun _ => ?_)
      clear hK K
      refine wpAnyH_take (i := 3) (v := .int .i64 (500 + 4 * (k : Int) + 2)) rfl (by kernel_rfl) (by kernel_rfl) (by kernel_rfl) (fun _ _ _ h => h) (.inl ⟨by rfl, fun wx _ => by go_simp; exact wraps_i64 _ (by omega) (by omega)⟩) g0 ?_
      simp only [Act.put]
      refine wpAnyH_take (i := 4) (v := .slice (some ⟨w.heap.size + 1 + 1 + 1, 500 + 4 * k + 2, none⟩) (1022 - (500 + 4 * k)) (1022 - (500 + 4 * k))) rfl (by kernel_rfl) (by kernel_rfl) (by kernel_rfl) (fun _ _ _ h => h) (.inl ⟨by rfl, fun wx _ => by go_simp; rw [if_pos (show (0 : Int) ≤ 500 + 4 * (k : Int) + 2 ∧ 500 + 4 * (k : Int) + 2 ≤ 1024 by omega), if_neg (show ¬ 1024 = (500 + 4 * (k : Int) + 2).toNat by omega), show (500 + 4 * (k : Int) + 2).toNat = 500 + 4 * k + 2 by omega, show 1024 - (500 + 4 * k + 2) = 1022 - (500 + 4 * k) by omega]⟩) g0 ?_
      simp only [Act.put]
      refine wpAnyH_ready (rs := [7]) (by kernel_rfl) (by decide) (AllReadyH.cons rfl (fun K hK => ?_) AllReadyH.nil)
      rw [if_pos (by rfl)]
      go_simp
      refine (writeNumber_any (w.heap.size + 1 + 1 + 1) (500 + 4 * k + 2) (1022 - (500 + 4 * k)) (1022 - (500 + 4 * k)) _ wc.drew HWc.out.drew.page (by omega) (by omega) b hb2).mono ?_
      rintro _ wd ⟨rfl, hpg, hO⟩
      have HOd : Hid (Only (fun i => i = w.heap.size + 1 + 1 + 1) wb wd) := HBc.out.trans hO (fun _ h => .inl h)
      have HWd : Hid (W4 w wd F G R _) := HWc.out.drew.turn hO hpg
      refine hK.out _ _ (HK.out _ HOd.out) (fun _ => ?_)
      clear hK K hpg hO g0
      refine wpAnyH_done (by kernel_rfl) ?_ _
      go_wp2
      go_roundw
      case rel =>
        refine ⟨k + 1, by omega, by go_num, _, HWd.out, fun j hj => ?_, fun i hi => ?_⟩
        · rw [if_neg (by omega), if_neg (by omega), if_neg (by omega), if_neg (by omega)]
          exact HN.out.1 j hj
        · by_cases e : i = k
          · subst e
            rw [if_neg (by omega), if_neg (by omega), if_neg (by omega), if_pos rfl, if_neg (by omega), if_neg (by omega), if_pos (by omega), if_neg (by omega), if_pos (by omega), if_pos (by omega), ha, hb]
            omega
          · rw [if_neg (by omega), if_neg (by omega), if_neg (by omega), if_neg (by omega), if_neg (by omega), if_neg (by omega), if_neg (by omega), if_neg (by omega), if_neg (by omega), if_neg (by omega), if_neg (by omega), if_neg (by omega), if_neg (by omega), if_neg (by omega), if_neg (by omega), if_neg (by omega)]
            exact HN.out.2 i (by omega)
      case measure => simp [intOf]; omega
    · obtain rfl : k = 8 := by omega
      have ht := HW.out.page.text
      have HE : Hid (IsHead used upper rp rn g) := by
        refine ⟨fun k hk => ?_, fun k hk => ?_, fun i hi => (HN.out.2 i hi).1, fun i hi => (HN.out.2 i hi).2⟩
        · have := hb1 (k / 8) (k % 8) (by omega) (by omega)
          rw [Nat.zero_add] at this
          rw [HN.out.1 _ (by omega), ho2 _ (by omega), this, show 8 * (k / 8) + k % 8 = k by omega]
        · rw [HN.out.1 _ (by omega), hb2 (k / 8) (k % 8) (by omega) (by omega), show 8 * (k / 8) + k % 8 = k by omega]
      go_wp2
      go_ret
      exact ⟨g, rfl, HE.out, HW.out.page.small, HW.out.below⟩
end Go.Proofs.Ytjcddeoihjppaaa
namespace Go.Proofs.Ytjcddeoihjppaaa
open Go.RowKit Go.Maps

/-- the turn -/
def tb (pg : Nat → ByteArray) : Bool := (pg 4000).data.toList.getD 0 0 != 0
theorem headOf_tb (pg : Nat → ByteArray) : headOf pg = pg (placeF 0 (tb pg)) := rfl
theorem placeF_inj {k j : Nat} {a b : Bool} (hk : k < 2000) (hj : j < 2000) (h : placeF k a = placeF j b) : k = j ∧ a = b := by
  unfold placeF at h
  cases a <;> cases b <;> simp at h <;> first | exact ⟨by omega, rfl⟩ | omega
theorem placeF_turn {k : Nat} (hk : k < 2000) (a : Bool) : placeF k a ≠ 4000 := by unfold placeF; split <;> omega

/-- a pager that may be -/
structure Pg.Ok (p : Pg) : Prop where
  zero : p.used 0 = false
  chg : ∀ k t, p.chg k = some t → p.used k = true ∧ k < 2000 ∧ t.size = 1024
  rp : ∀ i, i < 8 → 0 ≤ p.rp i ∧ p.rp i < 65536
  rn : ∀ i, i < 8 → 0 ≤ p.rn i ∧ p.rn i < 65536
theorem Pg.Ok.none0 {p : Pg} (h : p.Ok) : p.chg 0 = none := by
  cases e : p.chg 0 with
  | none => rfl
  | some t => have := (h.chg 0 t e).1; rw [h.zero] at this; cases this

/-- its places are the disk's -/
structure Lies (p : Pg) (pg : Nat → ByteArray) : Prop where
  upper : ∀ k, k < 2000 → p.upper k = upperOf (headOf pg) k
  turn : p.upper 0 = tb pg

/-- what a page has, if it is in use -/
def Pg.view (p : Pg) (pg : Nat → ByteArray) (k : Nat) : Option ByteArray := if k < 2000 ∧ p.used k = true then some (p.text pg k) else none
theorem Pg.view_yes {p : Pg} {pg : Nat → ByteArray} {k : Nat} (hk : k < 2000) (h : p.used k = true) : p.view pg k = some (p.text pg k) := if_pos ⟨hk, h⟩
theorem Pg.view_no {p : Pg} {pg : Nat → ByteArray} {k : Nat} (h : p.used k = false) : p.view pg k = none := if_neg (fun e => by rw [h] at e; cases e.2)
theorem Pg.view_congr {p q : Pg} {pg pg' : Nat → ByteArray} (hu : ∀ k, k < 2000 → p.used k = q.used k) (ht : ∀ k, k < 2000 → q.used k = true → p.text pg k = q.text pg' k) (k : Nat) : p.view pg k = q.view pg' k := by
  unfold Pg.view
  by_cases hk : k < 2000
  · rw [hu k hk]
    by_cases h : q.used k = true
    · rw [if_pos ⟨hk, h⟩, if_pos ⟨hk, h⟩, ht k hk h]
    · rw [if_neg (fun e => h e.2), if_neg (fun e => h e.2)]
  · rw [if_neg (fun e => hk e.1), if_neg (fun e => hk e.1)]

/-- where pages lie behind a commit -/
def Pg.up (p : Pg) (k : Nat) : Bool := if k = 0 ∨ (p.chg k).isSome = true then !p.upper k else p.upper k
/-- a pager behind a commit -/
def Pg.done (p : Pg) : Pg := { p with upper := p.up, chg := fun _ => none, commits := p.commits + 1 }
theorem Pg.up_zero (p : Pg) : p.up 0 = !p.upper 0 := if_pos (.inl rfl)
theorem Pg.up_chg {p : Pg} {k : Nat} {t : ByteArray} (h : p.chg k = some t) : p.up k = !p.upper k := if_pos (.inr (by rw [h]; rfl))
theorem Pg.up_not {p : Pg} {k : Nat} (h0 : k ≠ 0) (h : p.chg k = none) : p.up k = p.upper k := if_neg (fun e => by
  rcases e with e | e
  · exact h0 e
  · rw [h] at e; cases e)

/-- all is committed -/
structure Done (p : Pg) (pg pg' : Nat → ByteArray) : Prop where
  turn : tb pg' = !p.upper 0
  head : ∃ g : Nat → Nat, pg' (placeF 0 (!p.upper 0)) = ⟨(bytesOf g).toArray⟩ ∧ IsHead p.used p.up p.rp p.rn g ∧ ∀ j, g j < 256
  page : ∀ k t, p.chg k = some t → pg' (placeF k (!p.upper k)) = t
  rest : ∀ k, 0 < k → k < 2000 → p.chg k = none → pg' (placeF k (p.upper k)) = pg (placeF k (p.upper k))
/-- nothing of what was committed has changed -/
structure Kept (p : Pg) (pg pg' : Nat → ByteArray) : Prop where
  turn : tb pg' = tb pg
  page : ∀ k, k < 2000 → pg' (placeF k (p.upper k)) = pg (placeF k (p.upper k))

theorem byte_of {g : Nat → Nat} (hg : ∀ j, g j < 256) {j : Nat} (hj : j < 1024) : ((bytesOf g).getD j 0).toNat = g j := by
  rw [bytesOf_getD g hj, UInt8.toNat_ofNat']
  exact Nat.mod_eq_of_lt (hg j)
section
variable {used upper : Nat → Bool} {rp rn : Nat → Int} {g : Nat → Nat}
theorem head_used (h : IsHead used upper rp rn g) (hg : ∀ j, g j < 256) (h0 : used 0 = false) {k : Nat} (hk : k < 2000) : usedOf ⟨(bytesOf g).toArray⟩ k = used k := by
  unfold usedOf bitOf
  simp only []
  rw [byte_of hg (by omega), h.used k hk]
  by_cases e : k = 0
  · subst e; rw [h0]; rfl
  · rw [decide_eq_true (by omega), Bool.true_and]
theorem head_upper (h : IsHead used upper rp rn g) (hg : ∀ j, g j < 256) {k : Nat} (hk : k < 2000) : upperOf ⟨(bytesOf g).toArray⟩ k = upper k := by
  unfold upperOf bitOf
  simp only []
  rw [byte_of hg (by omega), show (k + 2000) / 8 = 250 + k / 8 by omega, show (k + 2000) % 8 = k % 8 by omega, h.upper k hk]
theorem head_rp (h : IsHead used upper rp rn g) (hg : ∀ j, g j < 256) {i : Nat} (hi : i < 8) : rpOf ⟨(bytesOf g).toArray⟩ i = rp i := by
  unfold rpOf numOf
  simp only []
  rw [byte_of hg (by omega), byte_of hg (by omega), show 500 + 4 * i + 1 = 501 + 4 * i by omega, h.page i hi]
theorem head_rn (h : IsHead used upper rp rn g) (hg : ∀ j, g j < 256) {i : Nat} (hi : i < 8) : rnOf ⟨(bytesOf g).toArray⟩ i = rn i := by
  unfold rnOf numOf
  simp only []
  rw [byte_of hg (by omega), byte_of hg (by omega), show 502 + 4 * i + 1 = 503 + 4 * i by omega, h.note i hi]
end

/-- what is loaded may be -/
theorem loaded_ok (pg : Nat → ByteArray) (c : Int) (d : Bool) : (loaded pg c d).Ok :=
  ⟨rfl, fun _ _ h => (by cases h), fun i _ => numOf_lt _ _, fun i _ => numOf_lt _ _⟩
theorem loaded_lies {pg : Nat → ByteArray} (c : Int) (d : Bool) (h : upperOf (headOf pg) 0 = tb pg) : Lies (loaded pg c d) pg := ⟨fun _ _ => rfl, h⟩
theorem Lies.good {p : Pg} {pg : Nat → ByteArray} (h : Lies p pg) : upperOf (headOf pg) 0 = tb pg := by rw [← h.upper 0 (by omega), h.turn]

section
variable {p : Pg} {pg pg' : Nat → ByteArray}
theorem Done.headIs (h : Done p pg pg') : ∃ g : Nat → Nat, headOf pg' = ⟨(bytesOf g).toArray⟩ ∧ IsHead p.used p.up p.rp p.rn g ∧ ∀ j, g j < 256 := by
  obtain ⟨g, h1, h2, h3⟩ := h.head
  exact ⟨g, by rw [headOf_tb, h.turn, h1], h2, h3⟩
theorem Done.lies (h : Done p pg pg') : Lies p.done pg' := by
  obtain ⟨g, h1, h2, h3⟩ := h.headIs
  refine ⟨fun k hk => ?_, ?_⟩
  · rw [h1, head_upper h2 h3 hk]; rfl
  · rw [h.turn]; exact p.up_zero
theorem Done.text (h : Done p pg pg') (ho : p.Ok) {k : Nat} (hk : k < 2000) (hu : p.used k = true) : pg' (placeF k (p.up k)) = p.text pg k := by
  have h0 : k ≠ 0 := fun e => by rw [e, ho.zero] at hu; cases hu
  unfold Pg.text
  cases e : p.chg k with
  | none => rw [Pg.up_not h0 e, h.rest k (by omega) hk e]; rfl
  | some t => rw [Pg.up_chg e, h.page k t e]; rfl
theorem Done.view (h : Done p pg pg') (ho : p.Ok) (k : Nat) : p.done.view pg' k = p.view pg k := by
  refine Pg.view_congr (p := p.done) (q := p) (fun _ _ => rfl) (fun j hj hu => ?_) k
  show pg' (placeF j (p.up j)) = _
  exact h.text ho hj hu
theorem Done.loaded_view (h : Done p pg pg') (ho : p.Ok) (c : Int) (d : Bool) (k : Nat) : (loaded pg' c d).view pg' k = p.view pg k := by
  obtain ⟨g, h1, h2, h3⟩ := h.headIs
  refine Pg.view_congr (fun j hj => ?_) (fun j hj hu => ?_) k
  · show usedOf (headOf pg') j = _
    rw [h1, head_used h2 h3 ho.zero hj]
  · show pg' (placeF j (upperOf (headOf pg') j)) = _
    rw [h1, head_upper h2 h3 hj]
    exact h.text ho hj hu
theorem Done.loaded_rp (h : Done p pg pg') (c : Int) (d : Bool) {i : Nat} (hi : i < 8) : (loaded pg' c d).rp i = p.rp i := by
  obtain ⟨g, h1, h2, h3⟩ := h.headIs
  show rpOf (headOf pg') i = _
  rw [h1, head_rp h2 h3 hi]
theorem Done.loaded_rn (h : Done p pg pg') (c : Int) (d : Bool) {i : Nat} (hi : i < 8) : (loaded pg' c d).rn i = p.rn i := by
  obtain ⟨g, h1, h2, h3⟩ := h.headIs
  show rnOf (headOf pg') i = _
  rw [h1, head_rn h2 h3 hi]
theorem Done.ok (ho : p.Ok) : p.done.Ok := ⟨ho.zero, fun _ _ h => (by cases h), ho.rp, ho.rn⟩

theorem Kept.headOf (h : Kept p pg pg') (hl : Lies p pg) : headOf pg' = Go.Proofs.Ytjcddeoihjppaaa.headOf pg := by
  rw [headOf_tb, headOf_tb, h.turn, ← hl.turn, h.page 0 (by omega)]
theorem Kept.loaded (h : Kept p pg pg') (hl : Lies p pg) (c : Int) (d : Bool) : loaded pg' c d = Go.Proofs.Ytjcddeoihjppaaa.loaded pg c d := by
  unfold Go.Proofs.Ytjcddeoihjppaaa.loaded
  rw [h.headOf hl]
theorem Kept.loaded_view (h : Kept p pg pg') (hl : Lies p pg) (c : Int) (d : Bool) (k : Nat) : (Go.Proofs.Ytjcddeoihjppaaa.loaded pg' c d).view pg' k = (Go.Proofs.Ytjcddeoihjppaaa.loaded pg c d).view pg k := by
  rw [h.loaded hl]
  refine Pg.view_congr (fun _ _ => rfl) (fun j hj _ => ?_) k
  show pg' (placeF j (upperOf (Go.Proofs.Ytjcddeoihjppaaa.headOf pg) j)) = pg (placeF j (upperOf (Go.Proofs.Ytjcddeoihjppaaa.headOf pg) j))
  rw [← hl.upper j hj, h.page j hj]
theorem Kept.good (h : Kept p pg pg') (hl : Lies p pg) : upperOf (Go.Proofs.Ytjcddeoihjppaaa.headOf pg') 0 = tb pg' := by rw [h.headOf hl, h.turn, hl.good]
end

section
variable {p : Pg} {pg : Nat → ByteArray}
theorem Pg.Ok.write (h : p.Ok) {j : Nat} (hj : j < 2000) (hu : p.used j = true) (t : ByteArray) (ht : t.size = 1024) : (p.write j t).Ok := by
  refine ⟨h.zero, fun k s hs => ?_, h.rp, h.rn⟩
  change (if k = j then some t else p.chg k) = some s at hs
  split at hs
  · rename_i e; subst e; cases hs; exact ⟨hu, hj, ht⟩
  · exact h.chg k s hs
theorem Pg.Ok.free (h : p.Ok) (j : Nat) : (p.free j).Ok := by
  refine ⟨?_, fun k s hs => ?_, h.rp, h.rn⟩
  · show (if 0 = j then false else p.used 0) = false
    split
    · rfl
    · exact h.zero
  · change (if k = j then none else p.chg k) = some s at hs
    split at hs
    · cases hs
    · rename_i e
      refine ⟨?_, (h.chg k s hs).2⟩
      show (if k = j then false else p.used k) = true
      rw [if_neg e]; exact (h.chg k s hs).1
theorem Pg.Ok.alloc (h : p.Ok) {j : Nat} (h0 : 0 < j) (hj : j < 2000) : (p.alloc j).Ok := by
  refine ⟨?_, fun k s hs => ?_, h.rp, h.rn⟩
  · show (if 0 = j then true else p.used 0) = false
    rw [if_neg (by omega)]; exact h.zero
  · change (if k = j then some zeros else p.chg k) = some s at hs
    show (if k = j then true else p.used k) = true ∧ _
    split at hs
    · rename_i e; subst e; cases hs; exact ⟨if_pos rfl, hj, zeros_size⟩
    · rename_i e; rw [if_neg e]; exact h.chg k s hs
theorem Pg.Ok.setRoot (h : p.Ok) (i : Nat) {k t : Int} (hk : inB k 2000 = true) (ht : inB t 65536 = true) : (p.setRoot i k t).Ok := by
  have hk' : 0 ≤ k ∧ k < 2000 := by simpa [inB] using hk
  have ht' : 0 ≤ t ∧ t < 65536 := by simpa [inB] using ht
  refine ⟨h.zero, h.chg, fun j hj => ?_, fun j hj => ?_⟩
  · show 0 ≤ (if j = i then k else p.rp j) ∧ (if j = i then k else p.rp j) < 65536
    split
    · omega
    · exact h.rp j hj
  · show 0 ≤ (if j = i then t else p.rn j) ∧ (if j = i then t else p.rn j) < 65536
    split
    · omega
    · exact h.rn j hj
theorem Pg.Ok.back {q : Pg} (hq : q.Ok) : (p.back q).Ok := ⟨hq.zero, hq.chg, hq.rp, hq.rn⟩

theorem view_write {j : Nat} (hj : j < 2000) (hu : p.used j = true) (t : ByteArray) : (p.write j t).view pg = put (p.view pg) j (some t) := by
  funext k
  unfold put
  by_cases e : k = j
  · subst e
    rw [if_pos rfl, Pg.view_yes (p := p.write k t) hj hu]
    show some ((if k = k then some t else p.chg k).getD _) = _
    rw [if_pos rfl]; rfl
  · rw [if_neg e]
    unfold Pg.view
    have : (p.write j t).text pg k = p.text pg k := by
      show (if k = j then some t else p.chg k).getD _ = _
      rw [if_neg e]; rfl
    rw [this]; rfl
theorem view_free (j : Nat) : (p.free j).view pg = put (p.view pg) j none := by
  funext k
  unfold put
  by_cases e : k = j
  · subst e
    rw [if_pos rfl]
    exact Pg.view_no (by show (if k = k then false else p.used k) = false; rw [if_pos rfl])
  · rw [if_neg e]
    unfold Pg.view
    have h1 : (p.free j).text pg k = p.text pg k := by
      show (if k = j then none else p.chg k).getD _ = _
      rw [if_neg e]; rfl
    have h2 : (p.free j).used k = p.used k := by
      show (if k = j then false else p.used k) = _
      rw [if_neg e]
    rw [h1, h2]
theorem view_alloc {j : Nat} (hj : j < 2000) : (p.alloc j).view pg = put (p.view pg) j (some zeros) := by
  funext k
  unfold put
  by_cases e : k = j
  · subst e
    rw [if_pos rfl, Pg.view_yes hj (by show (if k = k then true else p.used k) = true; rw [if_pos rfl])]
    show some ((if k = k then some zeros else p.chg k).getD _) = _
    rw [if_pos rfl]; rfl
  · rw [if_neg e]
    unfold Pg.view
    have h1 : (p.alloc j).text pg k = p.text pg k := by
      show (if k = j then some zeros else p.chg k).getD _ = _
      rw [if_neg e]; rfl
    have h2 : (p.alloc j).used k = p.used k := by
      show (if k = j then true else p.used k) = _
      rw [if_neg e]
    rw [h1, h2]
theorem view_setRoot (i : Nat) (k t : Int) : (p.setRoot i k t).view pg = p.view pg := rfl
end
end Go.Proofs.Ytjcddeoihjppaaa
namespace Go.Proofs.Ytjcddeoihjppaaa
open Go.RowKit

/-- so many of one letter -/
def rep (c : UInt8) (k : Nat) : ByteArray := ⟨(List.replicate k c).toArray⟩
theorem rep_size (c : UInt8) (k : Nat) : (rep c k).size = k := by
  show (List.replicate k c).toArray.size = k
  rw [List.size_toArray, List.length_replicate]

theorem rep_any (c : UInt8) (k : Nat) (hk : k ≤ 1024) (w : World) : Calls Try.prog 18 #[.string ⟨#[c]⟩, .int .i64 k] w fun e w' => e = .returned (.string (rep c k)) ∧ Below w.heap.size w w' := by
  have h := lib_repeat ⟨#[c]⟩ k w (by omega) (by show 1 * k ≤ _; omega)
  have e : Lib.repeatL (ByteArray.mk #[c]).data.toList k = List.replicate k c := by
    show Lib.repeatL [c] k = _
    have h1 : ([c] : List UInt8) = List.replicate 1 c := rfl
    rw [h1, Lib.repeatL_replicate, Nat.mul_one]
  rw [e] at h
  exact h

/-- the page of a number -/
def pageOf (n : Int) : ByteArray := rep (UInt8.ofNat ((n / 256) % 256).toNat) (n % 1024).toNat ++ rep (UInt8.ofNat (n % 256).toNat) (1024 - (n % 1024).toNat)

theorem below_step {w W w1 : World} (h : Below w.heap.size w W) (hb : Below W.heap.size W w1) : Below w.heap.size w w1 := h.trans (hb.mono h.size)

theorem one_byte (x : Int) (W : World) (B : Nat) (h : W.cell? ⟨B, 0, none⟩ = some (.int .u8 (IntKind.u8.wrap x))) :
    (convert 54 9 (.slice (some ⟨B, 0, none⟩) 1 1)).run Try.prog W = .ok (.string ⟨#[UInt8.ofNat (x % 256).toNat]⟩) W := by
  have e : IntKind.u8.wrap x = ((UInt8.ofNat (x % 256).toNat).toNat : Int) := by
    have h1 : (x % 256).toNat < 256 := by omega
    rw [UInt8.toNat_ofNat']
    simp [IntKind.wrap, IntKind.signed, IntKind.bits]
    omega
  have := run_convert_bytes_back (P := Try.prog) W 54 9 5 ⟨B, 0, none⟩ 1 [UInt8.ofNat (x % 256).toNat] Try.underlying54 Try.underlying5 Try.underlying9 (fun j hj => by
    have : j = 0 := by simpa using hj
    subst this
    rw [Addr.add_zero', h, e]
    rfl)
  exact this

theorem page_mod (n : Int) : wrap64 ((IntKind.u64.wrap n).tmod 1024) = (((n % 1024).toNat : Nat) : Int) := by
  simp [IntKind.wrap, IntKind.signed, IntKind.bits]
  have h1 : 0 ≤ n % 18446744073709551616 := by omega
  rw [Int.tmod_eq_emod_of_nonneg h1]
  unfold wrap64
  omega

theorem pageOf_size (n : Int) : (pageOf n).size = 1024 := by
  unfold pageOf
  rw [ByteArray.size_append, rep_size, rep_size]
  omega
end Go.Proofs.Ytjcddeoihjppaaa
namespace Go.Proofs.Ytjcddeoihjppaaa
open Go.RowKit Go.Maps

/-- a number's last byte -/
def byteI (x : Int) : UInt8 := UInt8.ofNat (x % 256).toNat
/-- the pages below one -/
def pagesT (v : Nat → Option ByteArray) : Nat → ByteArray
  | 0 => ⟨#[]⟩
  | k + 1 => match v k with
    | none => pagesT v k
    | some t => pagesT v k ++ (⟨#[byteI (k : Int)]⟩ ++ t)
/-- the roots below one, behind the pages -/
def rootsT (v : Nat → Option ByteArray) (a b : Nat → Int) : Nat → ByteArray
  | 0 => pagesT v 60
  | i + 1 => rootsT v a b i ++ ⟨#[byteI (a i / 256), byteI (a i), byteI (b i / 256), byteI (b i)]⟩
/-- all of it -/
def allT (v : Nat → Option ByteArray) (a b : Nat → Int) : ByteArray := rootsT v a b 8 ++ ⟨#[byteI ((1 + countU (fun k => (v k).isSome) 2000 : Nat) : Int)]⟩
/-- of a pager -/
def Pg.all (p : Pg) (pg : Nat → ByteArray) : ByteArray := allT (p.view pg) p.rp p.rn

theorem pagesT_none {v : Nat → Option ByteArray} {k : Nat} (h : v k = none) : pagesT v (k + 1) = pagesT v k := by rw [pagesT, h]
theorem pagesT_some {v : Nat → Option ByteArray} {k : Nat} {t : ByteArray} (h : v k = some t) : pagesT v (k + 1) = pagesT v k ++ (⟨#[byteI (k : Int)]⟩ ++ t) := by rw [pagesT, h]
theorem pagesT_size {v : Nat → Option ByteArray} (hv : ∀ k t, v k = some t → t.size = 1024) : ∀ k, (pagesT v k).size ≤ 1025 * k
  | 0 => by show 0 ≤ _; omega
  | k + 1 => by
    have ih := pagesT_size hv k
    cases e : v k with
    | none => rw [pagesT_none e]; omega
    | some t =>
      have ht := hv k t e
      rw [pagesT_some e, ByteArray.size_append, ByteArray.size_append, ht]
      show _ + (1 + 1024) ≤ _
      omega
theorem rootsT_size {v : Nat → Option ByteArray} (hv : ∀ k t, v k = some t → t.size = 1024) (a b : Nat → Int) : ∀ i, (rootsT v a b i).size ≤ 1025 * 60 + 4 * i
  | 0 => pagesT_size hv 60
  | i + 1 => by
    have ih := rootsT_size hv a b i
    rw [rootsT, ByteArray.size_append]
    show _ + 4 ≤ _
    omega
theorem pagesT_congr {v v' : Nat → Option ByteArray} (h : ∀ k, v k = v' k) (k : Nat) : pagesT v k = pagesT v' k := by
  have : v = v' := funext h
  rw [this]
theorem rootsT_congr {v : Nat → Option ByteArray} {a b a' b' : Nat → Int} (ha : ∀ i, i < 8 → a i = a' i) (hb : ∀ i, i < 8 → b i = b' i) : ∀ i, i ≤ 8 → rootsT v a b i = rootsT v a' b' i
  | 0, _ => rfl
  | i + 1, hi => by rw [rootsT, rootsT, rootsT_congr ha hb i (by omega), ha i (by omega), hb i (by omega)]
theorem allT_congr {v v' : Nat → Option ByteArray} {a b a' b' : Nat → Int} (h : ∀ k, v k = v' k) (ha : ∀ i, i < 8 → a i = a' i) (hb : ∀ i, i < 8 → b i = b' i) : allT v a b = allT v' a' b' := by
  obtain rfl : v = v' := funext h
  unfold allT
  rw [rootsT_congr ha hb 8 (Nat.le_refl _)]
theorem countU_like {f g : Nat → Bool} : ∀ n, (∀ k, k < n → f k = g k) → countU f n = countU g n
  | 0, _ => rfl
  | n + 1, h => by rw [countU, countU, countU_like n (fun k hk => h k (by omega)), h n (by omega)]

section
variable {p : Pg} {pg pg' : Nat → ByteArray}
theorem Pg.view_is {k : Nat} (hk : k < 2000) : (p.view pg k).isSome = p.used k := by
  unfold Pg.view
  by_cases e : p.used k = true
  · rw [if_pos ⟨hk, e⟩, e]; rfl
  · rw [if_neg (fun h => e h.2)]
    cases h : p.used k
    · rfl
    · exact absurd h e
theorem Pg.count (p : Pg) (pg : Nat → ByteArray) : countU (fun k => (p.view pg k).isSome) 2000 = countU p.used 2000 := countU_like 2000 (fun _ hk => Pg.view_is hk)

/-- behind a commit all is as it was ahead of it -/
theorem Done.all (h : Done p pg pg') (ho : p.Ok) : p.done.all pg' = p.all pg := allT_congr (fun k => h.view ho k) (fun _ _ => rfl) (fun _ _ => rfl)
theorem Done.loaded_all (h : Done p pg pg') (ho : p.Ok) (c : Int) (d : Bool) : (loaded pg' c d).all pg' = p.all pg :=
  allT_congr (fun k => h.loaded_view ho c d k) (fun _ hi => h.loaded_rp c d hi) (fun _ hi => h.loaded_rn c d hi)
theorem Kept.loaded_all (h : Kept p pg pg') (hl : Lies p pg) (c : Int) (d : Bool) : (Go.Proofs.Ytjcddeoihjppaaa.loaded pg' c d).all pg' = (Go.Proofs.Ytjcddeoihjppaaa.loaded pg c d).all pg := by
  refine allT_congr (fun k => h.loaded_view hl c d k) (fun i _ => ?_) (fun i _ => ?_)
  · rw [h.loaded hl]
  · rw [h.loaded hl]
end
end Go.Proofs.Ytjcddeoihjppaaa
namespace Go.Proofs.Ytjcddeoihjppaaa
open Go.RowKit Go.Maps

/-- pages and roots -/
structure Pst where
  used : Nat → Bool
  tx : Nat → ByteArray
  rp : Nat → Int
  rn : Nat → Int
def Pst.write (V : Pst) (k : Nat) (t : ByteArray) : Pst := { V with tx := fun i => if i = k then t else V.tx i }
def Pst.alloc (V : Pst) (k : Nat) : Pst := { V with used := fun i => if i = k then true else V.used i, tx := fun i => if i = k then zeros else V.tx i }
def Pst.free (V : Pst) (k : Nat) : Pst := { V with used := fun i => if i = k then false else V.used i }
def Pst.setRoot (V : Pst) (i : Nat) (k t : Int) : Pst := { V with rp := fun j => if j = i then k else V.rp j, rn := fun j => if j = i then t else V.rn j }
/-- a pager has just that -/
structure Match (p : Pg) (pg : Nat → ByteArray) (V : Pst) : Prop where
  used : p.used = V.used
  text : ∀ k, k < 2000 → V.used k = true → p.text pg k = V.tx k
  rp : ∀ i, i < 8 → p.rp i = V.rp i
  rn : ∀ i, i < 8 → p.rn i = V.rn i
section
variable {p : Pg} {pg : Nat → ByteArray} {V : Pst}
theorem Match.write (h : Match p pg V) (k : Nat) (t : ByteArray) : Match (p.write k t) pg (V.write k t) := by
  refine ⟨h.used, fun j hj hu => ?_, h.rp, h.rn⟩
  show (if j = k then some t else p.chg j).getD _ = (if j = k then t else V.tx j)
  by_cases e : j = k
  · rw [if_pos e, if_pos e]; rfl
  · rw [if_neg e, if_neg e]; exact h.text j hj hu
theorem Match.alloc (h : Match p pg V) (k : Nat) : Match (p.alloc k) pg (V.alloc k) := by
  refine ⟨by show (fun i => if i = k then true else p.used i) = _; rw [h.used]; rfl, fun j hj hu => ?_, h.rp, h.rn⟩
  show (if j = k then some zeros else p.chg j).getD _ = (if j = k then zeros else V.tx j)
  by_cases e : j = k
  · rw [if_pos e, if_pos e]; rfl
  · rw [if_neg e, if_neg e]
    change (if j = k then true else V.used j) = true at hu
    rw [if_neg e] at hu
    exact h.text j hj hu
theorem Match.free (h : Match p pg V) (k : Nat) : Match (p.free k) pg (V.free k) := by
  refine ⟨by show (fun i => if i = k then false else p.used i) = _; rw [h.used]; rfl, fun j hj hu => ?_, h.rp, h.rn⟩
  change (if j = k then false else V.used j) = true at hu
  show (if j = k then none else p.chg j).getD _ = V.tx j
  by_cases e : j = k
  · rw [if_pos e] at hu; cases hu
  · rw [if_neg e] at hu
    rw [if_neg e]; exact h.text j hj hu
theorem Match.setRoot (h : Match p pg V) (i : Nat) (k t : Int) : Match (p.setRoot i k t) pg (V.setRoot i k t) := by
  refine ⟨h.used, h.text, fun j hj => ?_, fun j hj => ?_⟩
  · show (if j = i then k else p.rp j) = (if j = i then k else V.rp j)
    rw [h.rp j hj]
  · show (if j = i then t else p.rn j) = (if j = i then t else V.rn j)
    rw [h.rn j hj]
end
/-- a pager in memory, and its disk -/
structure Tw (bp bd bm N : Nat) (s : St) (up : Nat → Bool) (cm : Int) (V : Pst) (w : World) : Prop where
  ex : ∃ p : Pg, PagerIs bp bd bm N p w ∧ p.Ok ∧ p.down = false ∧ p.upper = up ∧ p.commits = cm ∧ Match p s.pg V
  prg : Prg bd s w
section
variable {bp bd bm N : Nat} {s : St} {up : Nat → Bool} {cm : Int} {V : Pst} {w wx : World}
theorem Tw.below (h : Tw bp bd bm N s up cm V w) (hb : Below w.heap.size w wx) : Tw bp bd bm N s up cm V wx := by
  obtain ⟨p, h1, h2⟩ := h.ex
  exact ⟨⟨p, h1.below hb, h2⟩, Prg.below h.prg hb⟩
theorem Tw.drew (h : Tw bp bd bm N s up cm V w) : Tw bp bd bm N s up cm V w.drew := by
  obtain ⟨p, h1, h2⟩ := h.ex
  exact ⟨⟨p, h1.drew, h2⟩, Prg.drew h.prg⟩
theorem Tw.mono (h : Tw bp bd bm N s up cm V w) {N' : Nat} (hN : N ≤ N') : Tw bp bd bm N' s up cm V w := by
  obtain ⟨p, h1, h2⟩ := h.ex
  exact ⟨⟨p, h1.mono hN, h2⟩, h.prg⟩
theorem Tw.lt (h : Tw bp bd bm N s up cm V w) : bp < w.heap.size ∧ bm < w.heap.size ∧ bd < w.heap.size := by
  obtain ⟨p, h1, h2⟩ := h.ex
  exact ⟨h1.lt, h1.mlt, DiskIs.lt h.prg⟩
theorem Tw.only {S : Nat → Prop} (h : Tw bp bd bm N s up cm V w) (ho : Only S w wx) (h1 : ¬ S bp) (h2 : ¬ S bm) (h3 : ¬ S bd) : Tw bp bd bm N s up cm V wx := by
  obtain ⟨p, k1, k2⟩ := h.ex
  exact ⟨⟨p, k1.only ho h1 h2, k2⟩, Prg.only h.prg ho h3⟩
/-- no page is that of the head -/
theorem Tw.zero (h : Tw bp bd bm N s up cm V w) : V.used 0 = false := by
  obtain ⟨p, _, h2, _, _, _, h3⟩ := h.ex
  rw [← h3.used]; exact h2.zero
theorem Tw.size (h : Tw bp bd bm N s up cm V w) {k : Nat} (hk : k < 2000) (hu : V.used k = true) : (V.tx k).size = 1024 := by
  obtain ⟨p, _, h2, _, _, _, h3⟩ := h.ex
  rw [← h3.text k hk hu]
  unfold Pg.text
  cases hc : p.chg k with
  | some t => exact (h2.chg k t hc).2.2
  | none => exact page_of_sizes h.prg _ (placeF_lt k hk _)

theorem tw_down (h : Tw bp bd bm N s up cm V w) : Calls Try.prog 84 #[.pointer (some ⟨bp, 0, none⟩)] w fun e w' => e = .returned (.bool false) ∧ w' = w := by
  obtain ⟨p, h1, h2, h3, _⟩ := h.ex
  refine (down_any h1.cells).mono ?_
  rintro _ w' ⟨rfl, hw⟩
  exact ⟨by rw [h3], hw⟩
theorem tw_root (h : Tw bp bd bm N s up cm V w) (i : Nat) (hi : i < 8) : Calls Try.prog 33 #[.pointer (some ⟨bp, 0, none⟩), .int .i64 i] w fun e w' => e = .returned (.tuple #[.int .i64 (V.rp i), .int .i64 (V.rn i), .nilIface]) ∧ Below w.heap.size w w' := by
  obtain ⟨p, h1, h2, h3, _, _, hm⟩ := h.ex
  refine (root_yes h1.cells i hi).mono ?_
  rintro _ w' ⟨rfl, hw⟩
  exact ⟨by rw [hm.rp i hi, hm.rn i hi], hw⟩
theorem tw_read (h : Tw bp bd bm N s up cm V w) (k : Nat) (hk : k < 2000) (hu : V.used k = true) : Calls Try.prog 32 #[.pointer (some ⟨bp, 0, none⟩), .int .i64 k] w fun e w' => e = .returned (.tuple #[.string (V.tx k), .nilIface]) ∧ Below w.heap.size w w' := by
  obtain ⟨p, h1, h2, h3, _, _, hm⟩ := h.ex
  refine (readp_yes h1 h.prg h3 k hk (by rw [hm.used]; exact hu)).mono ?_
  rintro _ w' ⟨rfl, hw⟩
  exact ⟨by rw [hm.text k hk hu], hw⟩
theorem tw_used (h : Tw bp bd bm N s up cm V w) : Calls Try.prog 23 #[.pointer (some ⟨bp, 0, none⟩)] w fun e w' => e = .returned (.int .i64 (1 + countU V.used 2000 : Nat)) ∧ w' = w := by
  obtain ⟨p, h1, h2, h3, _, _, hm⟩ := h.ex
  refine (used_any h1.cells).mono ?_
  rintro _ w' ⟨rfl, hw⟩
  exact ⟨by rw [hm.used], hw⟩
theorem tw_write (h : Tw bp bd bm N s up cm V w) (hN : N < 1000000) (k : Nat) (hk : k < 2000) (hu : V.used k = true) (t : ByteArray) (ht : t.size = 1024) :
    Calls Try.prog 29 #[.pointer (some ⟨bp, 0, none⟩), .int .i64 k, .string t] w fun e w' => e = .returned .nilIface ∧ Tw bp bd bm (N + 1) s up cm (V.write k t) w' ∧ Only (fun b => b = bp ∨ b = bm) w w' := by
  obtain ⟨p, h1, h2, h3, h4, h5, hm⟩ := h.ex
  have hu' : p.used k = true := by rw [hm.used]; exact hu
  refine (writep_yes h1 hN h3 k hk hu' t ht).mono ?_
  rintro _ w' ⟨rfl, hP, hO⟩
  exact ⟨rfl, ⟨⟨_, hP, h2.write hk hu' t ht, h3, h4, h5, hm.write k t⟩, Prg.only h.prg hO (fun e => h1.md h.prg e.symm)⟩, hO.mono (fun _ e => .inr e)⟩
theorem tw_free (h : Tw bp bd bm N s up cm V w) (k : Nat) (hk : k < 2000) (hu : V.used k = true) :
    Calls Try.prog 35 #[.pointer (some ⟨bp, 0, none⟩), .int .i64 k] w fun e w' => e = .returned .nilIface ∧ Tw bp bd bm N s up cm (V.free k) w' ∧ Only (fun b => b = bp ∨ b = bm) w w' := by
  obtain ⟨p, h1, h2, h3, h4, h5, hm⟩ := h.ex
  refine (freep_yes h1 h3 k hk (by rw [hm.used]; exact hu)).mono ?_
  rintro _ w' ⟨rfl, hP, hO⟩
  exact ⟨rfl, ⟨⟨_, hP, h2.free k, h3, h4, h5, hm.free k⟩, Prg.only h.prg hO (fun e => by rcases e with e | e; exact h1.nd h.prg e.symm; exact h1.md h.prg e.symm)⟩, hO⟩
theorem tw_alloc (h : Tw bp bd bm N s up cm V w) (hN : N < 1000000) (k : Nat) (h0 : 0 < k) (hk : k < 2000) (hu : V.used k = false) (hl : ∀ j, 0 < j → j < k → V.used j = true) :
    Calls Try.prog 28 #[.pointer (some ⟨bp, 0, none⟩)] w fun e w' => e = .returned (.tuple #[.int .i64 k, .nilIface]) ∧ Tw bp bd bm (N + 1) s up cm (V.alloc k) w' ∧ Only (fun b => b = bp ∨ b = bm) w w' := by
  obtain ⟨p, h1, h2, h3, h4, h5, hm⟩ := h.ex
  refine (allocp_any h1 hN h3 k h0 hk (by rw [hm.used]; exact hu) (fun j a b => by rw [hm.used]; exact hl j a b)).mono ?_
  rintro _ w' ⟨rfl, hP, hO⟩
  exact ⟨rfl, ⟨⟨_, hP, h2.alloc h0 hk, h3, h4, h5, hm.alloc k⟩, Prg.only h.prg hO (fun e => by rcases e with e | e; exact h1.nd h.prg e.symm; exact h1.md h.prg e.symm)⟩, hO⟩
theorem tw_setRoot (h : Tw bp bd bm N s up cm V w) (i : Nat) (hi : i < 8) (k t : Nat) (hk : k < 2000) (ht : t < 65536) :
    Calls Try.prog 31 #[.pointer (some ⟨bp, 0, none⟩), .int .i64 i, .int .i64 k, .int .i64 t] w fun e w' => e = .returned .nilIface ∧ Tw bp bd bm N s up cm (V.setRoot i k t) w' ∧ Only (fun b => b = bp ∨ b = bm) w w' := by
  obtain ⟨p, h1, h2, h3, h4, h5, hm⟩ := h.ex
  have b1 : inB (k : Int) 2000 = true := by unfold inB; simp; omega
  have b2 : inB (t : Int) 65536 = true := by unfold inB; simp; omega
  refine (setRoot_yes h1.cells h3 i hi k t b1 b2).mono ?_
  rintro _ w' ⟨rfl, hC, hO⟩
  exact ⟨rfl, ⟨⟨_, ⟨hC, h1.own.only hO h1.ne⟩, h2.setRoot i b1 b2, h3, h4, h5, hm.setRoot i k t⟩, Prg.only h.prg hO (fun e => h1.nd h.prg e.symm)⟩, hO.mono (fun _ e => .inl e)⟩
end
end Go.Proofs.Ytjcddeoihjppaaa
namespace Go.Proofs.Ytjcddeoihjppaaa
open Go.RowKit

/-- a pair -/
structure Pr where
  k : ByteArray
  i : ByteArray
def Pr.Ok (x : Pr) : Prop := 1 ≤ x.k.size ∧ x.k.size ≤ 60 ∧ x.i.size ≤ 100
def Pr.sz (x : Pr) : Nat := 2 + x.k.size + x.i.size
def Pr.enc (x : Pr) : List UInt8 := UInt8.ofNat x.k.size :: UInt8.ofNat x.i.size :: (x.k.data.toList ++ x.i.data.toList)
def encL : List Pr → List UInt8
  | [] => []
  | x :: r => x.enc ++ encL r
def szL : List Pr → Nat
  | [] => 0
  | x :: r => x.sz + szL r
theorem Pr.enc_len (x : Pr) : x.enc.length = x.sz := by
  unfold Pr.enc Pr.sz
  simp only [List.length_cons, List.length_append, Array.length_toList]
  show x.k.size + x.i.size + 1 + 1 = _
  omega
theorem encL_len : ∀ l, (encL l).length = szL l
  | [] => rfl
  | x :: r => by rw [encL, szL, List.length_append, Pr.enc_len, encL_len r]
theorem encL_append : ∀ l m, encL (l ++ m) = encL l ++ encL m
  | [], _ => rfl
  | x :: r, m => by rw [List.cons_append, encL, encL, encL_append r m, List.append_assoc]
theorem szL_append : ∀ l m, szL (l ++ m) = szL l + szL m
  | [], m => by rw [List.nil_append, szL, Nat.zero_add]
  | x :: r, m => by rw [List.cons_append, szL, szL, szL_append r m, Nat.add_assoc]
theorem szL_take_le (l : List Pr) (j : Nat) : szL (l.take j) ≤ szL l := by
  conv => rhs; rw [← List.take_append_drop j l, szL_append]
  omega
theorem szL_take_succ {l : List Pr} {j : Nat} (hj : j < l.length) : szL (l.take (j + 1)) = szL (l.take j) + l[j].sz := by
  rw [List.take_succ_eq_append_getElem hj, szL_append]
  rfl
/-- a leaf's text -/
structure Leaf (t : ByteArray) (ps : List Pr) (z : Nat) : Prop where
  data : t.data.toList = encL ps ++ List.replicate z 0
  ok : ∀ x ∈ ps, x.Ok
  small : t.size ≤ 4096
section
variable {t : ByteArray} {ps : List Pr} {z : Nat}
theorem Leaf.size (h : Leaf t ps z) : t.size = szL ps + z := by
  have := congrArg List.length h.data
  rw [List.length_append, encL_len, List.length_replicate, Array.length_toList] at this
  exact this
/-- the bytes from a pair on -/
theorem Leaf.at (h : Leaf t ps z) {j : Nat} (hj : j < ps.length) : t.data.toList.drop (szL (ps.take j)) = ps[j].enc ++ (encL (ps.drop (j + 1)) ++ List.replicate z 0) := by
  rw [h.data]
  have e : encL ps = encL (ps.take j) ++ (ps[j].enc ++ encL (ps.drop (j + 1))) := by
    conv => lhs; rw [← List.take_append_drop j ps, encL_append, List.drop_eq_getElem_cons hj]
    rfl
  rw [e, List.append_assoc, ← encL_len, List.drop_left, List.append_assoc]
theorem getElem_bytes {t : ByteArray} {n : Nat} (hn : n < t.size) : t[n] = t.data.toList[n]'(by rw [Array.length_toList]; exact hn) := by
  rw [Array.getElem_toList]; rfl
theorem get_of_drop {t : ByteArray} {a b : Nat} {l : List UInt8} {x : UInt8} (h : t.data.toList.drop a = l) (hx : l[b]? = some x) (hn : a + b < t.size) : t[a + b] = x := by
  rw [getElem_bytes hn]
  have := congrArg (·[b]?) h
  simp only [List.getElem?_drop] at this
  rw [hx] at this
  rw [List.getElem?_eq_getElem (by rw [Array.length_toList]; exact hn)] at this
  exact Option.some.inj this
theorem Leaf.room (h : Leaf t ps z) {j : Nat} (hj : j < ps.length) : szL (ps.take j) + ps[j].sz ≤ t.size := by
  rw [h.size, ← szL_take_succ hj]
  have := szL_take_le ps (j + 1)
  omega
theorem small_u8 {n : Nat} (h : n ≤ 200) : (UInt8.ofNat n).toNat = n := by
  rw [UInt8.toNat_ofNat']
  exact Nat.mod_eq_of_lt (by omega)
theorem Leaf.key_len (h : Leaf t ps z) {j : Nat} (hj : j < ps.length) (hn : szL (ps.take j) < t.size) : (t[szL (ps.take j)]).toNat = ps[j].k.size := by
  have e := get_of_drop (t := t) (a := szL (ps.take j)) (b := 0) (x := UInt8.ofNat ps[j].k.size) (h.at hj) rfl hn
  have e2 : t[szL (ps.take j)] = UInt8.ofNat ps[j].k.size := e
  rw [e2]
  exact small_u8 (by have := (h.ok _ (List.getElem_mem hj)).2.1; omega)
theorem Leaf.item_len (h : Leaf t ps z) {j : Nat} (hj : j < ps.length) (hn : szL (ps.take j) + 1 < t.size) : (t[szL (ps.take j) + 1]).toNat = ps[j].i.size := by
  rw [get_of_drop (t := t) (a := szL (ps.take j)) (b := 1) (x := UInt8.ofNat ps[j].i.size) (h.at hj) rfl hn]
  exact small_u8 (by have := (h.ok _ (List.getElem_mem hj)).2.2; omega)
theorem extract_of_drop {t : ByteArray} {a b c : Nat} {l m r : List UInt8} (h : t.data.toList.drop a = l ++ (m ++ r)) (hb : b = a + l.length) (hc : c = b + m.length) : t.extract b c = ⟨m.toArray⟩ := by
  apply ByteArray.ext
  apply Array.toList_inj.1
  rw [ByteArray.data_extract, Array.toList_extract, List.extract_eq_take_drop]
  show (t.data.toList.drop b).take (c - b) = m
  have : t.data.toList.drop b = m ++ r := by
    rw [hb, ← List.drop_drop, h, List.drop_left]
  rw [this, show c - b = m.length by omega, List.take_left]
theorem mk_toList (b : ByteArray) : (⟨b.data.toList.toArray⟩ : ByteArray) = b := by cases b; simp
theorem Leaf.key (h : Leaf t ps z) {j : Nat} (hj : j < ps.length) : t.extract (szL (ps.take j) + 2) (szL (ps.take j) + 2 + ps[j].k.size) = ps[j].k := by
  have e := h.at hj
  rw [show ps[j].enc = [UInt8.ofNat ps[j].k.size, UInt8.ofNat ps[j].i.size] ++ (ps[j].k.data.toList ++ ps[j].i.data.toList) from rfl, List.append_assoc, List.append_assoc] at e
  rw [extract_of_drop (b := szL (ps.take j) + 2) e rfl (by rw [Array.length_toList]; rfl), mk_toList]
theorem Leaf.item (h : Leaf t ps z) {j : Nat} (hj : j < ps.length) : t.extract (szL (ps.take j) + 2 + ps[j].k.size) (szL (ps.take j) + 2 + ps[j].k.size + ps[j].i.size) = ps[j].i := by
  have e := h.at hj
  rw [show ps[j].enc = ([UInt8.ofNat ps[j].k.size, UInt8.ofNat ps[j].i.size] ++ ps[j].k.data.toList) ++ ps[j].i.data.toList from rfl, List.append_assoc] at e
  rw [extract_of_drop e (by rw [List.length_append, Array.length_toList]; show _ = _ + (2 + ps[j].k.size); omega) (by rw [Array.length_toList]; rfl), mk_toList]
/-- behind the last pair -/
theorem Leaf.tail (h : Leaf t ps z) (hn : szL ps < t.size) : t[szL ps] = 0 := by
  have e : t.data.toList.drop (szL ps) = List.replicate z 0 := by rw [h.data, ← encL_len, List.drop_left]
  have hz := h.size
  exact get_of_drop (b := 0) (x := 0) e (by rw [List.getElem?_replicate, if_pos (by omega)]) hn
end
end Go.Proofs.Ytjcddeoihjppaaa
namespace Go.Proofs.Ytjcddeoihjppaaa
open Go.RowKit

theorem run_byte (t : ByteArray) (n : Nat) (hn : n < t.size) (b : Nat) (hb : (t[n]).toNat = b) (w : World) : (Instr.index 9 (.string t) (.int .i64 n)).run Try.prog w = .ok (.int .u8 b) w := by
  have h1 : (n : Int) < (t.size : Int) := by omega
  subst hb
  simp [Instr.index, run_underlying Try.underlying9, asIntOf, go_sem, hn]

theorem run_piece (t : ByteArray) (a b : Nat) (h1 : a ≤ b) (h2 : b ≤ t.size) (x y : Int) (hx : x = a) (hy : y = b) (p : ByteArray) (hp : t.extract a b = p) (w : World) : (Instr.slice 9 (.string t) (some (.int .i64 x)) (some (.int .i64 y)) none).run Try.prog w = .ok (.string p) w := by
  subst hx hy
  rw [run_slice_string w 9 t .i64 .i64 a b Try.underlying9 (by omega) (by omega) (by omega)]
  simp [hp]

set_option maxRecDepth 100000 in
set_option maxHeartbeats 4000000 in
theorem each_any {fid : Nat} {caps : Array Value} {t : ByteArray} {ps : List Pr} {z : Nat} (Inv : Nat → World → Prop) (Out : World → Prop) (eg : ∀ args w, (callFunc fid args).run Try.prog w = .ok (.enter fid args) w) (hL : Leaf t ps z) (hdrew : ∀ j w, Inv j w → Inv j w.drew)
    (hcb : ∀ j (hj : j < ps.length) (w : World), Inv j w → Calls Try.prog fid (#[.agg #[.string ps[j].k, .string ps[j].i], .int .i64 (szL (ps.take (j + 1)) : Nat)] ++ caps) w fun e w' => ∃ b, e = .returned (.bool b) ∧ (if b then Inv (j + 1) w' else Out w'))
    (w : World) (h0 : Inv 0 w) :
    Calls Try.prog 83 #[.string t, .func (.func fid) #[] caps] w fun e w' => ∃ b, e = .returned (.bool b) ∧ (if b then Inv ps.length w' else Out w') := by
  have HL : Hid _ := hL
  have HC : Hid _ := hcb
  have HI : Hid (Inv 0 w) := h0
  have hsm := hL.small
  have HSZ : Hid _ := hL.size
  clear hcb h0 hL
  go_enter Try.func83, Try.ntmps83
  go_wp2_with fail
  go_loopw [5] (fun i wr => ∃ k : Nat, k ≤ ps.length ∧ i = .int .i64 (szL (ps.take k) : Nat) ∧ Hid (Inv k wr)) (fun i _ => t.size + 1 - (intOf i).toNat)
  case atStart => exact ⟨0, Nat.zero_le _, rfl, HI⟩
  case round =>
    clear HI
    obtain ⟨k, hk, rfl, HI⟩ := hrel
    by_cases hlt : k < ps.length
    · have r := HL.out.room hlt
      have ok := HL.out.ok _ (List.getElem_mem hlt)
      have kl := HL.out.key_len hlt (by unfold Pr.sz at r; omega)
      have il := HL.out.item_len hlt (by unfold Pr.sz at r; omega)
      have ke := HL.out.key hlt
      have ie := HL.out.item hlt
      have cb := HC.out k hlt
      rw [szL_take_succ hlt] at cb
      have HS : Hid (szL (ps.take (k + 1)) = szL (ps.take k) + ps[k].sz) := szL_take_succ hlt
      unfold Pr.Ok at ok
      obtain ⟨ok1, ok2, ok3⟩ := ok
      have r2 : szL (ps.take k) + (2 + ps[k].k.size + ps[k].i.size) ≤ t.size := r
      have b0 := run_byte t (szL (ps.take k)) (by omega) ps[k].k.size kl
      have b1 : ∀ w, (Instr.index 9 (.string t) (.int .i64 ((szL (ps.take k) : Int) + 1))).run Try.prog w = .ok (.int .u8 ps[k].i.size) w := fun w => run_byte t (szL (ps.take k) + 1) (by omega) ps[k].i.size il w
      have HS : Hid (szL (ps.take (k + 1)) = szL (ps.take k) + (2 + ps[k].k.size + ps[k].i.size)) := HS.out
      have CB : Hid (∀ (w : World), Inv k w → Calls Try.prog fid (#[.agg #[.string ps[k].k, .string ps[k].i], .int .i64 (szL (ps.take k) + (2 + ps[k].k.size + ps[k].i.size) : Nat)] ++ caps) w fun e w' => ∃ b, e = .returned (.bool b) ∧ (if b then Inv (k + 1) w' else Out w')) := cb
      clear kl il r cb
      generalize ps[k].k = xk at *
      generalize ps[k].i = xi at *
      generalize szL (ps.take k) = at0 at *
      have s0 := run_piece t (at0 + 2) (at0 + 2 + xk.size) (by omega) (by omega) ((at0 : Int) + 2) ((at0 : Int) + 2 + (xk.size : Int)) (by omega) (by omega) xk ke
      have s1 := run_piece t (at0 + 2 + xk.size) (at0 + 2 + xk.size + xi.size) (by omega) (by omega) ((at0 : Int) + 2 + (xk.size : Int)) ((at0 : Int) + 2 + (xk.size : Int) + (xi.size : Int)) (by omega) (by omega) xi ie
      have hcst : Hid (((at0 + (2 + xk.size + xi.size) : Nat) : Int) = (at0 : Int) + 2 + (xk.size : Int) + (xi.size : Int)) := by show _ = _; omega
      rw [hcst.out] at CB
      clear ie ke
      go_wp2_with fail
      have HI : Hid (Inv k wr.drew) := hdrew _ _ HI.out
      have hw2 : IntKind.i64.wrap ((at0 : Int) + 2) = (at0 : Int) + 2 := by simp [IntKind.wrap, IntKind.signed, IntKind.bits]; omega
      go_region_held3 (fun _ => True) (exact trivial) (first | (refine (CB.out _ HI.out).mono ?_; rintro _ w2 ⟨b, rfl, h2⟩; have H2 : Hid (if b then Inv (k + 1) w2 else Out w2) := h2; clear h2))
      cases b
      · go_wp2
        go_ret
        exact ⟨false, rfl, H2.out⟩
      · go_wp2_with fail
        go_roundw
        case rel => exact ⟨k + 1, by omega, by rw [HS.out, ← hcst.out], H2.out⟩
        case measure => simp [intOf]; omega
    · obtain rfl : k = ps.length := by omega
      have e1 : szL (ps.take ps.length) = szL ps := by rw [List.take_length]
      rw [e1]
      have hsz := HSZ.out
      by_cases h2 : szL ps + 2 ≤ t.size
      · have b0 := run_byte t (szL ps) (by omega) 0 (by rw [HL.out.tail (by omega)]; rfl)
        clear hsz
        have h3 : (szL ps : Int) + 2 ≤ (t.size : Int) := by omega
        have h4 : (szL ps : Int) < 5000 := by omega
        go_wp2
        go_ret
        first | exact ⟨true, rfl, HI.out⟩ | exact .inr ⟨rfl, HI.out⟩
      · have h3 : ¬ (szL ps : Int) + 2 ≤ (t.size : Int) := by omega
        have h4 : (szL ps : Int) < 5000 := by omega
        clear hsz
        go_wp2
        go_ret
        first | exact ⟨true, rfl, HI.out⟩ | exact .inr ⟨rfl, HI.out⟩
end Go.Proofs.Ytjcddeoihjppaaa
