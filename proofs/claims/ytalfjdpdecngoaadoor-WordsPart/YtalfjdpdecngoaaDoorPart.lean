/- WordsPart, walked. -/
import Derived.Test.YtalfjdpdecngoaaDoorPartA
namespace Go.Proofs.YtalfjdpdecngoaaDoor
open Go.RowKit

/-- what may stand between two texts -/
def Gap (m : ByteArray) : Prop := m.size ≤ 2 ∧ ∀ a b : ByteArray, wordsL (a ++ m ++ b).data.toList = wordsL a.data.toList ++ wordsL b.data.toList

theorem gap1 (c : UInt8) (hc : isL c = false) : Gap ⟨#[c]⟩ := by
  refine ⟨by show (#[c] : Array UInt8).size ≤ 2; simp, fun a b => ?_⟩
  simp only [ByteArray.data_append, Array.toList_append]
  exact words_sep1 c hc _ _
theorem gap2 (c d : UInt8) (hc : isL c = false) (hd : isL d = false) : Gap ⟨#[c, d]⟩ := by
  refine ⟨by show (#[c, d] : Array UInt8).size ≤ 2; simp, fun a b => ?_⟩
  simp only [ByteArray.data_append, Array.toList_append]
  exact words_sep2 c d hc hd _ _

def gapCells : Array Value := #[.string ⟨#[32]⟩, .string ⟨#[45]⟩, .string ⟨#[10]⟩, .string ⟨#[46, 32]⟩, .string ⟨#[40, 41]⟩]

theorem gap_at (k : Nat) (hk : k < 5) (w : World) : ∃ m, Gap m ∧ (w.alloc (.cells #[.string ⟨#[32]⟩, .string ⟨#[45]⟩, .string ⟨#[10]⟩, .string ⟨#[46, 32]⟩, .string ⟨#[40, 41]⟩] 9)).cell? ⟨w.heap.size, k, none⟩ = some (.string m) := by
  have h : k = 0 ∨ k = 1 ∨ k = 2 ∨ k = 3 ∨ k = 4 := by omega
  rcases h with rfl | rfl | rfl | rfl | rfl
  · exact ⟨_, gap1 32 (by decide), by simp⟩
  · exact ⟨_, gap1 45 (by decide), by simp⟩
  · exact ⟨_, gap1 10 (by decide), by simp⟩
  · exact ⟨_, gap2 46 32 (by decide) (by decide), by simp⟩
  · exact ⟨_, gap2 40 41 (by decide) (by decide), by simp⟩

/-- what is known of a world in a round -/
def PE (w w0 : World) (b o : Nat) (x : ByteArray) (wx : World) : Prop := wx.cell? ⟨b, o, none⟩ = some (.string x) ∧ b < w0.heap.size ∧ Below w.heap.size w wx ∧ Below w0.heap.size w0 wx
theorem PE.step {w w0 wx wy : World} {b o : Nat} {x : ByteArray} (h : PE w w0 b o x wx) (hb : Below wx.heap.size wx wy) : PE w w0 b o x wy :=
  ⟨by rw [hb.cell (p := ⟨b, o, none⟩) (Nat.lt_of_lt_of_le h.2.1 h.2.2.2.size)]; exact h.1, h.2.1, h.2.2.1.trans (hb.mono h.2.2.1.size), h.2.2.2.trans (hb.mono h.2.2.2.size)⟩
theorem PE.drew {w w0 wx : World} {b o : Nat} {x : ByteArray} (h : PE w w0 b o x wx) : PE w w0 b o x wx.drew := h.step (Below.refl _ _).drew
theorem small_as (x : ByteArray) (hx : smallS x = x) (w : World) (hs : x.size ≤ 1000000) : Calls Tryd.prog 6 #[.string x] w fun e w' => e = .returned (.string x) ∧ Below w.heap.size w w' := by
  have := small_any x w hs
  rw [hx] at this
  exact this
theorem split_one (x : ByteArray) (w : World) (hs : x.size ≤ 900000) (h1 : (wordsL x.data.toList).length = 1) (he : EndsAt w) :
    Calls Tryd.prog 11 #[.string x] w fun e w' => ∃ a c, e = .returned (.slice a 1 c) ∧ Below w.heap.size w w' := by
  refine (split_any x w hs he).mono ?_
  rintro e w' ⟨v, rfl, ho, hb⟩
  obtain ⟨a, c, rfl, _⟩ := row_of_own ho (by omega)
  exact ⟨a, c, by rw [h1], hb⟩

set_option maxRecDepth 100000 in
set_option maxHeartbeats 4000000 in
theorem part_walk (a b : ByteArray) (g : Int) (w : World) (ha : a.size ≤ maxLen) (hb : b.size ≤ maxLen) (he : EndsAt w) :
    Calls Tryd.prog 4 #[.string a, .string b, .int .i64 g] w fun e w' => e = .returned (.bool true) ∧ Below w.heap.size w w' := by
  unfold maxLen at ha hb
  obtain ⟨i0, hi, hz0, hz1, hz2⟩ := info_parts info9
  have HE : Hid (EndsAt w) := he
  clear he
  by_cases h1 : a.size ≤ 600
  case neg =>
    have d1 : decide ((600 : Int) < (a.size : Int)) = true := by simp; omega
    go_enter Tryd.func4, Tryd.ntmps4
    go_wp2
    go_ret
    exact ⟨by simp, Below.refl _ _⟩
  by_cases h2 : b.size ≤ 600
  case neg =>
    have d1 : decide ((600 : Int) < (a.size : Int)) = false := by simp; omega
    have d2 : decide ((600 : Int) < (b.size : Int)) = true := by simp; omega
    go_enter Tryd.func4, Tryd.ntmps4
    go_wp2
    go_ret
    exact ⟨by simp, Below.refl _ _⟩
  by_cases h3 : a.size + b.size ≤ 600
  case neg =>
    have d1 : decide ((600 : Int) < (a.size : Int)) = false := by simp; omega
    have d2 : decide ((600 : Int) < (b.size : Int)) = false := by simp; omega
    have d3 : decide ((600 : Int) < (a.size : Int) + (b.size : Int)) = true := by simp; omega
    go_enter Tryd.func4, Tryd.ntmps4
    go_wp2
    go_ret
    exact ⟨by simp, Below.refl _ _⟩
  have d1 : decide ((600 : Int) < (a.size : Int)) = false := by simp; omega
  have d2 : decide ((600 : Int) < (b.size : Int)) = false := by simp; omega
  have d3 : decide ((600 : Int) < (a.size : Int) + (b.size : Int)) = false := by simp; omega
  obtain ⟨xa, hxa⟩ : ∃ x, wordsL a.data.toList = x := ⟨_, rfl⟩
  obtain ⟨xb, hxb⟩ : ∃ x, wordsL b.data.toList = x := ⟨_, rfl⟩
  have HXA : Hid (wordsL a.data.toList = xa) := hxa
  have HXB : Hid (wordsL b.data.toList = xb) := hxb
  have HMA : Hid (xa.length ≤ 700) := by show _ ≤ _; have := words_length a.data.toList; rw [ba_len, hxa] at this; omega
  have HMB : Hid (xb.length ≤ 700) := by show _ ≤ _; have := words_length b.data.toList; rw [ba_len, hxb] at this; omega
  obtain ⟨xc, hxc⟩ : ∃ x, xa ++ xb = x := ⟨_, rfl⟩
  have HXC : Hid (xa ++ xb = xc) := hxc
  have HMC : Hid (xc.length ≤ 1400) := by show _ ≤ _; have := HMA.out; have := HMB.out; rw [← hxc, List.length_append]; omega
  clear hxa hxb hxc
  go_enter Tryd.func4, Tryd.ntmps4
  go_wp2_with fail
  refine (worded_any w HE.out).mono ?_
  rintro _ w1 ⟨rfl, hb1⟩
  have HB1 : Hid (Below w.heap.size w w1) := hb1
  clear hb1
  go_wp2_with fail
  refine (split_any a w1 (by omega) (HE.out.below HB1.out)).mono ?_
  rintro _ w2 ⟨v2, rfl, ho2, hb2⟩
  rw [HXA.out] at ho2
  have HB2 : Hid (Below w.heap.size w w2) := HB1.out.trans (hb2.mono HB1.out.size)
  obtain ⟨a2, c2, rfl, hr2, hn2⟩ := row_of_own ho2 (by have := HMA.out; omega)
  have HR2 : Hid (RowS w2 a2 xa.length xa) := hr2
  have HN2 : Hid (a2 = none → c2 = 0) := hn2
  clear hb2 HB1 ho2 hr2 hn2
  go_wp2_with fail
  refine (split_any b w2 (by omega) (HE.out.below HB2.out)).mono ?_
  rintro _ w3 ⟨v3, rfl, ho3, hb3⟩
  rw [HXB.out] at ho3
  have HB3 : Hid (Below w.heap.size w w3) := HB2.out.trans (hb3.mono HB2.out.size)
  obtain ⟨a3, c3, rfl, hr3, hn3⟩ := row_of_own ho3 (by have := HMB.out; omega)
  have HR3 : Hid (RowS w3 a3 xb.length xb) := hr3
  have HN3 : Hid (a3 = none → c3 = 0) := hn3
  have HR2' : Hid (RowS w3 a2 xa.length xa) := RowS.below HR2.out hb3
  clear hb3 HB2 ho3 hr3 HR2 hn3
  have HO0 : Hid ((w3.alloc (.cells #[] 9)).ownsRow w3.heap.size 9 1 (.slice (some ⟨w3.heap.size, 0, none⟩) 0 0) ([] : List ByteArray).length (sc [])) :=
    ⟨rfl, .inr ⟨w3.heap.size, 0, #[], rfl, Nat.le_refl _, heap_alloc_new w3 _, Nat.le_refl _, Nat.zero_le _, rfl, rfl⟩⟩
  have HA3 : Hid (Below w3.heap.size w3 (w3.alloc (.cells #[] 9))) := (Below.refl _ _).alloc (Nat.le_refl _) _
  have HR2a : Hid (RowS (w3.alloc (.cells #[] 9)) a2 xa.length xa) := RowS.below HR2'.out HA3.out
  go_wp2_with (at_builtin; refine wpList_append_row rfl _ _ rfl rfl w3.heap.size _ [] rfl HO0.out ?c1 a2 c2 xa rfl HR2a.out HN2.out ?c3 ?_)
  case c1 => simp
  case c3 => have := HMA.out; simp; omega
  intro v4 w4 ho4 hb4
  have HB4 : Hid (Below w3.heap.size w3 w4) := HA3.out.trans hb4
  have HO4 : Hid (w4.ownsRow w3.heap.size 9 1 v4 xa.length (sc xa)) := ho4
  have HR3a : Hid (RowS w4 a3 xb.length xb) := RowS.below HR3.out HB4.out
  clear HO0 HA3 HR2a ho4 hb4
  go_wp2_with (at_builtin; refine wpList_append_row rfl _ _ rfl rfl w3.heap.size _ xa rfl HO4.out ?c4 a3 c3 xb rfl HR3a.out HN3.out ?c5 ?_)
  case c4 => exact HB4.out.size
  case c5 => have := HMA.out; have := HMB.out; omega
  intro v5 w5 ho5 hb5
  have HB5 : Hid (Below w3.heap.size w3 w5) := HB4.out.trans hb5
  have ho5' : w5.ownsRow w3.heap.size 9 1 v5 xc.length (sc xc) := own_eq ho5 (by rw [← HXC.out, List.length_append]) (by rw [HXC.out])
  clear ho5
  obtain ⟨a5, c5, rfl, hr5, _⟩ := row_of_own ho5' (by have := HMC.out; omega)
  have HR5 : Hid (RowS w5 a5 xc.length xc) := hr5
  clear ho5' hb5 hr5 HB4 HO4 HR3a HR3 HN2 HN3
  have HRX : Hid (RowS w5 a2 xa.length xa) := RowS.below HR2'.out HB5.out
  have HW5 : Hid (Below w.heap.size w w5) := HB3.out.trans (HB5.out.mono HB3.out.size)
  clear HR2' HB3 HB5
  go_wp2_with fail
  refine (pick_any g _).mono ?_
  rintro _ _ ⟨⟨k, hk, rfl⟩, rfl⟩
  obtain ⟨m, hgap, hcell⟩ := gap_at k hk w5
  have HG : Hid (Gap m) := hgap
  have hms : m.size ≤ 2 := hgap.1
  clear hgap
  have HA6 : Hid (Below w5.heap.size w5 (w5.alloc (.cells #[.string ⟨#[32]⟩, .string ⟨#[45]⟩, .string ⟨#[10]⟩, .string ⟨#[46, 32]⟩, .string ⟨#[40, 41]⟩] 9))) := (Below.refl _ _).alloc (Nat.le_refl _) _
  have hk5 : (k : Int) < 5 := by omega
  obtain ⟨w6, hw6⟩ : ∃ w6, w5.alloc (.cells #[.string ⟨#[32]⟩, .string ⟨#[45]⟩, .string ⟨#[10]⟩, .string ⟨#[46, 32]⟩, .string ⟨#[40, 41]⟩] 9) = w6 := ⟨_, rfl⟩
  rw [hw6] at hcell HA6 ⊢
  clear hw6
  have HW6 : Hid (Below w.heap.size w w6) := HW5.out.trans (HA6.out.mono HW5.out.size)
  have HR6 : Hid (RowS w6 a5 xc.length xc) := RowS.below HR5.out HA6.out
  have HX6 : Hid (RowS w6 a2 xa.length xa) := RowS.below HRX.out HA6.out
  clear HR5 HRX HA6 HW5
  go_wp2_with fail
  clear hcell
  refine (split_any (a ++ m ++ b) w6 (by simp [ByteArray.size_append]; omega) (HE.out.below HW6.out)).mono ?_
  rintro _ w7 ⟨v7, rfl, ho7, hb7⟩
  rw [HG.out.2, HXA.out, HXB.out, HXC.out] at ho7
  obtain ⟨a7, c7, rfl, hr7, _⟩ := row_of_own ho7 (by have := HMC.out; omega)
  have HR7 : Hid (RowS w7 a7 xc.length xc) := hr7
  have HR6' : Hid (RowS w7 a5 xc.length xc) := RowS.below HR6.out hb7
  have HX7 : Hid (RowS w7 a2 xa.length xa) := RowS.below HX6.out hb7
  have HW7 : Hid (Below w.heap.size w w7) := HW6.out.trans (hb7.mono HW6.out.size)
  clear ho7 hb7 hr7 HR6 HX6 HW6
  go_wp2_with fail
  refine (same15 a7 a5 _ _ c7 c5 xc w7 HR7.out HR6'.out).mono ?_
  rintro _ w8 ⟨rfl, hb8⟩
  have HX8 : Hid (RowS w8 a2 xa.length xa) := RowS.below HX7.out hb8
  have HW8 : Hid (Below w.heap.size w w8) := HW7.out.trans (hb8.mono HW7.out.size)
  clear hb8 HR7 HR6' HX7 HW7
  go_wp2_with fail
  refine (small_any a w8 (by omega)).mono ?_
  rintro _ w9 ⟨rfl, hb9⟩
  have HX9 : Hid (RowS w9 a2 xa.length xa) := RowS.below HX8.out hb9
  have HW9 : Hid (Below w.heap.size w w9) := HW8.out.trans (hb9.mono HW8.out.size)
  clear hb9 HX8 HW8
  go_wp2_with fail
  refine (split_any (smallS a) w9 (by rw [smallS_size]; omega) (HE.out.below HW9.out)).mono ?_
  rintro _ w10 ⟨v10, rfl, ho10, hb10⟩
  have e10 : wordsL (smallS a).data.toList = xa := by
    have : (smallS a).data.toList = smallL a.data.toList := by simp [smallS]
    rw [this, words_small, HXA.out]
  rw [e10] at ho10
  obtain ⟨a10, c10, rfl, hr10, _⟩ := row_of_own ho10 (by have := HMA.out; omega)
  have HR10 : Hid (RowS w10 a10 xa.length xa) := hr10
  have HX10 : Hid (RowS w10 a2 xa.length xa) := RowS.below HX9.out hb10
  have HW10 : Hid (Below w.heap.size w w10) := HW9.out.trans (hb10.mono HW9.out.size)
  clear ho10 hb10 hr10 HX9 HW9 e10
  go_wp2_with fail
  refine (same15 a10 a2 _ _ c10 c2 xa w10 HR10.out HX10.out).mono ?_
  rintro _ w11 ⟨rfl, hb11⟩
  have HX11 : Hid (RowS w11 a2 xa.length xa) := RowS.below HX10.out hb11
  have HW11 : Hid (Below w.heap.size w w11) := HW10.out.trans (hb11.mono HW10.out.size)
  clear hb11 HR10 HX10 HW10
  go_wp2
  have HGW : Hid (∀ x ∈ xa, Good x.data.toList ∧ x.size ≠ 0 ∧ x.size ≤ 12) := by
    intro x hx
    rw [← HXA.out] at hx
    exact good_words _ x hx
  have hm700 := HMA.out
  clear HXA HXB HXC HMB HMC HG
  go_loopw [11] (fun i wr => ∃ k : Nat, k ≤ xa.length ∧ i = .int .i64 k ∧ Hid (Below w.heap.size w wr ∧ Below w11.heap.size w11 wr)) (fun i _ => xa.length - (intOf i).toNat)
  case atStart => exact ⟨0, Nat.zero_le _, rfl, HW11.out, Below.refl _ _⟩
  case round =>
    obtain ⟨k, hk, rfl, hbl⟩ := hrel
    by_cases hlt : k < xa.length
    · rcases HX11.out.2.2 with hx | ⟨bx, off, rfl, hbx, hrow⟩
      · simp [hx] at hlt
      obtain ⟨q1, q2, q3⟩ := HGW.out xa[k] (List.getElem_mem hlt)
      have PEH : Hid (PE w w11 bx (off + k) xa[k] wr) := ⟨by rw [hbl.out.2.cell (p := ⟨bx, _, none⟩) hbx]; exact hrow k hlt, hbx, hbl.out.1, hbl.out.2⟩
      clear hrow hbl HX11
      obtain ⟨x, hx⟩ : ∃ x, xa[k] = x := ⟨_, rfl⟩
      rw [hx] at PEH q1 q2 q3
      clear hx
      have HQ1 : Hid (smallS x = x ∧ (wordsL x.data.toList).length = 1) := ⟨good_small x q1, good_one x q1 q2⟩
      clear q1
      have i1 : (k : Int) < (xa.length : Int) := by omega
      have j1 : ((x.size : Int) == 0) = false := by simpa using q2
      have j2 : decide ((12 : Int) < (x.size : Int)) = false := by simp; omega
      go_wp2_with fail
      have PEH : Hid _ := PE.drew PEH.out
      go_region_held3 (fun w' => w'.cell? ⟨bx, off + k, none⟩ = some (.string x)) (exact PEH.out.1)
        (first
          | (go_at_call 6; refine Calls.mono (small_as x HQ1.out.1 _ (by omega)) ?_; rintro _ w12 ⟨rfl, hb12⟩; have PEH : Hid _ := PE.step PEH.out hb12; clear hb12)
          | (go_at_call 11; refine Calls.mono (split_one x _ (by omega) HQ1.out.2 (HE.out.below PEH.out.2.2.1)) ?_; rintro _ w13 ⟨a13, c13, rfl, hb13⟩; have PEH : Hid _ := PE.step PEH.out hb13; clear hb13))
      go_wp2
      go_roundw
      case rel => exact ⟨k + 1, by omega, by go_num, PEH.out.2.2.1, PEH.out.2.2.2⟩
      case measure => simp [intOf]; omega
    · go_wp2
      go_ret
      exact ⟨rfl, hbl.out.1⟩
end Go.Proofs.YtalfjdpdecngoaaDoor
