/- Part 37 of 39. -/
import Derived.Test.YtbdcbaamjkjhaaaGreatDoorG36
namespace Go.Proofs.YtbdcbaamjkjhaaaGreatDoor
open Go.RowKit

/-- what stands in a statement's cells -/
structure Sc (sv : SV) (st : Stm) (b : Nat) (w : World) : Prop where
  blk : Blk b sv.cells 30 w
  ps : PS sv st w
  lt : b < w.heap.size
theorem Sc.below {sv : SV} {st : Stm} {b : Nat} {w w' : World} (h : Sc sv st b w) (hb : Below w.heap.size w w') : Sc sv st b w' := ⟨h.blk.below hb, h.ps.below hb, Nat.lt_of_lt_of_le h.lt hb.size⟩
set_option maxRecDepth 100000 in
set_option maxHeartbeats 8000000 in
theorem parseBack_any (s : ByteArray) (w : World) (h : BAt w) (hs : s.size ≤ maxLen) : Calls Tryz.prog 3 #[.string s] w fun e w' => e = .returned (.bool true) ∧ Below w.heap.size w w' := by
  unfold maxLen at hs
  by_cases hl : 1000 < s.size
  · have d1 : decide ((1000 : Int) < (s.size : Int)) = true := decide_eq_true (by omega)
    clear hl
    go_enter Tryz.func3, Tryz.ntmps3
    go_wp2
    go_ret
    exact ⟨rfl, Below.refl _ _⟩
  have d1 : decide ((1000 : Int) < (s.size : Int)) = false := decide_eq_false (by omega)
  have HS : Hid (s.size ≤ 1000) := by show _ ≤ _; omega
  have H : Hid (BAt w) := h
  clear hl hs h
  go_enter Tryz.func3, Tryz.ntmps3
  go_wp2_with fail
  refine (parsed_any w H.out).mono ?_
  rintro _ w1 ⟨rfl, hb⟩
  have H1 : Hid (BAt w1 ∧ Below w.heap.size w w1) := ⟨H.out.below hb, hb⟩
  clear hb
  go_wp2_with fail
  refine (parse_any s w1 (by have := HS.out; omega) H1.out.1.pa).mono ?_
  rintro _ w2 ⟨hb, sv, E, rfl, ⟨st, hp, rfl, hv⟩ | ⟨hn, rfl, t9, v9, rfl⟩⟩
  rotate_left
  · have H2 : Hid (Below w.heap.size w w2) := H1.out.2.trans (hb.mono H1.out.2.size)
    clear hb hn
    obtain ⟨V, hV⟩ : ∃ V, (w2.alloc (.cells #[.int .i64 0, .string ⟨#[]⟩, .string ⟨#[]⟩, .slice none 0 0, .string ⟨#[]⟩, .slice none 0 0, .slice none 0 0, .pointer none, .pointer none, .slice none 0 0, .pointer none, .slice none 0 0, .int .i64 0] 30)).setCells w2.heap.size 0 svZ.cells.toList = V := ⟨_, rfl⟩
    have hkA : Blk w2.heap.size svZ.cells 30 (w2.alloc (.cells #[.int .i64 0, .string ⟨#[]⟩, .string ⟨#[]⟩, .slice none 0 0, .string ⟨#[]⟩, .slice none 0 0, .slice none 0 0, .pointer none, .pointer none, .slice none 0 0, .pointer none, .slice none 0 0, .int .i64 0] 30)) := Blk.new _ _ _
    have HKA : Hid (Blk w2.heap.size svZ.cells 30 (w2.alloc (.cells #[.int .i64 0, .string ⟨#[]⟩, .string ⟨#[]⟩, .slice none 0 0, .string ⟨#[]⟩, .slice none 0 0, .slice none 0 0, .pointer none, .pointer none, .slice none 0 0, .pointer none, .slice none 0 0, .int .i64 0] 30))) := hkA
    have HVb : Hid (Below w.heap.size w V) := H2.out.trans (by rw [← hV]; exact (stored_below w2 svZ).mono H2.out.size)
    clear hkA
    go_wp2_with (refine wpList_store_mid rfl 30 _ _ rfl _ 0 svZ.cells rfl rfl (HKA.out.there rfl) (s30 _) svZ_rows.one ?_; rw [hV])
    go_ret
    exact ⟨rfl, HVb.out⟩
  · have HW : Hid (Wrt st) := read_ok HS.out hp
    obtain ⟨V, hV⟩ : ∃ V, (w2.alloc (.cells #[.int .i64 0, .string ⟨#[]⟩, .string ⟨#[]⟩, .slice none 0 0, .string ⟨#[]⟩, .slice none 0 0, .slice none 0 0, .pointer none, .pointer none, .slice none 0 0, .pointer none, .slice none 0 0, .int .i64 0] 30)).setCells w2.heap.size 0 sv.cells.toList = V := ⟨_, rfl⟩
    have hkA : Blk w2.heap.size svZ.cells 30 (w2.alloc (.cells #[.int .i64 0, .string ⟨#[]⟩, .string ⟨#[]⟩, .slice none 0 0, .string ⟨#[]⟩, .slice none 0 0, .slice none 0 0, .pointer none, .pointer none, .slice none 0 0, .pointer none, .slice none 0 0, .int .i64 0] 30)) := Blk.new _ _ _
    have hbV : Below w2.heap.size w2 V := by rw [← hV]; exact stored_below w2 sv
    have HKA : Hid (Blk w2.heap.size svZ.cells 30 (w2.alloc (.cells #[.int .i64 0, .string ⟨#[]⟩, .string ⟨#[]⟩, .slice none 0 0, .string ⟨#[]⟩, .slice none 0 0, .slice none 0 0, .pointer none, .pointer none, .slice none 0 0, .pointer none, .slice none 0 0, .int .i64 0] 30)) ∧ sv.Rows) := ⟨hkA, hv.rowsOk⟩
    have hk : Blk w2.heap.size sv.cells 30 V := by rw [← hV]; exact hkA.stored
    have HV : Hid (Sc sv st w2.heap.size V ∧ BAt V ∧ Below w.heap.size w V) := ⟨⟨hk, (PS.of hv).below hbV, (Array.getElem?_eq_some_iff.1 hk).1⟩, (H1.out.1.below hb).below hbV, (H1.out.2.trans (hb.mono H1.out.2.size)).trans (hbV.mono (Nat.le_trans H1.out.2.size hb.size))⟩
    clear hb hp hv hkA hbV hk
    go_wp2_with (first | (refine wpList_store_mid rfl 30 _ _ rfl _ 0 sv.cells rfl rfl (HKA.out.1.there rfl) (s30 _) HKA.out.2.one ?_; rw [hV]) | (refine wpList_load_want (by rfl) 30 _ rfl _ 0 rfl sv.cells.toList _ HV.out.1.blk.range Tryz.underlying30 rfl (s30 sv) ?_))
    clear HKA hV
    refine (print_any st HW.out.k1 HW.out.k10 HW.out.ok HW.out.ne (Nat.le_trans HW.out.len (by decide)) sv V HV.out.2.1.g HV.out.1.ps.sb).mono ?_
    rintro _ w3 ⟨rfl, hb⟩
    have H3 : Hid (Sc sv st w2.heap.size w3 ∧ BAt w3 ∧ Below w.heap.size w w3) := ⟨HV.out.1.below hb, HV.out.2.1.below hb, HV.out.2.2.trans (hb.mono HV.out.2.2.size)⟩
    clear hb HV
    obtain ⟨t, ht⟩ : ∃ t : ByteArray, (⟨(stT st).toArray⟩ : ByteArray) = t := ⟨_, rfl⟩
    have HT : Hid ((⟨(stT st).toArray⟩ : ByteArray) = t ∧ t.size ≤ 4000 ∧ parseS t = some st) := by
      refine ⟨ht, ?_, ?_⟩
      · rw [← ht, ← ba_len]; have := HW.out.len; show (stT st).length ≤ _; omega
      · rw [← ht]; exact HW.out.again
    rw [ht]
    clear ht
    go_wp2_with fail
    refine (parse_any t w3 HT.out.2.1 H3.out.2.1.pa).mono ?_
    rintro _ w4 ⟨hb, sv2, E, rfl, ⟨st2, hp, rfl, hv⟩ | ⟨hn, _⟩⟩
    rotate_left
    · rw [HT.out.2.2] at hn; cases hn
    obtain rfl : st2 = st := by rw [HT.out.2.2] at hp; exact (Option.some.inj hp).symm
    obtain ⟨U, hU⟩ : ∃ V, (w4.alloc (.cells #[.int .i64 0, .string ⟨#[]⟩, .string ⟨#[]⟩, .slice none 0 0, .string ⟨#[]⟩, .slice none 0 0, .slice none 0 0, .pointer none, .pointer none, .slice none 0 0, .pointer none, .slice none 0 0, .int .i64 0] 30)).setCells w4.heap.size 0 sv2.cells.toList = V := ⟨_, rfl⟩
    have hkA : Blk w4.heap.size svZ.cells 30 (w4.alloc (.cells #[.int .i64 0, .string ⟨#[]⟩, .string ⟨#[]⟩, .slice none 0 0, .string ⟨#[]⟩, .slice none 0 0, .slice none 0 0, .pointer none, .pointer none, .slice none 0 0, .pointer none, .slice none 0 0, .int .i64 0] 30)) := Blk.new _ _ _
    have hbV : Below w4.heap.size w4 U := by rw [← hU]; exact stored_below w4 sv2
    have HKA : Hid (Blk w4.heap.size svZ.cells 30 (w4.alloc (.cells #[.int .i64 0, .string ⟨#[]⟩, .string ⟨#[]⟩, .slice none 0 0, .string ⟨#[]⟩, .slice none 0 0, .slice none 0 0, .pointer none, .pointer none, .slice none 0 0, .pointer none, .slice none 0 0, .int .i64 0] 30)) ∧ sv2.Rows) := ⟨hkA, hv.rowsOk⟩
    have hk : Blk w4.heap.size sv2.cells 30 U := by rw [← hU]; exact hkA.stored
    have HU : Hid (Sc sv2 st2 w4.heap.size U ∧ Sc sv st2 w2.heap.size U ∧ BAt U ∧ Below w.heap.size w U) := ⟨⟨hk, (PS.of hv).below hbV, (Array.getElem?_eq_some_iff.1 hk).1⟩, (H3.out.1.below hb).below hbV, (H3.out.2.1.below hb).below hbV, (H3.out.2.2.trans (hb.mono H3.out.2.2.size)).trans (hbV.mono (Nat.le_trans H3.out.2.2.size hb.size))⟩
    clear hb hp hv hkA hbV hk H3
    go_wp2_with (first | (refine wpList_store_mid rfl 30 _ _ rfl _ 0 sv2.cells rfl rfl (HKA.out.1.there rfl) (s30 _) HKA.out.2.one ?_; rw [hU]) | (refine wpList_load_want (by rfl) 30 _ rfl _ 0 rfl sv2.cells.toList _ HU.out.1.blk.range Tryz.underlying30 rfl (s30 sv2) ?_))
    clear HKA hU
    have hp := print_any st2 HW.out.k1 HW.out.k10 HW.out.ok HW.out.ne (Nat.le_trans HW.out.len (by decide)) sv2 U HU.out.2.2.1.g HU.out.1.ps.sb
    rw [HT.out.1] at hp
    refine hp.mono ?_
    clear hp
    rintro _ w5 ⟨rfl, hb⟩
    have H5 : Hid (Sc sv2 st2 w4.heap.size w5 ∧ Sc sv st2 w2.heap.size w5 ∧ Below w.heap.size w w5) := ⟨HU.out.1.below hb, HU.out.2.1.below hb, HU.out.2.2.2.trans (hb.mono HU.out.2.2.2.size)⟩
    clear hb HU
    have w5xz8 : w5.cell? ⟨w2.heap.size, 8, none⟩ = some (.pointer sv.wh) := by rw [H5.out.2.1.blk.cell 8]; rfl
    have w5yz8 : w5.cell? ⟨w4.heap.size, 8, none⟩ = some (.pointer sv2.wh) := by rw [H5.out.1.blk.cell 8]; rfl
    go_wp2_with fail
    refine (sameExpr_any st2.wh w5 sv.wh sv2.wh H5.out.2.1.ps.wh H5.out.1.ps.wh).mono ?_
    rintro _ _ ⟨rfl, mw6, rfl⟩
    have hb := below_drewN (Below.refl w5.heap.size w5) mw6
    obtain ⟨w6, hw6⟩ : ∃ u, w5.drewN mw6 = u := ⟨_, rfl⟩
    rw [hw6] at hb ⊢
    have H6 : Hid (Sc sv2 st2 w4.heap.size w6 ∧ Sc sv st2 w2.heap.size w6 ∧ Below w.heap.size w w6) := ⟨H5.out.1.below hb, H5.out.2.1.below hb, H5.out.2.2.trans (hb.mono H5.out.2.2.size)⟩
    clear hb hw6
    have w6xz7 : w6.cell? ⟨w2.heap.size, 7, none⟩ = some (.pointer sv.on) := by rw [H6.out.2.1.blk.cell 7]; rfl
    have w6yz7 : w6.cell? ⟨w4.heap.size, 7, none⟩ = some (.pointer sv2.on) := by rw [H6.out.1.blk.cell 7]; rfl
    go_wp2_with fail
    refine (sameExpr_any st2.on w6 sv.on sv2.on H6.out.2.1.ps.on H6.out.1.ps.on).mono ?_
    rintro _ _ ⟨rfl, mw7, rfl⟩
    have hb := below_drewN (Below.refl w6.heap.size w6) mw7
    obtain ⟨w7, hw7⟩ : ∃ u, w6.drewN mw7 = u := ⟨_, rfl⟩
    rw [hw7] at hb ⊢
    have H7 : Hid (Sc sv2 st2 w4.heap.size w7 ∧ Sc sv st2 w2.heap.size w7 ∧ Below w.heap.size w w7) := ⟨H6.out.1.below hb, H6.out.2.1.below hb, H6.out.2.2.trans (hb.mono H6.out.2.2.size)⟩
    clear hb hw7
    have w7xz10 : w7.cell? ⟨w2.heap.size, 10, none⟩ = some (.pointer sv.grp) := by rw [H7.out.2.1.blk.cell 10]; rfl
    have w7yz10 : w7.cell? ⟨w4.heap.size, 10, none⟩ = some (.pointer sv2.grp) := by rw [H7.out.1.blk.cell 10]; rfl
    go_wp2_with fail
    refine (sameExpr_any st2.grp w7 sv.grp sv2.grp H7.out.2.1.ps.grp H7.out.1.ps.grp).mono ?_
    rintro _ _ ⟨rfl, mw8, rfl⟩
    have hb := below_drewN (Below.refl w7.heap.size w7) mw8
    obtain ⟨w8, hw8⟩ : ∃ u, w7.drewN mw8 = u := ⟨_, rfl⟩
    rw [hw8] at hb ⊢
    have H8 : Hid (Sc sv2 st2 w4.heap.size w8 ∧ Sc sv st2 w2.heap.size w8 ∧ Below w.heap.size w w8) := ⟨H7.out.1.below hb, H7.out.2.1.below hb, H7.out.2.2.trans (hb.mono H7.out.2.2.size)⟩
    clear hb hw8
    have w8xz0 : w8.cell? ⟨w2.heap.size, 0, none⟩ = some (.int .i64 st2.kind) := by rw [H8.out.2.1.blk.cell 0, ← H8.out.2.1.ps.sb.kind]; rfl
    have w8xz1 : w8.cell? ⟨w2.heap.size, 1, none⟩ = some (.string st2.table) := by rw [H8.out.2.1.blk.cell 1, ← H8.out.2.1.ps.sb.table]; rfl
    have w8xz2 : w8.cell? ⟨w2.heap.size, 2, none⟩ = some (.string st2.other) := by rw [H8.out.2.1.blk.cell 2, ← H8.out.2.1.ps.sb.other]; rfl
    have w8xz12 : w8.cell? ⟨w2.heap.size, 12, none⟩ = some (.int .i64 st2.lim) := by rw [H8.out.2.1.blk.cell 12, ← H8.out.2.1.ps.sb.lim]; rfl
    obtain ⟨xA9, xC9, xe9, _⟩ := H8.out.2.1.ps.sb.items
    have w8xz9 : w8.cell? ⟨w2.heap.size, 9, none⟩ = some (.slice xA9 st2.items.length xC9) := by rw [H8.out.2.1.blk.cell 9, ← xe9]; rfl
    clear xe9
    obtain ⟨xA5, xC5, xe5, _⟩ := H8.out.2.1.ps.sb.rows
    have w8xz5 : w8.cell? ⟨w2.heap.size, 5, none⟩ = some (.slice xA5 st2.rows.length xC5) := by rw [H8.out.2.1.blk.cell 5, ← xe5]; rfl
    clear xe5
    obtain ⟨xA11, xC11, xe11, _⟩ := H8.out.2.1.ps.sb.ord
    have w8xz11 : w8.cell? ⟨w2.heap.size, 11, none⟩ = some (.slice xA11 st2.ord.length xC11) := by rw [H8.out.2.1.blk.cell 11, ← xe11]; rfl
    clear xe11
    obtain ⟨xA6, xC6, xe6, _⟩ := H8.out.2.1.ps.sb.sets
    have w8xz6 : w8.cell? ⟨w2.heap.size, 6, none⟩ = some (.slice xA6 st2.sets.length xC6) := by rw [H8.out.2.1.blk.cell 6, ← xe6]; rfl
    clear xe6
    have w8yz0 : w8.cell? ⟨w4.heap.size, 0, none⟩ = some (.int .i64 st2.kind) := by rw [H8.out.1.blk.cell 0, ← H8.out.1.ps.sb.kind]; rfl
    have w8yz1 : w8.cell? ⟨w4.heap.size, 1, none⟩ = some (.string st2.table) := by rw [H8.out.1.blk.cell 1, ← H8.out.1.ps.sb.table]; rfl
    have w8yz2 : w8.cell? ⟨w4.heap.size, 2, none⟩ = some (.string st2.other) := by rw [H8.out.1.blk.cell 2, ← H8.out.1.ps.sb.other]; rfl
    have w8yz12 : w8.cell? ⟨w4.heap.size, 12, none⟩ = some (.int .i64 st2.lim) := by rw [H8.out.1.blk.cell 12, ← H8.out.1.ps.sb.lim]; rfl
    obtain ⟨yA9, yC9, ye9, _⟩ := H8.out.1.ps.sb.items
    have w8yz9 : w8.cell? ⟨w4.heap.size, 9, none⟩ = some (.slice yA9 st2.items.length yC9) := by rw [H8.out.1.blk.cell 9, ← ye9]; rfl
    clear ye9
    obtain ⟨yA5, yC5, ye5, _⟩ := H8.out.1.ps.sb.rows
    have w8yz5 : w8.cell? ⟨w4.heap.size, 5, none⟩ = some (.slice yA5 st2.rows.length yC5) := by rw [H8.out.1.blk.cell 5, ← ye5]; rfl
    clear ye5
    obtain ⟨yA11, yC11, ye11, _⟩ := H8.out.1.ps.sb.ord
    have w8yz11 : w8.cell? ⟨w4.heap.size, 11, none⟩ = some (.slice yA11 st2.ord.length yC11) := by rw [H8.out.1.blk.cell 11, ← ye11]; rfl
    clear ye11
    obtain ⟨yA6, yC6, ye6, _⟩ := H8.out.1.ps.sb.sets
    have w8yz6 : w8.cell? ⟨w4.heap.size, 6, none⟩ = some (.slice yA6 st2.sets.length yC6) := by rw [H8.out.1.blk.cell 6, ← ye6]; rfl
    clear ye6
    have HE : Hid (Below w.heap.size w w8) := H8.out.2.2
    clear H5 H6 H7 H8
    go_wp2
    go_ret
    exact ⟨rfl, HE.out⟩
end Go.Proofs.YtbdcbaamjkjhaaaGreatDoor
