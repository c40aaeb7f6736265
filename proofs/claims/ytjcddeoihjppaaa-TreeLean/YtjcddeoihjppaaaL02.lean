/- Texts of the proof of TreeLean: Rdp, Wrp, Alc, Usd, Mrk, Cln, Bld, Mk2, Bck, Wfl, Wnm, Whd. -/
import Derived.Test.YtjcddeoihjppaaaL01
import Derived.Shelf.SlMaps.Clone
import Derived.Laws.Tables
namespace Go.Proofs.Ytjcddeoihjppaaa
open Go.RowKit Go.Maps

/-- what a page in use has -/
def Pg.text (p : Pg) (pg : Nat → ByteArray) (k : Nat) : ByteArray := (p.chg k).getD (pg (placeF k (p.upper k)))

section
variable {bp bd bm n : Nat} {p : Pg} {s : St} {w : World}

theorem no_iff (p : Pg) (k : Int) : p.code k = 2 ∨ (∃ j : Nat, k = j ∧ j < 2000 ∧ p.used j = true) := by
  by_cases e : 0 ≤ k ∧ k < 2000 ∧ p.used k.toNat = true
  · exact .inr ⟨k.toNat, by omega, by omega, e.2.2⟩
  · exact .inl (Pg.code_no e)
theorem code_ok {p : Pg} {j : Nat} (hd : p.down = false) (hj : j < 2000) (hu : p.used j = true) : p.code j = 0 := by
  rw [Pg.code_yes ⟨by omega, by omega, by rw [Int.toNat_natCast]; exact hu⟩, hd]; rfl

set_option maxRecDepth 100000 in
theorem readp_no (h : Cells bp bd bm p w) (k : Int) (hc : p.code k = 2) :
    Calls Try.prog 32 #[.pointer (some ⟨bp, 0, none⟩), .int .i64 k] w fun e w' => e = .returned (.tuple #[.string ⟨#[]⟩, .iface 80 (.int .i64 2)]) ∧ w' = w := by
  have HC : Hid (Cells bp bd bm p w) := h
  clear h
  go_enter Try.func32, Try.ntmps32
  go_wp2_with fail
  refine (reach_any HC.out k).mono ?_
  rintro _ wa ⟨E, rfl, hE, hw⟩
  subst wa
  rw [hc] at hE
  obtain rfl : E = .iface 80 (.int .i64 2) := hE
  go_wp2
  go_ret2
  exact ⟨rfl, rfl⟩

set_option maxRecDepth 100000 in
set_option maxHeartbeats 400000 in
theorem readp_yes (h : PagerIs bp bd bm n p w) (hD : Prg bd s w) (hd : p.down = false) (j : Nat) (hj : j < 2000) (hu : p.used j = true) :
    Calls Try.prog 32 #[.pointer (some ⟨bp, 0, none⟩), .int .i64 j] w fun e w' => e = .returned (.tuple #[.string (p.text s.pg j), .nilIface]) ∧ Below w.heap.size w w' := by
  have HP : Hid (PagerIs bp bd bm n p w) := h
  have HD : Hid (Prg bd s w) := hD
  have q0 := h.cells.cell 0 (by omega)
  rw [show cellOf p bd bm 0 = .pointer (some ⟨bd, 0, none⟩) from rfl] at q0
  have q1 := h.cells.cell 4017 (by omega)
  rw [cellOf_map] at q1
  have q2 := h.cells.cell (1 + j) (by omega)
  rw [cellOf_upper _ _ _ hj] at q2
  have h1 : (j : Int) < 2000 := by omega
  clear h hD
  go_enter Try.func32, Try.ntmps32
  go_wp2_with fail
  refine (reach_any HP.out.cells j).mono ?_
  rintro _ wa ⟨E, rfl, hE, hw⟩
  subst wa
  rw [code_ok hd hj hu] at hE
  obtain rfl : E = .nilIface := hE
  cases hf : p.chg j with
  | some t =>
    have ht : t.size = 1024 := by
      obtain ⟨D, _, hM⟩ := HP.out.own
      exact (hM.small j t hf).2
    go_wp2_with (refine look_sheet _ rfl _ _ rfl HP.out.own j hj rfl rfl ?_; rw [hf])
    refine (clone_any t _ (by omega)).mono ?_
    rintro _ w1 ⟨rfl, hb⟩
    have HB : Hid (Below w.heap.size w w1) := ((Below.refl _ w).alloc (o := .cells #[.string t] 119) (Nat.le_refl _)).trans (hb.mono (by rw [World.size_alloc]; omega))
    clear hb
    go_wp2
    go_ret2
    exact ⟨by rw [Pg.text, hf]; rfl, HB.out⟩
  | none =>
    go_wp2_with (refine look_sheet _ rfl _ _ rfl HP.out.own j hj rfl rfl ?_; rw [hf])
    have HK : Hid (∀ wx, Below w.heap.size w wx → wx.cell? ⟨bp, 0, none⟩ = some (.pointer (some ⟨bd, 0, none⟩)) ∧ wx.cell? ⟨bp, 1 + j, none⟩ = some (.bool (p.upper j))) := fun wx hx =>
      ⟨by rw [hx.cell (p := ⟨bp, 0, none⟩) HP.out.lt]; exact q0, by rw [hx.cell (p := ⟨bp, 1 + j, none⟩) HP.out.lt]; exact q2⟩
    have HDx : Hid (∀ wx, Below w.heap.size w wx → Prg bd s wx) := fun wx hx => Prg.below HD.out hx
    have HB0 : Hid (Below w.heap.size w (w.alloc (.cells #[.string ⟨#[]⟩] 119)).drew) := ((Below.refl _ w).alloc (o := .cells #[.string ⟨#[]⟩] 119) (Nat.le_refl _)).drew
    have hlt := placeF_lt j hj (p.upper j)
    go_region_held3 (fun wx => wx.cell? ⟨bp, 0, none⟩ = some (.pointer (some ⟨bd, 0, none⟩)) ∧ wx.cell? ⟨bp, 1 + j, none⟩ = some (.bool (p.upper j))) (first | exact HK.out _ HB.out | exact HK.out _ HB0.out) (first | (go_at_call 58; refine (place_any j hj _ _).mono ?_; rintro _ wy ⟨rfl, hwy⟩; subst wy) | (go_at_call 57; refine (read_yes (HDx.out _ HB0.out) _ hlt).mono ?_; rintro _ wy ⟨rfl, hb⟩; have HB : Hid (Below w.heap.size w wy) := HB0.out.trans (hb.mono HB0.out.size)))
    go_wp2
    go_ret2
    exact ⟨by rw [Pg.text, hf]; rfl, HB.out⟩
end
end Go.Proofs.Ytjcddeoihjppaaa
namespace Go.Proofs.Ytjcddeoihjppaaa
open Go.RowKit Go.Maps

theorem store_sheet {bm n : Nat} {f : Nat → Option ByteArray} {w : World} (hS : Sheets bm n f w) (hn : n < 1000000) (k : Nat) (hk : k < 2000) (s : ByteArray) (hs : s.size = 1024) :
    ∃ w', (Instr.mapUpdate 40 (.map (some bm)) (.int .i64 k) (.agg #[.string s])).run Try.prog w = .ok () w' ∧ Sheets bm (n + 1) (put f k (some s)) w' ∧ Only (fun b => b = bm) w w' := by
  obtain ⟨D, hD, hM⟩ := hS
  obtain ⟨w', h1, h2, h3⟩ := hD.store keyed3 Try.underlying40 (Nat.lt_trans hn (by decide)) (key_of k hk) (sheetElem_mk s)
  exact ⟨w', h1, ⟨_, h2, hM.put k hk s hs⟩, Only.of_grown h3.grown rfl⟩

def Pg.write (p : Pg) (k : Nat) (s : ByteArray) : Pg := { p with chg := put p.chg k (some s) }
def Pg.free (p : Pg) (k : Nat) : Pg := { p with used := fun i => if i = k then false else p.used i, chg := put p.chg k none }
theorem Cells.chg {bp bd bm : Nat} {p : Pg} {w : World} (h : Cells bp bd bm p w) (f : Nat → Option ByteArray) : Cells bp bd bm { p with chg := f } w := ⟨fun k hk => h.cell k hk, h.free⟩

section
variable {bp bd bm n : Nat} {p : Pg} {s : St} {w : World}

theorem writep_no (h : Cells bp bd bm p w) (k : Int) (hc : p.code k = 2) (t : ByteArray) :
    Calls Try.prog 29 #[.pointer (some ⟨bp, 0, none⟩), .int .i64 k, .string t] w fun e w' => e = .returned (.iface 80 (.int .i64 2)) ∧ w' = w := by
  have HC : Hid (Cells bp bd bm p w) := h
  clear h
  go_enter Try.func29, Try.ntmps29
  go_wp2_with fail
  refine (reach_any HC.out k).mono ?_
  rintro _ wa ⟨E, rfl, hE, hw⟩
  subst wa
  rw [hc] at hE
  obtain rfl : E = .iface 80 (.int .i64 2) := hE
  go_wp2
  go_ret
  exact ⟨rfl, rfl⟩

theorem writep_arg (h : Cells bp bd bm p w) (hd : p.down = false) (j : Nat) (hj : j < 2000) (hu : p.used j = true) (t : ByteArray) (ht : t.size ≠ 1024) :
    Calls Try.prog 29 #[.pointer (some ⟨bp, 0, none⟩), .int .i64 j, .string t] w fun e w' => e = .returned (.iface 80 (.int .i64 1)) ∧ w' = w := by
  have HC : Hid (Cells bp bd bm p w) := h
  have h1 : ¬ ((t.size : Int) = 1024) := by omega
  clear h
  go_enter Try.func29, Try.ntmps29
  go_wp2_with fail
  refine (reach_any HC.out j).mono ?_
  rintro _ wa ⟨E, rfl, hE, hw⟩
  subst wa
  rw [code_ok hd hj hu] at hE
  obtain rfl : E = .nilIface := hE
  go_wp2
  go_ret
  exact ⟨rfl, rfl⟩

set_option maxRecDepth 100000 in
set_option maxHeartbeats 400000 in
theorem writep_yes (h : PagerIs bp bd bm n p w) (hn : n < 1000000) (hd : p.down = false) (j : Nat) (hj : j < 2000) (hu : p.used j = true) (t : ByteArray) (ht : t.size = 1024) :
    Calls Try.prog 29 #[.pointer (some ⟨bp, 0, none⟩), .int .i64 j, .string t] w fun e w' => e = .returned .nilIface ∧ PagerIs bp bd bm (n + 1) (p.write j t) w' ∧ Only (fun b => b = bm) w w' := by
  have HP : Hid (PagerIs bp bd bm n p w) := h
  have q1 := h.cells.cell 4017 (by omega)
  rw [cellOf_map] at q1
  have h1 : (t.size : Int) = 1024 := by omega
  have hne := h.ne
  clear h
  go_enter Try.func29, Try.ntmps29
  go_wp2_with fail
  refine (reach_any HP.out.cells j).mono ?_
  rintro _ wa ⟨E, rfl, hE, hw⟩
  subst wa
  rw [code_ok hd hj hu] at hE
  obtain rfl : E = .nilIface := hE
  go_wp2_with fail
  have HK : Hid (∀ wx, Only (fun b => b = bm) w wx → wx.cell? ⟨bp, 4017, none⟩ = some (.map (some bm))) := fun wx hx => by rw [hx.cell HP.out.lt (fun e => hne e.symm)]; exact q1
  have HB0 : Hid (Only (fun b => b = bm) w w.drew) := (Only.refl _ w).drew
  go_region_held3 (fun wx => wx.cell? ⟨bp, 4017, none⟩ = some (.map (some bm))) (first | exact HK.out _ HO2.out | exact HK.out _ HO.out | exact HK.out _ HB0.out) (first | (go_at_call 55; refine (clone_any t _ (by omega)).mono ?_; rintro _ wy ⟨rfl, hb⟩; have HO : Hid (Only (fun b => b = bm) w wy) := (Only.of_below ((Below.refl _ w).drew.trans hb)); obtain ⟨w2, hst, hs2, ho2⟩ := store_sheet (HP.out.own.block (Below.block ((Below.refl _ w).drew.trans hb) _ HP.out.own.lt)) hn j hj t ht; have HO2 : Hid (Only (fun b => b = bm) w w2) := HO.out.trans ho2 (fun _ h => .inl h); have HS2 : Hid _ := hs2; clear hs2 ho2 hb))
  go_wp2
  go_ret
  exact ⟨rfl, ⟨(HP.out.cells.block (HO2.out.block bp HP.out.lt (fun e => hne e.symm))).chg _, HS2.out⟩, HO2.out⟩

set_option maxRecDepth 100000 in
theorem freep_no (h : Cells bp bd bm p w) (k : Int) (hc : p.code k = 2) :
    Calls Try.prog 35 #[.pointer (some ⟨bp, 0, none⟩), .int .i64 k] w fun e w' => e = .returned (.iface 80 (.int .i64 2)) ∧ w' = w := by
  have HC : Hid (Cells bp bd bm p w) := h
  clear h
  go_enter Try.func35, Try.ntmps35
  go_wp2_with fail
  refine (reach_any HC.out k).mono ?_
  rintro _ wa ⟨E, rfl, hE, hw⟩
  subst wa
  rw [hc] at hE
  obtain rfl : E = .iface 80 (.int .i64 2) := hE
  go_wp2
  go_ret
  exact ⟨rfl, rfl⟩

theorem Cells.setUsed (h : Cells bp bd bm p w) (j : Nat) (hj : j < 2000) (b : Bool) : Cells bp bd bm { p with used := fun i => if i = j then b else p.used i } (w.setCell ⟨bp, 2001 + j, none⟩ (.bool b)) := by
  refine (h.row.set (2001 + j) (.bool b) (by omega)).cells fun k hk => ?_
  by_cases e : k = 2001 + j
  · subst e
    rw [over_same, cellOf_used _ _ _ hj]; simp
  · rw [over_out _ _ _ (by simp; omega)]
    by_cases e2 : 2001 ≤ k ∧ k < 4001
    · obtain ⟨m, rfl⟩ : ∃ m, k = 2001 + m := ⟨k - 2001, by omega⟩
      rw [cellOf_used _ _ _ (by omega), cellOf_used _ _ _ (by omega)]
      simp only
      rw [if_neg (by omega)]
    · unfold cellOf
      by_cases a0 : k = 0
      · rw [if_pos a0, if_pos a0]
      rw [if_neg a0, if_neg a0]
      by_cases a1 : k < 2001
      · rw [if_pos a1, if_pos a1]
      rw [if_neg a1, if_neg a1, if_neg (show ¬ k < 4001 by omega), if_neg (show ¬ k < 4001 by omega)]

set_option maxRecDepth 100000 in
set_option maxHeartbeats 400000 in
theorem freep_yes (h : PagerIs bp bd bm n p w) (hd : p.down = false) (j : Nat) (hj : j < 2000) (hu : p.used j = true) :
    Calls Try.prog 35 #[.pointer (some ⟨bp, 0, none⟩), .int .i64 j] w fun e w' => e = .returned .nilIface ∧ PagerIs bp bd bm n (p.free j) w' ∧ Only (fun b => b = bp ∨ b = bm) w w' := by
  have HP : Hid (PagerIs bp bd bm n p w) := h
  have h1 : (j : Int) < 2000 := by omega
  have q2 := h.cells.cell (2001 + j) (by omega)
  have f2 := h.cells.free (2001 + j)
  have hC := h.cells.setUsed j hj false
  have q1 := hC.cell 4017 (by omega)
  rw [cellOf_map] at q1
  have hne := h.ne
  have HS : Hid (Sheets bm n p.chg (w.setCell ⟨bp, 2001 + j, none⟩ (.bool false))) := h.own.only (Only.set bp _ _ w) hne
  have HC : Hid _ := hC
  clear h hC
  go_enter Try.func35, Try.ntmps35
  go_wp2_with fail
  refine (reach_any HP.out.cells j).mono ?_
  rintro _ wa ⟨E, rfl, hE, hw⟩
  subst wa
  rw [code_ok hd hj hu] at hE
  obtain rfl : E = .nilIface := hE
  go_wp2_with (refine del_sheet _ rfl _ _ rfl HS.out j hj rfl rfl ?_; intro w2 hs2 ho2; have HS2 : Hid _ := hs2; have HO2 : Hid _ := ho2; clear hs2 ho2)
  go_ret
  refine ⟨rfl, ⟨(HC.out.block (HO2.out.block bp (by rw [World.size_setCell]; exact HP.out.lt) (fun e => hne e.symm))).chg _, HS2.out⟩, ((Only.set bp _ _ w).mono (fun i hi => .inl hi)).trans HO2.out (fun i hi => .inl (.inr hi))⟩
end
end Go.Proofs.Ytjcddeoihjppaaa
namespace Go.Proofs.Ytjcddeoihjppaaa
open Go.RowKit Go.Maps

/-- the least place at which there is no -/
def FirstNo (f : Nat → Bool) (m : Nat) (r : Int) : Prop := (r = -1 ∧ ∀ j, j < m → f j = true) ∨ ∃ i : Nat, r = i ∧ i < m ∧ f i = false ∧ ∀ j, j < i → f j = true

set_option maxHeartbeats 400000 in
theorem index_any (B o m c : Nat) (hm : m < 1000000) (f : Nat → Bool) (w : World) (hc : ∀ j, j < m → w.cell? ⟨B, o + j, none⟩ = some (.bool (f j))) :
    Calls Try.prog 53 #[.slice (some ⟨B, o, none⟩) m c, .bool false] w fun e w' => (∃ r, e = .returned (.int .i64 r) ∧ FirstNo f m r) ∧ w' = w := by
  go_enter Try.func53, Try.ntmps53
  go_wp2_with fail
  go_loop [8] (fun i => ∃ k : Nat, k ≤ m ∧ i = .int .i64 k ∧ Hid (∀ j, j < k → f j = true)) (fun i => m - (intOf i).toNat)
  case atStart => exact ⟨0, Nat.zero_le _, rfl, fun j hj => by omega⟩
  case round =>
    obtain ⟨k, hk, rfl, HF⟩ := hrel
    by_cases hlt : k < m
    · have h1 : (k : Int) < (m : Int) := by omega
      have q := hc k hlt
      cases hf : f k
      · rw [hf] at q
        go_wp2
        go_ret
        exact ⟨⟨_, rfl, .inr ⟨k, rfl, hlt, hf, HF.out⟩⟩, rfl⟩
      · rw [hf] at q
        go_wp2
        go_round
        case rel => exact ⟨k + 1, by omega, by go_num, fun j hj => by
          by_cases e : j = k
          · rw [e]; exact hf
          · exact HF.out j (by omega)⟩
        case measure => simp [intOf]; omega
    · have h1 : ¬ (k : Int) < (m : Int) := by omega
      go_wp2
      go_ret
      exact ⟨⟨_, rfl, .inl ⟨rfl, fun j hj => HF.out j (by omega)⟩⟩, rfl⟩

def Pg.alloc (p : Pg) (k : Nat) : Pg := { p with used := fun i => if i = k then true else p.used i, chg := put p.chg k (some zeros) }

section
variable {bp bd bm n : Nat} {p : Pg} {s : St} {w : World}
set_option maxRecDepth 100000 in
set_option maxHeartbeats 400000 in
/-- Alloc, where some page is free: the least one -/
theorem allocp_any (h : PagerIs bp bd bm n p w) (hn : n < 1000000) (hd : p.down = false) (k : Nat) (h0 : 0 < k) (hk : k < 2000) (hu : p.used k = false) (hl : ∀ j, 0 < j → j < k → p.used j = true) :
    Calls Try.prog 28 #[.pointer (some ⟨bp, 0, none⟩)] w fun e w' => e = .returned (.tuple #[.int .i64 k, .nilIface]) ∧ PagerIs bp bd bm (n + 1) (p.alloc k) w' ∧ Only (fun b => b = bp ∨ b = bm) w w' := by
  have HP : Hid (PagerIs bp bd bm n p w) := h
  have q := h.cells.cell 4019 (by omega)
  rw [cellOf_down, hd] at q
  have HC : Hid (∀ j, j < 1999 → w.cell? ⟨bp, 2002 + j, none⟩ = some (.bool (p.used (j + 1)))) := fun j hj => by
    rw [show 2002 + j = 2001 + (j + 1) by omega, h.cells.cell _ (by omega), cellOf_used _ _ _ (by omega)]
  clear h
  go_enter Try.func28, Try.ntmps28
  go_wp2_with fail
  obtain ⟨m, rfl⟩ : ∃ m, k = m + 1 := ⟨k - 1, by omega⟩
  refine (index_any bp 2002 1999 1999 (by omega) (fun j => p.used (j + 1)) w HC.out).mono ?_
  rintro _ wa ⟨⟨r, rfl, hF⟩, hw⟩
  subst wa
  have hr : r = (m : Int) := by
    rcases hF with ⟨_, h1⟩ | ⟨i, rfl, h1, h2, h3⟩
    · exact absurd (show p.used (m + 1) = true from h1 m (by omega)) (by rw [hu]; decide)
    · by_cases e1 : i < m
      · exact absurd (show p.used (i + 1) = false from h2) (by rw [hl (i + 1) (by omega) (by omega)]; decide)
      · by_cases e2 : m < i
        · exact absurd (show p.used (m + 1) = true from h3 m e2) (by rw [hu]; decide)
        · omega
  subst hr
  clear hF HC
  have h1 : 1 + (m : Int) < 2000 := by omega
  have e0 : ((1 + (m : Int)) == 0) = false := by simp; omega
  have q2 := HP.out.cells.cell (2001 + (1 + m)) (by omega)
  have f2 := HP.out.cells.free (2001 + (1 + m))
  have hC := HP.out.cells.setUsed (1 + m) (by omega) true
  have q1 := hC.cell 4017 (by omega)
  rw [cellOf_map] at q1
  have hne := HP.out.ne
  have HC : Hid _ := hC
  have HS : Hid (Sheets bm n p.chg (w.setCell ⟨bp, 2001 + (1 + m), none⟩ (.bool true))) := HP.out.own.only (Only.set bp _ _ w) hne
  clear hC
  go_wp2_with fail
  obtain ⟨wb, hwb⟩ : ∃ wb, w.setCell ⟨bp, 2001 + (1 + m), none⟩ (.bool true) = wb := ⟨_, rfl⟩
  have ho1 : Only (fun b => b = bp) w wb := by rw [← hwb]; exact Only.set bp _ _ w
  rw [hwb] at q1 HC HS
  rw [hwb]
  have hbp : bp < wb.heap.size := HC.out.lt
  have HK : Hid (∀ wx, Only (fun b => b = bm) wb wx → wx.cell? ⟨bp, 4017, none⟩ = some (.map (some bm))) := fun wx hx => by rw [hx.cell hbp (fun e => hne e.symm)]; exact q1
  have HB0 : Hid (Only (fun b => b = bm) wb wb.drew) := (Only.refl _ wb).drew
  have HO1 : Hid _ := ho1
  clear ho1 q2 f2 hwb q
  go_region_held3 (fun wx => wx.cell? ⟨bp, 4017, none⟩ = some (.map (some bm))) (first | exact HK.out _ HO2.out | exact HK.out _ HO.out | exact HK.out _ HB0.out) (first | (go_at_call 18; refine (zeros_any _).mono ?_; rintro _ wy ⟨rfl, hb⟩; have HO : Hid (Only (fun b => b = bm) wb wy) := (Only.of_below ((Below.refl _ wb).drew.trans hb)); obtain ⟨w2, hst, hs2, ho2⟩ := store_sheet (HS.out.block (Below.block ((Below.refl _ wb).drew.trans hb) _ HS.out.lt)) hn (1 + m) (by omega) zeros zeros_size; rw [show ((1 + m : Nat) : Int) = 1 + (m : Int) by omega] at hst; have HO2 : Hid (Only (fun b => b = bm) wb w2) := HO.out.trans ho2 (fun _ h => .inl h); have HS2 : Hid _ := hs2; clear hs2 ho2 hb))
  go_wp2
  go_ret2
  refine ⟨by rw [show ((m + 1 : Nat) : Int) = 1 + (m : Int) by omega]; rfl, ⟨?_, ?_⟩, (HO1.out.mono (fun i hi => .inl hi)).trans HO2.out (fun i hi => .inl (.inr hi))⟩
  · have h9 := (HC.out.block (HO2.out.block bp hbp (fun e => hne e.symm))).chg (put p.chg (1 + m) (some zeros))
    rw [Nat.add_comm 1 m] at h9
    exact h9
  · have h9 := HS2.out
    rw [Nat.add_comm 1 m] at h9
    exact h9
end
end Go.Proofs.Ytjcddeoihjppaaa
namespace Go.Proofs.Ytjcddeoihjppaaa
open Go.RowKit Go.Maps

/-- how many of the first ones are so -/
def countU (f : Nat → Bool) : Nat → Nat
  | 0 => 0
  | k + 1 => countU f k + (if f k then 1 else 0)
theorem countU_le (f : Nat → Bool) : ∀ k, countU f k ≤ k
  | 0 => Nat.le_refl _
  | k + 1 => by
    have := countU_le f k
    unfold countU
    split <;> omega

theorem run_index_bits (F : List Value) (k : Nat) (hk : k < 2000) (b : Bool) (hb : F[k]? = some (.bool b)) (w : World) : (Instr.index 36 (.agg F.toArray) (.int .i64 k)).run Try.prog w = .ok (.bool b) w := by
  simp [Instr.index, run_underlying Try.underlying36, asIntOf, part, Try.sizeOf4, Try.isAgg4, hb, go_sem]
  omega

section
variable {bp bd bm n : Nat} {p : Pg} {s : St} {w : World}
set_option maxRecDepth 100000 in
set_option maxHeartbeats 400000 in
theorem used_any (h : Cells bp bd bm p w) : Calls Try.prog 23 #[.pointer (some ⟨bp, 0, none⟩)] w fun e w' => e = .returned (.int .i64 (1 + countU p.used 2000 : Nat)) ∧ w' = w := by
  have HR := h.used
  obtain ⟨F, hF⟩ : ∃ F, flags p.used = F := ⟨_, rfl⟩
  have sF : (Try.prog.info? 36).map (·.size) = some F.length := by rw [← hF]; exact size_flags _
  have gF : ∀ j, j < 2000 → F[j]? = some (.bool (p.used j)) := fun j hj => by rw [← hF]; exact flags_get _ hj
  have lF : F.length = 2000 := by rw [← hF, flags_len]
  rw [hF] at HR
  have HR : Hid _ := HR
  clear hF h
  go_enter Try.func23, Try.ntmps23
  go_wp2_with (refine wpList_load_mid rfl 36 _ rfl bp 2001 rfl F _ HR.out Try.underlying36 rfl sF ?_)
  go_loop [3, 11] (fun t i => ∃ k : Nat, k ≤ 2000 ∧ i = .int .i64 k ∧ t = .int .i64 (1 + countU p.used k : Nat)) (fun _ i => 2000 - (intOf i).toNat)
  case atStart => exact ⟨0, Nat.zero_le _, rfl, rfl⟩
  case round =>
    obtain ⟨k, hk, rfl, rfl⟩ := hrel
    have hc := countU_le p.used k
    by_cases hlt : k < 2000
    · have h1 : (k : Int) < 2000 := by omega
      have q := gF k hlt
      have hx := run_index_bits F k hlt (p.used k) q w
      cases hf : p.used k
      · rw [hf] at hx
        clear q
        go_wp2
        go_round
        case rel => exact ⟨k + 1, by omega, by go_num, by rw [countU, hf]; go_num⟩
        case measure => simp [intOf]; omega
      · rw [hf] at hx
        clear q
        go_wp2
        go_round
        case rel => exact ⟨k + 1, by omega, by go_num, by rw [countU, hf, if_pos rfl]; go_num⟩
        case measure => simp [intOf]; omega
    · have h1 : ¬ (k : Int) < 2000 := by omega
      obtain rfl : k = 2000 := by omega
      go_wp2
      go_ret
      exact ⟨rfl, rfl⟩
end
end Go.Proofs.Ytjcddeoihjppaaa
namespace Go.Proofs.Ytjcddeoihjppaaa
open Go.RowKit Go.Maps Go.Shelf

section
variable {bp bd bm n : Nat} {p : Pg} {s : St} {w : World} {f : Nat → Option ByteArray}
set_option maxHeartbeats 400000 in
set_option maxRecDepth 100000 in
theorem mapsClone_any (h : Sheets bm n f w) : Calls Try.prog 65 #[.map (some bm)] w fun e w' => e = .returned (.map (some w.heap.size)) ∧ Sheets w.heap.size n f w' ∧ Below w.heap.size w w' ∧ w'.heap.size = w.heap.size + 1 := by
  obtain ⟨D, ⟨es, clock, hb, F, hs, hD⟩, hM⟩ := h
  have HR : Hid (Sheets w.heap.size n f (w.alloc (.map es clock))) := ⟨D, ⟨es, clock, (MapKept.heap_alloc w _).1, F, hs, hD⟩, hM⟩
  have hq := fun w => run_eql_map_nil_sl (P := Try.prog) w 40 _ _ (some bm) Try.underlying40
  clear hM hD hs F
  go_enter Try.func65, Try.ntmps65
  go_wp2
  rw [run_callFunc_extern Try.func104 (by kernel_rfl) (by kernel_rfl) (by kernel_rfl) (e := Extern.MapsClone.clone) (by kernel_rfl), run_maps_clone_sl w 40 hb]
  simp only [Result.andThen]
  rw [Oper.upon_value]
  go_wp2
  rw [run_typeAssert_map_sl _ 40 20 _ _ _ Try.underlying40]
  simp only [Result.andThen]
  rw [Oper.upon_value]
  go_wp2
  go_ret
  exact ⟨rfl, HR.out, (Below.refl _ w).alloc (Nat.le_refl _) _, World.size_alloc _ _⟩
end
end Go.Proofs.Ytjcddeoihjppaaa
namespace Go.Proofs.Ytjcddeoihjppaaa
open Go.RowKit Go.Maps Go.Shelf

theorem size46 : (Try.prog.info? 42).map (·.size) = some 2017 := by kernel_rfl
theorem zsize46 : Try.zeroCells42.size = 2017 := by kernel_rfl
theorem stateL_lt (used : Nat → Bool) (rp rn : Nat → Int) (m m' : Nat) {k : Nat} (hk : k < 2016) : (stateL used rp rn m)[k]? = (stateL used rp rn m')[k]? := by
  by_cases h : k < 2000
  · rw [stateL_used _ _ _ _ h, stateL_used _ _ _ _ h]
  · obtain ⟨j, rfl⟩ : ∃ j, k = 2000 + j := ⟨k - 2000, by omega⟩
    rw [stateL_root _ _ _ _ (by omega), stateL_root _ _ _ _ (by omega)]

/-- what is known of two rows that were laid -/
structure Two (B : Nat) (L : List Value) (w wx : World) : Prop where
  first : wx.rangeAt B 0 L
  free : ∀ k, wx.frozen? ⟨B, k, none⟩ = false
  second : wx.there (B + 1) 0 2017
  below : Below B w wx
  size : B + 2 ≤ wx.heap.size
theorem Two.start (w : World) (L : List Value) (Z : Array Value) (hZ : Z.size = 2017) : Two w.heap.size L w ((w.alloc (.cells L.toArray 42)).alloc (.cells Z 42)) := by
  have hn1 : (w.alloc (.cells L.toArray 42)).heap[w.heap.size]? = some (.cells L.toArray 42) := heap_alloc_new w _
  have hs1 : (w.alloc (.cells L.toArray 42)).heap.size = w.heap.size + 1 := World.size_alloc _ _
  have hn2 : ((w.alloc (.cells L.toArray 42)).alloc (.cells Z 42)).heap[w.heap.size + 1]? = some (.cells Z 42) := by rw [← hs1]; exact heap_alloc_new _ _
  have b2 : Below (w.heap.size + 1) (w.alloc (.cells L.toArray 42)) ((w.alloc (.cells L.toArray 42)).alloc (.cells Z 42)) := by rw [← hs1]; exact (Below.refl _ _).alloc (Nat.le_refl _) _
  have hn1' : ((w.alloc (.cells L.toArray 42)).alloc (.cells Z 42)).heap[w.heap.size]? = some (.cells L.toArray 42) := by rw [b2.block _ (by omega)]; exact hn1
  refine ⟨fun j v hj => ?_, fun k => by simp only [World.frozen?, hn1']; simp, fun j hj => ⟨?_, by simp only [World.frozen?, hn2]; simp⟩, ((Below.refl _ _).alloc (Nat.le_refl _) _).trans (b2.mono (by omega)), by rw [World.size_alloc, hs1]; omega⟩
  · rw [Nat.zero_add, cell_of_row _ _ _ _ _ _ hn1']
    simpa using hj
  · rw [Nat.zero_add, cell_of_row _ _ _ _ _ _ hn2]
    have hl : j < Z.size := by rw [hZ]; exact hj
    simp [hl]
theorem Two.later {B : Nat} {L : List Value} {w wx wy : World} (h : Two B L w wx) (hb : Below wx.heap.size wx wy) : Two B L w wy := by
  have hs := h.size
  refine ⟨fun j v hj => ?_, fun k => ?_, fun j hj => ⟨?_, ?_⟩, h.below.trans (hb.mono (by omega)), Nat.le_trans h.size hb.size⟩
  · rw [hb.cell (p := ⟨B, 0 + j, none⟩) (by show B < _; omega)]; exact h.first j v hj
  · rw [hb.frozen (p := ⟨B, k, none⟩) (by show B < _; omega)]; exact h.free k
  · rw [hb.cell (p := ⟨B + 1, 0 + j, none⟩) (by show B + 1 < _; omega)]; exact (h.second j hj).1
  · rw [hb.frozen (p := ⟨B + 1, 0 + j, none⟩) (by show B + 1 < _; omega)]; exact (h.second j hj).2

section
variable {bp bd bm n : Nat} {p : Pg} {s : St} {w : World} {f : Nat → Option ByteArray}
set_option maxRecDepth 100000 in
set_option maxHeartbeats 400000 in
theorem clone_state (h : Sheets bm n f w) (used : Nat → Bool) (rp rn : Nat → Int) :
    Calls Try.prog 37 #[.agg (stateL used rp rn bm).toArray] w fun e w' => ∃ bm', e = .returned (.agg (stateL used rp rn bm').toArray) ∧ w.heap.size ≤ bm' ∧ Sheets bm' n f w' ∧ Below w.heap.size w w' := by
  have hz := Try.zeroValue42
  have HS : Hid (Sheets bm n f w) := h
  have hlt := h.lt
  clear h
  have T0 := Two.start w (stateL used rp rn bm) Try.zeroCells42 zsize46
  have q0 := T0.first 2016 _ (stateL_map used rp rn bm)
  rw [Nat.zero_add] at q0
  have HT0 : Hid _ := T0
  have HS0 : Hid (Sheets bm n f ((w.alloc (.cells (stateL used rp rn bm).toArray 42)).alloc (.cells Try.zeroCells42 42))) := HS.out.block (T0.below.block _ hlt)
  clear T0
  obtain ⟨L, hL⟩ : ∃ L, stateL used rp rn bm = L := ⟨_, rfl⟩
  rw [hL] at q0 HT0 HS0
  rw [hL]
  go_enter Try.func37, Try.ntmps37
  go_wp2_with fail
  clear hz
  refine (mapsClone_any HS0.out).mono ?_
  rintro _ w1 ⟨rfl, hs1, hb1, hz1⟩
  obtain ⟨w0, hw0⟩ : ∃ w0, (w.alloc (.cells L.toArray 42)).alloc (.cells Try.zeroCells42 42) = w0 := ⟨_, rfl⟩
  rw [hw0] at HT0 hs1 hb1 hz1
  rw [hw0]
  have T1 := HT0.out.later hb1
  clear hw0 HS0 q0
  have q1 := T1.first 2016 (.map (some bm)) (by rw [← hL]; exact stateL_map used rp rn bm)
  rw [Nat.zero_add] at q1
  have f1 := T1.free 2016
  obtain ⟨M, hM⟩ : ∃ M, stateL used rp rn w0.heap.size = M := ⟨_, rfl⟩
  have lM : M.length = 2017 := by rw [← hM, stateL_len]
  have sM : (Try.prog.info? 42).map (·.size) = some M.length := by rw [lM]; exact size46
  have sA : (Try.prog.info? 42).map (·.size) = some M.toArray.size := by rw [List.size_toArray, lM]; exact size46
  have oM := all_oneCell_toArray (show ∀ v ∈ M, v.oneCell' = true by rw [← hM]; exact stateL_one _ _ _ _)
  have hs0 := HT0.out.size
  obtain ⟨w2, hw2⟩ : ∃ w2, w1.setCell ⟨w.heap.size, 2016, none⟩ (.map (some w0.heap.size)) = w2 := ⟨_, rfl⟩
  have R2 : Hid (w2.rangeAt w.heap.size 0 M) := fun j v hj => by
    have hl := (List.getElem?_eq_some_iff.1 hj).1
    rw [Nat.zero_add, ← hw2]
    by_cases e : j = 2016
    · subst e
      rw [World.cell?_setCell_same _ _ _ q1, ← hM, stateL_map] at *
      exact hj
    · rw [World.cell?_setCell_other _ _ _ _ (fun e' => e (by injection e' with e1 e2; omega))]
      have := T1.first j v (by rw [← hL, stateL_lt used rp rn bm w0.heap.size (by omega), hM]; exact hj)
      rw [Nat.zero_add] at this
      exact this
  have T2 : Hid (w2.there (w.heap.size + 1) 0 M.toArray.size) := fun j hj => by
    rw [List.size_toArray, lM] at hj
    rw [← hw2, World.frozen?_setCell, World.cell?_setCell_other _ _ _ _ (fun e' => by injection e' with e1 e2; omega)]
    exact T1.second j hj
  have B2 : Hid (Below w.heap.size w w2) := by rw [← hw2]; exact T1.below.setCell (p := ⟨w.heap.size, 2016, none⟩) (Nat.le_refl _) _
  have S2 : Hid (Sheets w0.heap.size n f w2) := by rw [← hw2]; exact hs1.only (Only.set w.heap.size 2016 _ w1) (fun e => by omega)
  have l3 := run_loadVar_mid (P := Try.prog) (w2.setCells (w.heap.size + 1) 0 M) (w.heap.size + 1) 0 42 M _ (World.rangeAt_setCells_same _ _ _ _ (by have := T2.out; rw [List.size_toArray] at this; exact this)) Try.underlying42 rfl sM
  have HM : Hid _ := hM
  clear hM hs1 hb1 hz1 HT0 T1
  go_wp2_with (first | (refine wpList_load_mid rfl 42 _ rfl w.heap.size 0 rfl M _ R2.out Try.underlying42 rfl sM ?_) | (refine wpList_store_mid rfl 42 _ _ rfl (w.heap.size + 1) 0 M.toArray rfl rfl T2.out sA oM ?_) | (rw [hw2]))
  exact bodyPost_ret (v := .agg M.toArray) (results_cell_of Try.results37 _ _ _ rfl l3) rfl ⟨w0.heap.size, by rw [HM.out], by omega, S2.out.only (Only.setCells (w.heap.size + 1) M 0 w2) (fun e => by omega), Below.setCells' (by omega) _ _ _ B2.out⟩
end
end Go.Proofs.Ytjcddeoihjppaaa
namespace Go.Proofs.Ytjcddeoihjppaaa
open Go.RowKit Go.Maps Go.Shelf

/-- a mark, in cells -/
def markL (used : Nat → Bool) (rp rn : Nat → Int) (m : Nat) (c : Int) : List Value := stateL used rp rn m ++ [.int .i64 c]
theorem markL_len (used : Nat → Bool) (rp rn : Nat → Int) (m : Nat) (c : Int) : (markL used rp rn m c).length = 2018 := by rw [markL, List.length_append, stateL_len]; rfl
theorem markL_one (used : Nat → Bool) (rp rn : Nat → Int) (m : Nat) (c : Int) : ∀ v ∈ markL used rp rn m c, v.oneCell' = true := fun v hv => by
  rcases List.mem_append.1 hv with h | h
  · exact stateL_one _ _ _ _ v h
  · rw [List.mem_singleton.1 h]; rfl
theorem size48 : (Try.prog.info? 44).map (·.size) = some 2018 := by kernel_rfl
theorem zsize48 : Try.zeroCells44.size = 2018 := by kernel_rfl

theorem fold_get (off : Nat) : ∀ (vs : List Value) (n : Nat) (A : Array Value) (k : Nat), off + n + vs.length ≤ A.size →
    ((vs.zipIdx n).foldl (fun cs x => cs.setIfInBounds (off + x.2) x.1) A)[k]? = (if off + n ≤ k ∧ k < off + n + vs.length then vs[k - (off + n)]? else A[k]?) ∧ ((vs.zipIdx n).foldl (fun cs x => cs.setIfInBounds (off + x.2) x.1) A).size = A.size
  | [], n, A, k, _ => by simp; omega
  | v :: r, n, A, k, h => by
    rw [List.zipIdx_cons, List.foldl_cons]
    have h1 : off + (n + 1) + r.length ≤ (A.setIfInBounds (off + n) v).size := by rw [Array.size_setIfInBounds]; simp only [List.length_cons] at h; omega
    obtain ⟨e1, e2⟩ := fold_get off r (n + 1) (A.setIfInBounds (off + n) v) k h1
    refine ⟨?_, by rw [e2, Array.size_setIfInBounds]⟩
    rw [e1]
    simp only [List.length_cons] at h ⊢
    by_cases c1 : off + (n + 1) ≤ k ∧ k < off + (n + 1) + r.length
    · rw [if_pos c1, if_pos (by omega), show k - (off + n) = (k - (off + (n + 1))) + 1 by omega, List.getElem?_cons_succ]
    · rw [if_neg c1]
      by_cases c2 : k = off + n
      · subst c2
        rw [if_pos (by omega), Nat.sub_self, List.getElem?_cons_zero, Array.getElem?_setIfInBounds_self_of_lt (by omega)]
      · rw [if_neg (by omega), Array.getElem?_setIfInBounds_ne (by omega)]

theorem fill_fold (S : List Value) (off : Nat) (A : Array Value) : S.toArray.zipIdx.foldl (fun cs (c, j) => cs.setIfInBounds (off + j) c) A = (S.zipIdx 0).foldl (fun cs x => cs.setIfInBounds (off + x.2) x.1) A := by
  rw [← Array.foldl_toList, Array.toList_zipIdx]
/-- one part laid -/
theorem fill_cons (place : Nat → Option (Nat × Nat)) (A : Array Value) (i : Nat) (v : Value) (rest : List (Nat × Value)) (vs : List Value) (off size : Nat) (hp : place i = some (off, size)) (hv : v.cells = vs.toArray) (hs : vs.length = size) (hA : off + size ≤ A.size) :
    Instr.fill place A ((i, v) :: rest) = Instr.fill place ((vs.zipIdx 0).foldl (fun cs x => cs.setIfInBounds (off + x.2) x.1) A) rest := by
  rw [Instr.fill, hp, hv]
  simp only
  rw [if_neg (by simp [hs]; omega), fill_fold]
theorem info48 : (Try.prog.info? 44).bind (·.zero) = some (.agg Try.zeroCells44) := by kernel_rfl
theorem info46n : (Try.prog.info? 42).map (·.size) = some 2017 := by kernel_rfl
theorem info3n : (Try.prog.info? 3).map (·.size) = some 1 := by kernel_rfl
theorem cells_agg (A : Array Value) : (Value.agg A).cells = A := rfl

set_option maxRecDepth 100000 in
theorem built48 (S : List Value) (hS : S.length = 2017) (c : Int) : Try.prog.built 44 [(0, Value.agg S.toArray), (1, Value.int .i64 c)] = some (S ++ [Value.int .i64 c]).toArray := by
  have h48 := info48
  have h46 := info46n
  have h3 := info3n
  have hZ := zsize48
  unfold Program.built
  rw [Try.underlying44]
  generalize Try.zeroCells44 = Z at *
  cases e48 : Try.prog.info? 44 with
  | none => rw [e48] at h48; cases h48
  | some it =>
    rw [e48] at h48
    have hz : it.zero = some (.agg Z) := h48
    cases e46 : Try.prog.info? 42 with
    | none => rw [e46] at h46; cases h46
    | some i46 =>
      rw [e46] at h46
      have s46 : i46.size = 2017 := Option.some.inj h46
      cases e3 : Try.prog.info? 3 with
      | none => rw [e3] at h3; cases h3
      | some i3 =>
        rw [e3] at h3
        have s3 : i3.size = 1 := Option.some.inj h3
        simp only [hz, List.mapM_cons, List.mapM_nil, e46, e3, s46, s3, Option.map_some, Option.bind_eq_bind, Option.bind_some, Option.pure_def, cells_agg]
        rw [fill_cons _ Z 0 _ _ S 0 2017 rfl rfl hS (by omega)]
        have f1 := fun k => fold_get 0 S 0 Z k (by omega)
        generalize (S.zipIdx 0).foldl (fun cs x => cs.setIfInBounds (0 + x.2) x.1) Z = Y at *
        have sY : Y.size = 2018 := by rw [(f1 0).2, hZ]
        rw [fill_cons _ Y 1 _ _ [.int .i64 c] 2017 1 rfl rfl rfl (by omega)]
        have f2 := fun k => fold_get 2017 [Value.int .i64 c] 0 Y k (by simp; omega)
        generalize ([Value.int .i64 c].zipIdx 0).foldl (fun cs x => cs.setIfInBounds (2017 + x.2) x.1) Y = X at *
        have sX : X.size = 2018 := by rw [(f2 0).2, sY]
        show some X = _
        congr 1
        apply Array.ext_getElem?
        intro k
        have eR : (S ++ [Value.int .i64 c]).toArray[k]? = (S ++ [Value.int .i64 c])[k]? := by simp only [List.getElem?_toArray]
        rw [(f2 k).1, eR]
        simp only [List.length_cons, List.length_nil]
        by_cases c1 : k < 2017
        · rw [if_neg (by omega), (f1 k).1, if_pos (by omega), List.getElem?_append_left (by omega)]
          simp
        · by_cases c2 : k = 2017
          · subst c2
            rw [if_pos (by omega), List.getElem?_append_right (by omega), hS]
          · rw [if_neg (by omega), (f1 k).1, if_neg (by omega), List.getElem?_append_right (by omega), hS, Array.getElem?_eq_none (by omega), List.getElem?_eq_none (by simp; omega)]
end Go.Proofs.Ytjcddeoihjppaaa
namespace Go.Proofs.Ytjcddeoihjppaaa
open Go.RowKit Go.Maps Go.Shelf

section
variable {bp bd bm n : Nat} {p : Pg} {s : St} {w : World} {f : Nat → Option ByteArray}
set_option maxRecDepth 100000 in
set_option maxHeartbeats 400000 in
theorem mark_any (h : PagerIs bp bd bm n p w) : Calls Try.prog 11 #[.pointer (some ⟨bp, 0, none⟩)] w fun e w' => ∃ bm', e = .returned (.agg (markL p.used p.rp p.rn bm' p.commits).toArray) ∧ w.heap.size ≤ bm' ∧ Sheets bm' n p.chg w' ∧ Below w.heap.size w w' := by
  have hz := Try.zeroValue44
  have HP : Hid (PagerIs bp bd bm n p w) := h
  clear h
  go_enter Try.func11, Try.ntmps11
  go_wp2_with fail
  clear hz
  obtain ⟨L, hL⟩ : ∃ L, stateL p.used p.rp p.rn bm = L := ⟨_, rfl⟩
  have sL : (Try.prog.info? 42).map (·.size) = some L.length := by rw [← hL, stateL_len]; exact size46
  have HK : Hid (∀ wx, Below w.heap.size w wx → wx.rangeAt bp 2001 L ∧ wx.cell? ⟨bp, 4018, none⟩ = some (.int .i64 p.commits)) := fun wx hx => by
    have hp := HP.out.below hx
    refine ⟨by rw [← hL]; exact hp.cells.state, ?_⟩
    have := hp.cells.cell 4018 (by omega)
    rw [cellOf_commits] at this
    exact this
  have HB0 : Hid (Below w.heap.size w (w.alloc (.cells Try.zeroCells44 44)).drew) := ((Below.refl _ w).alloc (Nat.le_refl _) _).drew
  have hlt := HP.out.mlt
  refine wp_region_held_drew (S := fun wx => wx.rangeAt bp 2001 L ∧ wx.cell? ⟨bp, 4018, none⟩ = some (.int .i64 p.commits)) (by kernel_rfl) (HK.out _ HB0.out) ?_
  intro g0
  refine wpAnyH_take (i := 0) (v := .pointer (some ⟨bp, 0, none⟩)) rfl (by kernel_rfl) (by kernel_rfl) (by kernel_rfl) (fun _ _ _ h => h) (.inl ⟨by rfl, fun wx _ => by go_simp⟩) g0 ?_
  simp only [Act.put, List.setIfInBounds_toArray]
  refine wpAnyH_take (i := 1) (v := .pointer (some ⟨bp, 0, none⟩)) rfl (by kernel_rfl) (by kernel_rfl) (by kernel_rfl) (fun _ _ _ h => h) (.inl ⟨by rfl, fun wx _ => by go_simp⟩) g0 ?_
  simp only [Act.put]
  refine wpAnyH_take (i := 2) (v := .pointer (some ⟨bp, 2001, none⟩)) rfl (by kernel_rfl) (by kernel_rfl) (by kernel_rfl) (fun _ _ _ h => h) (.inl ⟨by rfl, fun wx _ => by go_simp⟩) g0 ?_
  simp only [Act.put]
  refine wpAnyH_take (i := 3) (v := .agg L.toArray) rfl (by kernel_rfl) (by kernel_rfl) (by kernel_rfl) (fun _ _ _ h => h) (yieldsIf_load_mid (by rfl) 42 _ rfl _ 2001 rfl L _ (fun wx h => h.1) Try.underlying42 rfl sL) g0 ?_
  simp only [Act.put]
  refine wpAnyH_take (i := 5) (v := .pointer (some ⟨bp, 0, none⟩)) rfl (by kernel_rfl) (by kernel_rfl) (by kernel_rfl) (fun _ _ _ h => h) (.inl ⟨by rfl, fun wx _ => by go_simp⟩) g0 ?_
  simp only [Act.put]
  refine wpAnyH_take (i := 6) (v := .pointer (some ⟨bp, 0, none⟩)) rfl (by kernel_rfl) (by kernel_rfl) (by kernel_rfl) (fun _ _ _ h => h) (.inl ⟨by rfl, fun wx _ => by go_simp⟩) g0 ?_
  simp only [Act.put]
  refine wpAnyH_take (i := 7) (v := .pointer (some ⟨bp, 4018, none⟩)) rfl (by kernel_rfl) (by kernel_rfl) (by kernel_rfl) (fun _ _ _ h => h) (.inl ⟨by rfl, fun wx _ => by go_simp⟩) g0 ?_
  simp only [Act.put]
  refine wpAnyH_take (i := 8) (v := .int .i64 p.commits) rfl (by kernel_rfl) (by kernel_rfl) (by kernel_rfl) (fun _ _ _ h => h) (.inl ⟨by rfl, fun wx h => by have h8 := h.2; go_simp⟩) g0 ?_
  simp only [Act.put]
  refine wpAnyH_ready (rs := [4]) (by kernel_rfl) (by decide) (AllReadyH.cons rfl (fun K hK => ?_) AllReadyH.nil)
  rw [if_pos (by rfl)]
  go_simp
  rw [← hL]
  refine (clone_state (HP.out.own.block (HB0.out.block _ hlt)) _ _ _).mono ?_
  rintro _ wy ⟨bm', rfl, hbm, hs, hb⟩
  have HB : Hid (Below w.heap.size w wy) := HB0.out.trans (hb.mono HB0.out.size)
  refine hK.out _ _ (HK.out _ HB.out) (fun g1 => ?_)
  clear hK K
  obtain ⟨M, hM⟩ : ∃ M, markL p.used p.rp p.rn bm' p.commits = M := ⟨_, rfl⟩
  have hbu : Try.prog.built 44 [(0, Value.agg (stateL p.used p.rp p.rn bm').toArray), (1, Value.int .i64 p.commits)] = some M.toArray := by rw [← hM]; exact built48 _ (stateL_len _ _ _ _) _
  have hru := fun wx => run_build (P := Try.prog) wx 44 #[(0, Value.agg (stateL p.used p.rp p.rn bm').toArray), (1, Value.int .i64 p.commits)] M.toArray hbu
  refine wpAnyH_take (i := 9) (v := .agg M.toArray) rfl (by kernel_rfl) (by kernel_rfl) (by kernel_rfl) (fun _ _ _ h => h) (.inl ⟨by rfl, fun wx _ => by
    have h9 := hru wx
    simp [execOp]
    refine (congrArg (fun r => Result.andThen r _) h9).trans ?_
    rfl⟩) g1 ?_
  simp only [Act.put]
  have lM : M.length = 2018 := by rw [← hM, markL_len]
  have sM : (Try.prog.info? 44).map (·.size) = some M.length := by rw [lM]; exact size48
  have oM := all_oneCell_toArray (show ∀ v ∈ M, v.oneCell' = true by rw [← hM]; exact markL_one _ _ _ _ _)
  have hn0 : (w.alloc (.cells Try.zeroCells44 44)).drew.heap[w.heap.size]? = some (.cells Try.zeroCells44 44) := heap_alloc_new w _
  have hny : wy.heap[w.heap.size]? = some (.cells Try.zeroCells44 44) := by
    rw [hb.block _ (by show w.heap.size < (w.alloc (.cells Try.zeroCells44 44)).heap.size; rw [World.size_alloc]; omega)]; exact hn0
  have hty : wy.there w.heap.size 0 M.toArray.size := fun j hj => by
    rw [List.size_toArray, lM] at hj
    refine ⟨?_, by simp only [World.frozen?, hny]; simp⟩
    rw [Nat.zero_add, cell_of_row _ _ _ _ _ _ hny]
    simp
    exact hj
  have HB2 : Hid (Below w.heap.size w (wy.setCells w.heap.size 0 M)) := Below.setCells' (Nat.le_refl _) _ _ _ HB.out
  have HS2 : Hid (Sheets bm' n p.chg (wy.setCells w.heap.size 0 M)) := hs.only (Only.setCells w.heap.size M 0 wy) (fun e => by
    have : (w.alloc (.cells Try.zeroCells44 44)).drew.heap.size = w.heap.size + 1 := World.size_alloc _ _
    omega)
  have hbm2 : w.heap.size ≤ bm' := Nat.le_trans HB0.out.size hbm
  have l3 := run_loadVar_mid (P := Try.prog) (wy.setCells w.heap.size 0 M) w.heap.size 0 44 M _ (World.rangeAt_setCells_same _ _ _ _ (by rw [List.size_toArray] at hty; exact hty)) Try.underlying44 rfl sM
  refine wpAnyH_ready (rs := [10]) (by kernel_rfl) (by decide) (AllReadyH.cons rfl (fun K hK => ?_) AllReadyH.nil)
  rw [if_pos (by rfl)]
  refine wp_store_mid 44 _ _ rfl _ 0 M.toArray rfl rfl hty (by rw [List.size_toArray]; exact sM) oM ?_
  refine hK.out _ _ (HK.out _ HB2.out) (fun _ => ?_)
  clear hK K
  refine wpAnyH_done (by kernel_rfl) ?_ _
  clear hty hny hn0 hs hb g1 g0 hbu hru
  go_wp2_with fail
  exact bodyPost_ret (v := .agg M.toArray) (results_cell_of Try.results11 _ _ _ rfl l3) rfl ⟨bm', by rw [hM], hbm2, HS2.out, HB2.out⟩
end
end Go.Proofs.Ytjcddeoihjppaaa
namespace Go.Proofs.Ytjcddeoihjppaaa
open Go.RowKit Go.Maps Go.Shelf

/-- a pager as it was noted -/
def Pg.back (p q : Pg) : Pg := { p with used := q.used, rp := q.rp, rn := q.rn, chg := q.chg }

section
variable {bp bd bm n : Nat} {p : Pg} {s : St} {w : World} {f : Nat → Option ByteArray}
set_option maxRecDepth 100000 in
set_option maxHeartbeats 400000 in
theorem back_arg (h : Cells bp bd bm p w) (hd : p.down = false) (M : List Value) (c : Int) (hM : M[2017]? = some (.int .i64 c)) (hc : c ≠ p.commits) :
    Calls Try.prog 12 #[.pointer (some ⟨bp, 0, none⟩), .agg M.toArray] w fun e w' => e = .returned (.iface 80 (.int .i64 1)) ∧ Below w.heap.size w w' := by
  have hb : Below w.heap.size w (w.alloc (.cells M.toArray 44)) := (Below.refl _ _).alloc (Nat.le_refl _) _
  have hn : (w.alloc (.cells M.toArray 44)).heap[w.heap.size]? = some (.cells M.toArray 44) := heap_alloc_new w _
  have q1 : (w.alloc (.cells M.toArray 44)).cell? ⟨w.heap.size, 2017, none⟩ = some (.int .i64 c) := by
    rw [cell_of_row _ _ _ _ _ _ hn]; simpa using hM
  have hC := h.block (hb.block _ h.lt)
  have q2 := hC.cell 4018 (by omega)
  have q3 := hC.cell 4019 (by omega)
  rw [cellOf_commits] at q2
  rw [cellOf_down, hd] at q3
  have hne : (c == p.commits) = false := by simpa using hc
  clear hC hn h
  go_enter Try.func12, Try.ntmps12
  go_wp2
  go_quiet (fail)
  go_wp2
  go_ret
  exact ⟨rfl, hb.trans ⟨rfl, rfl, rfl, Nat.le_refl _, fun _ _ => rfl⟩⟩

theorem Cells.setState {q : Pg} {m : Nat} (h : Cells bp bd bm p w) : Cells bp bd m (p.back q) (w.setCells bp 2001 (stateL q.used q.rp q.rn m)) := by
  refine (h.row.setN 2001 (stateL q.used q.rp q.rn m) (by rw [stateL_len]; omega)).cells fun k hk => ?_
  have hl := stateL_len q.used q.rp q.rn m
  by_cases h1 : 2001 ≤ k ∧ k < 4018
  · obtain ⟨j, rfl⟩ : ∃ j, k = 2001 + j := ⟨k - 2001, by omega⟩
    exact over_in _ _ _ (stateL_get (p.back q) bd m (by omega))
  · rw [over_out _ _ _ (by omega)]
    unfold cellOf
    by_cases a0 : k = 0
    · rw [if_pos a0, if_pos a0]
    rw [if_neg a0, if_neg a0]
    by_cases a1 : k < 2001
    · rw [if_pos a1, if_pos a1]; rfl
    rw [if_neg a1, if_neg a1, if_neg (show ¬ k < 4001 by omega), if_neg (show ¬ k < 4001 by omega), if_neg (show ¬ k < 4017 by omega), if_neg (show ¬ k < 4017 by omega), if_neg (show ¬ k = 4017 by omega), if_neg (show ¬ k = 4017 by omega)]; rfl

set_option maxRecDepth 100000 in
set_option maxHeartbeats 400000 in
theorem back_yes (h : PagerIs bp bd bm n p w) (hd : p.down = false) (q : Pg) (mb n' : Nat) (hS : Sheets mb n' q.chg w) (hmb : mb ≠ bp) :
    Calls Try.prog 12 #[.pointer (some ⟨bp, 0, none⟩), .agg (markL q.used q.rp q.rn mb p.commits).toArray] w fun e w' => e = .returned .nilIface ∧ (∃ bm', w.heap.size ≤ bm' ∧ PagerIs bp bd bm' n' (p.back q) w') ∧ Sheets mb n' q.chg w' ∧ Only (fun b => b = bp) w w' := by
  have HP : Hid (PagerIs bp bd bm n p w) := h
  have HS : Hid (Sheets mb n' q.chg w) := hS
  obtain ⟨M, hM⟩ : ∃ M, markL q.used q.rp q.rn mb p.commits = M := ⟨_, rfl⟩
  obtain ⟨L, hL⟩ : ∃ L, stateL q.used q.rp q.rn mb = L := ⟨_, rfl⟩
  have hML : M = L ++ [.int .i64 p.commits] := by rw [← hM, ← hL]; rfl
  have lL : L.length = 2017 := by rw [← hL, stateL_len]
  have sL : (Try.prog.info? 42).map (·.size) = some L.length := by rw [lL]; exact size46
  rw [hM]
  have hb : Below w.heap.size w (w.alloc (.cells M.toArray 44)) := (Below.refl _ _).alloc (Nat.le_refl _) _
  have hn : (w.alloc (.cells M.toArray 44)).heap[w.heap.size]? = some (.cells M.toArray 44) := heap_alloc_new w _
  have q1 : (w.alloc (.cells M.toArray 44)).cell? ⟨w.heap.size, 2017, none⟩ = some (.int .i64 p.commits) := by
    rw [cell_of_row _ _ _ _ _ _ hn, hML]
    simp [lL]
  have hC := h.cells.block (hb.block _ h.lt)
  have q2 := hC.cell 4018 (by omega)
  have q3 := hC.cell 4019 (by omega)
  rw [cellOf_commits] at q2
  rw [cellOf_down, hd] at q3
  have HR0 : Hid ((w.alloc (.cells M.toArray 44)).rangeAt w.heap.size 0 L) := fun j v hj => by
    have hl := (List.getElem?_eq_some_iff.1 hj).1
    rw [Nat.zero_add, cell_of_row _ _ _ _ _ _ hn, hML]
    have : (L ++ [Value.int .i64 p.commits])[j]? = some v := by rw [List.getElem?_append_left hl]; exact hj
    simpa using this
  have HB : Hid _ := hb
  have HL : Hid (stateL q.used q.rp q.rn mb = L) := hL
  clear hC hn h hS hb hML hM hL
  go_enter Try.func12, Try.ntmps12
  go_wp2
  go_quiet (fail)
  obtain ⟨wx, hwx⟩ : ∃ wx, (w.alloc (.cells M.toArray 44)).drewN nq = wx := ⟨_, rfl⟩
  rw [hwx]
  have HBx : Hid (Below w.heap.size w wx) := by rw [← hwx]; exact HB.out.trans ⟨rfl, rfl, rfl, Nat.le_refl _, fun _ _ => rfl⟩
  have HRx : Hid (wx.rangeAt w.heap.size 0 L) := by rw [← hwx]; exact HR0.out
  clear hwx HR0 HB q1 q2 q3
  go_wp2_with (refine wpList_load_mid rfl 42 _ rfl w.heap.size 0 rfl L _ HRx.out Try.underlying42 rfl sL ?_)
  rw [← HL.out]
  refine (clone_state (HS.out.block (HBx.out.block _ HS.out.lt)) q.used q.rp q.rn).mono ?_
  rintro _ w2 ⟨bm', rfl, hbm, hs2, hb2⟩
  have hB2 : Below w.heap.size w w2 := HBx.out.trans (hb2.mono HBx.out.size)
  have hc2 := HP.out.cells.block (hB2.block _ HP.out.lt)
  obtain ⟨R, hR⟩ : ∃ R, stateL q.used q.rp q.rn bm' = R := ⟨_, rfl⟩
  rw [hR]
  have lR : R.length = 2017 := by rw [← hR, stateL_len]
  have sR : (Try.prog.info? 42).map (·.size) = some R.toArray.size := by rw [List.size_toArray, lR]; exact size46
  have oR := all_oneCell_toArray (show ∀ v ∈ R, v.oneCell' = true by rw [← hR]; exact stateL_one _ _ _ _)
  have T2 : Hid (w2.there bp 2001 R.toArray.size) := hc2.there 2001 _ (by rw [List.size_toArray, lR]; omega)
  have hbp := HP.out.lt
  have hle := HBx.out.size
  have HC3 : Hid (Cells bp bd bm' (p.back q) (w2.setCells bp 2001 R)) := by rw [← hR]; exact hc2.setState
  have ho := Only.setCells bp R 2001 w2
  have HS3 : Hid (Sheets bm' n' q.chg (w2.setCells bp 2001 R)) := hs2.only ho (fun e => by omega)
  have HS4 : Hid (Sheets mb n' q.chg (w2.setCells bp 2001 R)) := (HS.out.block (hB2.block _ HS.out.lt)).only ho hmb
  have HO : Hid (Only (fun b => b = bp) w (w2.setCells bp 2001 R)) := (Only.of_below hB2).trans ho (fun _ h => .inl h)
  have hbm2 : w.heap.size ≤ bm' := by omega
  clear hs2 hb2 hB2 hc2 ho hR lR
  go_wp2_with (refine wpList_store_mid rfl 42 _ _ rfl bp 2001 R.toArray rfl rfl T2.out sR oR ?_)
  go_ret
  exact ⟨rfl, ⟨bm', hbm2, HC3.out, HS3.out⟩, HS4.out, HO.out⟩
end
end Go.Proofs.Ytjcddeoihjppaaa
namespace Go.Proofs.Ytjcddeoihjppaaa
open Go.RowKit Go.Maps Go.Shelf

/-- a page of bytes in memory -/
structure BRow (B : Nat) (g : Nat → Nat) (w : World) : Prop where
  cell : ∀ j, j < 1024 → w.cell? ⟨B, j, none⟩ = some (.int .u8 (g j))
  free : ∀ j, w.frozen? ⟨B, j, none⟩ = false
  small : ∀ j, g j < 256
theorem BRow.lt {B : Nat} {g : Nat → Nat} {w : World} (h : BRow B g w) : B < w.heap.size := World.block_lt_of_cell? w _ (h.cell 0 (by omega))
theorem BRow.block {B : Nat} {g : Nat → Nat} {w w' : World} (h : BRow B g w) (hb : w'.heap[B]? = w.heap[B]?) : BRow B g w' :=
  ⟨fun k hk => (World.cell?_of_block hb).trans (h.cell k hk), fun k => (World.frozen?_of_block (a := ⟨B, k, none⟩) hb).trans (h.free k), h.small⟩
theorem BRow.set {B : Nat} {g : Nat → Nat} {w : World} (h : BRow B g w) (o : Nat) (ho : o < 1024) (x : Nat) (hx : x < 256) : BRow B (fun j => if j = o then x else g j) (w.setCell ⟨B, o, none⟩ (.int .u8 x)) := by
  refine ⟨fun j hj => ?_, fun j => by rw [World.frozen?_setCell]; exact h.free j, fun j => ?_⟩
  · by_cases e : j = o
    · subst e
      rw [World.cell?_setCell_same _ _ _ (h.cell j hj), if_pos rfl]
    · rw [World.cell?_setCell_other _ _ _ _ (fun e' => e (by injection e' with e1 e2; omega)), h.cell j hj, if_neg e]
  · show (if j = o then x else g j) < 256
    split
    · exact hx
    · exact h.small j

theorem or_bit2 : ∀ (v : Fin 256) (i : Fin 8), bits BinOp.or IntKind.u8 (v.val : Int) (2 ^ i.val % 256) = ((v.val ||| 2 ^ i.val : Nat) : Int) ∧ (v.val ||| 2 ^ i.val) < 256 := by decide +kernel
theorem or_at (v : Nat) (hv : v < 256) (i : Nat) (hi : i < 8) : bits BinOp.or IntKind.u8 (v : Int) (2 ^ i % 256) = ((v ||| 2 ^ i : Nat) : Int) ∧ (v ||| 2 ^ i) < 256 := or_bit2 ⟨v, hv⟩ ⟨i, hi⟩

set_option maxRecDepth 100000 in
set_option maxHeartbeats 400000 in
theorem writeFlags_any (B o m c : Nat) (g : Nat → Nat) (f : Nat → Bool) (w : World) (h : BRow B g w) (ho : o + 250 ≤ 1024) (hm : 250 ≤ m) (hm2 : m ≤ 1024) (hz : ∀ i, i < 250 → g (o + i) = 0) :
    Calls Try.prog 102 #[.slice (some ⟨B, o, none⟩) m c, .agg (flags f).toArray] w fun e w' => e = .returned (.tuple #[]) ∧ (∃ g', BRow B g' w' ∧ (∀ j, j < o ∨ o + 250 ≤ j → g' j = g j) ∧ ∀ i t, i < 250 → t < 8 → (g' (o + i)).testBit t = f (8 * i + t)) ∧ Only (fun b => b = B) w w' := by
  have HG : Hid (BRow B g w) := h
  have hlt := h.lt
  obtain ⟨F, hF⟩ : ∃ F, flags f = F := ⟨_, rfl⟩
  have sF : (Try.prog.info? 36).map (·.size) = some F.length := by rw [← hF]; exact size_flags _
  have gF : ∀ j, j < 2000 → F[j]? = some (.bool (f j)) := fun j hj => by rw [← hF]; exact flags_get _ hj
  rw [hF]
  have hn : (w.alloc (.cells F.toArray 36)).heap[w.heap.size]? = some (.cells F.toArray 36) := heap_alloc_new w _
  have HR : Hid ((w.alloc (.cells F.toArray 36)).rangeAt w.heap.size 0 F) := fun j v hj => by
    rw [Nat.zero_add, cell_of_row _ _ _ _ _ _ hn]; simpa using hj
  have HB0 : Hid (BRow B g (w.alloc (.cells F.toArray 36))) := h.block (Below.block ((Below.refl _ w).alloc (Nat.le_refl _) _) _ hlt)
  have HO0 : Hid (Only (fun b => b = B) w (w.alloc (.cells F.toArray 36))) := Only.of_below ((Below.refl _ w).alloc (Nat.le_refl _) _)
  clear hF h hn
  go_enter Try.func102, Try.ntmps102
  go_wp2_with (refine wpList_load_mid rfl 36 _ rfl w.heap.size 0 rfl F _ HR.out Try.underlying36 rfl sF ?_)
  go_loopw [7] (fun i wr => ∃ k : Nat, k ≤ 2000 ∧ i = .int .i64 k ∧ Hid (∃ g', BRow B g' wr ∧ (∀ j, j < o ∨ o + 250 ≤ j → g' j = g j) ∧ ∀ i t, i < 250 → t < 8 → (g' (o + i)).testBit t = (decide (8 * i + t < k) && f (8 * i + t))) ∧ Hid (Only (fun b => b = B) w wr)) (fun i _ => 2000 - (intOf i).toNat)
  case atStart => exact ⟨0, by omega, rfl, ⟨g, HB0.out, fun _ _ => rfl, fun i t hi ht => by rw [hz i hi]; simp⟩, HO0.out⟩
  case round =>
    obtain ⟨k, hk, rfl, ⟨g', HG', hout, hbit⟩, HO⟩ := hrel
    by_cases hlt : k < 2000
    · have h1 : (k : Int) < 2000 := by omega
      cases hf : f k
      · have hx := run_index_bits F k hlt false (by rw [gF k hlt, hf]) wr
        have HX : Hid _ := And.intro HG' (And.intro hout hbit)
        clear HG' hout hbit
        go_wp2
        go_roundw
        case rel => exact ⟨k + 1, by omega, by go_num, ⟨g', HX.out.1, HX.out.2.1, fun i t hi ht => by
            rw [HX.out.2.2 i t hi ht]
            by_cases e : 8 * i + t = k
            · rw [e, hf]; simp
            · congr 1; simp; omega⟩, HO.out⟩
        case measure => simp [intOf]; omega
      · have hx := run_index_bits F k hlt true (by rw [gF k hlt, hf]) wr
        have q := HG'.cell (o + k / 8) (by omega)
        have fr := HG'.free (o + k / 8)
        have HOr : Hid _ := or_at (g' (o + k / 8)) (HG'.small _) (k % 8) (by omega)
        have HX : Hid _ := And.intro HG' (And.intro hout hbit)
        clear HG' hout hbit
        have h2 : (k / 8 : Nat) < m := by omega
        have h3 : ((k / 8 : Nat) : Int) < (m : Int) := by omega
        go_wp2
        go_region
        go_wp2
        rw [HOr.out.1]
        go_roundw
        case rel =>
          refine ⟨k + 1, by omega, by go_num, ⟨fun j => if j = o + k / 8 then g' (o + k / 8) ||| 2 ^ (k % 8) else g' j, (HX.out.1.set (o + k / 8) (by omega) _ HOr.out.2).block rfl, fun j hj => ?_, fun i t hi ht => ?_⟩, (HO.out.trans (Only.set B _ _ wr) (fun _ h => .inl h)).drew⟩
          · show (if j = o + k / 8 then _ else g' j) = g j
            rw [if_neg (by omega)]
            exact HX.out.2.1 j hj
          · show (if o + i = o + k / 8 then g' (o + k / 8) ||| 2 ^ (k % 8) else g' (o + i)).testBit t = _
            by_cases e : i = k / 8
            · rw [if_pos (by omega), Nat.testBit_or, ← e, HX.out.2.2 i t hi ht, Nat.testBit_two_pow]
              by_cases e2 : k % 8 = t
              · have e3 : 8 * i + t = k := by omega
                rw [e3, hf]
                simp [e2]
              · rw [decide_eq_false e2, Bool.or_false]
                congr 1
                simp
                omega
            · rw [if_neg (by omega), HX.out.2.2 i t hi ht]
              congr 1
              simp
              omega
        case measure => simp [intOf]; omega
    · obtain rfl : k = 2000 := by omega
      have HX : Hid _ := And.intro HG' (And.intro hout hbit)
      clear HG' hout hbit
      go_wp2
      go_end0
      exact ⟨rfl, ⟨g', HX.out.1, HX.out.2.1, fun i t hi ht => by rw [HX.out.2.2 i t hi ht, decide_eq_true (by omega), Bool.true_and]⟩, HO.out⟩
end Go.Proofs.Ytjcddeoihjppaaa
namespace Go.Proofs.Ytjcddeoihjppaaa
open Go.RowKit Go.Maps Go.Shelf

set_option maxHeartbeats 400000 in
theorem writeNumber_any (B o m c : Nat) (g : Nat → Nat) (w : World) (h : BRow B g w) (hm : 2 ≤ m) (ho : o + 1 < 1024) (n : Nat) (hn : n < 65536) :
    Calls Try.prog 103 #[.slice (some ⟨B, o, none⟩) m c, .int .i64 n] w fun e w' => e = .returned (.tuple #[]) ∧ BRow B (fun j => if j = o + 1 then n % 256 else if j = o then n / 256 else g j) w' ∧ Only (fun b => b = B) w w' := by
  have h0 : (0 : Int) < (m : Int) := by omega
  have h1 : (1 : Int) < (m : Int) := by omega
  have h0' : 0 < m := by omega
  have h1' : 1 < m := by omega
  have r1 := h.set o (by omega) (n / 256) (by omega)
  have q0 := h.cell o (by omega)
  have f0 := h.free o
  have q1 := r1.cell (o + 1) (by omega)
  have f1 := r1.free (o + 1)
  have r2 := r1.set (o + 1) ho (n % 256) (by omega)
  have e1 : ((n / 256 : Nat) : Int) = (n : Int) / 256 := by omega
  have e2 : ((n % 256 : Nat) : Int) = (n : Int) % 256 := by omega
  rw [e1] at q1 f1 r2
  rw [e2] at r2
  have HR : Hid _ := r2
  clear r1 r2 h e1 e2
  go_enter Try.func103, Try.ntmps103
  go_wp2
  go_end0
  exact ⟨rfl, HR.out, (Only.set B _ _ w).trans (Only.set B _ _ _) (fun _ h => .inl h)⟩

theorem info_parts {α β γ : Type} {o : Option TypeInfo} {f : TypeInfo → α} {g : TypeInfo → β} {k : TypeInfo → γ} {a : α} {b : β} {c : γ} (h : o.map (fun i => (f i, g i, k i)) = some (a, b, c)) : ∃ i, o = some i ∧ f i = a ∧ g i = b ∧ k i = c := by
  cases o with
  | none => cases h
  | some i => simp at h; exact ⟨i, rfl, h.1, h.2.1, h.2.2⟩
/-- a page of noughts, made -/
theorem made_page (w : World) : ∃ w', (Instr.makeSlice 54 (.int .i64 1024) (.int .i64 1024)).run Try.prog w = .ok (.slice (some ⟨w.heap.size, 0, none⟩) 1024 1024) w' ∧ Below w.heap.size w w' ∧ BRow w.heap.size (fun _ => 0) w' := by
  obtain ⟨i0, hi, hz0, hz1, hz2⟩ := info_parts info5
  have h := run_make (P := Try.prog) w 54 5 i0 (.int .u8 0) Try.underlying54 hi hz0 .i64 .i64 1024 1024 (by omega) (Int.le_refl _) (by rw [hz2]; omega) (by omega)
  rw [hz1] at h
  have hn' := heap_alloc_new w (.cells (madeCells (Value.int .u8 0).cells 1024) 5)
  refine ⟨_, h, (Below.refl _ w).alloc (Nat.le_refl _) _, fun j hj => ?_, fun j => ?_, fun j => by decide⟩
  · simp only [World.cell?, Nat.mul_one, show (1024 : Int).toNat = 1024 from rfl, hn']
    simp [madeCells, hj, Value.cells, Nat.mod_one]
  · simp only [World.frozen?, Nat.mul_one, show (1024 : Int).toNat = 1024 from rfl, hn']
    simp
/-- a page's text -/
def bytesOf (g : Nat → Nat) : List UInt8 := (List.range 1024).map fun j => UInt8.ofNat (g j)
theorem bytesOf_len (g : Nat → Nat) : (bytesOf g).length = 1024 := by simp [bytesOf]
theorem bytesOf_getD (g : Nat → Nat) {j : Nat} (hj : j < 1024) : (bytesOf g).getD j 0 = UInt8.ofNat (g j) := by
  simp [bytesOf, List.getD_eq_getElem?_getD, List.getElem?_map, List.getElem?_range hj]
theorem BRow.text {B : Nat} {g : Nat → Nat} {w : World} (h : BRow B g w) : (convert 54 9 (.slice (some ⟨B, 0, none⟩) 1024 1024)).run Try.prog w = .ok (.string ⟨(bytesOf g).toArray⟩) w := by
  have := run_convert_bytes_back (P := Try.prog) w 54 9 5 ⟨B, 0, none⟩ 1024 (bytesOf g) Try.underlying54 Try.underlying5 Try.underlying9 (fun j hj => by
    rw [bytesOf_len] at hj
    rw [Addr.add_lit, Nat.zero_add, h.cell j hj]
    have hs := h.small j
    simp [bytesOf, Nat.mod_eq_of_lt hs])
  rw [bytesOf_len] at this
  exact this

set_option maxRecDepth 100000 in
set_option maxHeartbeats 400000 in
theorem writeTurn_any (up : Bool) (w : World) : Calls Try.prog 64 #[.bool up] w fun e w' => ∃ g : Nat → Nat, e = .returned (.string ⟨(bytesOf g).toArray⟩) ∧ (g 0 = if up then 1 else 0) ∧ (∀ j, 0 < j → g j = 0) ∧ Below w.heap.size w w' := by
  obtain ⟨w1, hcv, hb1, hr⟩ := made_page w
  cases up
  · have ht := hr.text
    have HB : Hid _ := hb1
    clear hr hb1
    go_enter Try.func64, Try.ntmps64
    go_wp2
    go_ret
    exact ⟨_, rfl, rfl, fun _ _ => rfl, HB.out⟩
  · have q0 := hr.cell 0 (by omega)
    have f0 := hr.free 0
    have r2 := hr.set 0 (by omega) 1 (by omega)
    have r2 : BRow w.heap.size (fun j => if j = 0 then 1 else 0) (w1.setCell ⟨w.heap.size, 0, none⟩ (.int .u8 1)) := r2
    have ht := r2.text
    have HB : Hid (Below w.heap.size w (w1.setCell ⟨w.heap.size, 0, none⟩ (.int .u8 1))) := hb1.setCell (p := ⟨w.heap.size, 0, none⟩) (Nat.le_refl _) _
    clear hr hb1 r2
    go_enter Try.func64, Try.ntmps64
    go_wp2
    go_ret
    exact ⟨_, rfl, by simp, fun j hj => by show (if j = 0 then 1 else 0) = 0; rw [if_neg (by omega)], HB.out⟩
end Go.Proofs.Ytjcddeoihjppaaa
namespace Go.Proofs.Ytjcddeoihjppaaa
open Go.RowKit Go.Maps Go.Shelf

/-- what is known within writeHead: three rows that were laid, and the page -/
structure W4 (w wr : World) (F G R : List Value) (g : Nat → Nat) : Prop where
  used : wr.rangeAt w.heap.size 0 F
  upper : wr.rangeAt (w.heap.size + 1) 0 G
  roots : wr.rangeAt (w.heap.size + 1 + 1) 0 R
  page : BRow (w.heap.size + 1 + 1 + 1) g wr
  below : Below w.heap.size w wr
section
variable {w wr wx : World} {F G R : List Value} {g g' : Nat → Nat}
theorem W4.size (h : W4 w wr F G R g) : w.heap.size + 4 ≤ wr.heap.size := by have := h.page.lt; omega
theorem rangeAt_block {B o : Nat} {L : List Value} {w w' : World} (h : w.rangeAt B o L) (hb : w'.heap[B]? = w.heap[B]?) : w'.rangeAt B o L := fun j v hj => by
  rw [World.cell?_of_block (a := ⟨B, o + j, none⟩) hb]; exact h j v hj
theorem W4.later (h : W4 w wr F G R g) (hb : Below wr.heap.size wr wx) : W4 w wx F G R g := by
  have := h.size
  exact ⟨rangeAt_block h.used (hb.block _ (by omega)), rangeAt_block h.upper (hb.block _ (by omega)), rangeAt_block h.roots (hb.block _ (by omega)), h.page.block (hb.block _ (by omega)), h.below.trans (hb.mono (by omega))⟩
theorem W4.turn (h : W4 w wr F G R g) (ho : Only (fun b => b = w.heap.size + 1 + 1 + 1) wr wx) (hp : BRow (w.heap.size + 1 + 1 + 1) g' wx) : W4 w wx F G R g' := by
  have := h.size
  refine ⟨rangeAt_block h.used (ho.block _ (by omega) (by omega)), rangeAt_block h.upper (ho.block _ (by omega) (by omega)), rangeAt_block h.roots (ho.block _ (by omega) (by omega)), hp, Only.below h.below ho (by omega) (fun i hi => by omega)⟩
theorem W4.drew (h : W4 w wr F G R g) : W4 w wr.drew F G R g := ⟨rangeAt_block h.used rfl, rangeAt_block h.upper rfl, rangeAt_block h.roots rfl, h.page.block rfl, h.below.drew⟩
end
theorem W4.start (w : World) (F G R : List Value) : ∃ w1, (Instr.makeSlice 54 (.int .i64 1024) (.int .i64 1024)).run Try.prog (((w.alloc (.cells F.toArray 36)).alloc (.cells G.toArray 36)).alloc (.cells R.toArray 39)) = .ok (.slice (some ⟨w.heap.size + 1 + 1 + 1, 0, none⟩) 1024 1024) w1 ∧ W4 w w1 F G R (fun _ => 0) := by
  have row : ∀ (B : Nat) (L : List Value) (t : TypeId) (wz : World), wz.heap[B]? = some (.cells L.toArray t) → wz.rangeAt B 0 L := fun B L t wz hB j v hj => by
    rw [Nat.zero_add, cell_of_row _ _ _ _ _ _ hB]; simpa using hj
  have s1 : (w.alloc (.cells F.toArray 36)).heap.size = w.heap.size + 1 := World.size_alloc _ _
  have s2 : ((w.alloc (.cells F.toArray 36)).alloc (.cells G.toArray 36)).heap.size = w.heap.size + 1 + 1 := by rw [World.size_alloc, s1]
  have s3 : (((w.alloc (.cells F.toArray 36)).alloc (.cells G.toArray 36)).alloc (.cells R.toArray 39)).heap.size = w.heap.size + 1 + 1 + 1 := by rw [World.size_alloc, s2]
  have r1 := row _ F 36 _ (heap_alloc_new w (.cells F.toArray 36))
  have r2 := row _ G 36 _ (heap_alloc_new (w.alloc (.cells F.toArray 36)) (.cells G.toArray 36))
  have r3 := row _ R 39 _ (heap_alloc_new ((w.alloc (.cells F.toArray 36)).alloc (.cells G.toArray 36)) (.cells R.toArray 39))
  rw [s1] at r2
  rw [s2] at r3
  have b1 : Below w.heap.size w (w.alloc (.cells F.toArray 36)) := (Below.refl _ _).alloc (Nat.le_refl _) _
  have b2 : Below (w.heap.size + 1) (w.alloc (.cells F.toArray 36)) ((w.alloc (.cells F.toArray 36)).alloc (.cells G.toArray 36)) := by rw [← s1]; exact (Below.refl _ _).alloc (Nat.le_refl _) _
  have b3 : Below (w.heap.size + 1 + 1) ((w.alloc (.cells F.toArray 36)).alloc (.cells G.toArray 36)) (((w.alloc (.cells F.toArray 36)).alloc (.cells G.toArray 36)).alloc (.cells R.toArray 39)) := by rw [← s2]; exact (Below.refl _ _).alloc (Nat.le_refl _) _
  obtain ⟨w1, h1, h2, h3⟩ := made_page (((w.alloc (.cells F.toArray 36)).alloc (.cells G.toArray 36)).alloc (.cells R.toArray 39))
  rw [s3] at h1 h2 h3
  refine ⟨w1, h1, ?_, ?_, ?_, h3, b1.trans ((b2.mono (by omega)).trans ((b3.mono (by omega)).trans (h2.mono (by omega))))⟩
  · exact rangeAt_block (rangeAt_block (rangeAt_block r1 (b2.block _ (by omega))) (b3.block _ (by omega))) (h2.block _ (by omega))
  · exact rangeAt_block (rangeAt_block r2 (b3.block _ (by omega))) (h2.block _ (by omega))
  · exact rangeAt_block r3 (h2.block _ (by omega))

theorem root_part (rp rn : Nat → Int) : ∀ (k : Nat), k < 8 → (rootsL rp rn).toArray.extract (k * 2) (k * 2 + 2) = #[Value.int .i64 (rp k), Value.int .i64 (rn k)]
  | 0, _ => rfl
  | 1, _ => rfl
  | 2, _ => rfl
  | 3, _ => rfl
  | 4, _ => rfl
  | 5, _ => rfl
  | 6, _ => rfl
  | 7, _ => rfl
  | k + 8, h => absurd h (by omega)
/-- a root out of a row of them -/
theorem run_index_root (A : Array Value) (x y : Int) (k : Nat) (hk : k < 8) (he : A.extract (k * 2) (k * 2 + 2) = #[.int .i64 x, .int .i64 y]) (w : World) : (Instr.index 39 (.agg A) (.int .i64 k)).run Try.prog w = .ok (.agg #[.int .i64 x, .int .i64 y]) w := by
  simp [Instr.index, run_underlying Try.underlying39, asIntOf, part, Try.sizeOf38, Try.isAgg38, go_sem]
  rw [if_pos hk, he]
end Go.Proofs.Ytjcddeoihjppaaa
