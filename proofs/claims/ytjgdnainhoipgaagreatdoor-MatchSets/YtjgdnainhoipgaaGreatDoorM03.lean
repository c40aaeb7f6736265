/- Texts of the proof of MatchSets: Sml, Srt, Mpl, Rdp, Wrp, Alc, Usd, Mrk, Cln, Bld, Mk2, Bck, Wfl, Wnm, Whd, Whw, Cmt0, Cal0, Pge, Pge2. -/
import Derived.Test.YtjgdnainhoipgaaGreatDoorM02
import Derived.Laws.Tables
import Derived.Laws.IdiomStrings
import Derived.Handy
namespace Go.Proofs.YtjgdnainhoipgaaGreatDoor
open Go.RowKit Go.Maps

section
variable {bp bd bm n : Nat} {p : Pg} {s : St} {w : World}

theorem down_any (h : Cells bp bd bm p w) : Calls Tryz.prog 123 #[.pointer (some ⟨bp, 0, none⟩)] w fun e w' => e = .returned (.bool p.down) ∧ w' = w := by
  have q := h.cell 4019 (by omega)
  rw [cellOf_down] at q
  clear h
  go_enter Tryz.func123, Tryz.ntmps123
  go_wp2
  go_ret
  exact ⟨rfl, rfl⟩

/-- the error of a code -/
def errV (n : Int) : Value := if n = 0 then .nilIface else .iface 52 (.int .i64 n)
/-- what keeps a page from being read or changed -/
def Pg.code (p : Pg) (k : Int) : Int := if 0 ≤ k ∧ k < 2000 ∧ p.used k.toNat = true then (if p.down then 6 else 0) else 2
theorem Pg.code_no {p : Pg} {k : Int} (h : ¬ (0 ≤ k ∧ k < 2000 ∧ p.used k.toNat = true)) : p.code k = 2 := if_neg h
theorem Pg.code_yes {p : Pg} {k : Int} (h : 0 ≤ k ∧ k < 2000 ∧ p.used k.toNat = true) : p.code k = if p.down then 6 else 0 := if_pos h

set_option maxRecDepth 100000 in
set_option maxHeartbeats 400000 in
theorem reach_any (h : Cells bp bd bm p w) (k : Int) : Calls Tryz.prog 125 #[.pointer (some ⟨bp, 0, none⟩), .int .i64 k] w fun e w' => ∃ E, e = .returned E ∧ E = errV (p.code k) ∧ w' = w := by
  by_cases h0 : 0 ≤ k ∧ k < 2000
  · obtain ⟨j, rfl⟩ : ∃ j : Nat, k = j := ⟨k.toNat, by omega⟩
    have hj : j < 2000 := by omega
    have h1 : (j : Int) < 2000 := by omega
    have q := h.cell (2001 + j) (by omega)
    rw [cellOf_used _ _ _ hj] at q
    have q2 := h.cell 4019 (by omega)
    rw [cellOf_down] at q2
    clear h
    cases hu : p.used j
    · rw [hu] at q
      rw [Pg.code_no (fun e => by rw [Int.toNat_natCast, hu] at e; cases e.2.2)]
      go_enter Tryz.func125, Tryz.ntmps125
      go_wp2_with fail
      refine (below_any j 2000 w).mono ?_
      rintro _ wa ⟨rfl, hw⟩
      subst wa
      rw [decide_eq_true (show (0 : Int) ≤ j by omega), decide_eq_true h1]
      go_wp2
      go_ret
      exact ⟨_, rfl, rfl, rfl⟩
    · rw [hu] at q
      rw [Pg.code_yes ⟨by omega, h1, by rw [Int.toNat_natCast]; exact hu⟩]
      cases hd : p.down
      · rw [hd] at q2
        go_enter Tryz.func125, Tryz.ntmps125
        go_wp2_with fail
        refine (below_any j 2000 w).mono ?_
        rintro _ wa ⟨rfl, hw⟩
        subst wa
        rw [decide_eq_true (show (0 : Int) ≤ j by omega), decide_eq_true h1]
        go_wp2
        go_ret
        exact ⟨_, rfl, rfl, rfl⟩
      · rw [hd] at q2
        go_enter Tryz.func125, Tryz.ntmps125
        go_wp2_with fail
        refine (below_any j 2000 w).mono ?_
        rintro _ wa ⟨rfl, hw⟩
        subst wa
        rw [decide_eq_true (show (0 : Int) ≤ j by omega), decide_eq_true h1]
        go_wp2
        go_ret
        exact ⟨_, rfl, rfl, rfl⟩
  · clear h
    rw [Pg.code_no (fun e => h0 ⟨e.1, e.2.1⟩)]
    have hb : (decide (0 ≤ k) && decide (k < 2000)) = false := by
      cases hx : (decide (0 ≤ k) && decide (k < 2000))
      · rfl
      · simp at hx; exact absurd hx h0
    go_enter Tryz.func125, Tryz.ntmps125
    go_wp2_with fail
    refine (below_any k 2000 w).mono ?_
    rintro _ wa ⟨rfl, hw⟩
    subst wa
    rw [hb]
    go_wp2
    go_ret
    exact ⟨_, rfl, rfl, rfl⟩

/-- what Root tells -/
theorem root_yes (h : Cells bp bd bm p w) (i : Nat) (hi : i < 8) : Calls Tryz.prog 26 #[.pointer (some ⟨bp, 0, none⟩), .int .i64 i] w fun e w' => e = .returned (.tuple #[.int .i64 (p.rp i), .int .i64 (p.rn i), .nilIface]) ∧ Below w.heap.size w w' := by
  have h1 : (i : Int) < 8 := by omega
  have q1 := h.cell (4001 + i * 2) (by omega)
  have q2 := h.cell (4001 + i * 2 + 1) (by omega)
  rw [cellOf_root _ _ _ (by omega), if_pos (by omega), show i * 2 / 2 = i by omega] at q1
  rw [show 4001 + i * 2 + 1 = 4001 + (i * 2 + 1) by omega, cellOf_root _ _ _ (by omega), if_neg (by omega), show (i * 2 + 1) / 2 = i by omega, ← Nat.add_assoc] at q2
  clear h
  go_enter Tryz.func26, Tryz.ntmps26
  go_wp2_with fail
  refine (below_any i 8 w).mono ?_
  rintro _ wa ⟨rfl, hw⟩
  subst wa
  rw [decide_eq_true (show (0 : Int) ≤ i by omega), decide_eq_true h1]
  go_wp2
  go_quiet (fail)
  go_wp2
  go_ret3
  exact ⟨rfl, ((Below.refl _ _).alloc (Nat.le_refl _) _).trans ⟨rfl, rfl, rfl, Nat.le_refl _, fun _ _ => rfl⟩⟩

end
end Go.Proofs.YtjgdnainhoipgaaGreatDoor
namespace Go.Proofs.YtjgdnainhoipgaaGreatDoor
open Go.RowKit Go.Maps

theorem over_same (v : Nat → Value) (o : Nat) (x : Value) : over v o [x] o = x := over_in v o [x] (j := 0) rfl
/-- a number from 0 to below a bound -/
def inB (k b : Int) : Bool := decide (0 ≤ k) && decide (k < b)
def Pg.setRoot (p : Pg) (i : Nat) (k t : Int) : Pg := { p with rp := fun j => if j = i then k else p.rp j, rn := fun j => if j = i then t else p.rn j }

section
variable {bp bd bm n : Nat} {p : Pg} {s : St} {w : World}

theorem Cells.setRoot (h : Cells bp bd bm p w) (i : Nat) (hi : i < 8) (k t : Int) : Cells bp bd bm (p.setRoot i k t) ((w.setCell ⟨bp, 4001 + i * 2, none⟩ (.int .i64 k)).setCell ⟨bp, 4001 + i * 2 + 1, none⟩ (.int .i64 t)) := by
  have h1 := (h.row.set (4001 + i * 2) (.int .i64 k) (by omega)).set (4001 + i * 2 + 1) (.int .i64 t) (by omega)
  refine h1.cells fun j hj => ?_
  by_cases e2 : j = 4001 + i * 2 + 1
  · subst e2
    rw [over_same, show 4001 + i * 2 + 1 = 4001 + (i * 2 + 1) by omega, cellOf_root _ _ _ (by omega), if_neg (by omega), show (i * 2 + 1) / 2 = i by omega]
    simp [Pg.setRoot]
  · rw [over_out _ _ _ (by simp; omega)]
    by_cases e1 : j = 4001 + i * 2
    · subst e1
      rw [over_same, cellOf_root _ _ _ (by omega), if_pos (by omega), show (i * 2) / 2 = i by omega]
      simp [Pg.setRoot]
    · rw [over_out _ _ _ (by simp; omega)]
      by_cases e3 : 4001 ≤ j ∧ j < 4017
      · obtain ⟨m, rfl⟩ : ∃ m, j = 4001 + m := ⟨j - 4001, by omega⟩
        rw [cellOf_root _ _ _ (by omega), cellOf_root _ _ _ (by omega)]
        by_cases e : m % 2 = 0
        · rw [if_pos e, if_pos e]
          simp only [Pg.setRoot]
          rw [if_neg (by omega)]
        · rw [if_neg e, if_neg e]
          simp only [Pg.setRoot]
          rw [if_neg (by omega)]
      · unfold cellOf
        by_cases a0 : j = 0
        · rw [if_pos a0, if_pos a0]
        rw [if_neg a0, if_neg a0]
        by_cases a1 : j < 2001
        · rw [if_pos a1, if_pos a1]; rfl
        rw [if_neg a1, if_neg a1]
        by_cases a2 : j < 4001
        · rw [if_pos a2, if_pos a2]; rfl
        rw [if_neg a2, if_neg a2, if_neg (show ¬ j < 4017 by omega), if_neg (show ¬ j < 4017 by omega)]; rfl

set_option maxRecDepth 100000 in
set_option maxHeartbeats 400000 in
theorem setRoot_yes (h : Cells bp bd bm p w) (hd : p.down = false) (i : Nat) (hi : i < 8) (k t : Int) (hk : inB k 2000 = true) (ht : inB t 65536 = true) :
    Calls Tryz.prog 147 #[.pointer (some ⟨bp, 0, none⟩), .int .i64 i, .int .i64 k, .int .i64 t] w fun e w' => e = .returned .nilIface ∧ Cells bp bd bm (p.setRoot i k t) w' ∧ Only (fun b => b = bp) w w' := by
  have h1 : (i : Int) < 8 := by omega
  have q := h.cell 4019 (by omega)
  rw [cellOf_down, hd] at q
  have q1 := h.cell (4001 + i * 2) (by omega)
  have q2 := h.cell (4001 + i * 2 + 1) (by omega)
  have f1 := h.free (4001 + i * 2)
  have f2 := h.free (4001 + i * 2 + 1)
  have HC : Hid _ := h.setRoot i hi k t
  clear h
  go_enter Tryz.func147, Tryz.ntmps147
  go_wp2_with fail
  refine (below_any i 8 w).mono ?_
  rintro _ wa ⟨rfl, hw⟩
  subst wa
  rw [decide_eq_true (show (0 : Int) ≤ i by omega), decide_eq_true h1]
  go_wp2_with fail
  refine (below_any k 2000 w).mono ?_
  rintro _ wa ⟨rfl, hw⟩
  subst wa
  rw [show (decide (0 ≤ k) && decide (k < 2000)) = true from hk]
  go_wp2_with fail
  refine (below_any t 65536 w).mono ?_
  rintro _ wa ⟨rfl, hw⟩
  subst wa
  rw [show (decide (0 ≤ t) && decide (t < 65536)) = true from ht]
  go_wp2
  go_ret
  exact ⟨rfl, HC.out, (Only.set bp _ _ w).trans (Only.set bp _ _ _) (fun _ h => .inl h)⟩

end
end Go.Proofs.YtjgdnainhoipgaaGreatDoor
namespace Go.Proofs.YtjgdnainhoipgaaGreatDoor
open Go.RowKit Go.Maps

theorem key_of (k : Nat) (hk : k < 2000) : keyOf Tryz.prog 3 (.int .i64 k) = some (.int .i64 k) := keyOf_int_mk Tryz.underlying3 (wf_nat k (by omega))
theorem zero86 (w : World) : (zeroValue 199).run Tryz.prog w = .ok (.agg #[.string ⟨#[]⟩]) w := by kernel_rfl
theorem bytes_inj {a b : ByteArray} (h : a.data.toList = b.data.toList) : a = b := by
  cases a; cases b
  congr
  exact Array.toList_inj.1 h

section
variable {ops : Array Oper} {rest : List Oper} {o : Oper} {a : Act} {Q : Exit → Act → World → Prop} {bm n : Nat} {f : Nat → Option ByteArray}
theorem look_sheet (w : World) (hg : o.guard = none) (m x : Operand) (hop : o.op = Op.lookup 74 m x true) (hS : Sheets bm n f w) (k : Nat) (hk : k < 2000) (hm : a.eval m = .map (some bm)) (hx : a.eval x = .int .i64 k)
    (hK : wpList Tryz.prog ops Q rest (a.put o.dst (.tuple #[.agg #[.string ((f k).getD ⟨#[]⟩)], .bool (f k).isSome])) w) : wpList Tryz.prog ops Q (o :: rest) a w := by
  obtain ⟨D, hD, hM⟩ := hS
  refine wpList_lookup_own_ok w hg m x 74 hop 3 199 keyed3 Tryz.underlying74 sheetElem (zero86 w) (.lit (.string [])) [] rfl bm n D hm hD _ _ hx (key_of k hk) ?_
  intro v ps hv
  obtain ⟨s, rfl, hz⟩ := sheetElem_inv hv
  have h1 := congrArg Prod.fst hz
  simp only at h1
  rw [hM.has k hk]
  cases hf : f k with
  | none =>
    rw [atKey_of_not_has (by rw [hM.has k hk, hf]; rfl)] at h1
    injection h1 with h2
    injection h2 with h3
    have : s = ⟨#[]⟩ := bytes_inj (by rw [← h3])
    rw [hf] at hK
    rw [this]; exact hK
  | some t =>
    rw [hM.elem k t hk hf] at h1
    injection h1 with h2
    injection h2 with h3
    have : s = t := (bytes_inj h3).symm
    rw [hf] at hK
    rw [this]; exact hK

theorem del_sheet (w : World) (hg : o.guard = none) (m x : Operand) (hop : o.op = Op.call { callee := Callee.builtin Builtin.delete, args := #[m, x], argTypes := #[74, 3] }) (hS : Sheets bm n f w) (k : Nat) (hk : k < 2000) (hm : a.eval m = .map (some bm)) (hx : a.eval x = .int .i64 k)
    (hK : ∀ w', Sheets bm n (put f k none) w' → Only (fun b => b = bm) w w' → wpList Tryz.prog ops Q rest (a.put o.dst (.tuple #[])) w') : wpList Tryz.prog ops Q (o :: rest) a w := by
  obtain ⟨D, hD, hM⟩ := hS
  refine wpList_delete_own w hg m x 74 3 hop 199 keyed3 Tryz.underlying74 sheetElem bm n D hm hD _ _ hx (key_of k hk) ?_
  intro w' h1 h2
  exact hK w' ⟨_, h1, hM.del k⟩ (Only.of_grown h2.grown rfl)
end
end Go.Proofs.YtjgdnainhoipgaaGreatDoor
namespace Go.Proofs.YtjgdnainhoipgaaGreatDoor
open Go.RowKit Go.Maps

/-- what a page in use has -/
def Pg.text (p : Pg) (pg : Nat → ByteArray) (k : Nat) : ByteArray := (p.chg k).getD (pg (placeF k (p.upper k)))

section
variable {bp bd bm n : Nat} {p : Pg} {s : St} {w : World}

theorem code_ok {p : Pg} {j : Nat} (hd : p.down = false) (hj : j < 2000) (hu : p.used j = true) : p.code j = 0 := by
  rw [Pg.code_yes ⟨by omega, by omega, by rw [Int.toNat_natCast]; exact hu⟩, hd]; rfl

set_option maxRecDepth 100000 in
set_option maxHeartbeats 400000 in
theorem readp_yes (h : PagerIs bp bd bm n p w) (hD : Prg bd s w) (hd : p.down = false) (j : Nat) (hj : j < 2000) (hu : p.used j = true) :
    Calls Tryz.prog 89 #[.pointer (some ⟨bp, 0, none⟩), .int .i64 j] w fun e w' => e = .returned (.tuple #[.string (p.text s.pg j), .nilIface]) ∧ Below w.heap.size w w' := by
  have HP : Hid (PagerIs bp bd bm n p w) := h
  have HD : Hid (Prg bd s w) := hD
  have q0 := h.cells.cell 0 (by omega)
  rw [show cellOf p bd bm 0 = .pointer (some ⟨bd, 0, none⟩) from rfl] at q0
  have q1 := h.cells.cell 4017 (by omega)
  rw [cellOf_map] at q1
  have q2 := h.cells.cell (1 + j) (by omega)
  rw [cellOf_upper _ _ _ hj] at q2
  have h1 : (j : Int) < 2000 := by omega
  clear h hD
  go_enter Tryz.func89, Tryz.ntmps89
  go_wp2_with fail
  refine (reach_any HP.out.cells j).mono ?_
  rintro _ wa ⟨E, rfl, hE, hw⟩
  subst wa
  rw [code_ok hd hj hu] at hE
  obtain rfl : E = .nilIface := hE
  cases hf : p.chg j with
  | some t =>
    have ht : t.size = 1024 := by
      obtain ⟨D, _, hM⟩ := HP.out.own
      exact (hM.small j t hf).2
    go_wp2_with (refine look_sheet _ rfl _ _ rfl HP.out.own j hj rfl rfl ?_; rw [hf])
    refine (clone_any t _ (by omega)).mono ?_
    rintro _ w1 ⟨rfl, hb⟩
    have HB : Hid (Below w.heap.size w w1) := ((Below.refl _ w).alloc (o := .cells #[.string t] 199) (Nat.le_refl _)).trans (hb.mono (by rw [World.size_alloc]; omega))
    clear hb
    go_wp2
    go_ret2
    exact ⟨by rw [Pg.text, hf]; rfl, HB.out⟩
  | none =>
    go_wp2_with (refine look_sheet _ rfl _ _ rfl HP.out.own j hj rfl rfl ?_; rw [hf])
    have HK : Hid (∀ wx, Below w.heap.size w wx → wx.cell? ⟨bp, 0, none⟩ = some (.pointer (some ⟨bd, 0, none⟩)) ∧ wx.cell? ⟨bp, 1 + j, none⟩ = some (.bool (p.upper j))) := fun wx hx =>
      ⟨by rw [hx.cell (p := ⟨bp, 0, none⟩) HP.out.lt]; exact q0, by rw [hx.cell (p := ⟨bp, 1 + j, none⟩) HP.out.lt]; exact q2⟩
    have HDx : Hid (∀ wx, Below w.heap.size w wx → Prg bd s wx) := fun wx hx => Prg.below HD.out hx
    have HB0 : Hid (Below w.heap.size w (w.alloc (.cells #[.string ⟨#[]⟩] 199)).drew) := ((Below.refl _ w).alloc (o := .cells #[.string ⟨#[]⟩] 199) (Nat.le_refl _)).drew
    have hlt := placeF_lt j hj (p.upper j)
    go_region_held3 (fun wx => wx.cell? ⟨bp, 0, none⟩ = some (.pointer (some ⟨bd, 0, none⟩)) ∧ wx.cell? ⟨bp, 1 + j, none⟩ = some (.bool (p.upper j))) (first | exact HK.out _ HB.out | exact HK.out _ HB0.out) (first | (go_at_call 51; refine (place_any j hj _ _).mono ?_; rintro _ wy ⟨rfl, hwy⟩; subst wy) | (go_at_call 50; refine (read_yes (HDx.out _ HB0.out) _ hlt).mono ?_; rintro _ wy ⟨rfl, hb⟩; have HB : Hid (Below w.heap.size w wy) := HB0.out.trans (hb.mono HB0.out.size)))
    go_wp2
    go_ret2
    exact ⟨by rw [Pg.text, hf]; rfl, HB.out⟩
end
end Go.Proofs.YtjgdnainhoipgaaGreatDoor
namespace Go.Proofs.YtjgdnainhoipgaaGreatDoor
open Go.RowKit Go.Maps

theorem store_sheet {bm n : Nat} {f : Nat → Option ByteArray} {w : World} (hS : Sheets bm n f w) (hn : n < 1000000) (k : Nat) (hk : k < 2000) (s : ByteArray) (hs : s.size = 1024) :
    ∃ w', (Instr.mapUpdate 74 (.map (some bm)) (.int .i64 k) (.agg #[.string s])).run Tryz.prog w = .ok () w' ∧ Sheets bm (n + 1) (put f k (some s)) w' ∧ Only (fun b => b = bm) w w' := by
  obtain ⟨D, hD, hM⟩ := hS
  obtain ⟨w', h1, h2, h3⟩ := hD.store keyed3 Tryz.underlying74 (Nat.lt_trans hn (by decide)) (key_of k hk) (sheetElem_mk s)
  exact ⟨w', h1, ⟨_, h2, hM.put k hk s hs⟩, Only.of_grown h3.grown rfl⟩

def Pg.write (p : Pg) (k : Nat) (s : ByteArray) : Pg := { p with chg := put p.chg k (some s) }
def Pg.free (p : Pg) (k : Nat) : Pg := { p with used := fun i => if i = k then false else p.used i, chg := put p.chg k none }
theorem Cells.chg {bp bd bm : Nat} {p : Pg} {w : World} (h : Cells bp bd bm p w) (f : Nat → Option ByteArray) : Cells bp bd bm { p with chg := f } w := ⟨fun k hk => h.cell k hk, h.free⟩

section
variable {bp bd bm n : Nat} {p : Pg} {s : St} {w : World}

set_option maxRecDepth 100000 in
set_option maxHeartbeats 400000 in
theorem writep_yes (h : PagerIs bp bd bm n p w) (hn : n < 1000000) (hd : p.down = false) (j : Nat) (hj : j < 2000) (hu : p.used j = true) (t : ByteArray) (ht : t.size = 1024) :
    Calls Tryz.prog 171 #[.pointer (some ⟨bp, 0, none⟩), .int .i64 j, .string t] w fun e w' => e = .returned .nilIface ∧ PagerIs bp bd bm (n + 1) (p.write j t) w' ∧ Only (fun b => b = bm) w w' := by
  have HP : Hid (PagerIs bp bd bm n p w) := h
  have q1 := h.cells.cell 4017 (by omega)
  rw [cellOf_map] at q1
  have h1 : (t.size : Int) = 1024 := by omega
  have hne := h.ne
  clear h
  go_enter Tryz.func171, Tryz.ntmps171
  go_wp2_with fail
  refine (reach_any HP.out.cells j).mono ?_
  rintro _ wa ⟨E, rfl, hE, hw⟩
  subst wa
  rw [code_ok hd hj hu] at hE
  obtain rfl : E = .nilIface := hE
  go_wp2_with fail
  have HK : Hid (∀ wx, Only (fun b => b = bm) w wx → wx.cell? ⟨bp, 4017, none⟩ = some (.map (some bm))) := fun wx hx => by rw [hx.cell HP.out.lt (fun e => hne e.symm)]; exact q1
  have HB0 : Hid (Only (fun b => b = bm) w w.drew) := (Only.refl _ w).drew
  go_region_held3 (fun wx => wx.cell? ⟨bp, 4017, none⟩ = some (.map (some bm))) (first | exact HK.out _ HO2.out | exact HK.out _ HO.out | exact HK.out _ HB0.out) (first | (go_at_call 57; refine (clone_any t _ (by omega)).mono ?_; rintro _ wy ⟨rfl, hb⟩; have HO : Hid (Only (fun b => b = bm) w wy) := (Only.of_below ((Below.refl _ w).drew.trans hb)); obtain ⟨w2, hst, hs2, ho2⟩ := store_sheet (HP.out.own.block (Below.block ((Below.refl _ w).drew.trans hb) _ HP.out.own.lt)) hn j hj t ht; have HO2 : Hid (Only (fun b => b = bm) w w2) := HO.out.trans ho2 (fun _ h => .inl h); have HS2 : Hid _ := hs2; clear hs2 ho2 hb))
  go_wp2
  go_ret
  exact ⟨rfl, ⟨(HP.out.cells.block (HO2.out.block bp HP.out.lt (fun e => hne e.symm))).chg _, HS2.out⟩, HO2.out⟩

theorem Cells.setUsed (h : Cells bp bd bm p w) (j : Nat) (hj : j < 2000) (b : Bool) : Cells bp bd bm { p with used := fun i => if i = j then b else p.used i } (w.setCell ⟨bp, 2001 + j, none⟩ (.bool b)) := by
  refine (h.row.set (2001 + j) (.bool b) (by omega)).cells fun k hk => ?_
  by_cases e : k = 2001 + j
  · subst e
    rw [over_same, cellOf_used _ _ _ hj]; simp
  · rw [over_out _ _ _ (by simp; omega)]
    by_cases e2 : 2001 ≤ k ∧ k < 4001
    · obtain ⟨m, rfl⟩ : ∃ m, k = 2001 + m := ⟨k - 2001, by omega⟩
      rw [cellOf_used _ _ _ (by omega), cellOf_used _ _ _ (by omega)]
      simp only
      rw [if_neg (by omega)]
    · unfold cellOf
      by_cases a0 : k = 0
      · rw [if_pos a0, if_pos a0]
      rw [if_neg a0, if_neg a0]
      by_cases a1 : k < 2001
      · rw [if_pos a1, if_pos a1]
      rw [if_neg a1, if_neg a1, if_neg (show ¬ k < 4001 by omega), if_neg (show ¬ k < 4001 by omega)]

set_option maxRecDepth 100000 in
set_option maxHeartbeats 400000 in
theorem freep_yes (h : PagerIs bp bd bm n p w) (hd : p.down = false) (j : Nat) (hj : j < 2000) (hu : p.used j = true) :
    Calls Tryz.prog 169 #[.pointer (some ⟨bp, 0, none⟩), .int .i64 j] w fun e w' => e = .returned .nilIface ∧ PagerIs bp bd bm n (p.free j) w' ∧ Only (fun b => b = bp ∨ b = bm) w w' := by
  have HP : Hid (PagerIs bp bd bm n p w) := h
  have h1 : (j : Int) < 2000 := by omega
  have q2 := h.cells.cell (2001 + j) (by omega)
  have f2 := h.cells.free (2001 + j)
  have hC := h.cells.setUsed j hj false
  have q1 := hC.cell 4017 (by omega)
  rw [cellOf_map] at q1
  have hne := h.ne
  have HS : Hid (Sheets bm n p.chg (w.setCell ⟨bp, 2001 + j, none⟩ (.bool false))) := h.own.only (Only.set bp _ _ w) hne
  have HC : Hid _ := hC
  clear h hC
  go_enter Tryz.func169, Tryz.ntmps169
  go_wp2_with fail
  refine (reach_any HP.out.cells j).mono ?_
  rintro _ wa ⟨E, rfl, hE, hw⟩
  subst wa
  rw [code_ok hd hj hu] at hE
  obtain rfl : E = .nilIface := hE
  go_wp2_with (refine del_sheet _ rfl _ _ rfl HS.out j hj rfl rfl ?_; intro w2 hs2 ho2; have HS2 : Hid _ := hs2; have HO2 : Hid _ := ho2; clear hs2 ho2)
  go_ret
  refine ⟨rfl, ⟨(HC.out.block (HO2.out.block bp (by rw [World.size_setCell]; exact HP.out.lt) (fun e => hne e.symm))).chg _, HS2.out⟩, ((Only.set bp _ _ w).mono (fun i hi => .inl hi)).trans HO2.out (fun i hi => .inl (.inr hi))⟩
end
end Go.Proofs.YtjgdnainhoipgaaGreatDoor
namespace Go.Proofs.YtjgdnainhoipgaaGreatDoor
open Go.RowKit Go.Maps

/-- the least place at which there is no -/
def FirstNo (f : Nat → Bool) (m : Nat) (r : Int) : Prop := (r = -1 ∧ ∀ j, j < m → f j = true) ∨ ∃ i : Nat, r = i ∧ i < m ∧ f i = false ∧ ∀ j, j < i → f j = true

set_option maxHeartbeats 400000 in
theorem index_any (B o m c : Nat) (hm : m < 1000000) (f : Nat → Bool) (w : World) (hc : ∀ j, j < m → w.cell? ⟨B, o + j, none⟩ = some (.bool (f j))) :
    Calls Tryz.prog 187 #[.slice (some ⟨B, o, none⟩) m c, .bool false] w fun e w' => (∃ r, e = .returned (.int .i64 r) ∧ FirstNo f m r) ∧ w' = w := by
  go_enter Tryz.func187, Tryz.ntmps187
  go_wp2_with fail
  go_loop [8] (fun i => ∃ k : Nat, k ≤ m ∧ i = .int .i64 k ∧ Hid (∀ j, j < k → f j = true)) (fun i => m - (intOf i).toNat)
  case atStart => exact ⟨0, Nat.zero_le _, rfl, fun j hj => by omega⟩
  case round =>
    obtain ⟨k, hk, rfl, HF⟩ := hrel
    by_cases hlt : k < m
    · have h1 : (k : Int) < (m : Int) := by omega
      have q := hc k hlt
      cases hf : f k
      · rw [hf] at q
        go_wp2
        go_ret
        exact ⟨⟨_, rfl, .inr ⟨k, rfl, hlt, hf, HF.out⟩⟩, rfl⟩
      · rw [hf] at q
        go_wp2
        go_round
        case rel => exact ⟨k + 1, by omega, by go_num, fun j hj => by
          by_cases e : j = k
          · rw [e]; exact hf
          · exact HF.out j (by omega)⟩
        case measure => simp [intOf]; omega
    · have h1 : ¬ (k : Int) < (m : Int) := by omega
      go_wp2
      go_ret
      exact ⟨⟨_, rfl, .inl ⟨rfl, fun j hj => HF.out j (by omega)⟩⟩, rfl⟩

def Pg.alloc (p : Pg) (k : Nat) : Pg := { p with used := fun i => if i = k then true else p.used i, chg := put p.chg k (some zeros) }

section
variable {bp bd bm n : Nat} {p : Pg} {s : St} {w : World}
set_option maxRecDepth 100000 in
set_option maxHeartbeats 400000 in
/-- Alloc, where some page is free: the least one -/
theorem allocp_any (h : PagerIs bp bd bm n p w) (hn : n < 1000000) (hd : p.down = false) (k : Nat) (h0 : 0 < k) (hk : k < 2000) (hu : p.used k = false) (hl : ∀ j, 0 < j → j < k → p.used j = true) :
    Calls Tryz.prog 168 #[.pointer (some ⟨bp, 0, none⟩)] w fun e w' => e = .returned (.tuple #[.int .i64 k, .nilIface]) ∧ PagerIs bp bd bm (n + 1) (p.alloc k) w' ∧ Only (fun b => b = bp ∨ b = bm) w w' := by
  have HP : Hid (PagerIs bp bd bm n p w) := h
  have q := h.cells.cell 4019 (by omega)
  rw [cellOf_down, hd] at q
  have HC : Hid (∀ j, j < 1999 → w.cell? ⟨bp, 2002 + j, none⟩ = some (.bool (p.used (j + 1)))) := fun j hj => by
    rw [show 2002 + j = 2001 + (j + 1) by omega, h.cells.cell _ (by omega), cellOf_used _ _ _ (by omega)]
  clear h
  go_enter Tryz.func168, Tryz.ntmps168
  go_wp2_with fail
  obtain ⟨m, rfl⟩ : ∃ m, k = m + 1 := ⟨k - 1, by omega⟩
  refine (index_any bp 2002 1999 1999 (by omega) (fun j => p.used (j + 1)) w HC.out).mono ?_
  rintro _ wa ⟨⟨r, rfl, hF⟩, hw⟩
  subst wa
  have hr : r = (m : Int) := by
    rcases hF with ⟨_, h1⟩ | ⟨i, rfl, h1, h2, h3⟩
    · exact absurd (show p.used (m + 1) = true from h1 m (by omega)) (by rw [hu]; decide)
    · by_cases e1 : i < m
      · exact absurd (show p.used (i + 1) = false from h2) (by rw [hl (i + 1) (by omega) (by omega)]; decide)
      · by_cases e2 : m < i
        · exact absurd (show p.used (m + 1) = true from h3 m e2) (by rw [hu]; decide)
        · omega
  subst hr
  clear hF HC
  have h1 : 1 + (m : Int) < 2000 := by omega
  have e0 : ((1 + (m : Int)) == 0) = false := by simp; omega
  have q2 := HP.out.cells.cell (2001 + (1 + m)) (by omega)
  have f2 := HP.out.cells.free (2001 + (1 + m))
  have hC := HP.out.cells.setUsed (1 + m) (by omega) true
  have q1 := hC.cell 4017 (by omega)
  rw [cellOf_map] at q1
  have hne := HP.out.ne
  have HC : Hid _ := hC
  have HS : Hid (Sheets bm n p.chg (w.setCell ⟨bp, 2001 + (1 + m), none⟩ (.bool true))) := HP.out.own.only (Only.set bp _ _ w) hne
  clear hC
  go_wp2_with fail
  obtain ⟨wb, hwb⟩ : ∃ wb, w.setCell ⟨bp, 2001 + (1 + m), none⟩ (.bool true) = wb := ⟨_, rfl⟩
  have ho1 : Only (fun b => b = bp) w wb := by rw [← hwb]; exact Only.set bp _ _ w
  rw [hwb] at q1 HC HS
  rw [hwb]
  have hbp : bp < wb.heap.size := HC.out.lt
  have HK : Hid (∀ wx, Only (fun b => b = bm) wb wx → wx.cell? ⟨bp, 4017, none⟩ = some (.map (some bm))) := fun wx hx => by rw [hx.cell hbp (fun e => hne e.symm)]; exact q1
  have HB0 : Hid (Only (fun b => b = bm) wb wb.drew) := (Only.refl _ wb).drew
  have HO1 : Hid _ := ho1
  clear ho1 q2 f2 hwb q
  go_region_held3 (fun wx => wx.cell? ⟨bp, 4017, none⟩ = some (.map (some bm))) (first | exact HK.out _ HO2.out | exact HK.out _ HO.out | exact HK.out _ HB0.out) (first | (go_at_call 119; refine (zeros_any _).mono ?_; rintro _ wy ⟨rfl, hb⟩; have HO : Hid (Only (fun b => b = bm) wb wy) := (Only.of_below ((Below.refl _ wb).drew.trans hb)); obtain ⟨w2, hst, hs2, ho2⟩ := store_sheet (HS.out.block (Below.block ((Below.refl _ wb).drew.trans hb) _ HS.out.lt)) hn (1 + m) (by omega) zeros zeros_size; rw [show ((1 + m : Nat) : Int) = 1 + (m : Int) by omega] at hst; have HO2 : Hid (Only (fun b => b = bm) wb w2) := HO.out.trans ho2 (fun _ h => .inl h); have HS2 : Hid _ := hs2; clear hs2 ho2 hb))
  go_wp2
  go_ret2
  refine ⟨by rw [show ((m + 1 : Nat) : Int) = 1 + (m : Int) by omega]; rfl, ⟨?_, ?_⟩, (HO1.out.mono (fun i hi => .inl hi)).trans HO2.out (fun i hi => .inl (.inr hi))⟩
  · have h9 := (HC.out.block (HO2.out.block bp hbp (fun e => hne e.symm))).chg (put p.chg (1 + m) (some zeros))
    rw [Nat.add_comm 1 m] at h9
    exact h9
  · have h9 := HS2.out
    rw [Nat.add_comm 1 m] at h9
    exact h9
end
end Go.Proofs.YtjgdnainhoipgaaGreatDoor
namespace Go.Proofs.YtjgdnainhoipgaaGreatDoor
open Go.RowKit Go.Maps

/-- how many of the first ones are so -/
def countU (f : Nat → Bool) : Nat → Nat
  | 0 => 0
  | k + 1 => countU f k + (if f k then 1 else 0)
section
variable {bp bd bm n : Nat} {p : Pg} {s : St} {w : World}
end
end Go.Proofs.YtjgdnainhoipgaaGreatDoor
namespace Go.Proofs.YtjgdnainhoipgaaGreatDoor
open Go.RowKit Go.Maps

section
variable {bp bd bm n : Nat} {p : Pg} {s : St} {w : World} {f : Nat → Option ByteArray}
end
end Go.Proofs.YtjgdnainhoipgaaGreatDoor
namespace Go.Proofs.YtjgdnainhoipgaaGreatDoor
open Go.RowKit Go.Maps

/-- what is known of two rows that were laid -/
structure Two (B : Nat) (L : List Value) (w wx : World) : Prop where
  first : wx.rangeAt B 0 L
  free : ∀ k, wx.frozen? ⟨B, k, none⟩ = false
  second : wx.there (B + 1) 0 2017
  below : Below B w wx
  size : B + 2 ≤ wx.heap.size
theorem Two.start (w : World) (L : List Value) (Z : Array Value) (hZ : Z.size = 2017) : Two w.heap.size L w ((w.alloc (.cells L.toArray 76)).alloc (.cells Z 76)) := by
  have hn1 : (w.alloc (.cells L.toArray 76)).heap[w.heap.size]? = some (.cells L.toArray 76) := heap_alloc_new w _
  have hs1 : (w.alloc (.cells L.toArray 76)).heap.size = w.heap.size + 1 := World.size_alloc _ _
  have hn2 : ((w.alloc (.cells L.toArray 76)).alloc (.cells Z 76)).heap[w.heap.size + 1]? = some (.cells Z 76) := by rw [← hs1]; exact heap_alloc_new _ _
  have b2 : Below (w.heap.size + 1) (w.alloc (.cells L.toArray 76)) ((w.alloc (.cells L.toArray 76)).alloc (.cells Z 76)) := by rw [← hs1]; exact (Below.refl _ _).alloc (Nat.le_refl _) _
  have hn1' : ((w.alloc (.cells L.toArray 76)).alloc (.cells Z 76)).heap[w.heap.size]? = some (.cells L.toArray 76) := by rw [b2.block _ (by omega)]; exact hn1
  refine ⟨fun j v hj => ?_, fun k => by simp only [World.frozen?, hn1']; simp, fun j hj => ⟨?_, by simp only [World.frozen?, hn2]; simp⟩, ((Below.refl _ _).alloc (Nat.le_refl _) _).trans (b2.mono (by omega)), by rw [World.size_alloc, hs1]; omega⟩
  · rw [Nat.zero_add, cell_of_row _ _ _ _ _ _ hn1']
    simpa using hj
  · rw [Nat.zero_add, cell_of_row _ _ _ _ _ _ hn2]
    have hl : j < Z.size := by rw [hZ]; exact hj
    simp [hl]
theorem Two.later {B : Nat} {L : List Value} {w wx wy : World} (h : Two B L w wx) (hb : Below wx.heap.size wx wy) : Two B L w wy := by
  have hs := h.size
  refine ⟨fun j v hj => ?_, fun k => ?_, fun j hj => ⟨?_, ?_⟩, h.below.trans (hb.mono (by omega)), Nat.le_trans h.size hb.size⟩
  · rw [hb.cell (p := ⟨B, 0 + j, none⟩) (by show B < _; omega)]; exact h.first j v hj
  · rw [hb.frozen (p := ⟨B, k, none⟩) (by show B < _; omega)]; exact h.free k
  · rw [hb.cell (p := ⟨B + 1, 0 + j, none⟩) (by show B + 1 < _; omega)]; exact (h.second j hj).1
  · rw [hb.frozen (p := ⟨B + 1, 0 + j, none⟩) (by show B + 1 < _; omega)]; exact (h.second j hj).2

section
variable {bp bd bm n : Nat} {p : Pg} {s : St} {w : World} {f : Nat → Option ByteArray}
end
end Go.Proofs.YtjgdnainhoipgaaGreatDoor
namespace Go.Proofs.YtjgdnainhoipgaaGreatDoor
open Go.RowKit Go.Maps

end Go.Proofs.YtjgdnainhoipgaaGreatDoor
namespace Go.Proofs.YtjgdnainhoipgaaGreatDoor
open Go.RowKit Go.Maps

section
variable {bp bd bm n : Nat} {p : Pg} {s : St} {w : World} {f : Nat → Option ByteArray}
end
end Go.Proofs.YtjgdnainhoipgaaGreatDoor
namespace Go.Proofs.YtjgdnainhoipgaaGreatDoor
open Go.RowKit Go.Maps

/-- a pager as it was noted -/
def Pg.back (p q : Pg) : Pg := { p with used := q.used, rp := q.rp, rn := q.rn, chg := q.chg }

section
variable {bp bd bm n : Nat} {p : Pg} {s : St} {w : World} {f : Nat → Option ByteArray}
end
end Go.Proofs.YtjgdnainhoipgaaGreatDoor
namespace Go.Proofs.YtjgdnainhoipgaaGreatDoor
open Go.RowKit Go.Maps

/-- a page of bytes in memory -/
structure BRow (B : Nat) (g : Nat → Nat) (w : World) : Prop where
  cell : ∀ j, j < 1024 → w.cell? ⟨B, j, none⟩ = some (.int .u8 (g j))
  free : ∀ j, w.frozen? ⟨B, j, none⟩ = false
  small : ∀ j, g j < 256
theorem BRow.lt {B : Nat} {g : Nat → Nat} {w : World} (h : BRow B g w) : B < w.heap.size := World.block_lt_of_cell? w _ (h.cell 0 (by omega))
theorem BRow.block {B : Nat} {g : Nat → Nat} {w w' : World} (h : BRow B g w) (hb : w'.heap[B]? = w.heap[B]?) : BRow B g w' :=
  ⟨fun k hk => (World.cell?_of_block hb).trans (h.cell k hk), fun k => (World.frozen?_of_block (a := ⟨B, k, none⟩) hb).trans (h.free k), h.small⟩
theorem BRow.set {B : Nat} {g : Nat → Nat} {w : World} (h : BRow B g w) (o : Nat) (ho : o < 1024) (x : Nat) (hx : x < 256) : BRow B (fun j => if j = o then x else g j) (w.setCell ⟨B, o, none⟩ (.int .u8 x)) := by
  refine ⟨fun j hj => ?_, fun j => by rw [World.frozen?_setCell]; exact h.free j, fun j => ?_⟩
  · by_cases e : j = o
    · subst e
      rw [World.cell?_setCell_same _ _ _ (h.cell j hj), if_pos rfl]
    · rw [World.cell?_setCell_other _ _ _ _ (fun e' => e (by injection e' with e1 e2; omega)), h.cell j hj, if_neg e]
  · show (if j = o then x else g j) < 256
    split
    · exact hx
    · exact h.small j

end Go.Proofs.YtjgdnainhoipgaaGreatDoor
namespace Go.Proofs.YtjgdnainhoipgaaGreatDoor
open Go.RowKit Go.Maps

theorem info_parts {α β γ : Type} {o : Option TypeInfo} {f : TypeInfo → α} {g : TypeInfo → β} {k : TypeInfo → γ} {a : α} {b : β} {c : γ} (h : o.map (fun i => (f i, g i, k i)) = some (a, b, c)) : ∃ i, o = some i ∧ f i = a ∧ g i = b ∧ k i = c := by
  cases o with
  | none => cases h
  | some i => simp at h; exact ⟨i, rfl, h.1, h.2.1, h.2.2⟩
/-- a page of noughts, made -/
theorem made_page (w : World) : ∃ w', (Instr.makeSlice 128 (.int .i64 1024) (.int .i64 1024)).run Tryz.prog w = .ok (.slice (some ⟨w.heap.size, 0, none⟩) 1024 1024) w' ∧ Below w.heap.size w w' ∧ BRow w.heap.size (fun _ => 0) w' := by
  obtain ⟨i0, hi, hz0, hz1, hz2⟩ := info_parts info5
  have h := run_make (P := Tryz.prog) w 128 5 i0 (.int .u8 0) Tryz.underlying128 hi hz0 .i64 .i64 1024 1024 (by omega) (Int.le_refl _) (by rw [hz2]; omega) (by omega)
  rw [hz1] at h
  have hn' := heap_alloc_new w (.cells (madeCells (Value.int .u8 0).cells 1024) 5)
  refine ⟨_, h, (Below.refl _ w).alloc (Nat.le_refl _) _, fun j hj => ?_, fun j => ?_, fun j => by decide⟩
  · simp only [World.cell?, Nat.mul_one, show (1024 : Int).toNat = 1024 from rfl, hn']
    simp [madeCells, hj, Value.cells, Nat.mod_one]
  · simp only [World.frozen?, Nat.mul_one, show (1024 : Int).toNat = 1024 from rfl, hn']
    simp
/-- a page's text -/
def bytesOf (g : Nat → Nat) : List UInt8 := (List.range 1024).map fun j => UInt8.ofNat (g j)
theorem bytesOf_len (g : Nat → Nat) : (bytesOf g).length = 1024 := by simp [bytesOf]
theorem bytesOf_getD (g : Nat → Nat) {j : Nat} (hj : j < 1024) : (bytesOf g).getD j 0 = UInt8.ofNat (g j) := by
  simp [bytesOf, List.getD_eq_getElem?_getD, List.getElem?_map, List.getElem?_range hj]
theorem BRow.text {B : Nat} {g : Nat → Nat} {w : World} (h : BRow B g w) : (convert 128 9 (.slice (some ⟨B, 0, none⟩) 1024 1024)).run Tryz.prog w = .ok (.string ⟨(bytesOf g).toArray⟩) w := by
  have := run_convert_bytes_back (P := Tryz.prog) w 128 9 5 ⟨B, 0, none⟩ 1024 (bytesOf g) Tryz.underlying128 Tryz.underlying5 Tryz.underlying9 (fun j hj => by
    rw [bytesOf_len] at hj
    rw [Addr.add_lit, Nat.zero_add, h.cell j hj]
    have hs := h.small j
    simp [bytesOf, Nat.mod_eq_of_lt hs])
  rw [bytesOf_len] at this
  exact this

end Go.Proofs.YtjgdnainhoipgaaGreatDoor
namespace Go.Proofs.YtjgdnainhoipgaaGreatDoor
open Go.RowKit Go.Maps

/-- what is known within writeHead: three rows that were laid, and the page -/
structure W4 (w wr : World) (F G R : List Value) (g : Nat → Nat) : Prop where
  used : wr.rangeAt w.heap.size 0 F
  upper : wr.rangeAt (w.heap.size + 1) 0 G
  roots : wr.rangeAt (w.heap.size + 1 + 1) 0 R
  page : BRow (w.heap.size + 1 + 1 + 1) g wr
  below : Below w.heap.size w wr
section
variable {w wr wx : World} {F G R : List Value} {g g' : Nat → Nat}
theorem W4.size (h : W4 w wr F G R g) : w.heap.size + 4 ≤ wr.heap.size := by have := h.page.lt; omega
theorem rangeAt_block {B o : Nat} {L : List Value} {w w' : World} (h : w.rangeAt B o L) (hb : w'.heap[B]? = w.heap[B]?) : w'.rangeAt B o L := fun j v hj => by
  rw [World.cell?_of_block (a := ⟨B, o + j, none⟩) hb]; exact h j v hj
theorem W4.later (h : W4 w wr F G R g) (hb : Below wr.heap.size wr wx) : W4 w wx F G R g := by
  have := h.size
  exact ⟨rangeAt_block h.used (hb.block _ (by omega)), rangeAt_block h.upper (hb.block _ (by omega)), rangeAt_block h.roots (hb.block _ (by omega)), h.page.block (hb.block _ (by omega)), h.below.trans (hb.mono (by omega))⟩
theorem W4.turn (h : W4 w wr F G R g) (ho : Only (fun b => b = w.heap.size + 1 + 1 + 1) wr wx) (hp : BRow (w.heap.size + 1 + 1 + 1) g' wx) : W4 w wx F G R g' := by
  have := h.size
  refine ⟨rangeAt_block h.used (ho.block _ (by omega) (by omega)), rangeAt_block h.upper (ho.block _ (by omega) (by omega)), rangeAt_block h.roots (ho.block _ (by omega) (by omega)), hp, Only.below h.below ho (by omega) (fun i hi => by omega)⟩
theorem W4.drew (h : W4 w wr F G R g) : W4 w wr.drew F G R g := ⟨rangeAt_block h.used rfl, rangeAt_block h.upper rfl, rangeAt_block h.roots rfl, h.page.block rfl, h.below.drew⟩
end
theorem W4.start (w : World) (F G R : List Value) : ∃ w1, (Instr.makeSlice 128 (.int .i64 1024) (.int .i64 1024)).run Tryz.prog (((w.alloc (.cells F.toArray 70)).alloc (.cells G.toArray 70)).alloc (.cells R.toArray 73)) = .ok (.slice (some ⟨w.heap.size + 1 + 1 + 1, 0, none⟩) 1024 1024) w1 ∧ W4 w w1 F G R (fun _ => 0) := by
  have row : ∀ (B : Nat) (L : List Value) (t : TypeId) (wz : World), wz.heap[B]? = some (.cells L.toArray t) → wz.rangeAt B 0 L := fun B L t wz hB j v hj => by
    rw [Nat.zero_add, cell_of_row _ _ _ _ _ _ hB]; simpa using hj
  have s1 : (w.alloc (.cells F.toArray 70)).heap.size = w.heap.size + 1 := World.size_alloc _ _
  have s2 : ((w.alloc (.cells F.toArray 70)).alloc (.cells G.toArray 70)).heap.size = w.heap.size + 1 + 1 := by rw [World.size_alloc, s1]
  have s3 : (((w.alloc (.cells F.toArray 70)).alloc (.cells G.toArray 70)).alloc (.cells R.toArray 73)).heap.size = w.heap.size + 1 + 1 + 1 := by rw [World.size_alloc, s2]
  have r1 := row _ F 70 _ (heap_alloc_new w (.cells F.toArray 70))
  have r2 := row _ G 70 _ (heap_alloc_new (w.alloc (.cells F.toArray 70)) (.cells G.toArray 70))
  have r3 := row _ R 73 _ (heap_alloc_new ((w.alloc (.cells F.toArray 70)).alloc (.cells G.toArray 70)) (.cells R.toArray 73))
  rw [s1] at r2
  rw [s2] at r3
  have b1 : Below w.heap.size w (w.alloc (.cells F.toArray 70)) := (Below.refl _ _).alloc (Nat.le_refl _) _
  have b2 : Below (w.heap.size + 1) (w.alloc (.cells F.toArray 70)) ((w.alloc (.cells F.toArray 70)).alloc (.cells G.toArray 70)) := by rw [← s1]; exact (Below.refl _ _).alloc (Nat.le_refl _) _
  have b3 : Below (w.heap.size + 1 + 1) ((w.alloc (.cells F.toArray 70)).alloc (.cells G.toArray 70)) (((w.alloc (.cells F.toArray 70)).alloc (.cells G.toArray 70)).alloc (.cells R.toArray 73)) := by rw [← s2]; exact (Below.refl _ _).alloc (Nat.le_refl _) _
  obtain ⟨w1, h1, h2, h3⟩ := made_page (((w.alloc (.cells F.toArray 70)).alloc (.cells G.toArray 70)).alloc (.cells R.toArray 73))
  rw [s3] at h1 h2 h3
  refine ⟨w1, h1, ?_, ?_, ?_, h3, b1.trans ((b2.mono (by omega)).trans ((b3.mono (by omega)).trans (h2.mono (by omega))))⟩
  · exact rangeAt_block (rangeAt_block (rangeAt_block r1 (b2.block _ (by omega))) (b3.block _ (by omega))) (h2.block _ (by omega))
  · exact rangeAt_block (rangeAt_block r2 (b3.block _ (by omega))) (h2.block _ (by omega))
  · exact rangeAt_block r3 (h2.block _ (by omega))

end Go.Proofs.YtjgdnainhoipgaaGreatDoor
namespace Go.Proofs.YtjgdnainhoipgaaGreatDoor
open Go.RowKit Go.Maps

/-- what the bytes of a head say -/
structure IsHead (used upper : Nat → Bool) (rp rn : Nat → Int) (g : Nat → Nat) : Prop where
  used : ∀ k, k < 2000 → (g (k / 8)).testBit (k % 8) = used k
  upper : ∀ k, k < 2000 → (g (250 + k / 8)).testBit (k % 8) = upper k
  page : ∀ i, i < 8 → ((g (500 + 4 * i) * 256 + g (501 + 4 * i) : Nat) : Int) = rp i
  note : ∀ i, i < 8 → ((g (502 + 4 * i) * 256 + g (503 + 4 * i) : Nat) : Int) = rn i

end Go.Proofs.YtjgdnainhoipgaaGreatDoor
namespace Go.Proofs.YtjgdnainhoipgaaGreatDoor
open Go.RowKit Go.Maps

/-- the turn -/
def tb (pg : Nat → ByteArray) : Bool := (pg 4000).data.toList.getD 0 0 != 0
theorem headOf_tb (pg : Nat → ByteArray) : headOf pg = pg (placeF 0 (tb pg)) := rfl
/-- a pager that may be -/
structure Pg.Ok (p : Pg) : Prop where
  zero : p.used 0 = false
  chg : ∀ k t, p.chg k = some t → p.used k = true ∧ k < 2000 ∧ t.size = 1024
  rp : ∀ i, i < 8 → 0 ≤ p.rp i ∧ p.rp i < 65536
  rn : ∀ i, i < 8 → 0 ≤ p.rn i ∧ p.rn i < 65536
/-- its places are the disk's -/
structure Lies (p : Pg) (pg : Nat → ByteArray) : Prop where
  upper : ∀ k, k < 2000 → p.upper k = upperOf (headOf pg) k
  turn : p.upper 0 = tb pg

/-- what a page has, if it is in use -/
def Pg.view (p : Pg) (pg : Nat → ByteArray) (k : Nat) : Option ByteArray := if k < 2000 ∧ p.used k = true then some (p.text pg k) else none
theorem Pg.view_congr {p q : Pg} {pg pg' : Nat → ByteArray} (hu : ∀ k, k < 2000 → p.used k = q.used k) (ht : ∀ k, k < 2000 → q.used k = true → p.text pg k = q.text pg' k) (k : Nat) : p.view pg k = q.view pg' k := by
  unfold Pg.view
  by_cases hk : k < 2000
  · rw [hu k hk]
    by_cases h : q.used k = true
    · rw [if_pos ⟨hk, h⟩, if_pos ⟨hk, h⟩, ht k hk h]
    · rw [if_neg (fun e => h e.2), if_neg (fun e => h e.2)]
  · rw [if_neg (fun e => hk e.1), if_neg (fun e => hk e.1)]

/-- where pages lie behind a commit -/
def Pg.up (p : Pg) (k : Nat) : Bool := if k = 0 ∨ (p.chg k).isSome = true then !p.upper k else p.upper k
/-- a pager behind a commit -/
def Pg.done (p : Pg) : Pg := { p with upper := p.up, chg := fun _ => none, commits := p.commits + 1 }
theorem Pg.up_zero (p : Pg) : p.up 0 = !p.upper 0 := if_pos (.inl rfl)
theorem Pg.up_chg {p : Pg} {k : Nat} {t : ByteArray} (h : p.chg k = some t) : p.up k = !p.upper k := if_pos (.inr (by rw [h]; rfl))
theorem Pg.up_not {p : Pg} {k : Nat} (h0 : k ≠ 0) (h : p.chg k = none) : p.up k = p.upper k := if_neg (fun e => by
  rcases e with e | e
  · exact h0 e
  · rw [h] at e; cases e)

/-- all is committed -/
structure Done (p : Pg) (pg pg' : Nat → ByteArray) : Prop where
  turn : tb pg' = !p.upper 0
  head : ∃ g : Nat → Nat, pg' (placeF 0 (!p.upper 0)) = ⟨(bytesOf g).toArray⟩ ∧ IsHead p.used p.up p.rp p.rn g ∧ ∀ j, g j < 256
  page : ∀ k t, p.chg k = some t → pg' (placeF k (!p.upper k)) = t
  rest : ∀ k, 0 < k → k < 2000 → p.chg k = none → pg' (placeF k (p.upper k)) = pg (placeF k (p.upper k))
/-- nothing of what was committed has changed -/
structure Kept (p : Pg) (pg pg' : Nat → ByteArray) : Prop where
  turn : tb pg' = tb pg
  page : ∀ k, k < 2000 → pg' (placeF k (p.upper k)) = pg (placeF k (p.upper k))

theorem byte_of {g : Nat → Nat} (hg : ∀ j, g j < 256) {j : Nat} (hj : j < 1024) : ((bytesOf g).getD j 0).toNat = g j := by
  rw [bytesOf_getD g hj, UInt8.toNat_ofNat']
  exact Nat.mod_eq_of_lt (hg j)
section
variable {used upper : Nat → Bool} {rp rn : Nat → Int} {g : Nat → Nat}
theorem head_upper (h : IsHead used upper rp rn g) (hg : ∀ j, g j < 256) {k : Nat} (hk : k < 2000) : upperOf ⟨(bytesOf g).toArray⟩ k = upper k := by
  unfold upperOf bitOf
  simp only []
  rw [byte_of hg (by omega), show (k + 2000) / 8 = 250 + k / 8 by omega, show (k + 2000) % 8 = k % 8 by omega, h.upper k hk]
end

/-- what is loaded may be -/
theorem loaded_ok (pg : Nat → ByteArray) (c : Int) (d : Bool) : (loaded pg c d).Ok :=
  ⟨rfl, fun _ _ h => (by cases h), fun i _ => numOf_lt _ _, fun i _ => numOf_lt _ _⟩
theorem Lies.good {p : Pg} {pg : Nat → ByteArray} (h : Lies p pg) : upperOf (headOf pg) 0 = tb pg := by rw [← h.upper 0 (by omega), h.turn]

section
variable {p : Pg} {pg pg' : Nat → ByteArray}
theorem Done.headIs (h : Done p pg pg') : ∃ g : Nat → Nat, headOf pg' = ⟨(bytesOf g).toArray⟩ ∧ IsHead p.used p.up p.rp p.rn g ∧ ∀ j, g j < 256 := by
  obtain ⟨g, h1, h2, h3⟩ := h.head
  exact ⟨g, by rw [headOf_tb, h.turn, h1], h2, h3⟩
theorem Done.lies (h : Done p pg pg') : Lies p.done pg' := by
  obtain ⟨g, h1, h2, h3⟩ := h.headIs
  refine ⟨fun k hk => ?_, ?_⟩
  · rw [h1, head_upper h2 h3 hk]; rfl
  · rw [h.turn]; exact p.up_zero
theorem Done.text (h : Done p pg pg') (ho : p.Ok) {k : Nat} (hk : k < 2000) (hu : p.used k = true) : pg' (placeF k (p.up k)) = p.text pg k := by
  have h0 : k ≠ 0 := fun e => by rw [e, ho.zero] at hu; cases hu
  unfold Pg.text
  cases e : p.chg k with
  | none => rw [Pg.up_not h0 e, h.rest k (by omega) hk e]; rfl
  | some t => rw [Pg.up_chg e, h.page k t e]; rfl
theorem Done.view (h : Done p pg pg') (ho : p.Ok) (k : Nat) : p.done.view pg' k = p.view pg k := by
  refine Pg.view_congr (p := p.done) (q := p) (fun _ _ => rfl) (fun j hj hu => ?_) k
  show pg' (placeF j (p.up j)) = _
  exact h.text ho hj hu
theorem Done.ok (ho : p.Ok) : p.done.Ok := ⟨ho.zero, fun _ _ h => (by cases h), ho.rp, ho.rn⟩

theorem Kept.headOf (h : Kept p pg pg') (hl : Lies p pg) : headOf pg' = Go.Proofs.YtjgdnainhoipgaaGreatDoor.headOf pg := by
  rw [headOf_tb, headOf_tb, h.turn, ← hl.turn, h.page 0 (by omega)]
theorem Kept.loaded (h : Kept p pg pg') (hl : Lies p pg) (c : Int) (d : Bool) : loaded pg' c d = Go.Proofs.YtjgdnainhoipgaaGreatDoor.loaded pg c d := by
  unfold Go.Proofs.YtjgdnainhoipgaaGreatDoor.loaded
  rw [h.headOf hl]
theorem Kept.good (h : Kept p pg pg') (hl : Lies p pg) : upperOf (Go.Proofs.YtjgdnainhoipgaaGreatDoor.headOf pg') 0 = tb pg' := by rw [h.headOf hl, h.turn, hl.good]
end

section
variable {p : Pg} {pg : Nat → ByteArray}
theorem Pg.Ok.write (h : p.Ok) {j : Nat} (hj : j < 2000) (hu : p.used j = true) (t : ByteArray) (ht : t.size = 1024) : (p.write j t).Ok := by
  refine ⟨h.zero, fun k s hs => ?_, h.rp, h.rn⟩
  change (if k = j then some t else p.chg k) = some s at hs
  split at hs
  · rename_i e; subst e; cases hs; exact ⟨hu, hj, ht⟩
  · exact h.chg k s hs
theorem Pg.Ok.free (h : p.Ok) (j : Nat) : (p.free j).Ok := by
  refine ⟨?_, fun k s hs => ?_, h.rp, h.rn⟩
  · show (if 0 = j then false else p.used 0) = false
    split
    · rfl
    · exact h.zero
  · change (if k = j then none else p.chg k) = some s at hs
    split at hs
    · cases hs
    · rename_i e
      refine ⟨?_, (h.chg k s hs).2⟩
      show (if k = j then false else p.used k) = true
      rw [if_neg e]; exact (h.chg k s hs).1
theorem Pg.Ok.alloc (h : p.Ok) {j : Nat} (h0 : 0 < j) (hj : j < 2000) : (p.alloc j).Ok := by
  refine ⟨?_, fun k s hs => ?_, h.rp, h.rn⟩
  · show (if 0 = j then true else p.used 0) = false
    rw [if_neg (by omega)]; exact h.zero
  · change (if k = j then some zeros else p.chg k) = some s at hs
    show (if k = j then true else p.used k) = true ∧ _
    split at hs
    · rename_i e; subst e; cases hs; exact ⟨if_pos rfl, hj, zeros_size⟩
    · rename_i e; rw [if_neg e]; exact h.chg k s hs
theorem Pg.Ok.setRoot (h : p.Ok) (i : Nat) {k t : Int} (hk : inB k 2000 = true) (ht : inB t 65536 = true) : (p.setRoot i k t).Ok := by
  have hk' : 0 ≤ k ∧ k < 2000 := by simpa [inB] using hk
  have ht' : 0 ≤ t ∧ t < 65536 := by simpa [inB] using ht
  refine ⟨h.zero, h.chg, fun j hj => ?_, fun j hj => ?_⟩
  · show 0 ≤ (if j = i then k else p.rp j) ∧ (if j = i then k else p.rp j) < 65536
    split
    · omega
    · exact h.rp j hj
  · show 0 ≤ (if j = i then t else p.rn j) ∧ (if j = i then t else p.rn j) < 65536
    split
    · omega
    · exact h.rn j hj
theorem Pg.Ok.back {q : Pg} (hq : q.Ok) : (p.back q).Ok := ⟨hq.zero, hq.chg, hq.rp, hq.rn⟩

end
end Go.Proofs.YtjgdnainhoipgaaGreatDoor
namespace Go.Proofs.YtjgdnainhoipgaaGreatDoor
open Go.RowKit Go.Maps

/-- a number's last byte -/
def byteI (x : Int) : UInt8 := UInt8.ofNat (x % 256).toNat
/-- the pages below one -/
def pagesT (v : Nat → Option ByteArray) : Nat → ByteArray
  | 0 => ⟨#[]⟩
  | k + 1 => match v k with
    | none => pagesT v k
    | some t => pagesT v k ++ (⟨#[byteI (k : Int)]⟩ ++ t)
/-- the roots below one, behind the pages -/
def rootsT (v : Nat → Option ByteArray) (a b : Nat → Int) : Nat → ByteArray
  | 0 => pagesT v 60
  | i + 1 => rootsT v a b i ++ ⟨#[byteI (a i / 256), byteI (a i), byteI (b i / 256), byteI (b i)]⟩
/-- all of it -/
def allT (v : Nat → Option ByteArray) (a b : Nat → Int) : ByteArray := rootsT v a b 8 ++ ⟨#[byteI ((1 + countU (fun k => (v k).isSome) 2000 : Nat) : Int)]⟩
/-- of a pager -/
def Pg.all (p : Pg) (pg : Nat → ByteArray) : ByteArray := allT (p.view pg) p.rp p.rn

theorem rootsT_congr {v : Nat → Option ByteArray} {a b a' b' : Nat → Int} (ha : ∀ i, i < 8 → a i = a' i) (hb : ∀ i, i < 8 → b i = b' i) : ∀ i, i ≤ 8 → rootsT v a b i = rootsT v a' b' i
  | 0, _ => rfl
  | i + 1, hi => by rw [rootsT, rootsT, rootsT_congr ha hb i (by omega), ha i (by omega), hb i (by omega)]
theorem allT_congr {v v' : Nat → Option ByteArray} {a b a' b' : Nat → Int} (h : ∀ k, v k = v' k) (ha : ∀ i, i < 8 → a i = a' i) (hb : ∀ i, i < 8 → b i = b' i) : allT v a b = allT v' a' b' := by
  obtain rfl : v = v' := funext h
  unfold allT
  rw [rootsT_congr ha hb 8 (Nat.le_refl _)]
theorem countU_like {f g : Nat → Bool} : ∀ n, (∀ k, k < n → f k = g k) → countU f n = countU g n
  | 0, _ => rfl
  | n + 1, h => by rw [countU, countU, countU_like n (fun k hk => h k (by omega)), h n (by omega)]

section
variable {p : Pg} {pg pg' : Nat → ByteArray}
theorem Pg.view_is {k : Nat} (hk : k < 2000) : (p.view pg k).isSome = p.used k := by
  unfold Pg.view
  by_cases e : p.used k = true
  · rw [if_pos ⟨hk, e⟩, e]; rfl
  · rw [if_neg (fun h => e h.2)]
    cases h : p.used k
    · rfl
    · exact absurd h e
theorem Pg.count (p : Pg) (pg : Nat → ByteArray) : countU (fun k => (p.view pg k).isSome) 2000 = countU p.used 2000 := countU_like 2000 (fun _ hk => Pg.view_is hk)

/-- behind a commit all is as it was ahead of it -/
theorem Done.all (h : Done p pg pg') (ho : p.Ok) : p.done.all pg' = p.all pg := allT_congr (fun k => h.view ho k) (fun _ _ => rfl) (fun _ _ => rfl)
end
end Go.Proofs.YtjgdnainhoipgaaGreatDoor
namespace Go.Proofs.YtjgdnainhoipgaaGreatDoor
open Go.RowKit

end Go.Proofs.YtjgdnainhoipgaaGreatDoor
namespace Go.Proofs.YtjgdnainhoipgaaGreatDoor
open Go.RowKit

end Go.Proofs.YtjgdnainhoipgaaGreatDoor
