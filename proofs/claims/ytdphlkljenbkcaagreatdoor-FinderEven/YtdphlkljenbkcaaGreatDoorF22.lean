/- Texts of the proof of FinderEven: Flw. -/
import Derived.Test.YtdphlkljenbkcaaGreatDoorF21
namespace Go.Proofs.YtdphlkljenbkcaaGreatDoor
open Go.RowKit Go.Maps

theorem range_snoc (tx : Nat → ByteArray) (i : Nat) : (List.range (i + 1)).map (ntT tx) = (List.range i).map (ntT tx) ++ [ntT tx i] := by rw [List.range_succ, List.map_append]; rfl
theorem take_snoc (tx : Nat → ByteArray) {L : List Nat} {i : Nat} (hi : i < L.length) : (L.take (i + 1)).map (ntT tx) = (L.take i).map (ntT tx) ++ [ntT tx L[i]] := by rw [List.take_succ_eq_append_getElem hi, List.map_append]; rfl
theorem elem23 : Tryz.prog.elem 23 = 3 := by kernel_rfl
theorem size3r : (sizeOf 3).run Tryz.prog = fun w => .ok 1 w := by kernel_rfl
theorem index_int (g n cap i : Nat) (hi : i < n) (wx : World) : (Instr.indexAt 23 (.slice (some ⟨g, 0, none⟩) n cap) (.int .i64 (i : Nat))).run Tryz.prog wx = .ok (.pointer (some ⟨g, i, none⟩)) wx := by
  have := index_many Tryz.underlying23 elem23 size3r g n cap i hi wx
  rw [Nat.one_mul] at this
  exact this
theorem info3i : ∃ i0 : TypeInfo, Tryz.prog.info? 3 = some i0 ∧ i0.zero = some (.int .i64 0) ∧ i0.size = 1 ∧ i0.bytes = 8 := by
  have h : (Tryz.prog.info? 3).map (fun i => (i.zero, i.size, i.bytes)) = some (some (.int .i64 0), 1, 8) := by kernel_rfl
  cases hq : Tryz.prog.info? 3 with
  | none => rw [hq] at h; simp at h
  | some i => rw [hq] at h; simp at h; exact ⟨i, rfl, h.1, h.2.1, h.2.2⟩
set_option maxRecDepth 100000 in
set_option maxHeartbeats 40000000 in
theorem even_main (w : World) (n0 c0 n1 c1 : Nat) (a0 a1 : Option Addr) (tx : Nat → ByteArray) (nm : Nat → Int) (more : ByteArray) (hx : TxA w a0 n0 tx) (hy : NmA w a1 n1 nm) (hn0 : n0 ≤ 20) (hn1 : n1 ≤ 40) (hmo : more.size ≤ 40) (hg : Gl w) :
    Calls Tryz.prog 3 #[.slice a0 n0 c0, .slice a1 n1 c1, .string more] w fun e w' => e = .returned (.bool true) ∧ Below w.heap.size w w' := by
  obtain ⟨i0, hi0, hz0, hz1, hz2⟩ := info3i
  have HX : Hid (TxA w a0 n0 tx) := hx
  have HY : Hid (NmA w a1 n1 nm) := hy
  have HG0 : Hid (Gl w) := hg
  have e0 : ¬ (20 : Int) < (n0 : Int) := by omega
  have e1 : ¬ (40 : Int) < (n1 : Int) := by omega
  have e2 : ¬ (40 : Int) < (more.size : Int) := by omega
  have HMO : Hid (more.size ≤ 40) := hmo
  have hlo : 3 ≤ w.heap.size := by obtain ⟨m, hm⟩ := hg.m; exact World.block_lt_of_cell? _ _ hm
  clear hx hy hg hmo
  go_enter Tryz.func3, Tryz.ntmps3
  go_wp2_with fail
  refine (noted_any w HG0.out).mono ?_
  rintro _ w1 ⟨rfl, hb1⟩
  have HB1 : Hid (Below w.heap.size w w1) := hb1
  clear hb1
  go_wp2_with fail
  refine (found_any w1).mono ?_
  rintro _ w2 ⟨f1, f2, f3, f4, f5, rfl, hp2, hl2, hb2⟩
  have HP2 : Hid (PrS f1 f2 f3 f4 f5 0 0 (InF []) w2) := hp2
  have HL2 : Hid (w1.heap.size ≤ f1 ∧ w1.heap.size ≤ f2 ∧ w1.heap.size ≤ f3 ∧ w1.heap.size ≤ f4 ∧ w1.heap.size ≤ f5) := hl2
  have HB2 : Hid (Below w.heap.size w w2) := HB1.out.trans (hb2.mono HB1.out.size)
  clear hp2 hl2 hb2
  go_wp2_with fail
  refine (found_any w2).mono ?_
  rintro _ w3 ⟨g1, g2, g3, g4, g5, rfl, hp3, hl3, hb3⟩
  have HB3 : Hid (Below w.heap.size w w3) := HB2.out.trans (hb3.mono HB2.out.size)
  have HBK : Hid (Bks f1 f2 f3 f4 f5 g1 g2 g3 g4 g5 w.heap.size w2.heap.size w3.heap.size) := by
    have k1 := HP2.out.lt
    have k2 := hp3.lt
    have k3 := HL2.out
    have k4 := HB1.out.size
    exact ⟨hlo, ⟨by omega, by omega, by omega, by omega, by omega⟩, ⟨k1.1, k1.2.1, k1.2.2.1, k1.2.2.2.2, k1.2.2.2.1⟩, hl3, ⟨k2.1, k2.2.1, k2.2.2.1, k2.2.2.2.2, k2.2.2.2.1⟩⟩
  have HS3 : Hid (Fg f1 f2 f3 f4 f5 g1 g2 g3 g4 g5 0 0 0 0 [] [] w w3) := ⟨HP2.out.below hb3, hp3, HB3.out⟩
  clear hp3 hl3 hb3 HP2 HL2 HB1 HB2
  obtain ⟨s2, hs2⟩ : ∃ s2, w2.heap.size = s2 := ⟨_, rfl⟩
  rw [hs2] at HBK
  clear hs2
  go_wp2_with fail
  go_loopw [9, 10] (fun rv iv wr => ∃ (i : Nat), i ≤ n0 ∧ iv = .int .i64 (i : Nat) ∧ Hid (IRow w3.heap.size rv (List.range i) wr) ∧ Hid (Fg f1 f2 f3 f4 f5 g1 g2 g3 g4 g5 (800 * i) (860 * i) 0 0 ((List.range i).map (ntT tx)) [] w wr) ∧ Hid (∀ j, j < i → (tx j).size ≤ 40) ∧ Hid (w3.heap.size ≤ wr.heap.size)) (fun _ iv _ => n0 + 1 - (intOf iv).toNat)
  case atStart => exact ⟨0, Nat.zero_le _, rfl, World.ownsRow_nil _ _ _ _, HS3, (fun j hj => absurd hj (by omega) : ∀ j, j < 0 → (tx j).size ≤ 40), Nat.le_refl _⟩
  case round =>
    clear HS3
    obtain ⟨i, hi, rfl, HRW, HS, HTS, HSZ⟩ := hrel
    by_cases hlt : i < n0
    · have h1 : (i : Int) < (n0 : Int) := by omega
      obtain ⟨b, o, ha0, hbl, hcell⟩ := HX.out.below HS.out.b i hlt
      cases ha0
      by_cases hts : (tx i).size ≤ 40
      · have h2 : ¬ (40 : Int) < ((tx i).size : Int) := by omega
        have HAD : Hid (Calls Tryz.prog 6 #[.pointer (some ⟨f1, 0, none⟩), .string ⟨#[110]⟩, .int .i64 ((i : Int) + 1), .string (tx i)] wr fun e w' => e = .returned .nilIface ∧ Fg f1 f2 f3 f4 f5 g1 g2 g3 g4 g5 (800 * i + 800) (860 * i + 860) 0 0 ((List.range i).map (ntT tx) ++ [ntT tx i]) [] w w' ∧ Only (fun b => b < w3.heap.size) wr w') := addF (tx := tx) HS.out HBK.out HG0.out i (by omega) hts (rs_ok (n := i) HTS.out (by omega) (fun j hj => List.mem_range.1 hj)) (fun s hs e => by
          obtain ⟨j, hj, rfl⟩ := List.mem_map.1 hs
          have := List.mem_range.1 hj
          have e' : j + 1 = i + 1 := e
          omega) (by rw [List.length_map, List.length_range]; omega) (by omega) (by omega)
        have HTS2 : Hid (∀ j, j < i + 1 → (tx j).size ≤ 40) := fun j hj => by
          rcases Nat.lt_or_ge j i with h | h
          · exact HTS.out j h
          · obtain rfl : j = i := by omega
            exact hts
        obtain ⟨tt, htt⟩ : ∃ tt, tx i = tt := ⟨_, rfl⟩
        rw [htt] at hcell h2 HAD
        clear hts htt
        go_wp2_with fail
        refine (show Calls _ _ _ _ _ from HAD.out).mono ?_
        rintro _ w4 ⟨rfl, hs4, ho4⟩
        have hbA : Below w4.heap.size w4 (w4.alloc (.cells #[.int .i64 (i : Nat)] 3)) := (Below.refl _ _).alloc (Nat.le_refl _) _
        have HS4 : Hid (Fg f1 f2 f3 f4 f5 g1 g2 g3 g4 g5 (800 * i + 800) (860 * i + 860) 0 0 ((List.range (i + 1)).map (ntT tx)) [] w (w4.alloc (.cells #[.int .i64 (i : Nat)] 3))) := by
          show Fg _ _ _ _ _ _ _ _ _ _ _ _ _ _ _ _ _ _
          rw [range_snoc]
          exact hs4.below hbA
        have HR4 : Hid ((w4.alloc (.cells #[.int .i64 (i : Nat)] 3)).ownsRow w3.heap.size 3 1 u9 (List.range i).length ((List.range i).map fun k => Value.int .i64 (k : Nat))) := row_below (row_only HRW.out ho4 (fun b e => e)) hbA
        have HSZ4 : Hid (w3.heap.size ≤ (w4.alloc (.cells #[.int .i64 (i : Nat)] 3)).heap.size) := Nat.le_trans (Nat.le_trans HSZ.out ho4.size) hbA.size
        have HNW : Hid (∀ (j : Nat) (u : Value), [Value.int .i64 (i : Nat)][j]? = some u → (w4.alloc (.cells #[.int .i64 (i : Nat)] 3)).cell? ((⟨w4.heap.size, 0, none⟩ : Addr).add j) = some u) := by
          intro j u hu
          have hV := VarN.new w4 #[.int .i64 (i : Nat)] 3 (by simp)
          rw [add_pl]
          exact hV.get hu
        have hrl : (List.range i).length = i := List.length_range
        clear hs4 ho4 hbA hcell
        go_wp2_with (at_builtin; refine wpList_append_lies _ rfl _ _ 23 rfl w3.heap.size 3 i0 (.int .i64 0) 1 8 Tryz.underlying23 hi0 hz0 hz1 hz2 rfl (by decide) _ _ _ rfl HR4.out ⟨w4.heap.size, 0, none⟩ 1 1 [.int .i64 (i : Nat)] rfl rfl HNW.out (by intro u hu; simp at hu; subst hu; rfl) (by decide) (by rw [hrl]; simp only [maxLen]; omega) (by rw [hrl]; omega) HSZ4.out _ rfl ?_; intro g' cap' w' hO hG hat hlt')
        refine ⟨⟨i + 1, by omega, by go_num, ?_, ?_, HTS2, ?_⟩, by simp [intOf]; omega⟩
        · show World.ownsRow _ _ _ _ _ _ _
          rw [List.range_succ, List.map_append, List.length_append, hrl]
          rw [hrl] at hO
          exact hO
        · have hq := HS4.out.above HBK.out (grown_only (S := fun b => w3.heap.size ≤ b) hG (fun b e => (World.ownsRow.lt HR4.out b e).1))
          exact hq.mono (by omega) (by omega) (Nat.le_refl _) (Nat.le_refl _)
        · exact Nat.le_trans HSZ4.out hG.size
      · have h2 : (40 : Int) < ((tx i).size : Int) := by omega
        go_wp2
        go_ret
        exact ⟨rfl, HS.out.b⟩
    · have h1 : ¬ (i : Int) < (n0 : Int) := by omega
      obtain rfl : n0 = i := by omega
      obtain ⟨a9, c9, hv9⟩ := row_slice HRW.out
      rw [List.length_range] at hv9
      subst hv9
      have HTX : Hid (∀ j, j < n0 → (tx j).size ≤ 40) := HTS.out
      have HS0 : Hid (Fg f1 f2 f3 f4 f5 g1 g2 g3 g4 g5 (800 * n0) (860 * n0) (2400 * 0) (860 * 0) ((List.range n0).map (ntT tx)) (((List.range n0).take 0).map (ntT tx)) w wr) := HS.out
      clear HTS HS
      go_wp2_with fail
      go_loopw [11] (fun iv wr => ∃ (i : Nat) (L : List Nat), i ≤ n0 ∧ iv = .int .i64 (i : Nat) ∧ Hid (IRow w3.heap.size (.slice a9 n0 c9) L wr) ∧ Hid (L.Perm (List.range n0)) ∧ Hid (Fg f1 f2 f3 f4 f5 g1 g2 g3 g4 g5 (800 * n0) (860 * n0) (2400 * i) (860 * i) ((List.range n0).map (ntT tx)) ((L.take i).map (ntT tx)) w wr) ∧ Hid (w3.heap.size ≤ wr.heap.size)) (fun iv _ => n0 + 1 - (intOf iv).toNat)
      case atStart => exact ⟨0, List.range n0, Nat.zero_le _, rfl, HRW, List.Perm.refl _, HS0, HSZ⟩
      case round =>
        clear HRW HS0 HSZ
        obtain ⟨i, L, hi, rfl, HRW, HP, HS, HSZ⟩ := hrel
        by_cases hlt : i < n0
        · have h1 : (i : Int) < (n0 : Int) := by omega
          by_cases hn : n1 = 0
          · have h2 : ¬ (0 : Int) < (n1 : Int) := by omega
            clear hn
            have hil : i < L.length := by rw [perm_len HP.out]; exact hlt
            obtain ⟨g, cap, hv, hgB, hcg, hfg⟩ := irow_at HRW.out hil
            rw [perm_len HP.out] at hv
            cases hv
            have hjn : L[i] < n0 := perm_lt HP.out _ (List.getElem_mem hil)
            have hnew := rs_new (tx := tx) HP.out hil
            have hsn := take_snoc tx hil
            have hlt20 : (L.take i).length ≤ 20 := by rw [List.length_take]; omega
            obtain ⟨j, hj⟩ : ∃ j, L[i] = j := ⟨_, rfl⟩
            rw [hj] at hcg hjn hnew hsn
            obtain ⟨b, o, ha0, hbl, hcell⟩ := HX.out.below HS.out.b j hjn
            cases ha0
            have hj1 : (j : Int) < (n0 : Int) := by omega
            have hix := fun wx => index_int g n0 c9 i hlt wx
            have hwj : IntKind.i64.wrap ((j : Int) + 1) = (j : Int) + 1 := wraps_i64 _ (by omega) (by omega)
            have HTL : Hid (∀ k ∈ L.take i, k < n0) := fun k hk => perm_lt HP.out k (List.mem_of_mem_take hk)
            have HTL2 : Hid (∀ k ∈ L.take (i + 1), k < n0) := fun k hk => perm_lt HP.out k (List.mem_of_mem_take hk)
            have HAD : Hid (∀ wx, Fg f1 f2 f3 f4 f5 g1 g2 g3 g4 g5 (800 * n0) (860 * n0) (2400 * i) (860 * i) ((List.range n0).map (ntT tx)) ((L.take i).map (ntT tx)) w wx → Calls Tryz.prog 6 #[.pointer (some ⟨g1, 0, none⟩), .string ⟨#[110]⟩, .int .i64 ((j : Int) + 1), .string (tx j)] wx fun e w' => e = .returned .nilIface ∧ Fg f1 f2 f3 f4 f5 g1 g2 g3 g4 g5 (800 * n0) (860 * n0) (2400 * i + 800) (860 * i + 860) ((List.range n0).map (ntT tx)) ((L.take (i + 1)).map (ntT tx)) w w' ∧ Only (fun b => b < w3.heap.size) wx w') := fun wx hS => by
              rw [hsn]
              exact addG (tx := tx) hS HBK.out HG0.out j (by omega) (HTX.out j hjn) (rs_ok (n := n0) HTX.out hn0 HTL.out) hnew (by rw [List.length_map]; omega) (by omega) (by omega)
            have HAM : Hid (∀ wx, Fg f1 f2 f3 f4 f5 g1 g2 g3 g4 g5 (800 * n0) (860 * n0) (2400 * i + 800) (860 * i + 860) ((List.range n0).map (ntT tx)) ((L.take (i + 1)).map (ntT tx)) w wx → Calls Tryz.prog 6 #[.pointer (some ⟨g1, 0, none⟩), .string ⟨#[110]⟩, .int .i64 (1000 + (i : Int)), .string more] wx fun e w' => e = .returned .nilIface ∧ Fg f1 f2 f3 f4 f5 g1 g2 g3 g4 g5 (800 * n0) (860 * n0) (2400 * i + 800 + 800) (860 * i + 860 + 860) ((List.range n0).map (ntT tx)) ((L.take (i + 1)).map (ntT tx) ++ [mtT more i]) w w' ∧ Only (fun b => b < w3.heap.size) wx w') := fun wx hS => addM hS HBK.out HG0.out more i (by omega) HMO.out (rs_ok (n := n0) HTX.out hn0 HTL2.out) (rs_far HTL2.out hn0 more i) (by rw [List.length_map, List.length_take]; omega) (by omega) (by omega)
            have HDM : Hid (∀ wx, Fg f1 f2 f3 f4 f5 g1 g2 g3 g4 g5 (800 * n0) (860 * n0) (2400 * i + 800 + 800) (860 * i + 860 + 860) ((List.range n0).map (ntT tx)) ((L.take (i + 1)).map (ntT tx) ++ [mtT more i]) w wx → Calls Tryz.prog 8 #[.pointer (some ⟨g1, 0, none⟩), .string ⟨#[110]⟩, .int .i64 (1000 + (i : Int)), .string more] wx fun e w' => e = .returned .nilIface ∧ Fg f1 f2 f3 f4 f5 g1 g2 g3 g4 g5 (800 * n0) (860 * n0) (2400 * i + 800 + 800 + 800) (860 * i + 860 + 860) ((List.range n0).map (ntT tx)) ((L.take (i + 1)).map (ntT tx)) w w' ∧ Only (fun b => b < w3.heap.size) wx w') := fun wx hS => dropM hS HBK.out HG0.out (by omega) HMO.out (rs_ok (n := n0) HTX.out hn0 HTL2.out) (rs_far HTL2.out hn0 more i) (by omega)
            obtain ⟨tt, htt⟩ : ∃ tt, tx j = tt := ⟨_, rfl⟩
            rw [htt] at hcell HAD
            have D0 : Hid (wr.cell? ⟨g, i, none⟩ = some (.int .i64 (j : Nat)) ∧ wr.cell? ⟨b, o + j, none⟩ = some (.string tt)) := ⟨hcg, hcell⟩
            have HKP : Hid (∀ wa wb, (wa.cell? ⟨g, i, none⟩ = some (.int .i64 (j : Nat)) ∧ wa.cell? ⟨b, o + j, none⟩ = some (.string tt)) → Fg f1 f2 f3 f4 f5 g1 g2 g3 g4 g5 (800 * n0) (860 * n0) (2400 * i) (860 * i) ((List.range n0).map (ntT tx)) ((L.take i).map (ntT tx)) w wa → Below w.heap.size w wb → Only (fun b => b < w3.heap.size) wa wb → (wb.cell? ⟨g, i, none⟩ = some (.int .i64 (j : Nat)) ∧ wb.cell? ⟨b, o + j, none⟩ = some (.string tt))) := by
              obtain ⟨b', o', hb', hbl', hcell'⟩ := HX.out j hjn
              cases hb'
              rw [htt] at hcell'
              intro wa wb h1 h2 h3 h4
              exact ⟨(h4.cell (World.block_lt_of_cell? _ _ h1.1) (fun e => by have e' : g < w3.heap.size := e; omega) i).trans h1.1, keepc h3 hcell'⟩
            clear hcg hfg hcell hbl hnew hsn hj htt
            go_wp2_with fail
            refine wp_region_held_drew (S := fun wx => wx.cell? ⟨g, i, none⟩ = some (.int .i64 (j : Nat)) ∧ wx.cell? ⟨b, o + j, none⟩ = some (.string tt)) (by kernel_rfl) (D0.out) ?_
            intro hg0
            refine wpAnyH_take (i := 0) (oi := { dst := some 112, op := Op.move (Operand.tmp 8), type := 25, pos := "keep.go:581", after := #[], guard := none }) (v := .pointer (some ⟨g1, 0, none⟩)) rfl (by kernel_rfl) (by kernel_rfl) (by kernel_rfl) (fun _ _ _ h => h) (Or.inl ⟨by rfl, fun wx _ => by go_simp⟩) hg0 ?_
            simp only [Act.put, List.setIfInBounds_toArray, List.set_cons_zero, List.set_cons_succ]
            refine wpAnyH_take (i := 1) (oi := { dst := some 113, op := Op.move (Operand.tmp 9), type := 23, pos := "keep.go:581", after := #[], guard := none }) (v := .slice (some ⟨g, 0, none⟩) n0 c9) rfl (by kernel_rfl) (by kernel_rfl) (by kernel_rfl) (fun _ _ _ h => h) (Or.inl ⟨by rfl, fun wx _ => by go_simp⟩) hg0 ?_
            simp only [Act.put, List.setIfInBounds_toArray, List.set_cons_zero, List.set_cons_succ]
            refine wpAnyH_take (i := 2) (oi := { dst := some 114, op := Op.move (Operand.tmp 11), type := 3, pos := "keep.go:581", after := #[], guard := none }) (v := .int .i64 (i : Nat)) rfl (by kernel_rfl) (by kernel_rfl) (by kernel_rfl) (fun _ _ _ h => h) (Or.inl ⟨by rfl, fun wx _ => by go_simp⟩) hg0 ?_
            simp only [Act.put, List.setIfInBounds_toArray, List.set_cons_zero, List.set_cons_succ]
            refine wpAnyH_take (i := 3) (oi := { dst := some 115, op := Op.indexAddr 23 (Operand.tmp 113) (Operand.tmp 114), type := 0, pos := "keep.go:581", after := #[{ on := 1, ground := Ground.data }, { on := 2, ground := Ground.data }], guard := none }) (v := .pointer (some ⟨g, i, none⟩)) rfl (by kernel_rfl) (by kernel_rfl) (by kernel_rfl) (fun _ _ _ h => h) (Or.inl ⟨by rfl, fun wx _ => by go_simp⟩) hg0 ?_
            simp only [Act.put, List.setIfInBounds_toArray, List.set_cons_zero, List.set_cons_succ]
            refine wpAnyH_take (i := 4) (oi := { dst := some 116, op := Op.load 3 (Operand.tmp 115), type := 3, pos := "keep.go:581", after := #[{ on := 3, ground := Ground.data }], guard := none }) (v := .int .i64 (j : Nat)) rfl (by kernel_rfl) (by kernel_rfl) (by kernel_rfl) (fun _ _ _ h => h) (Or.inl ⟨by rfl, fun wx h => by have h8 := h.1; go_simp⟩) hg0 ?_
            simp only [Act.put, List.setIfInBounds_toArray, List.set_cons_zero, List.set_cons_succ]
            refine wpAnyH_take (i := 5) (oi := { dst := some 117, op := Op.binOp BinOp.add 3 (Operand.tmp 116) (Operand.const (Value.int IntKind.i64 1)) 3, type := 3, pos := "keep.go:581", after := #[{ on := 4, ground := Ground.data }], guard := none }) (v := .int .i64 ((j : Int) + 1)) rfl (by kernel_rfl) (by kernel_rfl) (by kernel_rfl) (fun _ _ _ h => h) (Or.inl ⟨by rfl, fun wx _ => by go_simp⟩) hg0 ?_
            simp only [Act.put, List.setIfInBounds_toArray, List.set_cons_zero, List.set_cons_succ]
            refine wpAnyH_take (i := 6) (oi := { dst := some 118, op := Op.move (Operand.tmp 0), type := 22, pos := "keep.go:581", after := #[], guard := none }) (v := .slice (some ⟨b, o, none⟩) n0 c0) rfl (by kernel_rfl) (by kernel_rfl) (by kernel_rfl) (fun _ _ _ h => h) (Or.inl ⟨by rfl, fun wx _ => by go_simp⟩) hg0 ?_
            simp only [Act.put, List.setIfInBounds_toArray, List.set_cons_zero, List.set_cons_succ]
            refine wpAnyH_take (i := 7) (oi := { dst := some 119, op := Op.move (Operand.tmp 9), type := 23, pos := "keep.go:581", after := #[], guard := none }) (v := .slice (some ⟨g, 0, none⟩) n0 c9) rfl (by kernel_rfl) (by kernel_rfl) (by kernel_rfl) (fun _ _ _ h => h) (Or.inl ⟨by rfl, fun wx _ => by go_simp⟩) hg0 ?_
            simp only [Act.put, List.setIfInBounds_toArray, List.set_cons_zero, List.set_cons_succ]
            refine wpAnyH_take (i := 8) (oi := { dst := some 120, op := Op.move (Operand.tmp 11), type := 3, pos := "keep.go:581", after := #[], guard := none }) (v := .int .i64 (i : Nat)) rfl (by kernel_rfl) (by kernel_rfl) (by kernel_rfl) (fun _ _ _ h => h) (Or.inl ⟨by rfl, fun wx _ => by go_simp⟩) hg0 ?_
            simp only [Act.put, List.setIfInBounds_toArray, List.set_cons_zero, List.set_cons_succ]
            refine wpAnyH_take (i := 9) (oi := { dst := some 121, op := Op.indexAddr 23 (Operand.tmp 119) (Operand.tmp 120), type := 0, pos := "keep.go:581", after := #[{ on := 7, ground := Ground.data }, { on := 8, ground := Ground.data }], guard := none }) (v := .pointer (some ⟨g, i, none⟩)) rfl (by kernel_rfl) (by kernel_rfl) (by kernel_rfl) (fun _ _ _ h => h) (Or.inl ⟨by rfl, fun wx _ => by go_simp⟩) hg0 ?_
            simp only [Act.put, List.setIfInBounds_toArray, List.set_cons_zero, List.set_cons_succ]
            refine wpAnyH_take (i := 10) (oi := { dst := some 122, op := Op.load 3 (Operand.tmp 121), type := 3, pos := "keep.go:581", after := #[{ on := 9, ground := Ground.data }], guard := none }) (v := .int .i64 (j : Nat)) rfl (by kernel_rfl) (by kernel_rfl) (by kernel_rfl) (fun _ _ _ h => h) (Or.inl ⟨by rfl, fun wx h => by have h8 := h.1; go_simp⟩) hg0 ?_
            simp only [Act.put, List.setIfInBounds_toArray, List.set_cons_zero, List.set_cons_succ]
            refine wpAnyH_take (i := 11) (oi := { dst := some 123, op := Op.indexAddr 22 (Operand.tmp 118) (Operand.tmp 122), type := 0, pos := "keep.go:581", after := #[{ on := 6, ground := Ground.data }, { on := 10, ground := Ground.data }], guard := none }) (v := .pointer (some ⟨b, o + j, none⟩)) rfl (by kernel_rfl) (by kernel_rfl) (by kernel_rfl) (fun _ _ _ h => h) (Or.inl ⟨by rfl, fun wx _ => by go_simp⟩) hg0 ?_
            simp only [Act.put, List.setIfInBounds_toArray, List.set_cons_zero, List.set_cons_succ]
            refine wpAnyH_take (i := 12) (oi := { dst := some 124, op := Op.load 9 (Operand.tmp 123), type := 9, pos := "keep.go:581", after := #[{ on := 11, ground := Ground.data }], guard := none }) (v := .string tt) rfl (by kernel_rfl) (by kernel_rfl) (by kernel_rfl) (fun _ _ _ h => h) (Or.inl ⟨by rfl, fun wx h => by have h8 := h.2; go_simp⟩) hg0 ?_
            simp only [Act.put, List.setIfInBounds_toArray, List.set_cons_zero, List.set_cons_succ]
            refine wpAnyH_ready (rs := [13]) (by kernel_rfl) (by decide) (AllReadyH.cons (o := { dst := some 125, op := Op.call { callee := Callee.value (Operand.func 6), args := #[Operand.tmp 112, Operand.const (Value.string { data := #[110] }), Operand.tmp 117, Operand.tmp 124], argTypes := #[25, 9, 3, 9] }, type := 28, pos := "keep.go:581", after := #[{ on := 0, ground := Ground.data }, { on := 5, ground := Ground.data }, { on := 12, ground := Ground.data }], guard := none }) rfl (fun K hK => ?_) AllReadyH.nil)
            rw [if_pos (by rfl)]
            go_simp
            refine (show Calls _ _ _ _ _ from HAD.out _ (HS.out.below (Below.refl _ _).drew)).mono ?_
            rintro _ w5 ⟨rfl, hs5, ho5⟩
            have HS5 : Hid (Fg f1 f2 f3 f4 f5 g1 g2 g3 g4 g5 (800 * n0) (860 * n0) (2400 * i + 800) (860 * i + 860) ((List.range n0).map (ntT tx)) ((L.take (i + 1)).map (ntT tx)) w w5) := hs5
            have HO5 : Hid (Only (fun b => b < w3.heap.size) wr w5) := (below_only (Below.refl _ _).drew _).trans ho5 (fun _ e => .inl e)
            have D1 : Hid (w5.cell? ⟨g, i, none⟩ = some (.int .i64 (j : Nat)) ∧ w5.cell? ⟨b, o + j, none⟩ = some (.string tt)) := HKP.out _ _ D0.out HS.out hs5.b HO5.out
            clear hs5 ho5
            refine hK.out _ _ (D1.out) (fun hg1 => ?_)
            clear hK K
            try simp only [Act.put, List.setIfInBounds_toArray, List.set_cons_zero, List.set_cons_succ]
            refine wpAnyH_take (i := 14) (oi := { dst := some 126, op := Op.binOp BinOp.neq 28 (Operand.tmp 125) (Operand.const Value.nilIface) 28, type := 4, pos := "keep.go:581", after := #[{ on := 13, ground := Ground.data }], guard := none }) (v := .bool false) rfl (by kernel_rfl) (by kernel_rfl) (by kernel_rfl) (fun _ _ _ h => h) (Or.inl ⟨by rfl, fun wx _ => by go_simp⟩) hg1 ?_
            simp only [Act.put, List.setIfInBounds_toArray, List.set_cons_zero, List.set_cons_succ]
            refine wpAnyH_done (by kernel_rfl) ?_ _
            go_wp2_with fail
            refine (show Calls _ _ _ _ _ from HAM.out w5 HS5.out).mono ?_
            rintro _ w6 ⟨rfl, hs6, ho6⟩
            have HS6 : Hid (Fg f1 f2 f3 f4 f5 g1 g2 g3 g4 g5 (800 * n0) (860 * n0) (2400 * i + 800 + 800) (860 * i + 860 + 860) ((List.range n0).map (ntT tx)) ((L.take (i + 1)).map (ntT tx) ++ [mtT more i]) w w6) := hs6
            have HO6 : Hid (Only (fun b => b < w3.heap.size) wr w6) := HO5.out.trans ho6 (fun _ e => .inl e)
            clear hs6 ho6
            go_wp2_with fail
            refine (show Calls _ _ _ _ _ from HDM.out w6 HS6.out).mono ?_
            rintro _ w7 ⟨rfl, hs7, ho7⟩
            have HS7 : Hid (Fg f1 f2 f3 f4 f5 g1 g2 g3 g4 g5 (800 * n0) (860 * n0) (2400 * (i + 1)) (860 * (i + 1)) ((List.range n0).map (ntT tx)) ((L.take (i + 1)).map (ntT tx)) w w7) := (hs7.back HS5.out).mono (Nat.le_refl _) (Nat.le_refl _) (by omega) (by omega)
            have HO7 : Hid (Only (fun b => b < w3.heap.size) wr w7) := HO6.out.trans ho7 (fun _ e => .inl e)
            clear hs7 ho7
            go_wp2_with fail
            go_roundw
            case rel => exact ⟨i + 1, L, by omega, by go_num, row_only HRW.out HO7.out (fun b e => e), HP, HS7, Nat.le_trans HSZ.out HO7.out.size⟩
            case measure => simp [intOf]; omega
          · have h2 : (0 : Int) < (n1 : Int) := by omega
            have hil : i < L.length := by rw [perm_len HP.out]; exact hlt
            have hmn : i % n1 < n1 := Nat.mod_lt _ (by omega)
            obtain ⟨m, hm⟩ : ∃ m, i % n1 = m := ⟨_, rfl⟩
            have htm : (i : Int).tmod (n1 : Int) = (m : Int) := by rw [Int.tmod_eq_emod_of_nonneg (by omega), ← hm]; omega
            rw [hm] at hmn
            obtain ⟨b1, o1, ha1, hbl1, hcell1⟩ := HY.out.below HS.out.b m hmn
            cases ha1
            have hm1 : (m : Int) < (n1 : Int) := by omega
            have hne1 : ¬ (n1 : Int) = 0 := by omega
            have hwm : IntKind.i64.wrap (m : Int) = (m : Int) := wraps_i64 _ (by omega) (by omega)
            obtain ⟨q, hq⟩ : ∃ q, n0 - i = q := ⟨_, rfl⟩
            have hsub : (n0 : Int) - (i : Int) = (q : Int) := by omega
            have hwq : IntKind.i64.wrap (q : Int) = (q : Int) := wraps_i64 _ (by omega) (by omega)
            have hq0 : 0 < q := by omega
            have hq1 : i + q = n0 := by omega
            have HMS : Hid _ := hm
            clear hm hq hn
            go_wp2_with fail
            refine (pickR_any (nm m) q hq0 (by omega) _).mono ?_
            rintro _ w9 ⟨⟨rr, hrr, rfl⟩, h9⟩
            obtain rfl := h9.symm
            clear h9
            obtain ⟨k, hk⟩ : ∃ k, i + rr = k := ⟨_, rfl⟩
            have hadd : (i : Int) + (rr : Int) = (k : Int) := by omega
            have hwk : IntKind.i64.wrap (k : Int) = (k : Int) := wraps_i64 _ (by omega) (by omega)
            have hkn : k < n0 := by omega
            have hik : i ≤ k := by omega
            have hkl : k < L.length := by rw [perm_len HP.out]; exact hkn
            obtain ⟨g, cap, hv, hgB, hcg, hfg⟩ := irow_at HRW.out hil
            rw [perm_len HP.out] at hv
            cases hv
            obtain ⟨g', cap', hv', hgB', hck, hfk⟩ := irow_at HRW.out hkl
            rw [perm_len HP.out] at hv'
            cases hv'
            have hix1 := fun wx => index_int g n0 c9 i hlt wx
            have hix2 := fun wx => index_int g n0 c9 k hkn wx
            have HPN : Hid ((swapL L i k L[i] L[k]).Perm (List.range n0)) := swap_perm HP.out hil hkl
            obtain ⟨x, hx⟩ : ∃ x, L[i] = x := ⟨_, rfl⟩
            obtain ⟨y, hy⟩ : ∃ y, L[k] = y := ⟨_, rfl⟩
            rw [hx] at hcg HPN
            rw [hy] at hck HPN
            obtain ⟨v8, hv8⟩ := cell?_setCell_some (w := wr) (p := ⟨g, i, none⟩) (x := .int .i64 (y : Nat)) (q := ⟨g, k, none⟩) (v := .int .i64 (y : Nat)) hck
            clear hx hy hk hcell1 htm
            go_wp2_with fail
            refine wp_region_held_drew (S := fun _ => True) (by kernel_rfl) (trivial) ?_
            intro hg0
            refine wpAnyH_take (i := 0) (oi := { dst := some 98, op := Op.move (Operand.tmp 9), type := 23, pos := "keep.go:579", after := #[], guard := none }) (v := .slice (some ⟨g, 0, none⟩) n0 c9) rfl (by kernel_rfl) (by kernel_rfl) (by kernel_rfl) (fun _ _ _ h => h) (Or.inl ⟨by rfl, fun wx _ => by go_simp⟩) hg0 ?_
            simp only [Act.put, List.setIfInBounds_toArray, List.set_cons_zero, List.set_cons_succ]
            refine wpAnyH_take (i := 1) (oi := { dst := some 99, op := Op.move (Operand.tmp 11), type := 3, pos := "keep.go:579", after := #[], guard := none }) (v := .int .i64 (i : Nat)) rfl (by kernel_rfl) (by kernel_rfl) (by kernel_rfl) (fun _ _ _ h => h) (Or.inl ⟨by rfl, fun wx _ => by go_simp⟩) hg0 ?_
            simp only [Act.put, List.setIfInBounds_toArray, List.set_cons_zero, List.set_cons_succ]
            refine wpAnyH_take (i := 2) (oi := { dst := some 100, op := Op.move (Operand.tmp 9), type := 23, pos := "keep.go:579", after := #[{ on := 13, ground := Ground.gcOnly Departure.lateStores }], guard := none }) (v := .slice (some ⟨g, 0, none⟩) n0 c9) rfl (by kernel_rfl) (by kernel_rfl) (by kernel_rfl) (fun _ _ _ h => h) (Or.inl ⟨by rfl, fun wx _ => by go_simp⟩) hg0 ?_
            simp only [Act.put, List.setIfInBounds_toArray, List.set_cons_zero, List.set_cons_succ]
            refine wpAnyH_take (i := 3) (oi := { dst := some 101, op := Op.move (Operand.tmp 12), type := 3, pos := "keep.go:579", after := #[{ on := 13, ground := Ground.gcOnly Departure.lateStores }], guard := none }) (v := .int .i64 (k : Nat)) rfl (by kernel_rfl) (by kernel_rfl) (by kernel_rfl) (fun _ _ _ h => h) (Or.inl ⟨by rfl, fun wx _ => by go_simp⟩) hg0 ?_
            simp only [Act.put, List.setIfInBounds_toArray, List.set_cons_zero, List.set_cons_succ]
            refine wpAnyH_take (i := 4) (oi := { dst := some 102, op := Op.move (Operand.tmp 9), type := 23, pos := "keep.go:579", after := #[], guard := none }) (v := .slice (some ⟨g, 0, none⟩) n0 c9) rfl (by kernel_rfl) (by kernel_rfl) (by kernel_rfl) (fun _ _ _ h => h) (Or.inl ⟨by rfl, fun wx _ => by go_simp⟩) hg0 ?_
            simp only [Act.put, List.setIfInBounds_toArray, List.set_cons_zero, List.set_cons_succ]
            refine wpAnyH_take (i := 5) (oi := { dst := some 103, op := Op.move (Operand.tmp 12), type := 3, pos := "keep.go:579", after := #[], guard := none }) (v := .int .i64 (k : Nat)) rfl (by kernel_rfl) (by kernel_rfl) (by kernel_rfl) (fun _ _ _ h => h) (Or.inl ⟨by rfl, fun wx _ => by go_simp⟩) hg0 ?_
            simp only [Act.put, List.setIfInBounds_toArray, List.set_cons_zero, List.set_cons_succ]
            refine wpAnyH_take (i := 6) (oi := { dst := some 104, op := Op.indexAddr 23 (Operand.tmp 102) (Operand.tmp 103), type := 0, pos := "keep.go:579", after := #[{ on := 4, ground := Ground.data }, { on := 5, ground := Ground.data }], guard := none }) (v := .pointer (some ⟨g, k, none⟩)) rfl (by kernel_rfl) (by kernel_rfl) (by kernel_rfl) (fun _ _ _ h => h) (Or.inl ⟨by rfl, fun wx _ => by go_simp⟩) hg0 ?_
            simp only [Act.put, List.setIfInBounds_toArray, List.set_cons_zero, List.set_cons_succ]
            refine wpAnyH_take (i := 8) (oi := { dst := some 106, op := Op.move (Operand.tmp 9), type := 23, pos := "keep.go:579", after := #[], guard := none }) (v := .slice (some ⟨g, 0, none⟩) n0 c9) rfl (by kernel_rfl) (by kernel_rfl) (by kernel_rfl) (fun _ _ _ h => h) (Or.inl ⟨by rfl, fun wx _ => by go_simp⟩) hg0 ?_
            simp only [Act.put, List.setIfInBounds_toArray, List.set_cons_zero, List.set_cons_succ]
            refine wpAnyH_take (i := 9) (oi := { dst := some 107, op := Op.move (Operand.tmp 11), type := 3, pos := "keep.go:579", after := #[], guard := none }) (v := .int .i64 (i : Nat)) rfl (by kernel_rfl) (by kernel_rfl) (by kernel_rfl) (fun _ _ _ h => h) (Or.inl ⟨by rfl, fun wx _ => by go_simp⟩) hg0 ?_
            simp only [Act.put, List.setIfInBounds_toArray, List.set_cons_zero, List.set_cons_succ]
            refine wpAnyH_take (i := 10) (oi := { dst := some 108, op := Op.indexAddr 23 (Operand.tmp 106) (Operand.tmp 107), type := 0, pos := "keep.go:579", after := #[{ on := 8, ground := Ground.data }, { on := 9, ground := Ground.data }], guard := none }) (v := .pointer (some ⟨g, i, none⟩)) rfl (by kernel_rfl) (by kernel_rfl) (by kernel_rfl) (fun _ _ _ h => h) (Or.inl ⟨by rfl, fun wx _ => by go_simp⟩) hg0 ?_
            simp only [Act.put, List.setIfInBounds_toArray, List.set_cons_zero, List.set_cons_succ]
            refine wpAnyH_two (i := 7) (j := 11) (oi := { dst := some 105, op := Op.load 3 (Operand.tmp 104), type := 3, pos := "keep.go:579", after := #[{ on := 6, ground := Ground.data }], guard := none }) (oj := { dst := some 109, op := Op.load 3 (Operand.tmp 108), type := 3, pos := "keep.go:579", after := #[{ on := 10, ground := Ground.data }], guard := none }) (vi := .int .i64 (y : Nat)) (vj := .int .i64 (x : Nat)) (by kernel_rfl) (by kernel_rfl) (by kernel_rfl) rfl rfl (by decide) (Or.inl ⟨by rfl, fun wx h => by subst h; go_simp⟩) (Or.inl ⟨by rfl, fun wx h => by subst h; go_simp⟩) (Or.inl ⟨by rfl, fun wx h => by subst h; go_simp⟩) (Or.inl ⟨by rfl, fun wx h => by subst h; go_simp⟩) rfl trivial ?_
            simp only [Act.put, List.setIfInBounds_toArray, List.set_cons_zero, List.set_cons_succ]
            refine wpAnyH_take (i := 12) (oi := { dst := some 110, op := Op.indexAddr 23 (Operand.tmp 98) (Operand.tmp 99), type := 0, pos := "keep.go:579", after := #[{ on := 0, ground := Ground.data }, { on := 1, ground := Ground.data }, { on := 0, ground := Ground.phase }, { on := 1, ground := Ground.phase }, { on := 2, ground := Ground.textOnly Departure.lateStores }, { on := 3, ground := Ground.textOnly Departure.lateStores }, { on := 4, ground := Ground.phase }, { on := 5, ground := Ground.phase }, { on := 6, ground := Ground.phase }, { on := 7, ground := Ground.phase }, { on := 8, ground := Ground.textOnly Departure.lateStores }, { on := 9, ground := Ground.textOnly Departure.lateStores }, { on := 10, ground := Ground.textOnly Departure.lateStoresUnsure }, { on := 11, ground := Ground.phase }], guard := none }) (v := .pointer (some ⟨g, i, none⟩)) rfl (by kernel_rfl) (by kernel_rfl) (by kernel_rfl) (fun _ _ _ h => h) (Or.inl ⟨by rfl, fun wx _ => by go_simp⟩) hg0 ?_
            simp only [Act.put, List.setIfInBounds_toArray, List.set_cons_zero, List.set_cons_succ]
            refine wpAnyH_ready (rs := [13]) (by kernel_rfl) (by decide) (AllReadyH.cons (o := { dst := none, op := Op.store 3 (Operand.tmp 110) (Operand.tmp 105), type := 0, pos := "keep.go:579", after := #[{ on := 12, ground := Ground.data }, { on := 7, ground := Ground.data }, { on := 0, ground := Ground.phase }, { on := 1, ground := Ground.phase }, { on := 2, ground := Ground.textOnly Departure.lateStores }, { on := 3, ground := Ground.textOnly Departure.lateStores }, { on := 4, ground := Ground.phase }, { on := 5, ground := Ground.phase }, { on := 6, ground := Ground.phase }, { on := 7, ground := Ground.phase }, { on := 8, ground := Ground.textOnly Departure.lateStores }, { on := 9, ground := Ground.textOnly Departure.lateStores }, { on := 10, ground := Ground.textOnly Departure.lateStoresUnsure }, { on := 11, ground := Ground.phase }], guard := none }) rfl (fun K hK => ?_) AllReadyH.nil)
            rw [if_pos (by rfl)]
            go_simp
            refine hK.out _ _ (trivial) (fun hg1 => ?_)
            clear hK K
            try simp only [Act.put, List.setIfInBounds_toArray, List.set_cons_zero, List.set_cons_succ]
            refine wpAnyH_take (i := 14) (oi := { dst := some 111, op := Op.indexAddr 23 (Operand.tmp 100) (Operand.tmp 101), type := 0, pos := "keep.go:579", after := #[{ on := 2, ground := Ground.data }, { on := 3, ground := Ground.data }, { on := 0, ground := Ground.phase }, { on := 1, ground := Ground.phase }, { on := 2, ground := Ground.phase }, { on := 3, ground := Ground.phase }, { on := 4, ground := Ground.phase }, { on := 5, ground := Ground.phase }, { on := 6, ground := Ground.phase }, { on := 7, ground := Ground.phase }, { on := 8, ground := Ground.phase }, { on := 9, ground := Ground.phase }, { on := 10, ground := Ground.phase }, { on := 11, ground := Ground.phase }, { on := 12, ground := Ground.phase }, { on := 13, ground := Ground.phase }], guard := none }) (v := .pointer (some ⟨g, k, none⟩)) rfl (by kernel_rfl) (by kernel_rfl) (by kernel_rfl) (fun _ _ _ h => h) (Or.inl ⟨by rfl, fun wx _ => by go_simp⟩) hg0 ?_
            simp only [Act.put, List.setIfInBounds_toArray, List.set_cons_zero, List.set_cons_succ]
            refine wpAnyH_ready (rs := [15]) (by kernel_rfl) (by decide) (AllReadyH.cons (o := { dst := none, op := Op.store 3 (Operand.tmp 111) (Operand.tmp 109), type := 0, pos := "keep.go:579", after := #[{ on := 14, ground := Ground.data }, { on := 11, ground := Ground.data }, { on := 13, ground := Ground.chain }, { on := 0, ground := Ground.phase }, { on := 1, ground := Ground.phase }, { on := 2, ground := Ground.phase }, { on := 3, ground := Ground.phase }, { on := 4, ground := Ground.phase }, { on := 5, ground := Ground.phase }, { on := 6, ground := Ground.phase }, { on := 7, ground := Ground.phase }, { on := 8, ground := Ground.phase }, { on := 9, ground := Ground.phase }, { on := 10, ground := Ground.phase }, { on := 11, ground := Ground.phase }, { on := 12, ground := Ground.phase }, { on := 13, ground := Ground.phase }], guard := none }) rfl (fun K hK => ?_) AllReadyH.nil)
            rw [if_pos (by rfl)]
            go_simp
            refine hK.out _ _ (trivial) (fun hg2 => ?_)
            clear hK K
            try simp only [Act.put, List.setIfInBounds_toArray, List.set_cons_zero, List.set_cons_succ]
            refine wpAnyH_done (by kernel_rfl) ?_ _
            have HRW1 : Hid (IRow w3.heap.size (.slice (some ⟨g, 0, none⟩) n0 c9) (swapL L i k x y) (((wr.setCell ⟨g, i, none⟩ (.int .i64 (y : Nat))).setCell ⟨g, k, none⟩ (.int .i64 (x : Nat))).drew)) := row_below (irow_set (irow_set HRW.out i y) k x) (Below.refl _ _).drew
            have hO1 : Only (fun b => w3.heap.size ≤ b) wr (((wr.setCell ⟨g, i, none⟩ (.int .i64 (y : Nat))).setCell ⟨g, k, none⟩ (.int .i64 (x : Nat))).drew) := (((Only.set g i _ _).trans (Only.set g k _ _) (fun _ e => .inl e)).mono (fun b e => by have e' : b = g := e; omega)).trans (below_only (Below.refl _ _).drew (fun _ => False)) (fun _ e => e.elim)
            have HS1 : Hid (Fg f1 f2 f3 f4 f5 g1 g2 g3 g4 g5 (800 * n0) (860 * n0) (2400 * i) (860 * i) ((List.range n0).map (ntT tx)) (((swapL L i k x y).take i).map (ntT tx)) w (((wr.setCell ⟨g, i, none⟩ (.int .i64 (y : Nat))).setCell ⟨g, k, none⟩ (.int .i64 (x : Nat))).drew)) := by
              show Fg _ _ _ _ _ _ _ _ _ _ _ _ _ _ _ _ _ _
              rw [swap_take hik]
              exact HS.out.above HBK.out hO1
            have HSZ1 : Hid (w3.heap.size ≤ (((wr.setCell ⟨g, i, none⟩ (.int .i64 (y : Nat))).setCell ⟨g, k, none⟩ (.int .i64 (x : Nat))).drew).heap.size) := Nat.le_trans HSZ.out hO1.size
            obtain ⟨wr1, hwr1⟩ : ∃ z, ((wr.setCell ⟨g, i, none⟩ (.int .i64 (y : Nat))).setCell ⟨g, k, none⟩ (.int .i64 (x : Nat))).drew = z := ⟨_, rfl⟩
            rw [hwr1] at HRW1 HS1 HSZ1 ⊢
            obtain ⟨L1, hL1⟩ : ∃ z, swapL L i k x y = z := ⟨_, rfl⟩
            rw [hL1] at HRW1 HS1 HPN
            clear hwr1 hL1 hO1 HRW HS HSZ HP hcg hck hfg hfk hv8 hix1 hix2 hil hkl hgB' hg0 hg1 hg2
            have hil : i < L1.length := by rw [perm_len HPN.out]; exact hlt
            obtain ⟨g5, cap5, hv5, hgB5, hcg, hfg⟩ := irow_at HRW1.out hil
            rw [perm_len HPN.out] at hv5
            cases hv5
            have hjn : L1[i] < n0 := perm_lt HPN.out _ (List.getElem_mem hil)
            have hnew := rs_new (tx := tx) HPN.out hil
            have hsn := take_snoc tx hil
            have hlt20 : (L1.take i).length ≤ 20 := by rw [List.length_take]; omega
            obtain ⟨j, hj⟩ : ∃ j, L1[i] = j := ⟨_, rfl⟩
            rw [hj] at hcg hjn hnew hsn
            obtain ⟨b, o, ha0, hbl, hcell⟩ := HX.out.below HS1.out.b j hjn
            cases ha0
            have hj1 : (j : Int) < (n0 : Int) := by omega
            have hix := fun wx => index_int g n0 c9 i hlt wx
            have hwj : IntKind.i64.wrap ((j : Int) + 1) = (j : Int) + 1 := wraps_i64 _ (by omega) (by omega)
            have HTL : Hid (∀ k ∈ L1.take i, k < n0) := fun k hk => perm_lt HPN.out k (List.mem_of_mem_take hk)
            have HTL2 : Hid (∀ k ∈ L1.take (i + 1), k < n0) := fun k hk => perm_lt HPN.out k (List.mem_of_mem_take hk)
            have HAD : Hid (∀ wx, Fg f1 f2 f3 f4 f5 g1 g2 g3 g4 g5 (800 * n0) (860 * n0) (2400 * i) (860 * i) ((List.range n0).map (ntT tx)) ((L1.take i).map (ntT tx)) w wx → Calls Tryz.prog 6 #[.pointer (some ⟨g1, 0, none⟩), .string ⟨#[110]⟩, .int .i64 ((j : Int) + 1), .string (tx j)] wx fun e w' => e = .returned .nilIface ∧ Fg f1 f2 f3 f4 f5 g1 g2 g3 g4 g5 (800 * n0) (860 * n0) (2400 * i + 800) (860 * i + 860) ((List.range n0).map (ntT tx)) ((L1.take (i + 1)).map (ntT tx)) w w' ∧ Only (fun b => b < w3.heap.size) wx w') := fun wx hS => by
              rw [hsn]
              exact addG (tx := tx) hS HBK.out HG0.out j (by omega) (HTX.out j hjn) (rs_ok (n := n0) HTX.out hn0 HTL.out) hnew (by rw [List.length_map]; omega) (by omega) (by omega)
            have HAM : Hid (∀ wx, Fg f1 f2 f3 f4 f5 g1 g2 g3 g4 g5 (800 * n0) (860 * n0) (2400 * i + 800) (860 * i + 860) ((List.range n0).map (ntT tx)) ((L1.take (i + 1)).map (ntT tx)) w wx → Calls Tryz.prog 6 #[.pointer (some ⟨g1, 0, none⟩), .string ⟨#[110]⟩, .int .i64 (1000 + (i : Int)), .string more] wx fun e w' => e = .returned .nilIface ∧ Fg f1 f2 f3 f4 f5 g1 g2 g3 g4 g5 (800 * n0) (860 * n0) (2400 * i + 800 + 800) (860 * i + 860 + 860) ((List.range n0).map (ntT tx)) ((L1.take (i + 1)).map (ntT tx) ++ [mtT more i]) w w' ∧ Only (fun b => b < w3.heap.size) wx w') := fun wx hS => addM hS HBK.out HG0.out more i (by omega) HMO.out (rs_ok (n := n0) HTX.out hn0 HTL2.out) (rs_far HTL2.out hn0 more i) (by rw [List.length_map, List.length_take]; omega) (by omega) (by omega)
            have HDM : Hid (∀ wx, Fg f1 f2 f3 f4 f5 g1 g2 g3 g4 g5 (800 * n0) (860 * n0) (2400 * i + 800 + 800) (860 * i + 860 + 860) ((List.range n0).map (ntT tx)) ((L1.take (i + 1)).map (ntT tx) ++ [mtT more i]) w wx → Calls Tryz.prog 8 #[.pointer (some ⟨g1, 0, none⟩), .string ⟨#[110]⟩, .int .i64 (1000 + (i : Int)), .string more] wx fun e w' => e = .returned .nilIface ∧ Fg f1 f2 f3 f4 f5 g1 g2 g3 g4 g5 (800 * n0) (860 * n0) (2400 * i + 800 + 800 + 800) (860 * i + 860 + 860) ((List.range n0).map (ntT tx)) ((L1.take (i + 1)).map (ntT tx)) w w' ∧ Only (fun b => b < w3.heap.size) wx w') := fun wx hS => dropM hS HBK.out HG0.out (by omega) HMO.out (rs_ok (n := n0) HTX.out hn0 HTL2.out) (rs_far HTL2.out hn0 more i) (by omega)
            obtain ⟨tt, htt⟩ : ∃ tt, tx j = tt := ⟨_, rfl⟩
            rw [htt] at hcell HAD
            have D0 : Hid (wr1.cell? ⟨g, i, none⟩ = some (.int .i64 (j : Nat)) ∧ wr1.cell? ⟨b, o + j, none⟩ = some (.string tt)) := ⟨hcg, hcell⟩
            have HKP : Hid (∀ wa wb, (wa.cell? ⟨g, i, none⟩ = some (.int .i64 (j : Nat)) ∧ wa.cell? ⟨b, o + j, none⟩ = some (.string tt)) → Fg f1 f2 f3 f4 f5 g1 g2 g3 g4 g5 (800 * n0) (860 * n0) (2400 * i) (860 * i) ((List.range n0).map (ntT tx)) ((L1.take i).map (ntT tx)) w wa → Below w.heap.size w wb → Only (fun b => b < w3.heap.size) wa wb → (wb.cell? ⟨g, i, none⟩ = some (.int .i64 (j : Nat)) ∧ wb.cell? ⟨b, o + j, none⟩ = some (.string tt))) := by
              obtain ⟨b', o', hb', hbl', hcell'⟩ := HX.out j hjn
              cases hb'
              rw [htt] at hcell'
              intro wa wb h1 h2 h3 h4
              exact ⟨(h4.cell (World.block_lt_of_cell? _ _ h1.1) (fun e => by have e' : g < w3.heap.size := e; omega) i).trans h1.1, keepc h3 hcell'⟩
            clear hcg hfg hcell hbl hnew hsn hj htt
            go_wp2_with fail
            refine wp_region_held_drew (S := fun wx => wx.cell? ⟨g, i, none⟩ = some (.int .i64 (j : Nat)) ∧ wx.cell? ⟨b, o + j, none⟩ = some (.string tt)) (by kernel_rfl) (D0.out) ?_
            intro hg0
            refine wpAnyH_take (i := 0) (oi := { dst := some 112, op := Op.move (Operand.tmp 8), type := 25, pos := "keep.go:581", after := #[], guard := none }) (v := .pointer (some ⟨g1, 0, none⟩)) rfl (by kernel_rfl) (by kernel_rfl) (by kernel_rfl) (fun _ _ _ h => h) (Or.inl ⟨by rfl, fun wx _ => by go_simp⟩) hg0 ?_
            simp only [Act.put, List.setIfInBounds_toArray, List.set_cons_zero, List.set_cons_succ]
            refine wpAnyH_take (i := 1) (oi := { dst := some 113, op := Op.move (Operand.tmp 9), type := 23, pos := "keep.go:581", after := #[], guard := none }) (v := .slice (some ⟨g, 0, none⟩) n0 c9) rfl (by kernel_rfl) (by kernel_rfl) (by kernel_rfl) (fun _ _ _ h => h) (Or.inl ⟨by rfl, fun wx _ => by go_simp⟩) hg0 ?_
            simp only [Act.put, List.setIfInBounds_toArray, List.set_cons_zero, List.set_cons_succ]
            refine wpAnyH_take (i := 2) (oi := { dst := some 114, op := Op.move (Operand.tmp 11), type := 3, pos := "keep.go:581", after := #[], guard := none }) (v := .int .i64 (i : Nat)) rfl (by kernel_rfl) (by kernel_rfl) (by kernel_rfl) (fun _ _ _ h => h) (Or.inl ⟨by rfl, fun wx _ => by go_simp⟩) hg0 ?_
            simp only [Act.put, List.setIfInBounds_toArray, List.set_cons_zero, List.set_cons_succ]
            refine wpAnyH_take (i := 3) (oi := { dst := some 115, op := Op.indexAddr 23 (Operand.tmp 113) (Operand.tmp 114), type := 0, pos := "keep.go:581", after := #[{ on := 1, ground := Ground.data }, { on := 2, ground := Ground.data }], guard := none }) (v := .pointer (some ⟨g, i, none⟩)) rfl (by kernel_rfl) (by kernel_rfl) (by kernel_rfl) (fun _ _ _ h => h) (Or.inl ⟨by rfl, fun wx _ => by go_simp⟩) hg0 ?_
            simp only [Act.put, List.setIfInBounds_toArray, List.set_cons_zero, List.set_cons_succ]
            refine wpAnyH_take (i := 4) (oi := { dst := some 116, op := Op.load 3 (Operand.tmp 115), type := 3, pos := "keep.go:581", after := #[{ on := 3, ground := Ground.data }], guard := none }) (v := .int .i64 (j : Nat)) rfl (by kernel_rfl) (by kernel_rfl) (by kernel_rfl) (fun _ _ _ h => h) (Or.inl ⟨by rfl, fun wx h => by have h8 := h.1; go_simp⟩) hg0 ?_
            simp only [Act.put, List.setIfInBounds_toArray, List.set_cons_zero, List.set_cons_succ]
            refine wpAnyH_take (i := 5) (oi := { dst := some 117, op := Op.binOp BinOp.add 3 (Operand.tmp 116) (Operand.const (Value.int IntKind.i64 1)) 3, type := 3, pos := "keep.go:581", after := #[{ on := 4, ground := Ground.data }], guard := none }) (v := .int .i64 ((j : Int) + 1)) rfl (by kernel_rfl) (by kernel_rfl) (by kernel_rfl) (fun _ _ _ h => h) (Or.inl ⟨by rfl, fun wx _ => by go_simp⟩) hg0 ?_
            simp only [Act.put, List.setIfInBounds_toArray, List.set_cons_zero, List.set_cons_succ]
            refine wpAnyH_take (i := 6) (oi := { dst := some 118, op := Op.move (Operand.tmp 0), type := 22, pos := "keep.go:581", after := #[], guard := none }) (v := .slice (some ⟨b, o, none⟩) n0 c0) rfl (by kernel_rfl) (by kernel_rfl) (by kernel_rfl) (fun _ _ _ h => h) (Or.inl ⟨by rfl, fun wx _ => by go_simp⟩) hg0 ?_
            simp only [Act.put, List.setIfInBounds_toArray, List.set_cons_zero, List.set_cons_succ]
            refine wpAnyH_take (i := 7) (oi := { dst := some 119, op := Op.move (Operand.tmp 9), type := 23, pos := "keep.go:581", after := #[], guard := none }) (v := .slice (some ⟨g, 0, none⟩) n0 c9) rfl (by kernel_rfl) (by kernel_rfl) (by kernel_rfl) (fun _ _ _ h => h) (Or.inl ⟨by rfl, fun wx _ => by go_simp⟩) hg0 ?_
            simp only [Act.put, List.setIfInBounds_toArray, List.set_cons_zero, List.set_cons_succ]
            refine wpAnyH_take (i := 8) (oi := { dst := some 120, op := Op.move (Operand.tmp 11), type := 3, pos := "keep.go:581", after := #[], guard := none }) (v := .int .i64 (i : Nat)) rfl (by kernel_rfl) (by kernel_rfl) (by kernel_rfl) (fun _ _ _ h => h) (Or.inl ⟨by rfl, fun wx _ => by go_simp⟩) hg0 ?_
            simp only [Act.put, List.setIfInBounds_toArray, List.set_cons_zero, List.set_cons_succ]
            refine wpAnyH_take (i := 9) (oi := { dst := some 121, op := Op.indexAddr 23 (Operand.tmp 119) (Operand.tmp 120), type := 0, pos := "keep.go:581", after := #[{ on := 7, ground := Ground.data }, { on := 8, ground := Ground.data }], guard := none }) (v := .pointer (some ⟨g, i, none⟩)) rfl (by kernel_rfl) (by kernel_rfl) (by kernel_rfl) (fun _ _ _ h => h) (Or.inl ⟨by rfl, fun wx _ => by go_simp⟩) hg0 ?_
            simp only [Act.put, List.setIfInBounds_toArray, List.set_cons_zero, List.set_cons_succ]
            refine wpAnyH_take (i := 10) (oi := { dst := some 122, op := Op.load 3 (Operand.tmp 121), type := 3, pos := "keep.go:581", after := #[{ on := 9, ground := Ground.data }], guard := none }) (v := .int .i64 (j : Nat)) rfl (by kernel_rfl) (by kernel_rfl) (by kernel_rfl) (fun _ _ _ h => h) (Or.inl ⟨by rfl, fun wx h => by have h8 := h.1; go_simp⟩) hg0 ?_
            simp only [Act.put, List.setIfInBounds_toArray, List.set_cons_zero, List.set_cons_succ]
            refine wpAnyH_take (i := 11) (oi := { dst := some 123, op := Op.indexAddr 22 (Operand.tmp 118) (Operand.tmp 122), type := 0, pos := "keep.go:581", after := #[{ on := 6, ground := Ground.data }, { on := 10, ground := Ground.data }], guard := none }) (v := .pointer (some ⟨b, o + j, none⟩)) rfl (by kernel_rfl) (by kernel_rfl) (by kernel_rfl) (fun _ _ _ h => h) (Or.inl ⟨by rfl, fun wx _ => by go_simp⟩) hg0 ?_
            simp only [Act.put, List.setIfInBounds_toArray, List.set_cons_zero, List.set_cons_succ]
            refine wpAnyH_take (i := 12) (oi := { dst := some 124, op := Op.load 9 (Operand.tmp 123), type := 9, pos := "keep.go:581", after := #[{ on := 11, ground := Ground.data }], guard := none }) (v := .string tt) rfl (by kernel_rfl) (by kernel_rfl) (by kernel_rfl) (fun _ _ _ h => h) (Or.inl ⟨by rfl, fun wx h => by have h8 := h.2; go_simp⟩) hg0 ?_
            simp only [Act.put, List.setIfInBounds_toArray, List.set_cons_zero, List.set_cons_succ]
            refine wpAnyH_ready (rs := [13]) (by kernel_rfl) (by decide) (AllReadyH.cons (o := { dst := some 125, op := Op.call { callee := Callee.value (Operand.func 6), args := #[Operand.tmp 112, Operand.const (Value.string { data := #[110] }), Operand.tmp 117, Operand.tmp 124], argTypes := #[25, 9, 3, 9] }, type := 28, pos := "keep.go:581", after := #[{ on := 0, ground := Ground.data }, { on := 5, ground := Ground.data }, { on := 12, ground := Ground.data }], guard := none }) rfl (fun K hK => ?_) AllReadyH.nil)
            rw [if_pos (by rfl)]
            go_simp
            refine (show Calls _ _ _ _ _ from HAD.out _ (HS1.out.below (Below.refl _ _).drew)).mono ?_
            rintro _ w5 ⟨rfl, hs5, ho5⟩
            have HS5 : Hid (Fg f1 f2 f3 f4 f5 g1 g2 g3 g4 g5 (800 * n0) (860 * n0) (2400 * i + 800) (860 * i + 860) ((List.range n0).map (ntT tx)) ((L1.take (i + 1)).map (ntT tx)) w w5) := hs5
            have HO5 : Hid (Only (fun b => b < w3.heap.size) wr1 w5) := (below_only (Below.refl _ _).drew _).trans ho5 (fun _ e => .inl e)
            have D1 : Hid (w5.cell? ⟨g, i, none⟩ = some (.int .i64 (j : Nat)) ∧ w5.cell? ⟨b, o + j, none⟩ = some (.string tt)) := HKP.out _ _ D0.out HS1.out hs5.b HO5.out
            clear hs5 ho5
            refine hK.out _ _ (D1.out) (fun hg1 => ?_)
            clear hK K
            try simp only [Act.put, List.setIfInBounds_toArray, List.set_cons_zero, List.set_cons_succ]
            refine wpAnyH_take (i := 14) (oi := { dst := some 126, op := Op.binOp BinOp.neq 28 (Operand.tmp 125) (Operand.const Value.nilIface) 28, type := 4, pos := "keep.go:581", after := #[{ on := 13, ground := Ground.data }], guard := none }) (v := .bool false) rfl (by kernel_rfl) (by kernel_rfl) (by kernel_rfl) (fun _ _ _ h => h) (Or.inl ⟨by rfl, fun wx _ => by go_simp⟩) hg1 ?_
            simp only [Act.put, List.setIfInBounds_toArray, List.set_cons_zero, List.set_cons_succ]
            refine wpAnyH_done (by kernel_rfl) ?_ _
            go_wp2_with fail
            refine (show Calls _ _ _ _ _ from HAM.out w5 HS5.out).mono ?_
            rintro _ w6 ⟨rfl, hs6, ho6⟩
            have HS6 : Hid (Fg f1 f2 f3 f4 f5 g1 g2 g3 g4 g5 (800 * n0) (860 * n0) (2400 * i + 800 + 800) (860 * i + 860 + 860) ((List.range n0).map (ntT tx)) ((L1.take (i + 1)).map (ntT tx) ++ [mtT more i]) w w6) := hs6
            have HO6 : Hid (Only (fun b => b < w3.heap.size) wr1 w6) := HO5.out.trans ho6 (fun _ e => .inl e)
            clear hs6 ho6
            go_wp2_with fail
            refine (show Calls _ _ _ _ _ from HDM.out w6 HS6.out).mono ?_
            rintro _ w7 ⟨rfl, hs7, ho7⟩
            have HS7 : Hid (Fg f1 f2 f3 f4 f5 g1 g2 g3 g4 g5 (800 * n0) (860 * n0) (2400 * (i + 1)) (860 * (i + 1)) ((List.range n0).map (ntT tx)) ((L1.take (i + 1)).map (ntT tx)) w w7) := (hs7.back HS5.out).mono (Nat.le_refl _) (Nat.le_refl _) (by omega) (by omega)
            have HO7 : Hid (Only (fun b => b < w3.heap.size) wr1 w7) := HO6.out.trans ho7 (fun _ e => .inl e)
            clear hs7 ho7
            go_wp2_with fail
            go_roundw
            case rel => exact ⟨i + 1, L1, by omega, by go_num, row_only HRW1.out HO7.out (fun b e => e), HPN, HS7, Nat.le_trans HSZ1.out HO7.out.size⟩
            case measure => simp [intOf]; omega
        · have h1 : ¬ (i : Int) < (n0 : Int) := by omega
          obtain rfl : n0 = i := by omega
          have hR : RsOk ((List.range n0).map (ntT tx)) := rs_ok (n := n0) HTX.out hn0 (fun j hj => List.mem_range.1 hj)
          obtain ⟨PL, hLs, hF, hG⟩ := PrS.two HS.out.f (HS.out.g.iff (M' := InF ((List.range n0).map (ntT tx))) (fun y => by rw [List.take_of_length_le (Nat.le_of_eq (perm_len HP.out))]; exact inF_perm HP.out y))
          have HPC : Hid (Pcs PL) := Pcs.of hLs hR (by rw [List.length_map, List.length_range]; exact hn0)
          have HF : Hid (FsL f1 f2 f3 f4 f5 PL wr) := hF
          have HG : Hid (FsL g1 g2 g3 g4 g5 PL wr) := hG
          have HB : Hid (Below w.heap.size w wr) := HS.out.b
          clear hR hLs hF hG HS HP HRW HSZ HTX
          go_wp2_with fail
          refine (show Calls _ _ _ _ _ from beginL HPC.out HF.out (HG0.out.below HB.out)).mono ?_
          rintro _ wa ⟨aa, ca, rfl, hra, hba⟩
          have HRA : Hid (RowS wa aa (begL PL).length (begL PL)) := hra
          have HFa : Hid (FsL f1 f2 f3 f4 f5 PL wa) := HF.out.below hba
          have HGa : Hid (FsL g1 g2 g3 g4 g5 PL wa) := HG.out.below hba
          have HBa : Hid (Below w.heap.size w wa) := HB.out.trans (hba.mono HB.out.size)
          clear hra hba HF HG HB
          go_wp2_with fail
          refine (show Calls _ _ _ _ _ from beginL HPC.out HGa.out (HG0.out.below HBa.out)).mono ?_
          rintro _ wb ⟨ab, cb, rfl, hrb, hbb⟩
          have HRB : Hid (RowS wb ab (begL PL).length (begL PL)) := hrb
          have HRAb : Hid (RowS wb aa (begL PL).length (begL PL)) := HRA.out.below hbb
          have HFb : Hid (FsL f1 f2 f3 f4 f5 PL wb) := HFa.out.below hbb
          have HGb : Hid (FsL g1 g2 g3 g4 g5 PL wb) := HGa.out.below hbb
          have HBb : Hid (Below w.heap.size w wb) := HBa.out.trans (hbb.mono HBa.out.size)
          clear hrb hbb HRA HFa HGa HBa
          go_wp2_with fail
          refine (show Calls _ _ _ _ _ from manyL HPC.out HFb.out (HG0.out.below HBb.out)).mono ?_
          rintro _ wc ⟨rfl, hbc⟩
          have HRBc : Hid (RowS wc ab (begL PL).length (begL PL)) := HRB.out.below hbc
          have HRAc : Hid (RowS wc aa (begL PL).length (begL PL)) := HRAb.out.below hbc
          have HFc : Hid (FsL f1 f2 f3 f4 f5 PL wc) := HFb.out.below hbc
          have HGc : Hid (FsL g1 g2 g3 g4 g5 PL wc) := HGb.out.below hbc
          have HBc : Hid (Below w.heap.size w wc) := HBb.out.trans (hbc.mono HBb.out.size)
          clear hbc HRB HRAb HFb HGb HBb
          go_wp2_with fail
          refine (show Calls _ _ _ _ _ from manyL HPC.out HGc.out (HG0.out.below HBc.out)).mono ?_
          rintro _ wd ⟨rfl, hbd⟩
          have HRBd : Hid (RowS wd ab (begL PL).length (begL PL)) := HRBc.out.below hbd
          have HRAd : Hid (RowS wd aa (begL PL).length (begL PL)) := HRAc.out.below hbd
          have HFd : Hid (FsL f1 f2 f3 f4 f5 PL wd) := HFc.out.below hbd
          have HGd : Hid (FsL g1 g2 g3 g4 g5 PL wd) := HGc.out.below hbd
          have HBd : Hid (Below w.heap.size w wd) := HBc.out.trans (hbd.mono HBc.out.size)
          clear hbd HRBc HRAc HFc HGc HBc
          go_wp2_with fail
          refine (show Calls _ _ _ _ _ from sameTexts_any aa ab _ _ ca cb (begL PL) wd HRAd.out HRBd.out).mono ?_
          rintro _ we ⟨rfl, me, hwe⟩
          have hbe : Below wd.heap.size wd we := by rw [hwe]; exact below_drewN' (Below.refl _ _) _
          have HRAe : Hid (RowS we aa (begL PL).length (begL PL)) := HRAd.out.below hbe
          have HFe : Hid (FsL f1 f2 f3 f4 f5 PL we) := HFd.out.below hbe
          have HGe : Hid (FsL g1 g2 g3 g4 g5 PL we) := HGd.out.below hbe
          have HBe : Hid (Below w.heap.size w we) := HBd.out.trans (hbe.mono HBd.out.size)
          clear hbe hwe HRBd HRAd HFd HGd HBd
          go_wp2_with fail
          go_loopw [21, 22] (fun sv iv wr => ∃ (k : Nat), k ≤ (begL PL).length ∧ sv = .int .i64 (sumW ((begL PL).take k) PL : Nat) ∧ iv = .int .i64 (k : Nat) ∧ Hid (RowS wr aa (begL PL).length (begL PL)) ∧ Hid (FsL f1 f2 f3 f4 f5 PL wr) ∧ Hid (FsL g1 g2 g3 g4 g5 PL wr) ∧ Hid (Below w.heap.size w wr)) (fun _ iv _ => (begL PL).length + 1 - (intOf iv).toNat)
          case atStart => exact ⟨0, Nat.zero_le _, by rw [List.take_zero]; rfl, rfl, HRAe, HFe, HGe, HBe⟩
          case round =>
            clear HRAe HFe HGe HBe
            obtain ⟨k, hk, rfl, rfl, HRA, HF, HG, HB⟩ := hrel
            by_cases hlt2 : k < (begL PL).length
            · have h2 : (k : Int) < ((begL PL).length : Int) := by omega
              have hmem := List.getElem_mem hlt2
              have hsn := sumW_take (L := PL) hlt2
              have hle := sumW_take_le (A := begL PL) (L := PL) (k + 1)
              have hsum := HPC.out.sum
              have hbn := HPC.out.bl
              have hcn := HPC.out.cnt
              obtain ⟨b, off, haa, hbl, hcell⟩ := rowS_at HRA.out hlt2
              subst haa
              have hps := HPC.out.pos _ hmem
              have HRI : Hid (∀ x, rightL (plsW x PL) = true) := HPC.out.right
              obtain ⟨x, hx⟩ : ∃ x, (begL PL)[k] = x := ⟨_, rfl⟩
              rw [hx] at hmem hsn hcell hps
              have HMX : Hid (x ∈ begL PL) := hmem
              obtain ⟨s0, hs0⟩ : ∃ s0, sumW ((begL PL).take k) PL = s0 := ⟨_, rfl⟩
              obtain ⟨m0, hm0⟩ : ∃ m0, (plsW x PL).length = m0 := ⟨_, rfl⟩
              have hpz : ¬ (m0 : Int) = 0 := by omega
              have hwp : IntKind.i64.wrap ((s0 : Int) + (m0 : Int)) = ((s0 + m0 : Nat) : Int) := by rw [wraps_i64 _ (by omega) (by omega)]; omega
              have HSN : Hid (sumW ((begL PL).take (k + 1)) PL = s0 + m0) := by show _ = _; rw [hsn, hs0, hm0]
              have HPA : Hid (∀ wx, FsL f1 f2 f3 f4 f5 PL wx → Gl wx → Calls Tryz.prog 12 #[.pointer (some ⟨f1, 0, none⟩), .string ⟨#[110]⟩, .string x] wx fun e w' => ∃ a c, e = .returned (.tuple #[.slice a m0 c, .nilIface]) ∧ RowP w' a m0 (plsW x PL) ∧ Below wx.heap.size wx w') := fun wx h1 h2 => by
                rw [← hm0]; exact placesL HPC.out h1 h2 HMX.out
              have HPB : Hid (∀ wx, FsL g1 g2 g3 g4 g5 PL wx → Gl wx → Calls Tryz.prog 12 #[.pointer (some ⟨g1, 0, none⟩), .string ⟨#[110]⟩, .string x] wx fun e w' => ∃ a c, e = .returned (.tuple #[.slice a m0 c, .nilIface]) ∧ RowP w' a m0 (plsW x PL) ∧ Below wx.heap.size wx w') := fun wx h1 h2 => by
                rw [← hm0]; exact placesL HPC.out h1 h2 HMX.out
              have HCE : Hid (wr.cell? ⟨b, off + k, none⟩ = some (.string x)) := hcell
              rw [hs0]
              clear hmem hsn hle hsum hcn hps hx hs0 hm0 hbl
              go_wp2_with fail
              refine (show Calls _ _ _ _ _ from HPA.out wr HF.out (HG0.out.below HB.out)).mono ?_
              rintro _ wa ⟨a1, c1, rfl, hr1, hb1⟩
              have HR1 : Hid (RowP wa a1 m0 (plsW x PL)) := hr1
              have HRAa : Hid (RowS wa (some ⟨b, off, none⟩) (begL PL).length (begL PL)) := HRA.out.below hb1
              have HFa : Hid (FsL f1 f2 f3 f4 f5 PL wa) := HF.out.below hb1
              have HGa : Hid (FsL g1 g2 g3 g4 g5 PL wa) := HG.out.below hb1
              have HBa : Hid (Below w.heap.size w wa) := HB.out.trans (hb1.mono HB.out.size)
              have hcell1 := keepc hb1 HCE.out
              clear hr1 hb1 hcell HCE HRA HF HG HB
              go_wp2_with fail
              refine (show Calls _ _ _ _ _ from HPB.out wa HGa.out (HG0.out.below HBa.out)).mono ?_
              rintro _ wb ⟨a2, c2, rfl, hr2, hb2⟩
              have HR2 : Hid (RowP wb a2 m0 (plsW x PL)) := hr2
              have HR1b : Hid (RowP wb a1 m0 (plsW x PL)) := HR1.out.below hb2
              have HRAb : Hid (RowS wb (some ⟨b, off, none⟩) (begL PL).length (begL PL)) := HRAa.out.below hb2
              have HFb : Hid (FsL f1 f2 f3 f4 f5 PL wb) := HFa.out.below hb2
              have HGb : Hid (FsL g1 g2 g3 g4 g5 PL wb) := HGa.out.below hb2
              have HBb : Hid (Below w.heap.size w wb) := HBa.out.trans (hb2.mono HBa.out.size)
              clear hr2 hb2 hcell1 HR1 HRAa HFa HGa HBa
              go_wp2_with fail
              refine (show Calls _ _ _ _ _ from same_keep a1 a2 _ _ c1 c2 (plsW x PL) wb HR1b.out HR2.out).mono ?_
              rintro _ wc ⟨rfl, hb3⟩
              have HR1c : Hid (RowP wc a1 m0 (plsW x PL)) := HR1b.out.below hb3
              have HRAc : Hid (RowS wc (some ⟨b, off, none⟩) (begL PL).length (begL PL)) := HRAb.out.below hb3
              have HFc : Hid (FsL f1 f2 f3 f4 f5 PL wc) := HFb.out.below hb3
              have HGc : Hid (FsL g1 g2 g3 g4 g5 PL wc) := HGb.out.below hb3
              have HBc : Hid (Below w.heap.size w wc) := HBb.out.trans (hb3.mono HBb.out.size)
              clear hb3 HR2 HR1b HRAb HFb HGb HBb
              go_wp2_with fail
              refine (show Calls _ _ _ _ _ from right_as true a1 m0 c1 (plsW x PL) (HRI.out x) wc HR1c.out).mono ?_
              rintro _ wd ⟨rfl, hb4⟩
              have HRAd : Hid (RowS wd (some ⟨b, off, none⟩) (begL PL).length (begL PL)) := HRAc.out.below hb4
              have HFd : Hid (FsL f1 f2 f3 f4 f5 PL wd) := HFc.out.below hb4
              have HGd : Hid (FsL g1 g2 g3 g4 g5 PL wd) := HGc.out.below hb4
              have HBd : Hid (Below w.heap.size w wd) := HBc.out.trans (hb4.mono HBc.out.size)
              clear hb4 HR1c HRAc HFc HGc HBc
              go_wp2_with fail
              go_roundw
              case rel => exact ⟨k + 1, by omega, by rw [HSN.out]; go_num, by go_num, HRAd, HFd, HGd, HBd⟩
              case measure => simp [intOf]; omega
            · have h2 : ¬ (k : Int) < ((begL PL).length : Int) := by omega
              have hfin : sumW ((begL PL).take k) PL = cntL PL := by rw [List.take_of_length_le (by omega)]; exact HPC.out.sum
              rw [hfin]
              clear hfin
              go_wp2
              go_ret
              exact ⟨rfl, HB.out⟩
end Go.Proofs.YtdphlkljenbkcaaGreatDoor
