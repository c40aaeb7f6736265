/- Texts of the proof of FinderEven: Ttp, Trw, Tbd, Tor, Tsr. -/
import Derived.Test.YtdphlkljenbkcaaGreatDoorF03
import Derived.Sort.Walk0
namespace Go.Proofs.YtdphlkljenbkcaaGreatDoor
open Go.RowKit

/-- a row of numbers that a call has made -/
def IRow (B : Nat) (v : Value) (ks : List Nat) (w : World) : Prop := w.ownsRow B 3 1 v ks.length (ks.map fun k => Value.int .i64 (k : Nat))
def ints (ks : List Nat) : List Value := ks.map fun k => Value.int .i64 (k : Nat)
theorem IRow.view {B : Nat} {v : Value} {ks : List Nat} {w : World} (h : IRow B v ks w) : View B v (ints ks) w :=
  View.of_own (e := 3) (by unfold ints; rw [List.length_map]; exact h)
theorem ints_len (ks : List Nat) : (ints ks).length = ks.length := List.length_map _
theorem ints_get {ks : List Nat} {k : Nat} (hk : k < ks.length) : (ints ks)[k]'(by rw [ints_len]; exact hk) = Value.int .i64 (ks[k] : Nat) := List.getElem_map _

/-- a top's bytes -/
def topL : List Nat → List UInt8
  | [] => []
  | k :: r => UInt8.ofNat (k / 256) :: UInt8.ofNat (k % 256) :: topL r
theorem topL_len : ∀ ks, (topL ks).length = 2 * ks.length
  | [] => rfl
  | k :: r => by rw [topL, List.length_cons, List.length_cons, topL_len r, List.length_cons]; omega
theorem topL_append : ∀ a b, topL (a ++ b) = topL a ++ topL b
  | [], _ => rfl
  | k :: r, b => by rw [List.cons_append, topL, topL, topL_append r b]; rfl
def topB (ks : List Nat) : ByteArray := ⟨(topL ks).toArray⟩
def u8s (l : List UInt8) : List Value := l.map fun b => Value.int .u8 (b.toNat : Nat)
def URow (B : Nat) (v : Value) (l : List UInt8) (w : World) : Prop := w.ownsRow B 5 1 v l.length (u8s l)
theorem info5' : ∃ i0 : TypeInfo, Tryz.prog.info? 5 = some i0 ∧ i0.zero = some (.int .u8 0) ∧ i0.size = 1 ∧ i0.bytes = 1 := by
  have h := info5
  cases hq : Tryz.prog.info? 5 with
  | none => rw [hq] at h; cases h
  | some i =>
    rw [hq] at h
    simp at h
    exact ⟨i, rfl, h.1, h.2.1, h.2.2⟩
theorem news_two (w : World) (x y : Value) (t : TypeId) : ∀ j u, ([x, y] : List Value)[j]? = some u → (w.alloc (.cells #[x, y] t)).cell? ((⟨w.heap.size, 0, none⟩ : Addr).add j) = some u := by
  intro j u hu
  have hn : (w.alloc (.cells #[x, y] t)).heap[w.heap.size]? = some (.cells #[x, y] t) := heap_alloc_new w _
  match j with
  | 0 => simp at hu; subst hu; rw [add_pl]; simp only [World.cell?, hn]; rfl
  | 1 => simp at hu; subst hu; rw [add_pl]; simp only [World.cell?, hn]; rfl
  | j + 2 => simp at hu
theorem news_oneV (w : World) (x : Value) (t : TypeId) : ∀ j u, ([x] : List Value)[j]? = some u → (w.alloc (.cells #[x] t)).cell? ((⟨w.heap.size, 0, none⟩ : Addr).add j) = some u := by
  intro j u hu
  have hn : (w.alloc (.cells #[x] t)).heap[w.heap.size]? = some (.cells #[x] t) := heap_alloc_new w _
  cases j with
  | zero => simp at hu; subst hu; rw [add_pl]; simp only [World.cell?, hn]; rfl
  | succ j => simp at hu
/-- a row of bytes, as a text -/
theorem text_of {B : Nat} {v : Value} {l : List UInt8} {w : World} (h : URow B v l w) (hl : l ≠ []) : (convert 119 9 v).run Tryz.prog w = .ok (.string ⟨l.toArray⟩) w := by
  have hp : 0 < l.length := List.length_pos_iff.2 hl
  obtain ⟨g, cap, rfl, h1, h2⟩ := World.ownsRow.form h hp
  have := run_convert_bytes_back (P := Tryz.prog) w 119 9 5 ⟨g, 0, none⟩ cap l Tryz.underlying119 Tryz.underlying5 Tryz.underlying9 (fun j hj => by
    rw [add_pl, Nat.zero_add]
    have := World.ownsRow.cellAt h j (by omega)
    rw [this]
    unfold u8s
    rw [List.getElem?_map, List.getElem?_eq_getElem hj]
    rfl)
  exact this

set_option maxRecDepth 100000 in
set_option maxHeartbeats 4000000 in
theorem writeTop_any {B : Nat} {v : Value} {ks : List Nat} (w : World) (hV : View B v (ints ks) w) (hk : ∀ k ∈ ks, k < 2000) (hn : ks.length ≤ 1000) (h0 : ks ≠ []) :
    Calls Tryz.prog 123 #[v] w fun e w' => e = .returned (.string (topB ks)) ∧ Below w.heap.size w w' := by
  have hlen := hV.len Tryz.underlying23
  rw [ints_len] at hlen
  have HV : Hid _ := hV
  have HK : Hid _ := hk
  have H0 : Hid _ := h0
  clear hV hk h0
  go_enter Tryz.func123, Tryz.ntmps123
  go_wp2_with fail
  go_loopw [3, 8] (fun l i wr => ∃ k : Nat, k ≤ ks.length ∧ i = .int .i64 k ∧ Hid (URow w.heap.size l (topL (ks.take k)) wr) ∧ Hid (Below w.heap.size w wr)) (fun _ i _ => ks.length - (intOf i).toNat)
  case atStart => exact ⟨0, Nat.zero_le _, rfl, World.ownsRow_nil _ _ _ _, Below.refl _ _⟩
  case round =>
    obtain ⟨k, hk, rfl, HR, HB⟩ := hrel
    by_cases hlt : k < ks.length
    · have h1 : (k : Int) < (ks.length : Int) := by omega
      obtain ⟨b0, o0, k1, k2, k3, k4⟩ := (HV.out.below HB.out).at (i := k) (by rw [ints_len]; exact hlt)
      have hix := k4 Tryz.underlying23 elem93 size3 (k : Int) rfl
      rw [ints_get hlt] at k3
      have hsk := HK.out _ (List.getElem_mem hlt)
      have HJ : Hid (topL (ks.take (k + 1)) = topL (ks.take k) ++ [UInt8.ofNat (ks[k] / 256), UInt8.ofNat (ks[k] % 256)]) := by
        show _ = _
        rw [List.take_succ_eq_append_getElem hlt, topL_append]; rfl
      have hll : (topL (ks.take k)).length = 2 * k := by rw [topL_len, List.length_take]; omega
      obtain ⟨x, hx⟩ : ∃ x, ks[k] = x := ⟨_, rfl⟩
      rw [hx] at k3 hsk HJ
      obtain ⟨L, hL⟩ : ∃ L, topL (ks.take k) = L := ⟨_, rfl⟩
      rw [hL] at HR HJ hll
      clear hx hL k1 k2 k4
      obtain ⟨i0, hi, hz0, hz1, hz2⟩ := info5'
      have HW : Hid ([Value.int .u8 ((x : Int) / 256), .int .u8 ((x : Int) % 256)] = u8s [UInt8.ofNat (x / 256), UInt8.ofNat (x % 256)]) := by
        show _ = _
        unfold u8s
        have e1 : (UInt8.ofNat (x / 256)).toNat = x / 256 := small_u8 (by omega)
        have e2 : (UInt8.ofNat (x % 256)).toNat = x % 256 := by rw [UInt8.toNat_ofNat']; omega
        simp only [List.map_cons, List.map_nil, e1, e2]
        congr 1
      have HO2 : Hid _ := World.ownsRow.alloc HR.out (.cells #[.int .u8 ((x : Int) / 256), .int .u8 ((x : Int) % 256)] 5)
      have hx1 : ((x : Int) / 256) % 256 = (x : Int) / 256 := by omega
      go_wp2_with (at_builtin; refine wpList_append_own _ rfl _ _ 119 rfl w.heap.size 5 i0 (.int .u8 0) 1 1 Tryz.underlying119 hi hz0 hz1 hz2 rfl (by decide) _ _ _ rfl HO2.out ⟨wr.heap.size, 0, none⟩ 2 2 [.int .u8 ((x : Int) / 256), .int .u8 ((x : Int) % 256)] rfl rfl (news_two wr _ _ 5) (by intro u hu; simp at hu; rcases hu with rfl | rfl <;> rfl) (by rw [hll]; simp only [maxLen]; omega) (by rw [hll]; omega) (by have := HB.out.size; simp; omega) ?_; intro v' w' hO hG hN)
      refine ⟨⟨k + 1, by omega, by go_num, ?_, ?_⟩, by simp [intOf]; omega⟩
      · show URow _ _ _ _
        rw [HJ.out]
        show World.ownsRow _ _ _ _ _ _ _
        rw [List.length_append, show u8s (L ++ [UInt8.ofNat (x / 256), UInt8.ofNat (x % 256)]) = u8s L ++ u8s [UInt8.ofNat (x / 256), UInt8.ofNat (x % 256)] from List.map_append, ← HW.out]
        exact hO
      · exact (HB.out.alloc HB.out.size _).grown hG (by have := HB.out.size; simp; omega) (fun k e => (World.ownsRow.lt HR.out k e).1)
    · have h1 : ¬ (k : Int) < (ks.length : Int) := by omega
      obtain rfl : k = ks.length := by omega
      rw [List.take_length] at HR
      have hcv := text_of HR.out (by intro e; have := topL_len ks; rw [e] at this; exact H0.out (List.length_eq_zero_iff.1 (by have h9 : 0 = 2 * ks.length := this; omega)))
      go_wp2
      go_ret
      exact ⟨rfl, HB.out⟩

theorem top_head {R : ByteArray} {k : Nat} {r : List Nat} {z : Nat} (h : R.data.toList = topL (k :: r) ++ List.replicate z 0) (hk : k < 2000) : ∃ h0 : 1 < R.size, (R[0]'(by omega)).toNat = k / 256 ∧ (R[1]).toNat = k % 256 ∧ (R.extract 2 R.size).data.toList = topL r ++ List.replicate z 0 ∧ (R.extract 2 R.size).size + 2 = R.size := by
  have hl := congrArg List.length h
  rw [Array.length_toList, List.length_append, topL_len, List.length_replicate, List.length_cons] at hl
  have hs : R.size = 2 * (r.length + 1) + z := hl
  have d : R.data.toList.drop 0 = UInt8.ofNat (k / 256) :: UInt8.ofNat (k % 256) :: (topL r ++ List.replicate z 0) := by rw [List.drop_zero, h]; rfl
  refine ⟨by omega, ?_, ?_, ?_, ?_⟩
  · have := get_of_drop (t := R) (a := 0) (b := 0) d rfl (by omega)
    have e : R[0]'(by omega) = UInt8.ofNat (k / 256) := this
    rw [e]; exact small_u8 (by omega)
  · have := get_of_drop (t := R) (a := 0) (b := 1) d rfl (by omega)
    have e : R[1]'(by omega) = UInt8.ofNat (k % 256) := this
    rw [e, UInt8.toNat_ofNat']; omega
  · rw [ByteArray.data_extract, Array.toList_extract, List.extract_eq_take_drop, h]
    show ((topL r ++ List.replicate z 0).take (R.size - 2)) = _
    rw [List.take_of_length_le (by rw [List.length_append, topL_len, List.length_replicate]; omega)]
  · rw [ByteArray.size_extract]; omega
theorem top_tail {R : ByteArray} {z : Nat} (h : R.data.toList = List.replicate z 0) (h1 : 1 < R.size) : (R[0]'(by omega)).toNat = 0 ∧ (R[1]).toNat = 0 := by
  have hl := congrArg List.length h
  rw [Array.length_toList, List.length_replicate] at hl
  have hs : R.size = z := hl
  have d : R.data.toList.drop 0 = List.replicate z 0 := by rw [List.drop_zero, h]
  constructor
  · have e : R[0]'(by omega) = 0 := get_of_drop (t := R) (a := 0) (b := 0) d (by rw [List.getElem?_replicate, if_pos (by omega)]) (by omega)
    rw [e]; rfl
  · have e : R[1]'(by omega) = 0 := get_of_drop (t := R) (a := 0) (b := 1) d (by rw [List.getElem?_replicate, if_pos (by omega)]) (by omega)
    rw [e]; rfl

theorem run_tail (t : ByteArray) (a : Nat) (h : a ≤ t.size) (w : World) : (Instr.slice 9 (.string t) (some (.int .i64 (a : Nat))) none none).run Tryz.prog w = .ok (.string (t.extract a t.size)) w := by
  simp [Instr.slice, Instr.sliceBounds, Instr.sliceBound, asIntOf, run_underlying Tryz.underlying9, go_sem]
  intro hc
  omega
theorem below_drewN' {B : Nat} {w w' : World} (h : Below B w w') (k : Nat) : Below B w (w'.drewN k) := ⟨h.os, h.tape, h.output, h.size, h.block⟩
theorem own_drewN {w : World} {base : Nat} {e : TypeId} {size : Nat} {v : Value} {n : Nat} {xs : List Value} (h : w.ownsRow base e size v n xs) (k : Nat) : (w.drewN k).ownsRow base e size v n xs := by
  have hh : (w.drewN k).heap = w.heap := by simp
  unfold World.ownsRow at h ⊢
  rw [hh]
  exact h
/-- how long a text is -/
def strSize : Value → Nat
  | .string s => s.size
  | _ => 0
set_option maxRecDepth 100000 in
set_option maxHeartbeats 4000000 in
theorem readTop_any {s : ByteArray} {ks : List Nat} {z : Nat} (w : World) (hs : s.data.toList = topL ks ++ List.replicate z 0) (hk : ∀ k ∈ ks, 0 < k ∧ k < 2000) (hm : s.size ≤ 4096) :
    Calls Tryz.prog 69 #[.string s] w fun e w' => ∃ v, e = .returned v ∧ IRow w.heap.size v ks w' ∧ Below w.heap.size w w' := by
  have HS : Hid _ := hs
  have HK : Hid _ := hk
  clear hs hk
  go_enter Tryz.func69, Tryz.ntmps69
  go_wp2_with fail
  go_loopw [0, 2] (fun t l wr => ∃ (j : Nat) (R : ByteArray), j ≤ ks.length ∧ R.size ≤ 4096 ∧ t = .string R ∧ Hid (R.data.toList = topL (ks.drop j) ++ List.replicate z 0) ∧ Hid (IRow w.heap.size l (ks.take j) wr) ∧ Hid (Below w.heap.size w wr)) (fun t _ _ => strSize t)
  case atStart => exact ⟨0, s, Nat.zero_le _, hm, rfl, HS, World.ownsRow_nil _ _ _ _, Below.refl _ _⟩
  case round =>
    obtain ⟨j, R, hj, hR, rfl, HD, HR, HB⟩ := hrel
    by_cases hlt : j < ks.length
    · have hd := HD.out
      rw [List.drop_eq_getElem_cons hlt] at hd
      have hkk := HK.out _ (List.getElem_mem hlt)
      obtain ⟨g1, g2, g3, g4, g5⟩ := top_head hd hkk.2
      have HT : Hid (ks.take (j + 1) = ks.take j ++ [ks[j]]) := List.take_succ_eq_append_getElem hlt
      have hll : (ks.take j).length = j := by rw [List.length_take]; omega
      have h1 : (1 : Int) < (R.size : Int) := by omega
      have h0 : (0 : Int) < (R.size : Int) := by omega
      have hkl : j ≤ 4096 := by
        have := congrArg List.length HD.out
        rw [Array.length_toList, List.length_append, topL_len, List.length_drop] at this
        have h7 : R.size = 2 * (ks.length - j) + (List.replicate z (0 : UInt8)).length := this
        have h8 := congrArg List.length HS.out
        rw [Array.length_toList, List.length_append, topL_len] at h8
        have h9 : s.size = 2 * ks.length + (List.replicate z (0 : UInt8)).length := h8
        omega
      obtain ⟨p, q, hp, hq, hpq⟩ : ∃ p q : Nat, ks[j] / 256 = p ∧ ks[j] % 256 = q ∧ ks[j] = p * 256 + q := ⟨_, _, rfl, rfl, by omega⟩
      rw [hp] at g2
      rw [hq] at g3
      have hp8 : p < 8 := by omega
      have hq8 : q < 256 := by omega
      have HPQ : Hid (ks[j] = p * 256 + q) := hpq
      have hnz : ¬ (p * 256 + q : Int) = 0 := by have := hkk.1; omega
      have b0 : ∀ w, (Instr.index 9 (.string R) (.int .i64 0)).run Tryz.prog w = .ok (.int .u8 (p : Nat)) w := fun w => run_byte R 0 (by omega) p g2 w
      have b1 : ∀ w, (Instr.index 9 (.string R) (.int .i64 1)).run Tryz.prog w = .ok (.int .u8 (q : Nat)) w := fun w => run_byte R 1 g1 q g3 w
      have HD2 : Hid _ := g4
      have HD3 : Hid _ := g5
      have HOR : Hid (bits BinOp.or IntKind.i64 ((p : Int) * 256) (q : Int) = (p : Int) * 256 + (q : Int)) := by
        show _ = _
        rw [bits_join IntKind.i64 63 (by decide) wraps_i64 8 _ _ (by omega) (by omega) (by omega) (by omega) (by omega) (by omega)]
      clear hd g2 g3 g4 g5 hp hq hpq
      go_wp2_with fail
      go_quiet (fail)
      rw [HOR.out]
      have HR : Hid (IRow w.heap.size u2 (ks.take j) (wr.drewN nq)) := own_drewN HR.out nq
      have HB : Hid (Below w.heap.size w (wr.drewN nq)) := below_drewN' HB.out nq
      obtain ⟨wq, hwq⟩ : ∃ wq, wr.drewN nq = wq := ⟨_, rfl⟩
      rw [hwq] at HR HB
      rw [hwq]
      clear hwq
      obtain ⟨i0, hi, hz0, hz1, hz2⟩ := info3
      have HX : Hid (Value.int .i64 ((p : Int) * 256 + (q : Int)) = Value.int .i64 ((ks[j] : Nat) : Int)) := by
        show _ = _
        rw [HPQ.out]; congr 1
      have HO2 : Hid _ := World.ownsRow.alloc HR.out (.cells #[.int .i64 ((p : Int) * 256 + (q : Int))] 3)
      have h2 : (2 : Int) ≤ (R.size : Int) := by omega
      have hs2 : ∀ wx, (Instr.slice 9 (.string R) (some (.int .i64 2)) none none).run Tryz.prog wx = .ok (.string (R.extract 2 R.size)) wx := fun wx => run_tail R 2 (by omega) wx
      go_wp2_with (at_builtin; refine wpList_append_own _ rfl _ _ 23 rfl w.heap.size 3 i0 (.int .i64 0) 1 8 Tryz.underlying23 hi hz0 hz1 hz2 rfl (by decide) _ _ _ rfl HO2.out ⟨wq.heap.size, 0, none⟩ 1 1 [.int .i64 ((p : Int) * 256 + (q : Int))] rfl rfl (news_oneV wq _ 3) (by intro u hu; simp at hu; subst hu; rfl) (by rw [hll]; simp only [maxLen]; omega) (by rw [hll]; omega) (by have := HB.out.size; simp; omega) ?_; intro v' w' hO hG hN)
      refine ⟨⟨j + 1, _, by omega, ?_, rfl, HD2, ?_, ?_⟩, ?_⟩
      · have := HD3.out; omega
      · show IRow _ _ _ _
        rw [HT.out]
        show World.ownsRow _ _ _ _ _ _ _
        rw [List.length_append, List.map_append, List.map_singleton, ← HX.out]
        exact hO
      · exact (HB.out.alloc HB.out.size _).grown hG (by have := HB.out.size; simp; omega) (fun k e => (World.ownsRow.lt HR.out k e).1)
      · have := HD3.out
        show (R.extract 2 R.size).size < R.size
        omega
    · obtain rfl : j = ks.length := by omega
      have hd := HD.out
      rw [List.drop_length, show topL ([] : List Nat) = [] from rfl, List.nil_append] at hd
      rw [List.take_length] at HR
      by_cases h1 : 1 < R.size
      · obtain ⟨g2, g3⟩ := top_tail hd h1
        have b0 : ∀ w, (Instr.index 9 (.string R) (.int .i64 0)).run Tryz.prog w = .ok (.int .u8 0) w := fun w => run_byte R 0 (by omega) 0 g2 w
        have b1 : ∀ w, (Instr.index 9 (.string R) (.int .i64 1)).run Tryz.prog w = .ok (.int .u8 0) w := fun w => run_byte R 1 h1 0 g3 w
        have h2 : (1 : Int) < (R.size : Int) := by omega
        have hor : bits BinOp.or IntKind.i64 0 0 = 0 := by decide
        clear hd g2 g3
        go_wp2_with fail
        go_quiet (fail)
        have HR : Hid (IRow w.heap.size u2 ks (wr.drewN nq)) := own_drewN HR.out nq
        have HB : Hid (Below w.heap.size w (wr.drewN nq)) := below_drewN' HB.out nq
        go_wp2
        go_ret
        exact ⟨_, rfl, HR.out, HB.out⟩
      · have h2 : ¬ (1 : Int) < (R.size : Int) := by omega
        clear hd
        go_wp2
        go_ret
        exact ⟨_, rfl, HR.out, HB.out⟩
end Go.Proofs.YtdphlkljenbkcaaGreatDoor
namespace Go.Proofs.YtdphlkljenbkcaaGreatDoor
open Go.RowKit Go.Maps

/-- a tree in memory: its pager, its root -/
structure Tt (bt bp r : Nat) (w : World) : Prop where
  cp : w.cell? ⟨bt, 0, none⟩ = some (.pointer (some ⟨bp, 0, none⟩))
  cr : w.cell? ⟨bt, 1, none⟩ = some (.int .i64 r)
  lt8 : r < 8
section
variable {bt bp r : Nat} {w wx : World}
theorem Tt.lt (h : Tt bt bp r w) : bt < w.heap.size := World.block_lt_of_cell? w _ h.cp
theorem Tt.below (h : Tt bt bp r w) (hb : Below w.heap.size w wx) : Tt bt bp r wx := ⟨(hb.cell (p := ⟨bt, 0, none⟩) h.lt).trans h.cp, (hb.cell (p := ⟨bt, 1, none⟩) h.lt).trans h.cr, h.lt8⟩
theorem Tt.only {S : Nat → Prop} (h : Tt bt bp r w) (ho : Only S w wx) (hs : ¬ S bt) : Tt bt bp r wx := ⟨(ho.cell h.lt hs 0).trans h.cp, (ho.cell h.lt hs 1).trans h.cr, h.lt8⟩
theorem Tt.drew (h : Tt bt bp r w) : Tt bt bp r w.drew := ⟨h.cp, h.cr, h.lt8⟩
end
/-- a leaf's bytes -/
def leafB (ps : List Pr) : ByteArray := ⟨(encL ps).toArray⟩
theorem leafB_size (ps : List Pr) : (leafB ps).size = szL ps := by
  show (encL ps).toArray.size = _
  rw [List.size_toArray, encL_len]
theorem Leaf.front {t : ByteArray} {ps : List Pr} {z : Nat} (h : Leaf t ps z) : t.extract 0 (szL ps) = leafB ps := by
  apply ByteArray.ext
  apply Array.toList_inj.1
  rw [ByteArray.data_extract, Array.toList_extract, List.extract_eq_take_drop, h.data]
  show (encL ps ++ List.replicate z 0).take (szL ps - 0) = (encL ps).toArray.toList
  rw [Nat.sub_zero, ← encL_len, List.take_left]
theorem leafB_leaf {ps : List Pr} (hok : ∀ x ∈ ps, x.Ok) (hs : szL ps ≤ 4096) : Leaf (leafB ps) ps 0 := ⟨by show (encL ps).toArray.toList = _; simp, hok, by rw [leafB_size]; exact hs⟩

section
variable {bt bp bd bm N r : Nat} {s : St} {up : Nat → Bool} {cm : Int} {V : Pst} {w : World}
theorem run_front (t : ByteArray) (a : Nat) (h : a ≤ t.size) (w : World) : (Instr.slice 9 (.string t) none (some (.int .i64 (a : Nat))) none).run Tryz.prog w = .ok (.string (t.extract 0 a)) w := by
  simp [Instr.slice, Instr.sliceBounds, Instr.sliceBound, asIntOf, run_underlying Tryz.underlying9, go_sem]
  intro hc
  omega
set_option maxRecDepth 100000 in
theorem read_any (hT : Tt bt bp r w) (h : Tw bp bd bm N s up cm V w) (k : Nat) (hk : k < 2000) (hu : V.used k = true) {ps : List Pr} {z : Nat} (hL : Leaf (V.tx k) ps z) :
    Calls Tryz.prog 86 #[.pointer (some ⟨bt, 0, none⟩), .int .i64 k] w fun e w' => e = .returned (.tuple #[.string (leafB ps), .nilIface]) ∧ Below w.heap.size w w' := by
  have q0 := hT.cp
  have HW : Hid _ := h
  have HL : Hid _ := hL
  have hfr := run_front (V.tx k) (szL ps) (by rw [hL.size]; omega)
  rw [hL.front] at hfr
  clear h hL hT
  go_enter Tryz.func86, Tryz.ntmps86
  go_wp2_with fail
  refine (tw_read HW.out k hk hu).mono ?_
  rintro _ w1 ⟨rfl, hb1⟩
  have HB1 : Hid _ := hb1
  clear hb1
  go_wp2_with fail
  refine (filled_any HL.out w1).mono ?_
  rintro _ w2 ⟨rfl, hb2⟩
  have HB2 : Hid (Below w.heap.size w w2) := HB1.out.trans (hb2.mono HB1.out.size)
  clear hb2
  go_wp2
  go_ret2
  exact ⟨rfl, HB2.out⟩
end

/-- a text, with noughts behind it -/
def padG (t : ByteArray) (j : Nat) : Nat := (t.data.toList.getD j 0).toNat
def pad (t : ByteArray) : ByteArray := ⟨(bytesOf (padG t)).toArray⟩
theorem pad_size (t : ByteArray) : (pad t).size = 1024 := by
  show (bytesOf (padG t)).toArray.size = 1024
  rw [List.size_toArray, bytesOf_len]
theorem pad_data (t : ByteArray) (h : t.size ≤ 1024) : (pad t).data.toList = t.data.toList ++ List.replicate (1024 - t.size) 0 := by
  have e0 : (pad t).data.toList = bytesOf (padG t) := by unfold pad; simp only
  rw [e0]
  apply List.ext_getElem?
  intro j
  have hl : t.data.toList.length = t.size := Array.length_toList
  by_cases hj : j < 1024
  · have e1 : (bytesOf (padG t))[j]? = some (t.data.toList.getD j 0) := by
      have := bytesOf_getD (padG t) hj
      rw [List.getD_eq_getElem?_getD] at this
      have hb : j < (bytesOf (padG t)).length := by rw [bytesOf_len]; exact hj
      rw [List.getElem?_eq_getElem hb] at this ⊢
      have h9 : (bytesOf (padG t))[j] = UInt8.ofNat (padG t j) := this
      rw [h9]
      unfold padG
      rw [UInt8.ofNat_toNat]
    rw [e1, List.getElem?_append]
    split
    · rename_i e
      rw [List.getD_eq_getElem?_getD, List.getElem?_eq_getElem e]; rfl
    · rename_i e
      rw [List.getElem?_replicate, if_pos (by omega), List.getD_eq_getElem?_getD, List.getElem?_eq_none (by omega)]; rfl
  · rw [List.getElem?_eq_none (by rw [bytesOf_len]; omega), List.getElem?_eq_none (by rw [List.length_append, List.length_replicate]; omega)]
theorem pad_leaf {ps : List Pr} (hok : ∀ x ∈ ps, x.Ok) (hs : szL ps ≤ 1024) : Leaf (pad (leafB ps)) ps (1024 - szL ps) :=
  ⟨by rw [pad_data _ (by rw [leafB_size]; exact hs), leafB_size]; show (encL ps).toArray.toList ++ _ = _; simp, hok, by rw [pad_size]; omega⟩
theorem BRow.copied {B : Nat} {w : World} (h : BRow B (fun _ => 0) w) (t : ByteArray) (ht : t.size ≤ 1024) : BRow B (padG t) (w.setCells B 0 (Lib.byteCells t.data.toList)) := by
  have hl : t.data.toList.length = t.size := Array.length_toList
  have hb : (Lib.byteCells t.data.toList).length = t.size := by rw [Lib.byteCells_length, hl]
  refine ⟨fun j hj => ?_, fun j => by rw [World.frozen?_setCells]; exact h.free j, fun j => UInt8.toNat_lt _⟩
  by_cases e : j < t.size
  · have := World.cell?_setCells_in B (Lib.byteCells t.data.toList) 0 w (fun i hi => by rw [Nat.zero_add, h.cell i (by omega)]; rfl) j (by omega)
    rw [Nat.zero_add] at this
    rw [this]
    unfold Lib.byteCells padG
    rw [List.getElem_map, List.getD_eq_getElem?_getD, List.getElem?_eq_getElem (by omega)]
    rfl
  · rw [World.cell?_setCells_out B _ 0 w ⟨B, j, none⟩ (fun _ _ => .inr (by show 0 + _ ≤ j; omega)), h.cell j hj]
    unfold padG
    rw [List.getD_eq_getElem?_getD, List.getElem?_eq_none (by omega)]
    rfl

section
variable {bt bp bd bm N r : Nat} {s : St} {up : Nat → Bool} {cm : Int} {V : Pst} {w : World}
theorem bytes_of_beq {a b : ByteArray} (h : (a.toList == b.toList) = true) : a = b := by
  have h2 : a.toList = b.toList := by simpa using h
  rw [ByteArray.toList_eq, ByteArray.toList_eq] at h2
  exact ByteArray.ext (Array.toList_inj.1 h2)
/-- a page has this text -/
theorem Pst.write_same (V : Pst) (k : Nat) : V.write k (V.tx k) = V := by
  cases V
  unfold Pst.write
  congr
  funext i
  by_cases e : i = k
  · rw [if_pos e, e]
  · rw [if_neg e]
set_option maxRecDepth 100000 in
set_option maxHeartbeats 1000000 in
theorem write_any (hT : Tt bt bp r w) (h : Tw bp bd bm N s up cm V w) (hN : N < 1000000) (hne : bt ≠ bp ∧ bt ≠ bm) (k : Nat) (hk : k < 2000) (hu : V.used k = true) (t : ByteArray) (ht : t.size ≤ 1024) :
    Calls Tryz.prog 125 #[.pointer (some ⟨bt, 0, none⟩), .int .i64 k, .string t] w fun e w' => e = .returned .nilIface ∧ Tw bp bd bm (N + 1) s up cm (V.write k (pad t)) w' ∧ Only (fun b => b = bp ∨ b = bm) w w' := by
  have h0 := h.lt
  obtain ⟨w1, hmk, hb1, hr1⟩ := made_page w
  have hcp := run_copy_str (P := Tryz.prog) w1 119 9 3 5 w.heap.size 0 1024 1024 t Tryz.underlying119 (by kernel_rfl) ht (fun j hj => by rw [Nat.zero_add, hr1.cell j (by omega)]; rfl) (fun j _ => by rw [Nat.zero_add]; exact hr1.free j)
  have HR : Hid (BRow w.heap.size (padG t) (w1.setCells w.heap.size 0 (Lib.byteCells t.data.toList))) := hr1.copied t ht
  have HB : Hid (Below w.heap.size w (w1.setCells w.heap.size 0 (Lib.byteCells t.data.toList))) := Below.setCells' (Nat.le_refl _) _ _ _ hb1
  obtain ⟨w2, hw2⟩ : ∃ w2, w1.setCells w.heap.size 0 (Lib.byteCells t.data.toList) = w2 := ⟨_, rfl⟩
  rw [hw2] at hcp HR HB
  have HT : Hid (Tt bt bp r w2) := hT.below HB.out
  have HW : Hid (Tw bp bd bm N s up cm V w2) := h.below HB.out
  have q0 := HT.out.cp
  clear hw2 hr1 hb1 hT h
  go_enter Tryz.func125, Tryz.ntmps125
  go_wp2_with fail
  refine (tw_read HW.out k hk hu).mono ?_
  rintro _ w3 ⟨rfl, hb3⟩
  have HB3 : Hid (Below w.heap.size w w3) := HB.out.trans (hb3.mono HB.out.size)
  have HT3 : Hid (Tt bt bp r w3) := HT.out.below hb3
  have HW3 : Hid (Tw bp bd bm N s up cm V w3) := HW.out.below hb3
  have HR3 : Hid (BRow w.heap.size (padG t) w3) := HR.out.block (hb3.block _ HR.out.lt)
  have htx := HR3.out.text
  have HTX : Hid (pad t = ⟨(bytesOf (padG t)).toArray⟩) := rfl
  rw [← HTX.out] at htx
  have q3 := HT3.out.cp
  clear hb3 HT HW HR q0 HTX
  cases he : ((V.tx k).toList == (pad t).toList)
  · have lts := HW3.out.lt
    have HBT : Hid (bp < w.heap.size ∧ bm < w.heap.size) := ⟨h0.1, h0.2.1⟩
    go_wp2_with fail
    have HW4 : Hid (Tw bp bd bm N s up cm V w3.drew) := HW3.out.drew
    have S0 : Hid (w3.drew.cell? ⟨bt, 0, none⟩ = some (.pointer (some ⟨bp, 0, none⟩)) ∧ (convert 119 9 (.slice (some ⟨w.heap.size, 0, none⟩) 1024 1024)).run Tryz.prog w3.drew = .ok (.string (pad t)) w3.drew) := ⟨HT3.out.drew.cp, (HR3.out.block (w' := w3.drew) rfl).text⟩
    clear htx q3
    go_region_held3 (fun wx => wx.cell? ⟨bt, 0, none⟩ = some (.pointer (some ⟨bp, 0, none⟩)) ∧ (convert 119 9 (.slice (some ⟨w.heap.size, 0, none⟩) 1024 1024)).run Tryz.prog wx = .ok (.string (pad t)) wx) (first | exact S0.out | exact S1.out)
      (first | (go_at_call 139; refine (tw_write HW4.out hN k hk hu (pad t) (pad_size t)).mono ?_; rintro _ w5 ⟨rfl, hW5, hO5⟩; have HO5 : Hid _ := hO5; have HW5 : Hid _ := hW5; have S1 : Hid (w5.cell? ⟨bt, 0, none⟩ = some (.pointer (some ⟨bp, 0, none⟩)) ∧ (convert 119 9 (.slice (some ⟨w.heap.size, 0, none⟩) 1024 1024)).run Tryz.prog w5 = .ok (.string (pad t)) w5) := ⟨(HT3.out.drew.only hO5 (fun e => by rcases e with e | e; exact hne.1 e; exact hne.2 e)).cp, ((HR3.out.block (w' := w3.drew) rfl).block (hO5.block _ HR3.out.lt (fun e => by have := HBT.out; omega))).text⟩; clear hO5 hW5))
    go_wp2
    go_ret
    exact ⟨rfl, HW5.out, (Only.of_below (S := fun b => b = bp ∨ b = bm) HB3.out.drew).trans HO5.out (fun _ e => .inl e)⟩
  · have HE : Hid (V.tx k = pad t) := by
      show _ = _
      exact bytes_of_beq he
    go_wp2
    go_ret
    refine ⟨rfl, ?_, Only.of_below HB3.out⟩
    rw [← HE.out, Pst.write_same]
    exact HW3.out.mono (Nat.le_succ _)
end
end Go.Proofs.YtdphlkljenbkcaaGreatDoor
namespace Go.Proofs.YtdphlkljenbkcaaGreatDoor
open Go.RowKit Go.Maps

/-- a tree: its top (0: none), its leaves' pages, what they have -/
structure Tr where
  top : Nat
  ks : List Nat
  Ls : List (List Pr)
def Tr.all (T : Tr) : List Pr := T.Ls.flatten
/-- leaves that may be -/
structure LsOk (Ls : List (List Pr)) : Prop where
  ne : ∀ L ∈ Ls, L ≠ []
  fit : ∀ L ∈ Ls, szL L ≤ 1024
  ok : ∀ L ∈ Ls, ∀ x ∈ L, x.Ok
  adj : ∀ i (hi : i + 1 < Ls.length), 1024 < szL (Ls[i]'(by omega)) + szL Ls[i + 1]
  sum : szL Ls.flatten ≤ 30000
  sorted : Ls.flatten.Pairwise (fun a b => bl a.k b.k = true)
/-- a tree stands at a root -/
structure TrAt (V : Pst) (r : Nat) (T : Tr) : Prop where
  len : T.ks.length = T.Ls.length
  ok : LsOk T.Ls
  rn : V.rn r = (szL T.all : Nat)
  rp : V.rp r = ((if T.top = 0 then T.ks.headD 0 else T.top : Nat) : Int)
  top0 : T.top = 0 ↔ T.Ls.length ≤ 1
  ltop : T.top ≠ 0 → T.top < 2000 ∧ V.used T.top = true ∧ V.tx T.top = pad (topB T.ks) ∧ T.top ∉ T.ks
  low : ∀ k ∈ T.ks, 0 < k ∧ k < 2000 ∧ V.used k = true
  page : ∀ i (hi : i < T.ks.length) (hl : i < T.Ls.length), V.tx T.ks[i] = pad (leafB T.Ls[i])
  nodup : T.ks.Nodup

theorem szL_flatten : ∀ (Ls : List (List Pr)), szL Ls.flatten = (Ls.map szL).sum
  | [] => rfl
  | L :: r => by rw [List.flatten_cons, szL_append, szL_flatten r]; rfl
section
variable {Ls : List (List Pr)}
theorem szL_pos {L : List Pr} (h : L ≠ []) : 0 < szL L := by
  cases L with
  | nil => exact absurd rfl h
  | cons x r => unfold szL Pr.sz; omega
/-- many leaves have many bytes -/
theorem adj_sum : ∀ (Ls : List (List Pr)), (∀ i (hi : i + 1 < Ls.length), 1024 < szL (Ls[i]'(by omega)) + szL Ls[i + 1]) → 1025 * (Ls.length / 2) ≤ szL Ls.flatten
  | [], _ => by simp
  | [_], _ => by simp
  | A :: B :: r, h => by
    have h0 := h 0 (by simp)
    have ih := adj_sum r (fun i hi => by
      have := h (i + 2) (by simp; omega)
      simpa using this)
    rw [List.flatten_cons, List.flatten_cons, szL_append, szL_append]
    simp only [List.getElem_cons_zero, List.getElem_cons_succ] at h0
    simp only [List.length_cons]
    omega
theorem LsOk.len (h : LsOk Ls) : Ls.length ≤ 59 := by
  have h1 := adj_sum Ls h.adj
  have h2 := h.sum
  omega
theorem LsOk.many (h : LsOk Ls) (hl : 2 ≤ Ls.length) : 1024 < szL Ls.flatten := by
  have h1 := adj_sum Ls h.adj
  omega
theorem LsOk.few (h : LsOk Ls) (hl : Ls.length ≤ 1) : szL Ls.flatten ≤ 1024 := by
  match Ls, hl with
  | [], _ => exact Nat.zero_le _
  | [L], _ => rw [List.flatten_cons, List.flatten_nil, List.append_nil]; exact h.fit L (by simp)
  | A :: B :: r, hl => simp at hl
end
section
variable {bt bp bd bm N r : Nat} {s : St} {up : Nat → Bool} {cm : Int} {V : Pst} {w : World}
theorem sum_any (hT : Tt bt bp r w) (h : Tw bp bd bm N s up cm V w) :
    Calls Tryz.prog 92 #[.pointer (some ⟨bt, 0, none⟩)] w fun e w' => e = .returned (.int .i64 (V.rn r)) ∧ Below w.heap.size w w' := by
  have H8 : Hid _ := hT.lt8
  have HT : Hid (Tt bt bp r w.drew) := hT.drew
  have HW : Hid _ := h.drew
  have HB0 : Hid (Below w.heap.size w w.drew) := (Below.refl _ w).drew
  clear hT h
  go_enter Tryz.func92, Tryz.ntmps92
  go_wp2_with fail
  go_region_held3 (fun wx => wx.cell? ⟨bt, 0, none⟩ = some (.pointer (some ⟨bp, 0, none⟩)) ∧ wx.cell? ⟨bt, 1, none⟩ = some (.int .i64 r)) (first | exact ⟨HT.out.cp, HT.out.cr⟩ | exact ⟨HT1.out.cp, HT1.out.cr⟩)
    (first | (go_at_call 33; refine (tw_root HW.out r H8.out).mono ?_; rintro _ w1 ⟨rfl, hb1⟩; have HT1 : Hid _ := HT.out.below hb1; have HB1 : Hid (Below w.heap.size w w1) := HB0.out.trans (hb1.mono HB0.out.size); clear hb1))
  go_wp2
  go_ret
  exact ⟨rfl, HB1.out⟩
theorem results_cell_tmp {P : Program} {fn : Func} {p q : Tmp} {t : TypeId} {v u : Value} (h : fn.results = #[.cell p t, .tmp q]) (tmps : Array Value) (w : World) (a : Addr) (hp : tmps.getD p undef = .pointer (some a)) (hq : tmps.getD q undef = u) (hl : (loadVar t a).run P w = .ok v w) :
    (results fn tmps).run P w = .ok (.tuple #[v, u]) w := by
  have e0 : tmps[p]?.getD undef = .pointer (some a) := by simpa [Array.getD_eq_getD_getElem?] using hp
  have e1 : tmps[q]?.getD undef = u := by simpa [Array.getD_eq_getD_getElem?] using hq
  simp [results, h, e0, e1, asAddr, hl]
theorem load95 {w : World} {B : Nat} {a b : Value} (h0 : w.cell? ⟨B, 0, none⟩ = some a) (h1 : w.cell? ⟨B, 1, none⟩ = some b) : (loadVar 96 ⟨B, 0, none⟩).run Tryz.prog w = .ok (.agg #[a, b]) w :=
  run_loadVar_mid (P := Tryz.prog) w B 0 96 [a, b] _ (fun j v hv => by
    match j, hv with
    | 0, hv => cases hv; exact h0
    | 1, hv => cases hv; exact h1
    | j + 2, hv => simp at hv) Tryz.underlying96 rfl (by kernel_rfl)
/-- a variable of two cells -/
structure Var2 (B : Nat) (a b : Value) (w : World) : Prop where
  c0 : w.cell? ⟨B, 0, none⟩ = some a
  c1 : w.cell? ⟨B, 1, none⟩ = some b
  f0 : w.frozen? ⟨B, 0, none⟩ = false
  f1 : w.frozen? ⟨B, 1, none⟩ = false
theorem Var2.lt {B : Nat} {a b : Value} {w : World} (h : Var2 B a b w) : B < w.heap.size := World.block_lt_of_cell? w _ h.c0
theorem Var2.block {B : Nat} {a b : Value} {w w' : World} (h : Var2 B a b w) (hb : w'.heap[B]? = w.heap[B]?) : Var2 B a b w' := by
  refine ⟨?_, ?_, ?_, ?_⟩
  · have := h.c0; simp only [World.cell?] at this ⊢; rw [hb]; exact this
  · have := h.c1; simp only [World.cell?] at this ⊢; rw [hb]; exact this
  · have := h.f0; simp only [World.frozen?] at this ⊢; rw [hb]; exact this
  · have := h.f1; simp only [World.frozen?] at this ⊢; rw [hb]; exact this
theorem Var2.new (w : World) (a b : Value) (t : TypeId) : Var2 w.heap.size a b (w.alloc (.cells #[a, b] t)) := by
  have hn : (w.alloc (.cells #[a, b] t)).heap[w.heap.size]? = some (.cells #[a, b] t) := heap_alloc_new w _
  exact ⟨by simp only [World.cell?, hn]; rfl, by simp only [World.cell?, hn]; rfl, by simp only [World.frozen?, hn]; simp, by simp only [World.frozen?, hn]; simp⟩
theorem Var2.set2 {B : Nat} {a b : Value} {w : World} (h : Var2 B a b w) (a' b' : Value) : Var2 B a' b' ((w.setCell ⟨B, 0, none⟩ a').setCell ⟨B, 1, none⟩ b') := by
  have h1 : (w.setCell ⟨B, 0, none⟩ a').cell? ⟨B, 1, none⟩ = some b := by rw [World.cell?_setCell_other _ _ _ _ (fun e => by cases e)]; exact h.c1
  refine ⟨?_, World.cell?_setCell_same _ _ _ h1, ?_, ?_⟩
  · rw [World.cell?_setCell_other _ _ _ _ (fun e => by cases e)]; exact World.cell?_setCell_same _ _ _ h.c0
  · rw [World.frozen?_setCell, World.frozen?_setCell]; exact h.f0
  · rw [World.frozen?_setCell, World.frozen?_setCell]; exact h.f1
theorem View.set2 {C B : Nat} {v : Value} {xs : List Value} {w : World} (h : View C v xs w) (a b : Value) (hB : B < C) : View C v xs ((w.setCell ⟨B, 0, none⟩ a).setCell ⟨B, 1, none⟩ b) :=
  (h.only (Only.set B 0 a w) (fun _ e => by cases e; exact hB)).only (Only.set B 1 b _) (fun _ e => by cases e; exact hB)
theorem topB_size (ks : List Nat) : (topB ks).size = 2 * ks.length := by
  show (topL ks).toArray.size = _
  rw [List.size_toArray, topL_len]
theorem topB_data (ks : List Nat) : (topB ks).data.toList = topL ks := by unfold topB; simp
/-- what body tells -/
def BodyTo (w0 : World) (top : Nat) (ks : List Nat) (e : Ending) (w' : World) : Prop := ∃ v, e = .returned (.tuple #[.agg #[.int .i64 (top : Nat), v], .nilIface]) ∧ View (w0.heap.size + 1) v (ints ks) w' ∧ Below w0.heap.size w0 w'

set_option maxRecDepth 100000 in
set_option maxHeartbeats 1000000 in
theorem body_any (hT : Tt bt bp r w) (h : Tw bp bd bm N s up cm V w) {T : Tr} (hA : TrAt V r T) :
    Calls Tryz.prog 45 #[.pointer (some ⟨bt, 0, none⟩)] w fun e w' => BodyTo w T.top T.ks e w' := by
  have H8 : Hid _ := hT.lt8
  have HA : Hid _ := hA
  have hb0 : Below w.heap.size w (w.alloc (.cells #[.int .i64 0, .slice none 0 0] 96)) := (Below.refl _ w).alloc (Nat.le_refl _) _
  have HT0 : Hid (Tt bt bp r (w.alloc (.cells #[.int .i64 0, .slice none 0 0] 96))) := hT.below hb0
  have HW0 : Hid (Tw bp bd bm N s up cm V (w.alloc (.cells #[.int .i64 0, .slice none 0 0] 96))) := h.below hb0
  have q0 := HT0.out.cp
  have hl0 := hT.lt
  have hz := Tryz.zeroValue96
  clear hA hT h
  go_enter Tryz.func45, Tryz.ntmps45
  go_wp2_with fail
  refine (tw_down HW0.out).mono ?_
  rintro _ wa ⟨rfl, hwa⟩
  subst wa
  clear q0
  obtain ⟨W, hW⟩ : ∃ W, w.alloc (.cells #[.int .i64 0, .slice none 0 0] 96) = W := ⟨_, rfl⟩
  have HV0 : Hid (Var2 w.heap.size (.int .i64 0) (.slice none 0 0) W) := by rw [← hW]; exact Var2.new w _ _ _
  have HB0 : Hid (Below w.heap.size w W.drew) := by rw [← hW]; exact hb0.drew
  rw [hW] at HT0 HW0
  rw [hW]
  clear hW hb0
  have HT : Hid (Tt bt bp r W.drew) := HT0.out.drew
  have HW : Hid (Tw bp bd bm N s up cm V W.drew) := HW0.out.drew
  have HV : Hid (Var2 w.heap.size (.int .i64 0) (.slice none 0 0) W.drew) := HV0.out.block rfl
  obtain ⟨P, HRP, HP⟩ : ∃ P : Nat, Hid (V.rp r = (P : Nat)) ∧ Hid (P = if T.top = 0 then T.ks.headD 0 else T.top) := ⟨_, HA.out.rp, rfl⟩
  obtain ⟨S, HRN, HS⟩ : ∃ S : Nat, Hid (V.rn r = (S : Nat)) ∧ Hid (S = szL T.Ls.flatten) := ⟨_, HA.out.rn, rfl⟩
  clear HT0 HW0 HV0
  go_wp2_with fail
  go_region_held3 (fun wx => wx.cell? ⟨bt, 0, none⟩ = some (.pointer (some ⟨bp, 0, none⟩)) ∧ wx.cell? ⟨bt, 1, none⟩ = some (.int .i64 r)) (first | exact ⟨HT.out.cp, HT.out.cr⟩ | exact ⟨HT1.out.cp, HT1.out.cr⟩)
    (first | (go_at_call 33; refine (tw_root HW.out r H8.out).mono ?_; rintro _ w1 ⟨rfl, hb1⟩; rw [HRP.out, HRN.out]; have HT1 : Hid _ := HT.out.below hb1; have HW1 : Hid _ := HW.out.below hb1; have HV1 : Hid (Var2 w.heap.size (.int .i64 0) (.slice none 0 0) w1) := HV.out.block (hb1.block _ HV.out.lt); have HB1 : Hid (Below w.heap.size w w1) := HB0.out.trans (hb1.mono HB0.out.size); clear hb1))
  clear HT HW HV HB0 HRP HRN
  have c0 := HV1.out.c0
  have c1 := HV1.out.c1
  have f0 := HV1.out.f0
  have f1 := HV1.out.f1
  rcases Nat.lt_or_ge 1 T.Ls.length with hm | hm
  · have htop : T.top ≠ 0 := fun e => by have := HA.out.top0.1 e; omega
    obtain ⟨t1, t2, t3, t4⟩ := HA.out.ltop htop
    obtain rfl : P = T.top := by rw [HP.out, if_neg htop]
    have hsum : ¬ (S : Int) ≤ 1024 := by have := HA.out.ok.many hm; have := HS.out; omega
    have hti : ¬ (T.top : Int) = 0 := by omega
    have q0 := HT1.out.cp
    have HX : Hid (V.tx T.top = pad (topB T.ks)) := t3
    go_wp2_with fail
    refine (tw_read HW1.out T.top t1 t2).mono ?_
    rintro _ w2 ⟨rfl, hb2⟩
    rw [HX.out]
    have HB2 : Hid (Below w.heap.size w w2) := HB1.out.trans (hb2.mono HB1.out.size)
    have HV2 : Hid (Var2 w.heap.size (.int .i64 0) (.slice none 0 0) w2) := HV1.out.block (hb2.block _ HV1.out.lt)
    clear hb2 c0 c1 f0 f1 q0
    go_wp2_with fail
    have hlen := HA.out.ok.len
    have hkl := HA.out.len
    refine (readTop_any (ks := T.ks) (z := 1024 - (topB T.ks).size) w2 (by rw [pad_data _ (by rw [topB_size]; omega)]; exact congrArg (· ++ _) (topB_data T.ks)) (fun k hk => ⟨(HA.out.low k hk).1, (HA.out.low k hk).2.1⟩) (by rw [pad_size]; omega)).mono ?_
    rintro _ w3 ⟨v, rfl, hR3, hb3⟩
    have HB3 : Hid (Below w.heap.size w w3) := HB2.out.trans (hb3.mono HB2.out.size)
    have HV3 : Hid (Var2 w.heap.size (.int .i64 0) (.slice none 0 0) w3) := HV2.out.block (hb3.block _ HV2.out.lt)
    have HR3 : Hid (View (w.heap.size + 1) v (ints T.ks) w3) := (IRow.view hR3).mono HV2.out.lt
    have c0 := HV3.out.c0
    have c1 := HV3.out.c1
    have f0 := HV3.out.f0
    have f1 := HV3.out.f1
    clear hb3 hR3 hlen hkl
    obtain ⟨a9, cap9, rfl, _⟩ := HR3.out.is
    have HV4 : Hid _ := HV3.out.set2 (.int .i64 (T.top : Nat)) (.slice a9 (ints T.ks).length cap9)
    have HR4 : Hid _ := HR3.out.set2 (.int .i64 (T.top : Nat)) (.slice a9 (ints T.ks).length cap9) (B := w.heap.size) (Nat.lt_succ_self _)
    have HB4 : Hid (Below w.heap.size w ((w3.setCell ⟨w.heap.size, 0, none⟩ (.int .i64 (T.top : Nat))).setCell ⟨w.heap.size, 1, none⟩ (.slice a9 (ints T.ks).length cap9))) := (HB3.out.setCell (Nat.le_refl _) _).setCell (Nat.le_refl _) _
    go_wp2
    (try simp only [Exit.inBlock, Exit.then])
    exact bodyPost_ret (results_cell_tmp Tryz.results45 _ _ _ rfl rfl (load95 HV4.out.c0 HV4.out.c1)) rfl ⟨_, rfl, HR4.out, HB4.out⟩
  · have htop : T.top = 0 := HA.out.top0.2 (by omega)
    rcases Nat.eq_zero_or_pos T.Ls.length with h0 | h0
    · have hk0 : T.ks = [] := List.length_eq_zero_iff.1 (by rw [HA.out.len, h0])
      obtain rfl : P = 0 := by rw [HP.out, if_pos htop, hk0]; rfl
      have HK0 : Hid _ := hk0
      have HTOP : Hid _ := htop
      clear hk0 htop
      have HV4 : Hid _ := HV1.out.set2 (.int .i64 0) (.slice none 0 0)
      have HR4 : Hid (View (w.heap.size + 1) (.slice none 0 0) (ints []) w1) := View.of_own (e := 3) (World.ownsRow_nil _ _ _ _)
      have HR5 : Hid _ := HR4.out.set2 (.int .i64 0) (.slice none 0 0) (B := w.heap.size) (Nat.lt_succ_self _)
      have HB4 : Hid (Below w.heap.size w ((w1.setCell ⟨w.heap.size, 0, none⟩ (.int .i64 0)).setCell ⟨w.heap.size, 1, none⟩ (.slice none 0 0))) := (HB1.out.setCell (Nat.le_refl _) _).setCell (Nat.le_refl _) _
      have hbd : ∀ wx, (Instr.build 96 #[]).run Tryz.prog wx = .ok (.agg #[.int .i64 0, .slice none 0 0]) wx := fun wx => by simp [go_sem, hz]
      go_wp2
      (try simp only [Exit.inBlock, Exit.then])
      exact bodyPost_ret (results_cell_tmp Tryz.results45 _ _ _ rfl rfl (load95 HV4.out.c0 HV4.out.c1)) rfl ⟨_, by rw [HTOP.out]; rfl, by rw [HK0.out]; exact HR5.out, HB4.out⟩
    · obtain ⟨k, hk⟩ : ∃ k, T.ks = [k] := List.length_eq_one_iff.1 (by rw [HA.out.len]; omega)
      obtain rfl : P = k := by rw [HP.out, if_pos htop, hk]; rfl
      have hkp := (HA.out.low P (by rw [hk]; simp)).1
      have hki : ¬ (P : Int) = 0 := by omega
      have hsum : (S : Int) ≤ 1024 := by have := HA.out.ok.few hm; have := HS.out; omega
      have HK0 : Hid _ := hk
      have HTOP : Hid _ := htop
      have HN : Hid (View (w.heap.size + 1) (.slice (some ⟨w1.heap.size, 0, none⟩) 1 1) (ints [P]) (w1.alloc (.cells #[.int .i64 (P : Nat)] 3))) := View.of_own (e := 3) (World.ownsRow_lit w1 #[.int .i64 (P : Nat)] 1 HV1.out.lt (by decide) rfl)
      have HV2 : Hid (Var2 w.heap.size (.int .i64 0) (.slice none 0 0) (w1.alloc (.cells #[.int .i64 (P : Nat)] 3))) := HV1.out.block (Below.heap_alloc w1 _ _ HV1.out.lt)
      have HV4 : Hid _ := HV2.out.set2 (.int .i64 0) (.slice (some ⟨w1.heap.size, 0, none⟩) 1 1)
      have HR5 : Hid _ := HN.out.set2 (.int .i64 0) (.slice (some ⟨w1.heap.size, 0, none⟩) 1 1) (B := w.heap.size) (Nat.lt_succ_self _)
      have HB4 : Hid (Below w.heap.size w (((w1.alloc (.cells #[.int .i64 (P : Nat)] 3)).setCell ⟨w.heap.size, 0, none⟩ (.int .i64 0)).setCell ⟨w.heap.size, 1, none⟩ (.slice (some ⟨w1.heap.size, 0, none⟩) 1 1))) := ((HB1.out.alloc HB1.out.size _).setCell (Nat.le_refl _) _).setCell (Nat.le_refl _) _
      have c0 := HV2.out.c0
      have c1 := HV2.out.c1
      have f0 := HV2.out.f0
      have f1 := HV2.out.f1
      clear hk htop
      go_wp2
      (try simp only [Exit.inBlock, Exit.then])
      exact bodyPost_ret (results_cell_tmp Tryz.results45 _ _ _ rfl rfl (load95 HV4.out.c0 HV4.out.c1)) rfl ⟨_, by rw [HTOP.out]; rfl, by rw [HK0.out]; exact HR5.out, HB4.out⟩
end
end Go.Proofs.YtdphlkljenbkcaaGreatDoor
namespace Go.Proofs.YtdphlkljenbkcaaGreatDoor
open Go.RowKit Go.Proofs

theorem bl_iff (x y : ByteArray) : bl x y = true ↔ x.data.toList < y.data.toList := by
  unfold bl
  rw [bytesLess_eq, ByteArray.toList_eq, ByteArray.toList_eq]
  exact decide_eq_true_iff
theorem u8_lt_iff (a b : UInt8) : a < b ↔ a.toNat < b.toNat := UInt8.lt_iff_toNat_lt
theorem bl_irrefl (x : ByteArray) : bl x x = false := by
  cases h : bl x x
  · rfl
  · exact absurd ((bl_iff x x).1 h) (List.lt_irrefl _)
theorem bl_trans {x y z : ByteArray} (h1 : bl x y = true) (h2 : bl y z = true) : bl x z = true :=
  (bl_iff x z).2 (List.lt_trans ((bl_iff x y).1 h1) ((bl_iff y z).1 h2))
theorem bl_tri (x y : ByteArray) : bl x y = true ∨ x = y ∨ bl y x = true := by
  by_cases h : x.data.toList < y.data.toList
  · exact .inl ((bl_iff x y).2 h)
  · by_cases h2 : y.data.toList < x.data.toList
    · exact .inr (.inr ((bl_iff y x).2 h2))
    · exact .inr (.inl (ByteArray.ext (Array.toList_inj.1 (List.le_antisymm (List.not_lt.1 h2) (List.not_lt.1 h)))))
/-- it is neither less, nor the same -/
def bg (x y : ByteArray) : Bool := !bl x y && !(x.toList == y.toList)
theorem bg_iff (x y : ByteArray) : bg x y = bl y x := by
  unfold bg
  rcases bl_tri x y with h | rfl | h
  · rw [h]
    cases h2 : bl y x
    · rfl
    · have := bl_trans h h2
      rw [bl_irrefl] at this; cases this
  · rw [bl_irrefl]; simp
  · have h3 : bl x y = false := by
      cases h4 : bl x y
      · rfl
      · have := bl_trans h h4
        rw [bl_irrefl] at this; cases this
    rw [h3, h]
    have : (x.toList == y.toList) = false := by
      cases h4 : (x.toList == y.toList)
      · rfl
      · have := bytes_of_beq h4
        subst this
        rw [bl_irrefl] at h; cases h
    rw [this]; rfl
end Go.Proofs.YtdphlkljenbkcaaGreatDoor
namespace Go.Proofs.YtdphlkljenbkcaaGreatDoor
open Go.RowKit

/-- the first one of which it holds -/
structure SearchR (n : Nat) (p : Nat → Bool) (i : Nat) : Prop where
  le : i ≤ n
  no : ∀ k, k < i → p k = false
  yes : ∀ k, i ≤ k → k < n → p k = true
set_option maxRecDepth 100000 in
set_option maxHeartbeats 1000000 in
theorem search_any {fid : Nat} {caps : Array Value} (n : Nat) (hn : n ≤ 100000) (p : Nat → Bool) (hm : ∀ i j, i ≤ j → j < n → p i = true → p j = true) (Inv : World → Prop) (eg : ∀ args w, (callFunc fid args).run Tryz.prog w = .ok (.enter fid args) w)
    (hcb : ∀ i (_ : i < n) (w : World), Inv w → Calls Tryz.prog fid (#[.int .i64 (i : Nat)] ++ caps) w fun e w' => e = .returned (.bool (p i)) ∧ Inv w') (w : World) (h0 : Inv w) :
    Calls Tryz.prog 83 #[.int .i64 (n : Nat), .func (.func fid) #[] caps] w fun e w' => ∃ i : Nat, e = .returned (.int .i64 (i : Nat)) ∧ SearchR n p i ∧ Inv w' := by
  have HI : Hid _ := h0
  have HC : Hid _ := hcb
  have HM : Hid _ := hm
  clear h0 hcb hm
  go_enter Tryz.func83, Tryz.ntmps83
  go_wp2_with fail
  go_loopw [5, 6] (fun i j wr => ∃ a b : Nat, a ≤ b ∧ b ≤ n ∧ i = .int .i64 (a : Nat) ∧ j = .int .i64 (b : Nat) ∧ Hid (∀ k, k < a → p k = false) ∧ Hid (∀ k, b ≤ k → k < n → p k = true) ∧ Hid (Inv wr)) (fun i j _ => (intOf j).toNat - (intOf i).toNat)
  case atStart => exact ⟨0, n, Nat.zero_le _, Nat.le_refl _, rfl, rfl, fun k hk => absurd hk (Nat.not_lt_zero k), fun k h1 h2 => absurd h2 (by omega), HI⟩
  case round =>
    clear HI
    obtain ⟨a, b, hab, hbn, rfl, rfl, HL, HR, HI⟩ := hrel
    by_cases hlt : a < b
    · have h1 : (a : Int) < (b : Int) := by omega
      obtain ⟨h, hh1, hh2, HH⟩ : ∃ h : Nat, a ≤ h ∧ h < b ∧ Hid (((a : Int) + (b : Int)) / 2 = (h : Nat)) := ⟨(a + b) / 2, by omega, by omega, by show _ = _; omega⟩
      go_wp2_with fail
      rw [HH.out]
      refine (HC.out h (by omega) _ HI.out).mono ?_
      rintro _ w1 ⟨rfl, hI1⟩
      have HI1 : Hid _ := hI1
      clear hI1 HI
      cases hp : p h
      · have HL2 : Hid (∀ k, k < h + 1 → p k = false) := fun k hk => by
          cases hpk : p k
          · rfl
          · exact absurd (HM.out k h (by omega) (by omega) hpk) (by rw [hp]; decide)
        go_wp2_with fail
        go_roundw
        case rel => exact ⟨h + 1, b, by omega, hbn, by go_num, rfl, HL2, HR, HI1⟩
        case measure => simp [intOf]; omega
      · have HR2 : Hid (∀ k, h ≤ k → k < n → p k = true) := fun k hk h2 => HM.out h k hk h2 hp
        go_wp2_with fail
        go_roundw
        case rel => exact ⟨a, h, hh1, by omega, rfl, rfl, HL, HR2, HI1⟩
        case measure => simp [intOf]; omega
    · have h1 : ¬ (a : Int) < (b : Int) := by omega
      obtain rfl : a = b := by omega
      go_wp2
      go_ret
      exact ⟨a, rfl, ⟨hbn, HL.out, HR.out⟩, HI.out⟩
end Go.Proofs.YtdphlkljenbkcaaGreatDoor
