/- Texts of the proof of TreeLean: Tln. -/
import Derived.Test.YtjcddeoihjppaaaL17
import Derived.Deep.DeepCutAuto
import Derived.Deep.CutBlock
import Derived.BigQuiet
namespace Go.Proofs.Ytjcddeoihjppaaa
open Go.RowKit Go.Maps

theorem len2_szL : ∀ l : List Pr, 2 * l.length ≤ szL l
  | [] => Nat.le_refl _
  | x :: r => by
    have := len2_szL r
    rw [szL, List.length_cons]
    unfold Pr.sz
    omega
set_option maxRecDepth 100000 in
set_option maxHeartbeats 40000000 in
theorem lean_walk (a0 : Option Addr) (l0 c0 : Nat) (xs : List Pu) (many order : Int) (w : World) (hr0 : RowQ w a0 l0 xs) :
    Calls Try.prog 4 #[.slice a0 l0 c0, .int .i64 many, .int .i64 order] w fun e w' => e = .returned (.bool true) ∧ Below w.heap.size w w' := by
  have HR0 : Hid (RowQ w a0 l0 xs) := hr0
  obtain ⟨e0, hm0, _⟩ := hr0
  unfold maxLen at hm0
  by_cases h30 : 80 < l0
  · have hd : (80 : Int) < (l0 : Int) := by omega
    go_enter Try.func4, Try.ntmps4
    go_wp2
    go_ret
    exact ⟨rfl, Below.refl _ _⟩
  have hd : ¬ (80 : Int) < (l0 : Int) := by omega
  have L0 : l0 ≤ 80 := by omega
  have hz := Try.zeroValue32
  clear e0 hm0 h30
  go_enter Try.func4, Try.ntmps4
  go_wp2_with fail
  refine (grown_any w).mono ?_
  rintro _ w1 ⟨rfl, hb1⟩
  have HB1 : Hid (Below w.heap.size w w1) := hb1
  have HO : Hid _ := open_new w1
  clear hb1
  go_wp2_with fail
  refine (show Calls _ _ _ _ _ from HO.out).mono ?_
  rintro _ w2 ⟨bp, bm, up, V, rfl, h1, h2, h3, hW, hU, hE, hb2⟩
  have HW : Hid _ := hW
  have HU : Hid _ := hU
  have HE0 : Hid (TrAt V 1 Tr.none) := hE 1 (by omega)
  have HB2 : Hid (Below w.heap.size w w2) := HB1.out.trans (hb2.mono HB1.out.size)
  have hsz1 := HB1.out.size
  obtain ⟨bd, hbd⟩ : ∃ bd, w1.heap.size = bd := ⟨_, rfl⟩
  rw [hbd] at h1 h2 HW hsz1
  try rw [hbd]
  clear hW hU hE hb2 HO hbd HB1 hz
  go_wp2_with fail
  refine (at_any (r := 1) HW.out (by omega)).mono ?_
  rintro _ w3 ⟨bt, rfl, hT3, hlt3, hb3⟩
  have hwl := HW.out.lt
  have hne : bt ≠ bp ∧ bt ≠ bm := ⟨by omega, by omega⟩
  have HS3 : Hid (Sol bt bp bd bm 0 up V Tr.none w w3) := ⟨hT3, HW.out.below hb3, HE0.out, Sole.none HU.out, HB2.out.trans (hb3.mono HB2.out.size), by omega, by omega, hne⟩
  clear hT3 hb3 HB2 HW hlt3 HE0 HU hwl h1 h2 hsz1 h3
  obtain ⟨mn, hmn⟩ : ∃ m, pk many 250 = m := ⟨_, rfl⟩
  have hmnl : mn < 250 := by rw [← hmn]; exact pk_lt _ _ (by omega)
  have HPK : Hid (∀ wx, Calls Try.prog 16 #[.int .i64 many, .int .i64 250] wx fun e w' => e = .returned (.int .i64 (mn : Nat)) ∧ w' = wx) := fun wx => by rw [← hmn]; exact pick_any many 250 (by omega) (by omega) wx
  clear hmn
  go_wp2_with fail
  go_loopw [10] (fun i wr => ∃ (k N1 : Nat) (V1 : Pst) (T1 : Tr), k ≤ 250 ∧ i = .int .i64 (k : Nat) ∧ N1 ≤ 40 * k ∧ Hid (szL T1.all ≤ 104 * k) ∧ Hid (Sol bt bp bd bm N1 up V1 T1 w wr)) (fun i _ => 251 - (intOf i).toNat)
  case atStart => exact ⟨0, 0, V, Tr.none, by omega, rfl, by omega, Nat.le_refl _, HS3⟩
  case round =>
    clear HS3
    obtain ⟨k, N1, V1, T1, hk, rfl, hN1, HSZ, HS⟩ := hrel
    go_wp2_with fail
    refine ((show ∀ wx, Calls _ _ _ wx _ from HPK.out) _).mono ?_
    rintro _ wk ⟨rfl, hwk⟩
    obtain rfl : wr = wk := hwk.symm
    by_cases hlt : k < mn
    · have h1 : (k : Int) < (mn : Int) := by omega
      have hw54 : IntKind.i64.wrap ((k : Int) * 37) = (k : Int) * 37 := by rw [IntKind.wrap_i64]; omega
      have hw61 : IntKind.i64.wrap ((k : Int) * 7) = (k : Int) * 7 := by rw [IntKind.wrap_i64]; omega
      obtain ⟨k0, hk0⟩ : ∃ k0 : Nat, k * 37 % 256 = k0 := ⟨_, rfl⟩
      have hw55 : IntKind.u8.wrap ((k : Int) * 37) = (k0 : Nat) := by rw [wrap_u8]; omega
      have hw57 : IntKind.u8.wrap (k : Int) = (k : Nat) := by rw [wrap_u8]; omega
      have hk0b : k0 < 256 := by omega
      obtain ⟨m, hm⟩ : ∃ m, pk ((k : Int) * 7) 100 = m := ⟨_, rfl⟩
      have hml : m < 100 := by rw [← hm]; exact pk_lt _ _ (by omega)
      have HPM : Hid (∀ wx, Calls Try.prog 16 #[.int .i64 ((k : Int) * 7), .int .i64 100] wx fun e w' => e = .returned (.int .i64 (m : Nat)) ∧ w' = wx) := fun wx => by rw [← hm]; exact pick_any ((k : Int) * 7) 100 (by omega) (by omega) wx
      obtain ⟨KB, hKB⟩ : ∃ KB : ByteArray, ⟨#[byteI (k0 : Int), byteI (k : Int), byteI 107]⟩ = KB := ⟨_, rfl⟩
      have HKB : Hid (KB.size = 3) := by rw [← hKB]; rfl
      have hcv : ∀ (W : World) (B : Nat), W.cell? ⟨B, 0, none⟩ = some (.int .u8 (k0 : Nat)) → W.cell? ⟨B, 1, none⟩ = some (.int .u8 (k : Nat)) → W.cell? ⟨B, 2, none⟩ = some (.int .u8 107) → (convert 54 9 (.slice (some ⟨B, 0, none⟩) 3 3)).run Try.prog W = .ok (.string KB) W := fun W B a b c => by rw [← hKB]; exact three_bytes _ _ _ (by omega) (by omega) (by omega) (by omega) (by omega) (by omega) W B a b c
      have HOK : Hid (Pr.Ok ⟨KB, rep 105 m⟩) := ⟨by have := HKB.out; show 1 ≤ KB.size; omega, by have := HKB.out; show KB.size ≤ 60; omega, by show (rep 105 m).size ≤ 100; rw [rep_size]; omega⟩
      have HSX : Hid (Pr.sz ⟨KB, rep 105 m⟩ ≤ 104) := by
        show 2 + KB.size + (rep 105 m).size ≤ 104
        rw [rep_size, HKB.out]; omega
      have hsp := HSZ.out
      clear hm hKB hk0
      go_wp2_with fail
      refine wp_region_held_drew (S := fun _ => True) (by kernel_rfl) trivial ?_
      intro _
      refine wpAnyH_take (i := 0) (oi := { dst := some 52, op := Op.move (Operand.tmp 9), type := 49, pos := "keep.go:327", after := #[], guard := none }) (v := .pointer (some ⟨bt, 0, none⟩)) rfl (by kernel_rfl) (by kernel_rfl) (by kernel_rfl) (fun _ _ _ h => h) (Or.inl ⟨by rfl, fun wx _ => by go_simp⟩) trivial ?_
      simp only [Act.put, List.setIfInBounds_toArray, List.set_cons_zero, List.set_cons_succ]
      refine wpAnyH_take (i := 1) (oi := { dst := some 53, op := Op.move (Operand.tmp 10), type := 3, pos := "keep.go:327", after := #[], guard := none }) (v := .int .i64 (k : Nat)) rfl (by kernel_rfl) (by kernel_rfl) (by kernel_rfl) (fun _ _ _ h => h) (Or.inl ⟨by rfl, fun wx _ => by go_simp⟩) trivial ?_
      simp only [Act.put, List.setIfInBounds_toArray, List.set_cons_zero, List.set_cons_succ]
      refine wpAnyH_take (i := 2) (oi := { dst := some 54, op := Op.binOp BinOp.mul 3 (Operand.tmp 53) (Operand.const (Value.int IntKind.i64 37)) 3, type := 3, pos := "keep.go:327", after := #[{ on := 1, ground := Ground.data }], guard := none }) (v := .int .i64 ((k : Int) * 37)) rfl (by kernel_rfl) (by kernel_rfl) (by kernel_rfl) (fun _ _ _ h => h) (Or.inl ⟨by rfl, fun wx _ => by go_simp⟩) trivial ?_
      simp only [Act.put, List.setIfInBounds_toArray, List.set_cons_zero, List.set_cons_succ]
      refine wpAnyH_take (i := 3) (oi := { dst := some 55, op := Op.convert 3 5 (Operand.tmp 54), type := 5, pos := "keep.go:327", after := #[{ on := 2, ground := Ground.data }], guard := none }) (v := .int .u8 (k0 : Nat)) rfl (by kernel_rfl) (by kernel_rfl) (by kernel_rfl) (fun _ _ _ h => h) (Or.inl ⟨by rfl, fun wx _ => by go_simp⟩) trivial ?_
      simp only [Act.put, List.setIfInBounds_toArray, List.set_cons_zero, List.set_cons_succ]
      refine wpAnyH_take (i := 4) (oi := { dst := some 56, op := Op.move (Operand.tmp 10), type := 3, pos := "keep.go:327", after := #[], guard := none }) (v := .int .i64 (k : Nat)) rfl (by kernel_rfl) (by kernel_rfl) (by kernel_rfl) (fun _ _ _ h => h) (Or.inl ⟨by rfl, fun wx _ => by go_simp⟩) trivial ?_
      simp only [Act.put, List.setIfInBounds_toArray, List.set_cons_zero, List.set_cons_succ]
      refine wpAnyH_take (i := 5) (oi := { dst := some 57, op := Op.convert 3 5 (Operand.tmp 56), type := 5, pos := "keep.go:327", after := #[{ on := 4, ground := Ground.data }], guard := none }) (v := .int .u8 (k : Nat)) rfl (by kernel_rfl) (by kernel_rfl) (by kernel_rfl) (fun _ _ _ h => h) (Or.inl ⟨by rfl, fun wx _ => by go_simp⟩) trivial ?_
      simp only [Act.put, List.setIfInBounds_toArray, List.set_cons_zero, List.set_cons_succ]
      refine wpAnyH_take (i := 8) (oi := { dst := some 60, op := Op.move (Operand.tmp 10), type := 3, pos := "keep.go:327", after := #[], guard := none }) (v := .int .i64 (k : Nat)) rfl (by kernel_rfl) (by kernel_rfl) (by kernel_rfl) (fun _ _ _ h => h) (Or.inl ⟨by rfl, fun wx _ => by go_simp⟩) trivial ?_
      simp only [Act.put, List.setIfInBounds_toArray, List.set_cons_zero, List.set_cons_succ]
      refine wpAnyH_take (i := 9) (oi := { dst := some 61, op := Op.binOp BinOp.mul 3 (Operand.tmp 60) (Operand.const (Value.int IntKind.i64 7)) 3, type := 3, pos := "keep.go:327", after := #[{ on := 8, ground := Ground.data }], guard := none }) (v := .int .i64 ((k : Int) * 7)) rfl (by kernel_rfl) (by kernel_rfl) (by kernel_rfl) (fun _ _ _ h => h) (Or.inl ⟨by rfl, fun wx _ => by go_simp⟩) trivial ?_
      simp only [Act.put, List.setIfInBounds_toArray, List.set_cons_zero, List.set_cons_succ]
      refine wpAnyH_ready (rs := [6, 10]) (by kernel_rfl) (by decide) (AllReadyH.cons (o := { dst := some 58, op := Op.buildSlice 54 3 #[(0, Operand.tmp 55), (1, Operand.tmp 57), (2, Operand.const (Value.int IntKind.u8 107))], type := 54, pos := "keep.go:327", after := #[{ on := 3, ground := Ground.data }, { on := 5, ground := Ground.data }], guard := none }) rfl (fun K hK => ?_) (AllReadyH.cons (o := { dst := some 62, op := Op.call { callee := Callee.value (Operand.func 16), args := #[Operand.tmp 61, Operand.const (Value.int IntKind.i64 100)], argTypes := #[3, 3] }, type := 3, pos := "keep.go:327", after := #[{ on := 9, ground := Ground.data }], guard := none }) rfl (fun K hK => ?_) (AllReadyH.nil)))
      · rw [if_pos (by rfl)]
        go_simp
        obtain ⟨Wn0, hWn0⟩ : ∃ W, (wr.alloc (.cells #[.int .u8 (k0 : Nat), .int .u8 (k : Nat), .int .u8 107] 5)).drew = W := ⟨_, rfl⟩
        rw [hWn0]
        have n0 : Wn0.cell? ⟨wr.heap.size, 0, none⟩ = some (.int .u8 (k0 : Nat)) ∧ Wn0.cell? ⟨wr.heap.size, 1, none⟩ = some (.int .u8 (k : Nat)) ∧ Wn0.cell? ⟨wr.heap.size, 2, none⟩ = some (.int .u8 107) := by rw [← hWn0]; exact cells_new3 wr _ _ _ _
        have HSn0 : Hid (Sol bt bp bd bm N1 up V1 T1 w Wn0) := by rw [← hWn0]; exact HS.out.below ((Below.refl _ wr).alloc (Nat.le_refl _) _).drew
        have lb0 : wr.heap.size ≠ bp ∧ wr.heap.size ≠ bm := by have := HS.out.tw.lt; omega
        refine hK.out _ _ trivial (fun _ => ?_)
        clear hK K hWn0
        try simp only [Act.put, List.setIfInBounds_toArray, List.set_cons_zero, List.set_cons_succ]
        refine wpAnyH_strong (S' := fun wx => wx.cell? ⟨wr.heap.size, 0, none⟩ = some (.int .u8 (k0 : Nat)) ∧ wx.cell? ⟨wr.heap.size, 1, none⟩ = some (.int .u8 (k : Nat)) ∧ wx.cell? ⟨wr.heap.size, 2, none⟩ = some (.int .u8 107)) (fun _ _ => trivial) _ _ _ _ ?_
        refine wpAnyH_take (i := 7) (oi := { dst := some 59, op := Op.convert 54 9 (Operand.tmp 58), type := 9, pos := "keep.go:327", after := #[{ on := 6, ground := Ground.data }], guard := none }) (v := .string KB) rfl (by kernel_rfl) (by kernel_rfl) (by kernel_rfl) (fun _ _ _ h => h) (Or.inl ⟨by rfl, fun wx h => by have h8 := hcv wx wr.heap.size h.1 h.2.1 h.2.2; go_simp⟩) n0 ?_
        simp only [Act.put, List.setIfInBounds_toArray, List.set_cons_zero, List.set_cons_succ]
        refine wpAnyH_ready (rs := [10]) (by kernel_rfl) (by decide) (AllReadyH.cons (o := { dst := some 62, op := Op.call { callee := Callee.value (Operand.func 16), args := #[Operand.tmp 61, Operand.const (Value.int IntKind.i64 100)], argTypes := #[3, 3] }, type := 3, pos := "keep.go:327", after := #[{ on := 9, ground := Ground.data }], guard := none }) rfl (fun K hK => ?_) (AllReadyH.nil))
        rw [if_pos (by rfl)]
        go_simp
        refine ((show ∀ wx, Calls _ _ _ wx _ from HPM.out) _).mono ?_
        rintro _ wq ⟨rfl, hwq⟩
        subst wq
        refine hK.out _ _ (n0) (fun _ => ?_)
        clear hK K
        try simp only [Act.put, List.setIfInBounds_toArray, List.set_cons_zero, List.set_cons_succ]
        refine wpAnyH_ready (rs := [11]) (by kernel_rfl) (by decide) (AllReadyH.cons (o := { dst := some 63, op := Op.call { callee := Callee.value (Operand.func 18), args := #[Operand.const (Value.string { data := #[105] }), Operand.tmp 62], argTypes := #[9, 3] }, type := 9, pos := "keep.go:327", after := #[{ on := 10, ground := Ground.data }, { on := 10, ground := Ground.chain }], guard := none }) rfl (fun K hK => ?_) (AllReadyH.nil))
        rw [if_pos (by rfl)]
        go_simp
        refine (rep_any 105 m (by omega) _).mono ?_
        rintro _ Wn2 ⟨rfl, hbWn2⟩
        have HSn2 : Hid (Sol bt bp bd bm N1 up V1 T1 w Wn2) := HSn0.out.below hbWn2
        have n2 : _ := And.intro (keepc hbWn2 n0.1) (And.intro (keepc hbWn2 n0.2.1) (keepc hbWn2 n0.2.2))
        refine hK.out _ _ n2 (fun _ => ?_)
        clear hK K hbWn2
        try simp only [Act.put, List.setIfInBounds_toArray, List.set_cons_zero, List.set_cons_succ]
        refine wpAnyH_ready (rs := [12]) (by kernel_rfl) (by decide) (AllReadyH.cons (o := { dst := some 64, op := Op.call { callee := Callee.value (Operand.func 17), args := #[Operand.tmp 52, Operand.tmp 59, Operand.tmp 63], argTypes := #[49, 9, 9] }, type := 26, pos := "keep.go:327", after := #[{ on := 0, ground := Ground.data }, { on := 7, ground := Ground.data }, { on := 11, ground := Ground.data }, { on := 11, ground := Ground.chain }], guard := none }) rfl (fun K hK => ?_) (AllReadyH.nil))
        rw [if_pos (by rfl)]
        go_simp
        refine (sol_put HSn2.out ⟨KB, rep 105 m⟩ HOK.out (by have := HSX.out; omega) (by omega)).mono ?_
        rintro _ wz ⟨rfl, V2, N2, T2, hn2, hsz2, hs2, ho2⟩
        have HS2 : Hid (Sol bt bp bd bm N2 up V2 T2 w wz) := hs2
        have HSZ2 : Hid (szL T2.all ≤ 104 * (k + 1)) := by have h8 := HSX.out; have h9 : szL T2.all ≤ szL T1.all + Pr.sz ⟨KB, rep 105 m⟩ := hsz2; show _ ≤ _; omega
        have hcell : ∀ o v, Wn2.cell? ⟨wr.heap.size, o, none⟩ = some v → wz.cell? ⟨wr.heap.size, o, none⟩ = some v := fun o v hc => (ho2.cell (World.block_lt_of_cell? _ _ hc) (fun e => by rcases e with e | e; exact lb0.1 e; exact lb0.2 e) o).trans hc
        refine hK.out _ _ ⟨hcell _ _ n2.1, hcell _ _ n2.2.1, hcell _ _ n2.2.2⟩ (fun g9 => ?_)
        clear hK K hs2 hsz2 ho2 hcell
        try simp only [Act.put, List.setIfInBounds_toArray, List.set_cons_zero, List.set_cons_succ]
        refine wpAnyH_take (i := 13) (oi := { dst := some 65, op := Op.binOp BinOp.neq 26 (Operand.tmp 64) (Operand.const Value.nilIface) 26, type := 4, pos := "keep.go:327", after := #[{ on := 12, ground := Ground.data }], guard := none }) (v := .bool false) rfl (by kernel_rfl) (by kernel_rfl) (by kernel_rfl) (fun _ _ _ h => h) (Or.inl ⟨by rfl, fun wx _ => by go_simp⟩) g9 ?_
        simp only [Act.put, List.setIfInBounds_toArray, List.set_cons_zero, List.set_cons_succ]
        refine wpAnyH_done (by kernel_rfl) ?_ _
        clear g9 n2
        go_wp2_with fail
        go_roundw
        case rel => exact ⟨k + 1, N2, V2, T2, by omega, by go_num, by omega, HSZ2, HS2⟩
        case measure => simp [intOf]; omega
      · rw [if_pos (by rfl)]
        go_simp
        refine ((show ∀ wx, Calls _ _ _ wx _ from HPM.out) _).mono ?_
        rintro _ wq ⟨rfl, hwq⟩
        subst wq
        refine hK.out _ _ (trivial) (fun _ => ?_)
        clear hK K
        try simp only [Act.put, List.setIfInBounds_toArray, List.set_cons_zero, List.set_cons_succ]
        refine wpAnyH_ready (rs := [6, 11]) (by kernel_rfl) (by decide) (AllReadyH.cons (o := { dst := some 58, op := Op.buildSlice 54 3 #[(0, Operand.tmp 55), (1, Operand.tmp 57), (2, Operand.const (Value.int IntKind.u8 107))], type := 54, pos := "keep.go:327", after := #[{ on := 3, ground := Ground.data }, { on := 5, ground := Ground.data }], guard := none }) rfl (fun K hK => ?_) (AllReadyH.cons (o := { dst := some 63, op := Op.call { callee := Callee.value (Operand.func 18), args := #[Operand.const (Value.string { data := #[105] }), Operand.tmp 62], argTypes := #[9, 3] }, type := 9, pos := "keep.go:327", after := #[{ on := 10, ground := Ground.data }, { on := 10, ground := Ground.chain }], guard := none }) rfl (fun K hK => ?_) (AllReadyH.nil)))
        · rw [if_pos (by rfl)]
          go_simp
          obtain ⟨Wn5, hWn5⟩ : ∃ W, (wr.alloc (.cells #[.int .u8 (k0 : Nat), .int .u8 (k : Nat), .int .u8 107] 5)).drew = W := ⟨_, rfl⟩
          rw [hWn5]
          have n5 : Wn5.cell? ⟨wr.heap.size, 0, none⟩ = some (.int .u8 (k0 : Nat)) ∧ Wn5.cell? ⟨wr.heap.size, 1, none⟩ = some (.int .u8 (k : Nat)) ∧ Wn5.cell? ⟨wr.heap.size, 2, none⟩ = some (.int .u8 107) := by rw [← hWn5]; exact cells_new3 wr _ _ _ _
          have HSn5 : Hid (Sol bt bp bd bm N1 up V1 T1 w Wn5) := by rw [← hWn5]; exact HS.out.below ((Below.refl _ wr).alloc (Nat.le_refl _) _).drew
          have lb5 : wr.heap.size ≠ bp ∧ wr.heap.size ≠ bm := by have := HS.out.tw.lt; omega
          refine hK.out _ _ trivial (fun _ => ?_)
          clear hK K hWn5
          try simp only [Act.put, List.setIfInBounds_toArray, List.set_cons_zero, List.set_cons_succ]
          refine wpAnyH_strong (S' := fun wx => wx.cell? ⟨wr.heap.size, 0, none⟩ = some (.int .u8 (k0 : Nat)) ∧ wx.cell? ⟨wr.heap.size, 1, none⟩ = some (.int .u8 (k : Nat)) ∧ wx.cell? ⟨wr.heap.size, 2, none⟩ = some (.int .u8 107)) (fun _ _ => trivial) _ _ _ _ ?_
          refine wpAnyH_take (i := 7) (oi := { dst := some 59, op := Op.convert 54 9 (Operand.tmp 58), type := 9, pos := "keep.go:327", after := #[{ on := 6, ground := Ground.data }], guard := none }) (v := .string KB) rfl (by kernel_rfl) (by kernel_rfl) (by kernel_rfl) (fun _ _ _ h => h) (Or.inl ⟨by rfl, fun wx h => by have h8 := hcv wx wr.heap.size h.1 h.2.1 h.2.2; go_simp⟩) n5 ?_
          simp only [Act.put, List.setIfInBounds_toArray, List.set_cons_zero, List.set_cons_succ]
          refine wpAnyH_ready (rs := [11]) (by kernel_rfl) (by decide) (AllReadyH.cons (o := { dst := some 63, op := Op.call { callee := Callee.value (Operand.func 18), args := #[Operand.const (Value.string { data := #[105] }), Operand.tmp 62], argTypes := #[9, 3] }, type := 9, pos := "keep.go:327", after := #[{ on := 10, ground := Ground.data }, { on := 10, ground := Ground.chain }], guard := none }) rfl (fun K hK => ?_) (AllReadyH.nil))
          rw [if_pos (by rfl)]
          go_simp
          refine (rep_any 105 m (by omega) _).mono ?_
          rintro _ Wn6 ⟨rfl, hbWn6⟩
          have HSn6 : Hid (Sol bt bp bd bm N1 up V1 T1 w Wn6) := HSn5.out.below hbWn6
          have n6 : _ := And.intro (keepc hbWn6 n5.1) (And.intro (keepc hbWn6 n5.2.1) (keepc hbWn6 n5.2.2))
          refine hK.out _ _ n6 (fun _ => ?_)
          clear hK K hbWn6
          try simp only [Act.put, List.setIfInBounds_toArray, List.set_cons_zero, List.set_cons_succ]
          refine wpAnyH_ready (rs := [12]) (by kernel_rfl) (by decide) (AllReadyH.cons (o := { dst := some 64, op := Op.call { callee := Callee.value (Operand.func 17), args := #[Operand.tmp 52, Operand.tmp 59, Operand.tmp 63], argTypes := #[49, 9, 9] }, type := 26, pos := "keep.go:327", after := #[{ on := 0, ground := Ground.data }, { on := 7, ground := Ground.data }, { on := 11, ground := Ground.data }, { on := 11, ground := Ground.chain }], guard := none }) rfl (fun K hK => ?_) (AllReadyH.nil))
          rw [if_pos (by rfl)]
          go_simp
          refine (sol_put HSn6.out ⟨KB, rep 105 m⟩ HOK.out (by have := HSX.out; omega) (by omega)).mono ?_
          rintro _ wz ⟨rfl, V2, N2, T2, hn2, hsz2, hs2, ho2⟩
          have HS2 : Hid (Sol bt bp bd bm N2 up V2 T2 w wz) := hs2
          have HSZ2 : Hid (szL T2.all ≤ 104 * (k + 1)) := by have h8 := HSX.out; have h9 : szL T2.all ≤ szL T1.all + Pr.sz ⟨KB, rep 105 m⟩ := hsz2; show _ ≤ _; omega
          have hcell : ∀ o v, Wn6.cell? ⟨wr.heap.size, o, none⟩ = some v → wz.cell? ⟨wr.heap.size, o, none⟩ = some v := fun o v hc => (ho2.cell (World.block_lt_of_cell? _ _ hc) (fun e => by rcases e with e | e; exact lb5.1 e; exact lb5.2 e) o).trans hc
          refine hK.out _ _ ⟨hcell _ _ n6.1, hcell _ _ n6.2.1, hcell _ _ n6.2.2⟩ (fun g9 => ?_)
          clear hK K hs2 hsz2 ho2 hcell
          try simp only [Act.put, List.setIfInBounds_toArray, List.set_cons_zero, List.set_cons_succ]
          refine wpAnyH_take (i := 13) (oi := { dst := some 65, op := Op.binOp BinOp.neq 26 (Operand.tmp 64) (Operand.const Value.nilIface) 26, type := 4, pos := "keep.go:327", after := #[{ on := 12, ground := Ground.data }], guard := none }) (v := .bool false) rfl (by kernel_rfl) (by kernel_rfl) (by kernel_rfl) (fun _ _ _ h => h) (Or.inl ⟨by rfl, fun wx _ => by go_simp⟩) g9 ?_
          simp only [Act.put, List.setIfInBounds_toArray, List.set_cons_zero, List.set_cons_succ]
          refine wpAnyH_done (by kernel_rfl) ?_ _
          clear g9 n6
          go_wp2_with fail
          go_roundw
          case rel => exact ⟨k + 1, N2, V2, T2, by omega, by go_num, by omega, HSZ2, HS2⟩
          case measure => simp [intOf]; omega
        · rw [if_pos (by rfl)]
          go_simp
          refine (rep_any 105 m (by omega) _).mono ?_
          rintro _ Wn8 ⟨rfl, hbWn8⟩
          have HSn8 : Hid (Sol bt bp bd bm N1 up V1 T1 w Wn8) := (HS.out.below (Below.refl _ _).drew).below hbWn8
          refine hK.out _ _ trivial (fun _ => ?_)
          clear hK K hbWn8
          try simp only [Act.put, List.setIfInBounds_toArray, List.set_cons_zero, List.set_cons_succ]
          refine wpAnyH_ready (rs := [6]) (by kernel_rfl) (by decide) (AllReadyH.cons (o := { dst := some 58, op := Op.buildSlice 54 3 #[(0, Operand.tmp 55), (1, Operand.tmp 57), (2, Operand.const (Value.int IntKind.u8 107))], type := 54, pos := "keep.go:327", after := #[{ on := 3, ground := Ground.data }, { on := 5, ground := Ground.data }], guard := none }) rfl (fun K hK => ?_) (AllReadyH.nil))
          rw [if_pos (by rfl)]
          go_simp
          obtain ⟨Wn9, hWn9⟩ : ∃ W, Wn8.alloc (.cells #[.int .u8 (k0 : Nat), .int .u8 (k : Nat), .int .u8 107] 5) = W := ⟨_, rfl⟩
          rw [hWn9]
          have n9 : Wn9.cell? ⟨Wn8.heap.size, 0, none⟩ = some (.int .u8 (k0 : Nat)) ∧ Wn9.cell? ⟨Wn8.heap.size, 1, none⟩ = some (.int .u8 (k : Nat)) ∧ Wn9.cell? ⟨Wn8.heap.size, 2, none⟩ = some (.int .u8 107) := by rw [← hWn9]; exact cells_new3 Wn8 _ _ _ _
          have HSn9 : Hid (Sol bt bp bd bm N1 up V1 T1 w Wn9) := by rw [← hWn9]; exact HSn8.out.below ((Below.refl _ Wn8).alloc (Nat.le_refl _) _)
          have lb9 : Wn8.heap.size ≠ bp ∧ Wn8.heap.size ≠ bm := by have := HSn8.out.tw.lt; omega
          refine hK.out _ _ trivial (fun _ => ?_)
          clear hK K hWn9
          try simp only [Act.put, List.setIfInBounds_toArray, List.set_cons_zero, List.set_cons_succ]
          refine wpAnyH_strong (S' := fun wx => wx.cell? ⟨Wn8.heap.size, 0, none⟩ = some (.int .u8 (k0 : Nat)) ∧ wx.cell? ⟨Wn8.heap.size, 1, none⟩ = some (.int .u8 (k : Nat)) ∧ wx.cell? ⟨Wn8.heap.size, 2, none⟩ = some (.int .u8 107)) (fun _ _ => trivial) _ _ _ _ ?_
          refine wpAnyH_take (i := 7) (oi := { dst := some 59, op := Op.convert 54 9 (Operand.tmp 58), type := 9, pos := "keep.go:327", after := #[{ on := 6, ground := Ground.data }], guard := none }) (v := .string KB) rfl (by kernel_rfl) (by kernel_rfl) (by kernel_rfl) (fun _ _ _ h => h) (Or.inl ⟨by rfl, fun wx h => by have h8 := hcv wx Wn8.heap.size h.1 h.2.1 h.2.2; go_simp⟩) n9 ?_
          simp only [Act.put, List.setIfInBounds_toArray, List.set_cons_zero, List.set_cons_succ]
          refine wpAnyH_ready (rs := [12]) (by kernel_rfl) (by decide) (AllReadyH.cons (o := { dst := some 64, op := Op.call { callee := Callee.value (Operand.func 17), args := #[Operand.tmp 52, Operand.tmp 59, Operand.tmp 63], argTypes := #[49, 9, 9] }, type := 26, pos := "keep.go:327", after := #[{ on := 0, ground := Ground.data }, { on := 7, ground := Ground.data }, { on := 11, ground := Ground.data }, { on := 11, ground := Ground.chain }], guard := none }) rfl (fun K hK => ?_) (AllReadyH.nil))
          rw [if_pos (by rfl)]
          go_simp
          refine (sol_put HSn9.out ⟨KB, rep 105 m⟩ HOK.out (by have := HSX.out; omega) (by omega)).mono ?_
          rintro _ wz ⟨rfl, V2, N2, T2, hn2, hsz2, hs2, ho2⟩
          have HS2 : Hid (Sol bt bp bd bm N2 up V2 T2 w wz) := hs2
          have HSZ2 : Hid (szL T2.all ≤ 104 * (k + 1)) := by have h8 := HSX.out; have h9 : szL T2.all ≤ szL T1.all + Pr.sz ⟨KB, rep 105 m⟩ := hsz2; show _ ≤ _; omega
          have hcell : ∀ o v, Wn9.cell? ⟨Wn8.heap.size, o, none⟩ = some v → wz.cell? ⟨Wn8.heap.size, o, none⟩ = some v := fun o v hc => (ho2.cell (World.block_lt_of_cell? _ _ hc) (fun e => by rcases e with e | e; exact lb9.1 e; exact lb9.2 e) o).trans hc
          refine hK.out _ _ ⟨hcell _ _ n9.1, hcell _ _ n9.2.1, hcell _ _ n9.2.2⟩ (fun g9 => ?_)
          clear hK K hs2 hsz2 ho2 hcell
          try simp only [Act.put, List.setIfInBounds_toArray, List.set_cons_zero, List.set_cons_succ]
          refine wpAnyH_take (i := 13) (oi := { dst := some 65, op := Op.binOp BinOp.neq 26 (Operand.tmp 64) (Operand.const Value.nilIface) 26, type := 4, pos := "keep.go:327", after := #[{ on := 12, ground := Ground.data }], guard := none }) (v := .bool false) rfl (by kernel_rfl) (by kernel_rfl) (by kernel_rfl) (fun _ _ _ h => h) (Or.inl ⟨by rfl, fun wx _ => by go_simp⟩) g9 ?_
          simp only [Act.put, List.setIfInBounds_toArray, List.set_cons_zero, List.set_cons_succ]
          refine wpAnyH_done (by kernel_rfl) ?_ _
          clear g9 n9
          go_wp2_with fail
          go_roundw
          case rel => exact ⟨k + 1, N2, V2, T2, by omega, by go_num, by omega, HSZ2, HS2⟩
          case measure => simp [intOf]; omega
    · have h1 : ¬ (k : Int) < (mn : Int) := by omega
      have HN1 : Hid (N1 ≤ 10000) := by show _ ≤ _; omega
      clear hN1 HSZ HPK hmnl
      obtain ⟨wf, hwf⟩ : ∃ wf, wf = wr := ⟨_, rfl⟩
      rw [← hwf] at HS
      rw [← hwf]
      clear hwf
      obtain ⟨e0, _, hrow⟩ := HR0.out
      have HRW : Hid _ := hrow
      have HE0 : Hid _ := e0
      clear e0 hrow
      go_wp2_with fail
      go_loopw [11] (fun i wr => ∃ (j N2 : Nat) (V2 : Pst) (T2 : Tr), j ≤ l0 ∧ i = .int .i64 (j : Nat) ∧ N2 ≤ 10000 + 40 * j ∧ Hid (Sol bt bp bd bm N2 up V2 T2 w wr)) (fun i _ => l0 + 1 - (intOf i).toNat)
      case atStart => exact ⟨0, N1, V1, T1, Nat.zero_le _, rfl, HN1.out, HS⟩
      case round =>
        clear HS HN1
        obtain ⟨j, N2, V2, T2, hj, rfl, hN2, HS⟩ := hrel
        by_cases hjl : j < l0
        · have h2 : (j : Int) < (l0 : Int) := by omega
          have hjx : j < xs.length := by have := HE0.out; omega
          rcases HRW.out with hn | ⟨b, off, had, hbl, hc⟩
          · rw [hn] at hjx; simp at hjx
          subst had
          obtain ⟨d0, d1, d2⟩ := hc j hjx
          have q0 := (HS.out.b0.cell (p := ⟨b, off + j * 3, none⟩) hbl).trans d0
          have q1 := (HS.out.b0.cell (p := ⟨b, off + j * 3 + 1, none⟩) hbl).trans d1
          have q2 := (HS.out.b0.cell (p := ⟨b, off + j * 3 + 2, none⟩) hbl).trans d2
          have hix := index_three Try.underlying48 elem48 size57 b off l0 c0 j hjl
          have hcn := HS.out.count
          have hlp := HS.out.lp
          have hlm := HS.out.lm
          clear d0 d1 d2 hc
          generalize xs[j].q = xq at *
          generalize xs[j].k = xk at *
          generalize xs[j].i = xi at *
          by_cases hq : xq = 0
          · subst hq
            have C0 : Hid (wr.drew.cell? ⟨b, off + j * 3 + 1, none⟩ = some (.string xk) ∧ wr.drew.cell? ⟨b, off + j * 3 + 2, none⟩ = some (.string xi)) := ⟨q1, q2⟩
            have HSd : Hid (Sol bt bp bd bm N2 up V2 T2 w wr.drew) := HS.out.below (Below.refl _ _).drew
            clear q1 q2
            go_wp2_with fail
            go_region_held3 (fun wx => wx.cell? ⟨b, off + j * 3 + 1, none⟩ = some (.string xk) ∧ wx.cell? ⟨b, off + j * 3 + 2, none⟩ = some (.string xi)) (first | exact C0.out | exact C1.out) (first | (go_at_call 17; refine (putx_any HSd.out.t HSd.out.tw HSd.out.ne HSd.out.a xk xi (by omega) (by omega)).mono ?_; rintro _ w5 ⟨u5, rfl, hs5⟩; obtain ⟨V5, N5, T5, hn5, _, hso5, ho5⟩ := sol_any HSd.out hs5; have HS5 : Hid (Sol bt bp bd bm N5 up V5 T5 w w5) := hso5; have C1 : Hid (w5.cell? ⟨b, off + j * 3 + 1, none⟩ = some (.string xk) ∧ w5.cell? ⟨b, off + j * 3 + 2, none⟩ = some (.string xi)) := ⟨(ho5.cell (World.block_lt_of_cell? _ _ C0.out.1) (fun e => by rcases e with e | e; (have e' : b = bp := e; omega); (have e' : b = bm := e; omega)) _).trans C0.out.1, (ho5.cell (World.block_lt_of_cell? _ _ C0.out.2) (fun e => by rcases e with e | e; (have e' : b = bp := e; omega); (have e' : b = bm := e; omega)) _).trans C0.out.2⟩; clear hs5 hso5 ho5))
            go_wp2_with fail
            refine (lean_any HS5.out.t HS5.out.tw HS5.out.a HS5.out.so).mono ?_
            rintro _ w6 ⟨rfl, hb6⟩
            have HS6 : Hid _ := HS5.out.below hb6
            clear hb6 HS5
            go_wp2_with fail
            go_roundw
            case rel => exact ⟨j + 1, N5, V5, T5, by omega, by go_num, by omega, HS6⟩
            case measure => simp [intOf]; omega
          · have hqb : (xq == 0) = false := by simpa using hq
            go_wp2_with fail
            refine (dropx_any HS.out.t HS.out.tw HS.out.ne HS.out.a xk (by omega) (by omega)).mono ?_
            rintro _ w5 ⟨u5, rfl, hs5⟩
            obtain ⟨V5, N5, T5, hn5, _, hso5, ho5⟩ := sol_any HS.out hs5
            have HS5 : Hid (Sol bt bp bd bm N5 up V5 T5 w w5) := hso5
            clear hs5 hso5 ho5 q0 q1 q2
            go_wp2_with fail
            refine (lean_any HS5.out.t HS5.out.tw HS5.out.a HS5.out.so).mono ?_
            rintro _ w6 ⟨rfl, hb6⟩
            have HS6 : Hid _ := HS5.out.below hb6
            clear hb6 HS5
            go_wp2_with fail
            go_roundw
            case rel => exact ⟨j + 1, N5, V5, T5, by omega, by go_num, by omega, HS6⟩
            case measure => simp [intOf]; omega
        · have h2 : ¬ (j : Int) < (l0 : Int) := by omega
          have HN2 : Hid (N2 + 40 * T2.all.length ≤ 700000) := by
            show _ ≤ _
            have h8 := len2_szL T2.all
            have h9 : szL T2.all ≤ 30000 := HS.out.a.ok.sum
            omega
          obtain ⟨wg, hwg⟩ : ∃ wg, wg = wr := ⟨_, rfl⟩
          rw [← hwg] at HS
          rw [← hwg]
          clear hwg hN2 HRW HE0
          go_wp2_with fail
          go_loopg [] (T2.all.length) (fun gn wr => ∃ (N3 : Nat) (V3 : Pst) (T3 : Tr), Hid (T3.all.length = gn) ∧ N3 + 40 * gn ≤ 700000 ∧ Hid (Sol bt bp bd bm N3 up V3 T3 w wr))
          case atStart => exact ⟨N2, V2, T2, rfl, HN2.out, HS⟩
          case round =>
            clear HS HN2
            obtain ⟨N3, V3, T3, HLN, hN3, HS⟩ := hrel
            go_wp2_with fail
            refine (walk_all _ HS.out.t HS.out.tw HS.out.a).mono ?_
            rintro _ w5 ⟨v, rfl, hR5, hb5⟩
            have hfv : ∃ a c, v = .slice a gk c := by
              rcases hR5.2 with ⟨e, e2⟩ | ⟨g, cap, cur, e, _⟩
              · exact ⟨none, 0, by rw [e, ← HLN.out, e2]⟩
              · exact ⟨_, cap, by rw [e, HLN.out]⟩
            obtain ⟨a9, c9, hv9⟩ := hfv
            subst hv9
            have HR5 : Hid (PRow wr.heap.size (.slice a9 gk c9) T3.all w5) := hR5
            have HS5 : Hid (Sol bt bp bd bm N3 up V3 T3 w w5) := HS.out.below hb5
            have hltw := HS.out.tw.lt
            have hgk : gk ≤ 20000 := by omega
            obtain ⟨B5, hB5⟩ : ∃ B, wr.heap.size = B := ⟨_, rfl⟩
            rw [hB5] at HR5 hltw
            clear hR5 hb5 HS hB5
            rcases Nat.eq_zero_or_pos gk with hz | hp
            · have hzi : (gk : Int) = 0 := by omega
              have HAL : Hid (T3.all = []) := List.length_eq_zero_iff.1 (by rw [HLN.out]; exact hz)
              have HLS : Hid (T3.Ls = []) := HS5.out.a.none_of HAL.out
              have HPG : Hid (T3.pages = 0 ∧ T3.deep = 0) := by
                show _ ∧ _
                unfold Tr.pages Tr.deep
                rw [HLS.out]
                exact ⟨rfl, rfl⟩
              have HCU : Hid (countU V3.used 2000 = 0) := by show _ = _; rw [HS5.out.so.count HS5.out.a]; exact HPG.out.1
              have HRN : Hid (V3.rn 1 = (0 : Nat)) := by show _ = _; rw [HS5.out.a.rn, HAL.out]; rfl
              clear hz
              go_wp2_with fail
              refine (shape_any HS5.out.t HS5.out.tw HS5.out.a).mono ?_
              rintro _ w6 ⟨rfl, hb6⟩
              rw [HPG.out.1, HPG.out.2]
              have HS6 : Hid _ := HS5.out.below hb6
              clear hb6 HS5
              go_wp2_with fail
              refine (tw_used HS6.out.tw).mono ?_
              rintro _ w7 ⟨rfl, hw7⟩
              subst w7
              rw [HCU.out]
              go_wp2_with fail
              refine (sum_any HS6.out.t HS6.out.tw).mono ?_
              rintro _ w7 ⟨rfl, hb7⟩
              rw [HRN.out]
              have HB7 : Hid (Below w.heap.size w w7) := HS6.out.b0.trans (hb7.mono HS6.out.b0.size)
              clear hb7
              go_wp2
              go_ret
              exact ⟨rfl, HB7.out⟩
            · have hzi : ¬ (gk : Int) = 0 := by omega
              obtain ⟨kk, hkk⟩ : ∃ k, pk order gk = k := ⟨_, rfl⟩
              have hkl : kk < gk := by rw [← hkk]; exact pk_lt _ _ hp
              have HPM : Hid (∀ wx, Calls Try.prog 16 #[.int .i64 order, .int .i64 (gk : Nat)] wx fun e w' => e = .returned (.int .i64 (kk : Nat)) ∧ w' = wx) := fun wx => by rw [← hkk]; exact pick_any order gk hp (by omega) wx
              clear hkk
              go_wp2_with fail
              refine ((show ∀ wx, Calls _ _ _ wx _ from HPM.out) _).mono ?_
              rintro _ wq ⟨rfl, hwq⟩
              subst wq
              have HT0 : Hid (T3.all = T3.all.take kk ++ T3.all.drop (kk + 0)) := (List.take_append_drop _ _).symm
              go_wp2_with fail
              go_loopw [15] (fun i wx => ∃ (j N4 : Nat) (V4 : Pst) (T4 : Tr), j ≤ 9 ∧ kk + j ≤ gk ∧ i = .int .i64 (j : Nat) ∧ N4 ≤ N3 + 40 * j ∧ Hid (T4.all = T3.all.take kk ++ T3.all.drop (kk + j)) ∧ Hid (Sol bt bp bd bm N4 up V4 T4 w wx) ∧ Hid (PRow B5 (.slice a9 gk c9) T3.all wx)) (fun i _ => 10 - (intOf i).toNat)
              case atStart => exact ⟨0, N3, V3, T3, by omega, by omega, rfl, by omega, HT0, HS5, HR5⟩
              case round =>
                clear HT0 HS5 HR5
                obtain ⟨j, N4, V4, T4, hj9, hjg, rfl, hN4, HT4, HS4, HR4⟩ := hrel
                by_cases hc9 : j < 9
                · have i9 : (j : Int) < 9 := by omega
                  by_cases hcg : kk + j < gk
                  · have ig : (kk : Int) + (j : Int) < (gk : Int) := by omega
                    have hkj : kk + j < T3.all.length := by rw [HLN.out]; exact hcg
                    obtain ⟨g, hg, k1, _, hix⟩ := HR4.out.at hkj
                    have hix2 : ∀ wx, (Instr.indexAt 60 (.slice a9 gk c9) (.int .i64 ((kk : Int) + (j : Int)))).run Try.prog wx = .ok (.pointer (some ⟨g, 2 * (kk + j), none⟩)) wx := fun wx => by rw [← Int.natCast_add]; exact hix wx
                    have HAL : Hid (T4.all = T3.all.take kk ++ [T3.all[kk + j]] ++ T3.all.drop (kk + (j + 1))) := by
                      show _ = _
                      rw [HT4.out, List.drop_eq_getElem_cons hkj, List.append_assoc]
                      rfl
                    have HSD : Hid _ := sol_drop HS4.out HAL.out (by omega)
                    generalize T3.all[kk + j] = y at k1 HAL HSD
                    clear hix
                    go_wp2_with fail
                    refine (show Calls _ _ _ _ _ from HSD.out).mono ?_
                    rintro _ w7 ⟨rfl, V7, N7, T7, hn7, hal7, hs7, ho7⟩
                    have HS7 : Hid (Sol bt bp bd bm N7 up V7 T7 w w7) := hs7
                    have HT7 : Hid (T7.all = T3.all.take kk ++ T3.all.drop (kk + (j + 1))) := hal7
                    have HR7 : Hid (PRow B5 (.slice a9 gk c9) T3.all w7) := row_only HR4.out ho7 (fun b e => by rcases e with e | e <;> omega)
                    clear hs7 hal7 ho7 HSD HAL k1 HS4 HT4 HR4
                    go_wp2_with fail
                    go_roundw
                    case rel => exact ⟨j + 1, N7, V7, T7, by omega, by omega, by go_num, by omega, HT7, HS7, HR7⟩
                    case measure => simp [intOf]; omega
                  · have ig : ¬ (kk : Int) + (j : Int) < (gk : Int) := by omega
                    have HL4 : Hid (T4.all.length = gk - j) := by show _ = _; rw [HT4.out, List.length_append, List.length_take, List.length_drop, HLN.out]; omega
                    go_wp2_with fail
                    refine (lean_any HS4.out.t HS4.out.tw HS4.out.a HS4.out.so).mono ?_
                    rintro _ w8 ⟨rfl, hb8⟩
                    have HS8 : Hid _ := HS4.out.below hb8
                    clear hb8 HS4
                    go_wp2_with fail
                    go_roundg (gk - j)
                    case rel => exact ⟨N4, V4, T4, HL4, by omega, HS8⟩
                    case measure => omega
                · have i9 : ¬ (j : Int) < 9 := by omega
                  have HL4 : Hid (T4.all.length = gk - j) := by show _ = _; rw [HT4.out, List.length_append, List.length_take, List.length_drop, HLN.out]; omega
                  go_wp2_with fail
                  refine (lean_any HS4.out.t HS4.out.tw HS4.out.a HS4.out.so).mono ?_
                  rintro _ w8 ⟨rfl, hb8⟩
                  have HS8 : Hid _ := HS4.out.below hb8
                  clear hb8 HS4
                  go_wp2_with fail
                  go_roundg (gk - j)
                  case rel => exact ⟨N4, V4, T4, HL4, by omega, HS8⟩
                  case measure => omega
end Go.Proofs.Ytjcddeoihjppaaa
