/- Lists of values written as bytes: the contracts of appendNumber and appendValue. -/
import Derived.Test.YtkbnbkhloajmbaaDoorVals
import Derived.Lib.AppendStr
namespace Go.Proofs.YtkbnbkhloajmbaaDoor
open Go.RowKit

/-- bytes, as cells -/
def bc (l : List UInt8) : List Value := l.map fun b => Value.int .u8 b.toNat

theorem info5 : (Tryd.prog.info? 5).map (fun i => (i.zero, i.size, i.bytes)) = some (some (.int .u8 0), 1, 1) := by kernel_rfl

/-- the first k bytes of a number that is written in eight -/
def numK (u : Nat) (k : Nat) : List UInt8 := (List.range k).map fun i => UInt8.ofNat (u / 256 ^ (7 - i))

/-- a number, shifted so that it isn't below 0 -/
def shifted (n : Int) : Nat := (n + 9223372036854775808).toNat

theorem shifted_wrap (n : Int) (h1 : -9223372036854775808 ≤ n) (h2 : n ≤ 9223372036854775807) : IntKind.u64.wrap (IntKind.u64.wrap n + 9223372036854775808) = (shifted n : Int) := by
  unfold shifted
  simp [IntKind.wrap, IntKind.signed, IntKind.bits]
  omega

theorem numK_length (u k : Nat) : (numK u k).length = k := by simp [numK]
theorem bc_append (a b : List UInt8) : bc (a ++ b) = bc a ++ bc b := by simp [bc]
theorem numK_succ (u k : Nat) : numK u (k + 1) = numK u k ++ [UInt8.ofNat (u / 256 ^ (7 - k))] := by simp [numK, List.range_succ]
theorem own_eq {w : World} {B : Nat} {v : Value} {n n' : Nat} {xs xs' : List Value} (h : w.ownsRow B 5 1 v n xs) (hn : n = n') (hx : xs = xs') : w.ownsRow B 5 1 v n' xs' := by rw [← hn, ← hx]; exact h
theorem byte_cell (u k : Nat) : bc [UInt8.ofNat (u / 256 ^ (7 - k))] = [.int .u8 ((u : Int) / 2 ^ (8 * (7 - k)) % 256)] := by
  have e : (2 : Int) ^ (8 * (7 - k)) = ((256 ^ (7 - k) : Nat) : Int) := by rw [Int.pow_mul]; simp
  simp only [bc, List.map_cons, List.map_nil]
  rw [e]
  congr 2

set_option maxRecDepth 100000 in
set_option maxHeartbeats 400000 in
theorem appendNumber_any (B : Nat) (v : Value) (l : List UInt8) (n : Int) (w : World) (hown : w.ownsRow B 5 1 v l.length (bc l)) (hB : B ≤ w.heap.size) (hl : l.length ≤ 1000000) (h1 : -9223372036854775808 ≤ n) (h2 : n ≤ 9223372036854775807) :
    Calls Tryd.prog 21 #[v, .int .i64 n] w fun e w' => ∃ v', e = .returned v' ∧ w'.ownsRow B 5 1 v' (l ++ numK (shifted n) 8).length (bc (l ++ numK (shifted n) 8)) ∧ Below B w w' := by
  obtain ⟨i0, hi, hz0, hz1, hz2⟩ := info_parts info5
  have HW : Hid _ := shifted_wrap n h1 h2
  clear h1 h2
  generalize shifted n = u at *
  go_enter Tryd.func21, Tryd.ntmps21
  go_wp2
  rw [HW.out]
  clear HW
  go_loopw [0, 10] (fun v i wr => ∃ k : Nat, k ≤ 8 ∧ i = .int .i64 k ∧ wr.ownsRow B 5 1 v (l ++ numK u k).length (bc (l ++ numK u k)) ∧ Below B w wr) (fun _ i _ => 8 - (intOf i).toNat)
  case atStart => exact ⟨0, by omega, rfl, by simpa [numK] using hown, Below.refl _ _⟩
  case round =>
    clear hown
    obtain ⟨k, hk, rfl, hown, hbl⟩ := hrel
    by_cases hlt : k < 8
    · have hlt' : (k : Int) < 8 := by omega
      have hlen := numK_length u k
      go_wp2_with (at_builtin; refine wpList_append_own _ rfl _ _ 44 rfl B 5 i0 (.int .u8 0) 1 1 Tryd.underlying44 hi hz0 hz1 hz2 rfl (by decide) _ _ _ rfl (hown.alloc _) ⟨wr.heap.size, 0, none⟩ 1 1 [.int .u8 ((u : Int) / 2 ^ (8 * (7 - k)) % 256)] rfl rfl ?c1 ?c2 ?c3 ?c4 ?c5 ?_)
      case c1 => exact cell_one_new _ _ _
      case c2 => intro x hx; simp at hx; subst hx; rfl
      case c3 => simp [hlen, maxLen]; omega
      case c4 => simp [hlen]; omega
      case c5 => have := hbl.size; simp; omega
      · intro v' w1 hown' hgrow _
        have hbl' := hbl.size
        have hb1 : Below B w w1 := (hbl.alloc (by omega) _).grown hgrow (by simp; omega) (fun g hg => (hown.lt g hg).1)
        have hown2 : w1.ownsRow B 5 1 v' (l ++ numK u (k + 1)).length (bc (l ++ numK u (k + 1))) :=
          own_eq hown' (by simp [numK_length, Nat.add_assoc]) (by rw [numK_succ, ← List.append_assoc, bc_append (l ++ numK u k), byte_cell])
        clear hown hgrow hown' hbl
        go_wp2
        go_roundw
        case rel => exact ⟨k + 1, by omega, by go_num, hown2, hb1⟩
        case measure => simp [intOf]; omega
    · go_wp2
      go_ret
      have : k = 8 := by omega
      subst this
      exact ⟨_, rfl, hown, hbl⟩

/-- a value as bytes -/
def enc1 (k n : Int) (s : ByteArray) : List UInt8 :=
  if k = 1 then 2 :: numK (shifted n) 8 else if k = 2 then 3 :: (s.data.toList ++ [0]) else [1]

theorem strCells_bc (s : ByteArray) : Lib.strCells s = bc s.data.toList := by simp [Lib.strCells, bc]

theorem grown_cell {W W' : World} {row : Option Nat} (hg : W.grownBy W' row) (b o : Nat) (h : b < W.heap.size) (hne : row ≠ some b) : W'.cell? ⟨b, o, none⟩ = W.cell? ⟨b, o, none⟩ :=
  World.cell?_of_block (w := W) (hg.block b h (fun e => hne e.symm))

/-- what stands behind the first append: the row, the box of the value, the frame -/
theorem first_step {B : Nat} {v : Value} {l : List UInt8} {w w1 : World} {v1 : Value} {c : UInt8} {k n : Int} {s : ByteArray} (hown : w.ownsRow B 5 1 v l.length (bc l)) (hB : B ≤ w.heap.size)
    (hown1 : w1.ownsRow B 5 1 v1 (l.length + 1) (bc l ++ [.int .u8 c.toNat])) (hg : ((w.alloc (.cells #[.int .i64 k, .int .i64 n, .string s] 42)).alloc (.cells #[.int .u8 c.toNat] 5)).grownBy w1 v.ownBlock) :
    w1.ownsRow B 5 1 v1 (l ++ [c]).length (bc (l ++ [c])) ∧ Below B w w1 ∧ B ≤ w1.heap.size ∧ w.heap.size < w1.heap.size ∧ w1.cell? ⟨w.heap.size, 0, none⟩ = some (.int .i64 k) ∧ w1.cell? ⟨w.heap.size, 1, none⟩ = some (.int .i64 n) ∧ w1.cell? ⟨w.heap.size, 2, none⟩ = some (.string s) := by
  have hb : Below B w w1 := (((Below.refl B w).alloc hB _).alloc (by simp; omega) _).grown hg (by simp; omega) (fun g h => (hown.lt g h).1)
  have hs := hb.size
  have hsz := hg.size
  simp at hsz
  have hne : v.ownBlock ≠ some w.heap.size := fun e => by have := (hown.lt _ e).2; omega
  have hc : ∀ o, w1.cell? ⟨w.heap.size, o, none⟩ = (w.alloc (.cells #[.int .i64 k, .int .i64 n, .string s] 42)).cell? ⟨w.heap.size, o, none⟩ := by
    intro o
    rw [grown_cell hg _ _ (by simp; omega) hne, World.cell?_alloc_lt _ _ _ (by simp)]
  refine ⟨own_eq hown1 (by simp) (by simp [bc]), hb, by omega, by omega, ?_, ?_, ?_⟩
  · rw [hc]; simp
  · rw [hc]; simp
  · rw [hc]; simp

theorem cell_next_new (w : World) (o : Obj) (x : Value) (t : TypeId) : ∀ j u, [x][j]? = some u → ((w.alloc o).alloc (.cells #[x] t)).cell? ((⟨w.heap.size + 1, 0, none⟩ : Addr).add j) = some u := by
  have h := cell_one_new (w.alloc o) x t
  have e : (w.alloc o).heap.size = w.heap.size + 1 := by simp
  rw [e] at h
  exact h

set_option maxRecDepth 100000 in
set_option maxHeartbeats 400000 in
theorem appendValue_0 (B : Nat) (v : Value) (l : List UInt8) (n : Int) (s : ByteArray) (w : World) (hown : w.ownsRow B 5 1 v l.length (bc l)) (hB : B ≤ w.heap.size) (hl : l.length ≤ 900000) :
    Calls Tryd.prog 14 #[v, .agg #[.int .i64 0, .int .i64 n, .string s]] w fun e w' => ∃ v', e = .returned v' ∧ w'.ownsRow B 5 1 v' (l ++ [1]).length (bc (l ++ [1])) ∧ Below B w w' := by
  obtain ⟨i0, hi, hz0, hz1, hz2⟩ := info_parts info5
  go_enter Tryd.func14, Tryd.ntmps14
  go_wp2_with (at_builtin; refine wpList_append_own _ rfl (.tmp 5) (.tmp 10) 44 rfl B 5 i0 (.int .u8 0) 1 1 Tryd.underlying44 hi hz0 hz1 hz2 rfl (by decide) _ _ _ rfl ((hown.alloc _).alloc _) ⟨w.heap.size + 1, 0, none⟩ 1 1 [.int .u8 1] rfl rfl ?c1 ?c2 ?c3 ?c4 ?c5 ?_)
  case c1 => exact cell_next_new _ _ _ _
  case c2 => intro x hx; simp at hx; subst hx; rfl
  case c3 => simp [maxLen]; omega
  case c4 => omega
  case c5 => simp; omega
  · intro v1 w1 hown1 hgrow _
    obtain ⟨ho, hb, hB1, hsz, q0, q1, q2⟩ := first_step (c := 1) hown hB hown1 hgrow
    clear hown hown1 hgrow
    go_wp2
    go_ret
    exact ⟨_, rfl, ho, hb⟩

set_option maxRecDepth 100000 in
set_option maxHeartbeats 400000 in
theorem appendValue_1 (B : Nat) (v : Value) (l : List UInt8) (n : Int) (s : ByteArray) (w : World) (hown : w.ownsRow B 5 1 v l.length (bc l)) (hB : B ≤ w.heap.size) (hl : l.length ≤ 900000) (h1 : -9223372036854775808 ≤ n) (h2 : n ≤ 9223372036854775807) :
    Calls Tryd.prog 14 #[v, .agg #[.int .i64 1, .int .i64 n, .string s]] w fun e w' => ∃ v', e = .returned v' ∧ w'.ownsRow B 5 1 v' (l ++ 2 :: numK (shifted n) 8).length (bc (l ++ 2 :: numK (shifted n) 8)) ∧ Below B w w' := by
  obtain ⟨i0, hi, hz0, hz1, hz2⟩ := info_parts info5
  go_enter Tryd.func14, Tryd.ntmps14
  go_wp2_with (at_builtin; refine wpList_append_own _ rfl (.tmp 5) (.tmp 10) 44 rfl B 5 i0 (.int .u8 0) 1 1 Tryd.underlying44 hi hz0 hz1 hz2 rfl (by decide) _ _ _ rfl ((hown.alloc _).alloc _) ⟨w.heap.size + 1, 0, none⟩ 1 1 [.int .u8 2] rfl rfl ?c1 ?c2 ?c3 ?c4 ?c5 ?_)
  case c1 => exact cell_next_new _ _ _ _
  case c2 => intro x hx; simp at hx; subst hx; rfl
  case c3 => simp [maxLen]; omega
  case c4 => omega
  case c5 => simp; omega
  · intro v1 w1 hown1 hgrow _
    obtain ⟨ho, hb, hB1, hsz, q0, q1, q2⟩ := first_step (c := 2) hown hB hown1 hgrow
    clear hown hown1 hgrow
    go_wp2_with fail
    refine (appendNumber_any B v1 (l ++ [2]) n _ ho hB1 (by simp; omega) h1 h2).mono ?_
    rintro e w2 ⟨v2, rfl, ho2, hb2⟩
    go_wp2
    go_ret
    exact ⟨_, rfl, own_eq ho2 (by simp) (by simp), hb.trans hb2⟩

set_option maxRecDepth 100000 in
set_option maxHeartbeats 400000 in
theorem appendValue_2 (B : Nat) (v : Value) (l : List UInt8) (n : Int) (s : ByteArray) (w : World) (hown : w.ownsRow B 5 1 v l.length (bc l)) (hB : B ≤ w.heap.size) (hl : l.length ≤ 900000) (hs : s.size ≤ 40) :
    Calls Tryd.prog 14 #[v, .agg #[.int .i64 2, .int .i64 n, .string s]] w fun e w' => ∃ v', e = .returned v' ∧ w'.ownsRow B 5 1 v' (l ++ 3 :: (s.data.toList ++ [0])).length (bc (l ++ 3 :: (s.data.toList ++ [0]))) ∧ Below B w w' := by
  obtain ⟨i0, hi, hz0, hz1, hz2⟩ := info_parts info5
  go_enter Tryd.func14, Tryd.ntmps14
  go_wp2_with (at_builtin; refine wpList_append_own _ rfl (.tmp 5) (.tmp 10) 44 rfl B 5 i0 (.int .u8 0) 1 1 Tryd.underlying44 hi hz0 hz1 hz2 rfl (by decide) _ _ _ rfl ((hown.alloc _).alloc _) ⟨w.heap.size + 1, 0, none⟩ 1 1 [.int .u8 3] rfl rfl ?c1 ?c2 ?c3 ?c4 ?c5 ?_)
  case c1 => exact cell_next_new _ _ _ _
  case c2 => intro x hx; simp at hx; subst hx; rfl
  case c3 => simp [maxLen]; omega
  case c4 => omega
  case c5 => simp; omega
  · intro v1 w1 hown1 hgrow _
    obtain ⟨ho, hb, hB1, hsz, q0, q1, q2⟩ := first_step (c := 3) hown hB hown1 hgrow
    clear hown hown1 hgrow
    go_wp2_with (at_builtin; refine Lib.wpList_append_own_string _ rfl (.tmp 22) (.tmp 24) 44 9 rfl B 5 i0 Tryd.underlying44 Tryd.underlying9 hi hz0 hz1 hz2 _ _ _ rfl ho s rfl ?d1 ?d2 ?d3 ?_)
    case d1 => simp [maxLen]; omega
    case d2 => simp; omega
    case d3 => exact hB1
    · intro v2 w2 ho2 hg2 _
      have hb2 : Below B w w2 := hb.grown hg2 hB1 (fun g h => (ho.lt g h).1)
      have hB2 : B ≤ w2.heap.size := by have := hg2.size; omega
      have ho3 : w2.ownsRow B 5 1 v2 (l ++ 3 :: s.data.toList).length (bc (l ++ 3 :: s.data.toList)) := own_eq ho2 (by simp; omega) (by rw [strCells_bc]; simp [bc])
      clear ho ho2 hg2
      go_wp2_with (at_builtin; refine wpList_append_own _ rfl (.tmp 26) (.tmp 27) 44 rfl B 5 i0 (.int .u8 0) 1 1 Tryd.underlying44 hi hz0 hz1 hz2 rfl (by decide) _ _ _ rfl (ho3.alloc _) ⟨w2.heap.size, 0, none⟩ 1 1 [.int .u8 0] rfl rfl ?f1 ?f2 ?f3 ?f4 ?f5 ?_)
      case f1 => exact cell_one_new _ _ _
      case f2 => intro x hx; simp at hx; subst hx; rfl
      case f3 => simp [maxLen]; omega
      case f4 => simp; omega
      case f5 => simp; omega
      · intro v3 w3 ho4 hg3 _
        have hb3 : Below B w w3 := (hb2.alloc hB2 _).grown hg3 (by simp; omega) (fun g h => (ho3.lt g h).1)
        go_wp2
        go_ret
        exact ⟨_, rfl, own_eq ho4 (by simp; omega) (by simp [bc]), hb3⟩
end Go.Proofs.YtkbnbkhloajmbaaDoor
