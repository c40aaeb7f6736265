/- The contract of the document's Key. -/
import Derived.Test.YtkbnbkhloajmbaaDoorBack
namespace Go.Proofs.YtkbnbkhloajmbaaDoor
open Go.RowKit Go.Lib

/-- one byte as a text -/
def byteStr (c : Int) : ByteArray := strOf [UInt8.ofNat c.toNat]

set_option maxRecDepth 100000 in
theorem conv_byte (g : Nat) (c : Int) (W : World) (h : W.cell? ⟨g, 0, none⟩ = some (.int .u8 c)) : (convert 44 9 (.slice (some ⟨g, 0, none⟩) 1 1)).run Tryd.prog W = .ok (.string (byteStr c)) W := by
  have := run_convert_bytes_arg W 44 5 Tryd.underlying44 Tryd.underlying5 g 0 1 1 [c] rfl (fun i hi => by
    obtain rfl : i = 0 := by omega
    simpa using h) 9 Tryd.underlying9
  rw [this]
  rfl

theorem conv_some (g : Nat) (c : Int) (W : World) (h : W.cell? ⟨g, 0, none⟩ = some (.int .u8 c)) : ∃ bs, (convert 44 9 (.slice (some ⟨g, 0, none⟩) 1 1)).run Tryd.prog W = .ok (.string bs) W ∧ bs.size ≤ 1 ∧ Hid (bs = strOf [UInt8.ofNat c.toNat]) :=
  ⟨_, conv_byte g c W h, by unfold byteStr; rw [strOf_size]; simp, rfl⟩

/-- the lowest k bytes of a number -/
def lowK (u k : Nat) : List UInt8 := (numK u 8).drop (8 - k)

theorem lowK_succ (u k : Nat) (hk : k < 8) : lowK u (k + 1) = UInt8.ofNat (u / 256 ^ k) :: lowK u k := by
  unfold lowK
  have hl : 8 - (k + 1) < (numK u 8).length := by rw [numK_length]; omega
  rw [List.drop_eq_getElem_cons hl, show 8 - (k + 1) + 1 = 8 - k by omega]
  congr 1
  simp only [numK, List.getElem_map, List.getElem_range]
  rw [show 7 - (8 - (k + 1)) = k by omega]
theorem lowK_8 (u : Nat) : lowK u 8 = numK u 8 := by simp [lowK]
theorem lowK_0 (u : Nat) : lowK u 0 = [] := by simp [lowK, numK_length]
theorem lowK_length (u k : Nat) (hk : k ≤ 8) : (lowK u k).length = k := by simp [lowK, numK_length]; omega

theorem keyL_step (xs : List Vl) (k : Nat) (h : k < xs.length) (x : Vl) (hx : xs[k] = x) : strOf (keyL (xs.take (k + 1))) = strOf (keyL (xs.take k)) ++ strOf (encW x) := by
  rw [keyL_take xs k h, hx, strOf_app]

/-- what stands in the result's own cell -/
def w0 (w : World) : World := w.alloc (.cells #[.int .i64 0, .int .i64 0] 26)

theorem enc2_str (pre s : ByteArray) : pre ++ strOf [UInt8.ofNat (3 : Int).toNat] ++ (s ++ ⟨#[0]⟩) = pre ++ strOf (encW ⟨2, 0, s⟩) := by
  apply bytes_ext
  have e : encW ⟨2, 0, s⟩ = 3 :: (s.data.toList ++ [0]) := by simp [encW, enc1]
  rw [e]
  simp [strOf]
theorem enc1_str (pre : ByteArray) (n : Int) : pre ++ strOf [UInt8.ofNat (2 : Int).toNat] ++ strOf (lowK (shifted n) 8) = pre ++ strOf (encW ⟨1, n, ⟨#[]⟩⟩) := by
  apply bytes_ext
  have e : encW ⟨1, n, ⟨#[]⟩⟩ = 2 :: numK (shifted n) 8 := by simp [encW, enc1]
  rw [e, lowK_8]
  simp [strOf]
theorem low_step (u j m : Nat) (t b2 : ByteArray) (hj : j < 8) (hm : m = u / 256 ^ j ∧ t = strOf (lowK u j)) (hb : b2 = strOf [UInt8.ofNat ((m : Int) % 256).toNat]) :
    (b2 ++ t).size ≤ 8 ∧ (m / 256 = u / 256 ^ (j + 1) ∧ b2 ++ t = strOf (lowK u (j + 1))) := by
  obtain ⟨h1, h2⟩ := hm
  have e : UInt8.ofNat ((m : Int) % 256).toNat = UInt8.ofNat (u / 256 ^ j) := by
    rw [← h1]
    apply UInt8.toNat_inj.1
    simp
    omega
  have e2 : b2 ++ t = strOf (lowK u (j + 1)) := by
    rw [hb, h2, strOf_app, e, lowK_succ u j hj]
    rfl
  refine ⟨by rw [e2, strOf_size, lowK_length u _ (by omega)]; omega, ?_, e2⟩
  rw [h1, Nat.div_div_eq_div_mul, Nat.pow_succ]
theorem wrap_div (u j m : Nat) (hm : m = u / 256 ^ j) (hu : u < 18446744073709551616) : IntKind.u64.wrap ((m : Int) / 256) = ((m / 256 : Nat) : Int) := by
  have : m ≤ u := by rw [hm]; exact Nat.div_le_self _ _
  rw [IntKind.wrap_u64]
  omega
theorem enc0_str : strOf (encW ⟨0, 0, ⟨#[]⟩⟩) = strOf [UInt8.ofNat (1 : Int).toNat] := rfl

set_option maxRecDepth 100000 in
set_option maxHeartbeats 1000000 in
theorem refKey_ok (a : Option Addr) (len cap : Nat) (xs : List Vl) (w : World) (hr : Row w a len xs) (hf : ∀ x ∈ xs, Fits x) (hlen : xs.length ≤ 1000) (hall : ∀ x ∈ xs, rightW x = true)
    (h0 : w.cell? ⟨0, 0, none⟩ = some (.int .i64 0)) (h1 : w.cell? ⟨0, 1, none⟩ = some (.int .i64 (-1))) :
    Calls Tryd.prog 5 #[.slice a len cap] w fun e w' => e = .returned (.tuple #[.string (strOf (keyL xs)), .agg #[.int .i64 0, .int .i64 (-1)]]) ∧ Below w.heap.size w w' := by
  obtain ⟨rfl, hm, hx⟩ := hr
  clear hm
  have hz : 0 < w.heap.size := World.block_lt_of_cell? w _ h0
  go_enter Tryd.func5, Tryd.ntmps5
  go_wp2
  go_loopw [4, 11] (fun v i wr => ∃ k : Nat, k ≤ xs.length ∧ i = .int .i64 k ∧ v = .string (strOf (keyL (xs.take k))) ∧ Below (w0 w).heap.size (w0 w) wr) (fun _ i _ => xs.length - (intOf i).toNat)
  case atStart => exact ⟨0, Nat.zero_le _, rfl, rfl, Below.refl _ _⟩
  case round =>
    obtain ⟨k, hk, rfl, rfl, hbl⟩ := hrel
    have hw0 : (w0 w).heap.size = w.heap.size + 1 := by simp [w0]
    have hbl2 : Below w.heap.size w wr := ((Below.refl w.heap.size w).alloc (Nat.le_refl _) _).trans (hbl.mono (by omega))
    have hbs := hbl.size
    rw [hw0] at hbs
    by_cases hlt : k < xs.length
    · rcases hx with hx | ⟨b, off, rfl, hb, hrow⟩
      · simp [hx] at hlt
      obtain ⟨g1, g2, g3, g4⟩ := hrow k hlt
      clear hrow
      rw [← hbl2.cell (p := ⟨b, _, none⟩) hb] at g1 g2 g3
      have hb2 : b < wr.heap.size := by omega
      have hfx := hf _ (List.getElem_mem hlt)
      have hrx := hall _ (List.getElem_mem hlt)
      have hle : (strOf (keyL (xs.take k))).size ≤ 900000 := by
        have := keyL_le (xs.take k) (fun x hx => hall x (List.mem_of_mem_take hx))
        rw [strOf_size]
        simp at this
        omega
      obtain ⟨x, hxk⟩ : ∃ x, xs[k] = x := ⟨_, rfl⟩
      have HK : Hid _ := keyL_step xs k hlt x hxk
      rw [hxk] at g1 g2 g3 g4 hfx hrx
      have HF : Hid _ := hf
      have HA : Hid _ := hall
      have H0 : Hid _ := h0
      have H1 : Hid _ := h1
      have HB2 : Hid _ := hbl2
      clear hxk hf hall h0 h1 hbl2
      generalize strOf (keyL (xs.take k)) = pre at *
      have hlow := hfx.low
      rcases right_cases hrx with rfl | ⟨n, rfl⟩ | ⟨s, rfl, hs⟩
      · simp only at g1 g2 g3 g4
        have HR : Hid _ := hrx
        clear hrx hfx hlow
        go_wp2_with fail
        refine (refRight_as _ _ _ true HR.out _ g4).mono ?_
        rintro e w1 ⟨rfl, hb1⟩
        have hc1 := fun o => bcell hb1 wr.heap.size o (by simp)
        have hb4 := (hbl.alloc (by omega) _).trans (hb1.mono (by simp; omega))
        have hs1 : wr.heap.size < w1.heap.size := by
          have := hb1.size
          simp at this
          omega
        have hs4 := hb4.size
        clear hb1 hbl
        obtain ⟨bs, hcv, hbz, HB⟩ := conv_some w1.heap.size 1 (w1.alloc (.cells #[.int .u8 1] 5)) (by simp)
        have hbs2 : ((pre.size : Int) + (bs.size : Int)) ≤ 9223372036854775807 := by omega
        go_wp2
        go_roundw
        case rel => exact ⟨k + 1, by omega, by go_num, by rw [HK.out, HB.out, enc0_str], hb4.alloc hs4 _⟩
        case measure => simp [intOf]; omega
      · simp only at g1 g2 g3 g4 hlow
        have HR : Hid _ := hrx
        have HW : Hid _ := shifted_wrap n hlow.1 hlow.2
        have HL : Hid _ := hlow
        clear hrx hfx hlow
        go_wp2_with fail
        refine (refRight_as _ _ _ true HR.out _ g4).mono ?_
        rintro e w1 ⟨rfl, hb1⟩
        have hc1 := fun o => bcell hb1 wr.heap.size o (by simp)
        have hb4 := (hbl.alloc (by omega) _).trans (hb1.mono (by simp; omega))
        have hs1 : wr.heap.size < w1.heap.size := by
          have := hb1.size
          simp at this
          omega
        have hs4 := hb4.size
        clear hb1 hbl
        obtain ⟨bs, hcv, hbz, HB⟩ := conv_some w1.heap.size 2 (w1.alloc (.cells #[.int .u8 2] 5)) (by simp)
        have hbs2 : ((pre.size : Int) + (bs.size : Int)) ≤ 9223372036854775807 := by omega
        go_wp2
        rw [HW.out]
        clear HW hcv
        have hpb : (pre ++ bs).size ≤ 900001 := by simp; omega
        generalize hpbs : pre ++ bs = pb at *
        have HPB : Hid _ := hpbs
        clear hpbs hbs2 hbz
        have hb5 : Below w1.heap.size w1 (w1.alloc (.cells #[.int .u8 2] 5)) := (Below.refl _ _).alloc (Nat.le_refl _) _
        go_loopw [7, 8, 36] (fun nv tv i wi => ∃ (j m : Nat) (t : ByteArray), j ≤ 8 ∧ i = .int .i64 j ∧ nv = .int .u64 m ∧ tv = .string t ∧ t.size ≤ 8 ∧ Hid (m = shifted n / 256 ^ j ∧ t = strOf (lowK (shifted n) j)) ∧ Below w1.heap.size w1 wi) (fun _ _ i _ => 8 - (intOf i).toNat)
        case atStart => exact ⟨0, shifted n, ⟨#[]⟩, by omega, rfl, rfl, rfl, by decide, ⟨by simp, by rw [lowK_0]; rfl⟩, hb5⟩
        case round =>
          clear hb5
          obtain ⟨j, m, t, hj, rfl, rfl, rfl, htz, HM, hbj⟩ := hrel
          have hsj := hbj.size
          by_cases hj8 : j < 8
          · have hj8' : (j : Int) < 8 := by omega
            obtain ⟨b2, hcv2, hbz2, HB2⟩ := conv_some wr.heap.size ((m : Int) % 256) (wr.alloc (.cells #[.int .u8 ((m : Int) % 256)] 5)) (by simp)
            have hbs3 : ((b2.size : Int) + (t.size : Int)) ≤ 9223372036854775807 := by omega
            have HT : Hid _ := low_step (shifted n) j m t b2 hj8 HM.out HB2.out
            have HD : Hid _ := wrap_div (shifted n) j m HM.out.1 (shifted_lt HL.out.1 HL.out.2).1
            clear HM HB2
            go_wp2
            go_roundw
            case rel => exact ⟨j + 1, m / 256, b2 ++ t, by omega, by go_num, by rw [HD.out], rfl, HT.out.1, HT.out.2, hbj.alloc hsj _⟩
            case measure => simp [intOf]; omega
          · obtain rfl : j = 8 := by omega
            have hcj := fun o => bcell hbj _ o hs1
            have hpt : ((pb.size : Int) + (t.size : Int)) ≤ 9223372036854775807 := by omega
            have hb6 := hb4.trans (hbj.mono hs4)
            clear hbj hb4
            go_wp2
            go_roundw
            case rel => exact ⟨k + 1, by omega, by go_num, by rw [HK.out, HM.out.2, ← HPB.out, HB.out, enc1_str], hb6⟩
            case measure => simp [intOf]; omega
      · simp only at g1 g2 g3 g4
        have HR : Hid _ := hrx
        have hs40 := textB_le hs
        have HS : Hid _ := hs
        clear hrx hfx hlow hs
        go_wp2_with fail
        refine (refRight_as _ _ _ true HR.out _ g4).mono ?_
        rintro e w1 ⟨rfl, hb1⟩
        have hc1 := fun o => bcell hb1 wr.heap.size o (by simp)
        have hb4 := (hbl.alloc (by omega) _).trans (hb1.mono (by simp; omega))
        have hs1 : wr.heap.size < w1.heap.size := by
          have := hb1.size
          simp at this
          omega
        have hs4 := hb4.size
        clear hb1 hbl
        obtain ⟨bs, hcv, hbz, HB⟩ := conv_some w1.heap.size 3 (w1.alloc (.cells #[.int .u8 3] 5)) (by simp)
        have hbs2 : ((pre.size : Int) + (bs.size : Int)) ≤ 9223372036854775807 := by omega
        go_wp2
        go_roundw
        case rel => exact ⟨k + 1, by omega, by go_num, by rw [HK.out, HB.out, enc2_str], hb4.alloc hs4 _⟩
        case measure => simp [intOf]; omega
    · have e : xs.take k = xs := List.take_of_length_le (by omega)
      rw [e]
      have q0 : wr.cell? ⟨0, 0, none⟩ = some (.int .i64 0) := (hbl2.cell (p := ⟨0, 0, none⟩) hz).trans h0
      have q1 : wr.cell? ⟨0, 1, none⟩ = some (.int .i64 (-1)) := (hbl2.cell (p := ⟨0, 1, none⟩) hz).trans h1
      have r0 := hbl.cell (p := ⟨w.heap.size, 0, none⟩) (by simp [w0])
      have r1 := hbl.cell (p := ⟨w.heap.size, 1, none⟩) (by simp [w0])
      have f0 := hbl.frozen (p := ⟨w.heap.size, 0, none⟩) (by simp [w0])
      have f1 := hbl.frozen (p := ⟨w.heap.size, 1, none⟩) (by simp [w0])
      simp [w0] at r0 r1 f0 f1
      have hne : ¬ w.heap.size = 0 := by omega
      clear h0 h1 e hbl
      go_wp2_with fail
      go_region
      go_wp2
      refine bodyPost_ret (v := .tuple #[.string (strOf (keyL xs)), .agg #[.int .i64 0, .int .i64 (-1)]]) ?_ rfl ⟨rfl, ?_⟩
      · simp [results, Tryd.results5, go_sem, r0, r1]
      · exact (((hbl2.setCell (Nat.le_refl _) _).setCell (Nat.le_refl _) _)).drew
end Go.Proofs.YtkbnbkhloajmbaaDoor
