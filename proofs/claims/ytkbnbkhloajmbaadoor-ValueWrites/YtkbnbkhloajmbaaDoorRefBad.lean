/- The contract of the document's Key where a value may not be. -/
import Derived.Test.YtkbnbkhloajmbaaDoorRefKey
namespace Go.Proofs.YtkbnbkhloajmbaaDoor
open Go.RowKit Go.Lib

set_option maxRecDepth 100000 in
set_option maxHeartbeats 1000000 in
theorem refKey_bad (a : Option Addr) (len cap : Nat) (xs : List Vl) (w : World) (hr : Row w a len xs) (hf : ∀ x ∈ xs, Fits x) (hlen : xs.length ≤ 1000) (j0 : Nat) (hj0 : j0 < xs.length) (hbad : rightW xs[j0] = false) (hall : ∀ x ∈ xs.take j0, rightW x = true) :
    Calls Tryd.prog 5 #[.slice a len cap] w fun e w' => e = .returned (.tuple #[.string ⟨#[]⟩, .agg #[.int .i64 1, .int .i64 j0]]) ∧ Below w.heap.size w w' := by
  obtain ⟨rfl, hm, hx⟩ := hr
  clear hm
  go_enter Tryd.func5, Tryd.ntmps5
  go_wp2
  go_loopw [4, 11] (fun v i wr => ∃ k : Nat, k ≤ j0 ∧ i = .int .i64 k ∧ v = .string (strOf (keyL (xs.take k))) ∧ Below (w0 w).heap.size (w0 w) wr) (fun _ i _ => xs.length - (intOf i).toNat)
  case atStart => exact ⟨0, Nat.zero_le _, rfl, rfl, Below.refl _ _⟩
  case round =>
    obtain ⟨k, hk, rfl, rfl, hbl⟩ := hrel
    have hw0 : (w0 w).heap.size = w.heap.size + 1 := by simp [w0]
    have hbl2 : Below w.heap.size w wr := ((Below.refl w.heap.size w).alloc (Nat.le_refl _) _).trans (hbl.mono (by omega))
    have hbs := hbl.size
    rw [hw0] at hbs
    have hlt : k < xs.length := by omega
    have hlt' : (k : Int) < (xs.length : Int) := by omega
    rcases hx with hx | ⟨b, off, rfl, hb, hrow⟩
    · simp [hx] at hlt
    obtain ⟨g1, g2, g3, g4⟩ := hrow k hlt
    clear hrow
    rw [← hbl2.cell (p := ⟨b, _, none⟩) hb] at g1 g2 g3
    have hb2 : b < wr.heap.size := by omega
    by_cases hkj : k < j0
    · have HBad : Hid _ := hbad
      clear hbad
      have hfx := hf _ (List.getElem_mem hlt)
      have hrx : rightW xs[k] = true := hall _ (by rw [List.mem_take_iff_getElem]; exact ⟨k, by omega, rfl⟩)
      have hle : (strOf (keyL (xs.take k))).size ≤ 900000 := by
        have := keyL_le (xs.take k) (fun x hx => hall x (List.take_subset_take_left xs hk hx))
        rw [strOf_size]
        simp at this
        omega
      obtain ⟨x, hxk⟩ : ∃ x, xs[k] = x := ⟨_, rfl⟩
      have HK : Hid _ := keyL_step xs k hlt x hxk
      rw [hxk] at g1 g2 g3 g4 hfx hrx
      have HF : Hid _ := hf
      have HA : Hid _ := hall
      have HB2 : Hid _ := hbl2
      clear hxk hf hall hbl2
      generalize strOf (keyL (xs.take k)) = pre at *
      have hlow := hfx.low
      rcases right_cases hrx with rfl | ⟨n, rfl⟩ | ⟨s, rfl, hs⟩
      · simp only at g1 g2 g3 g4
        have HR : Hid _ := hrx
        clear hrx hfx hlow
        go_wp2_with fail
        refine (refRight_as _ _ _ true HR.out _ g4).mono ?_
        rintro e w1 ⟨rfl, hb1⟩
        have hc1 := fun o => bcell hb1 wr.heap.size o (by simp)
        have hb4 := (hbl.alloc (by omega) _).trans (hb1.mono (by simp; omega))
        have hs1 : wr.heap.size < w1.heap.size := by
          have := hb1.size
          simp at this
          omega
        have hs4 := hb4.size
        clear hb1 hbl
        obtain ⟨bs, hcv, hbz, HB⟩ := conv_some w1.heap.size 1 (w1.alloc (.cells #[.int .u8 1] 5)) (by simp)
        have hbs2 : ((pre.size : Int) + (bs.size : Int)) ≤ 9223372036854775807 := by omega
        go_wp2
        go_roundw
        case rel => exact ⟨k + 1, by omega, by go_num, by rw [HK.out, HB.out, enc0_str], hb4.alloc hs4 _⟩
        case measure => simp [intOf]; omega
      · simp only at g1 g2 g3 g4 hlow
        have HR : Hid _ := hrx
        have HW : Hid _ := shifted_wrap n hlow.1 hlow.2
        have HL : Hid _ := hlow
        clear hrx hfx hlow
        go_wp2_with fail
        refine (refRight_as _ _ _ true HR.out _ g4).mono ?_
        rintro e w1 ⟨rfl, hb1⟩
        have hc1 := fun o => bcell hb1 wr.heap.size o (by simp)
        have hb4 := (hbl.alloc (by omega) _).trans (hb1.mono (by simp; omega))
        have hs1 : wr.heap.size < w1.heap.size := by
          have := hb1.size
          simp at this
          omega
        have hs4 := hb4.size
        clear hb1 hbl
        obtain ⟨bs, hcv, hbz, HB⟩ := conv_some w1.heap.size 2 (w1.alloc (.cells #[.int .u8 2] 5)) (by simp)
        have hbs2 : ((pre.size : Int) + (bs.size : Int)) ≤ 9223372036854775807 := by omega
        go_wp2
        rw [HW.out]
        clear HW hcv
        have hpb : (pre ++ bs).size ≤ 900001 := by simp; omega
        generalize hpbs : pre ++ bs = pb at *
        have HPB : Hid _ := hpbs
        clear hpbs hbs2 hbz
        have hb5 : Below w1.heap.size w1 (w1.alloc (.cells #[.int .u8 2] 5)) := (Below.refl _ _).alloc (Nat.le_refl _) _
        go_loopw [7, 8, 36] (fun nv tv i wi => ∃ (j m : Nat) (t : ByteArray), j ≤ 8 ∧ i = .int .i64 j ∧ nv = .int .u64 m ∧ tv = .string t ∧ t.size ≤ 8 ∧ Hid (m = shifted n / 256 ^ j ∧ t = strOf (lowK (shifted n) j)) ∧ Below w1.heap.size w1 wi) (fun _ _ i _ => 8 - (intOf i).toNat)
        case atStart => exact ⟨0, shifted n, ⟨#[]⟩, by omega, rfl, rfl, rfl, by decide, ⟨by simp, by rw [lowK_0]; rfl⟩, hb5⟩
        case round =>
          clear hb5
          obtain ⟨j, m, t, hj, rfl, rfl, rfl, htz, HM, hbj⟩ := hrel
          have hsj := hbj.size
          by_cases hj8 : j < 8
          · have hj8' : (j : Int) < 8 := by omega
            obtain ⟨b2, hcv2, hbz2, HB2⟩ := conv_some wr.heap.size ((m : Int) % 256) (wr.alloc (.cells #[.int .u8 ((m : Int) % 256)] 5)) (by simp)
            have hbs3 : ((b2.size : Int) + (t.size : Int)) ≤ 9223372036854775807 := by omega
            have HT : Hid _ := low_step (shifted n) j m t b2 hj8 HM.out HB2.out
            have HD : Hid _ := wrap_div (shifted n) j m HM.out.1 (shifted_lt HL.out.1 HL.out.2).1
            clear HM HB2
            go_wp2
            go_roundw
            case rel => exact ⟨j + 1, m / 256, b2 ++ t, by omega, by go_num, by rw [HD.out], rfl, HT.out.1, HT.out.2, hbj.alloc hsj _⟩
            case measure => simp [intOf]; omega
          · obtain rfl : j = 8 := by omega
            have hcj := fun o => bcell hbj _ o hs1
            have hpt : ((pb.size : Int) + (t.size : Int)) ≤ 9223372036854775807 := by omega
            have hb6 := hb4.trans (hbj.mono hs4)
            clear hbj hb4
            go_wp2
            go_roundw
            case rel => exact ⟨k + 1, by omega, by go_num, by rw [HK.out, HM.out.2, ← HPB.out, HB.out, enc1_str], hb6⟩
            case measure => simp [intOf]; omega
      · simp only at g1 g2 g3 g4
        have HR : Hid _ := hrx
        have hs40 := textB_le hs
        have HS : Hid _ := hs
        clear hrx hfx hlow hs
        go_wp2_with fail
        refine (refRight_as _ _ _ true HR.out _ g4).mono ?_
        rintro e w1 ⟨rfl, hb1⟩
        have hc1 := fun o => bcell hb1 wr.heap.size o (by simp)
        have hb4 := (hbl.alloc (by omega) _).trans (hb1.mono (by simp; omega))
        have hs1 : wr.heap.size < w1.heap.size := by
          have := hb1.size
          simp at this
          omega
        have hs4 := hb4.size
        clear hb1 hbl
        obtain ⟨bs, hcv, hbz, HB⟩ := conv_some w1.heap.size 3 (w1.alloc (.cells #[.int .u8 3] 5)) (by simp)
        have hbs2 : ((pre.size : Int) + (bs.size : Int)) ≤ 9223372036854775807 := by omega
        go_wp2
        go_roundw
        case rel => exact ⟨k + 1, by omega, by go_num, by rw [HK.out, HB.out, enc2_str], hb4.alloc hs4 _⟩
        case measure => simp [intOf]; omega
    · obtain rfl : k = j0 := by omega
      have HR : Hid _ := hbad
      have HA : Hid _ := hall
      have HF : Hid _ := hf
      generalize xs[k] = x at *
      have r0 := hbl.cell (p := ⟨w.heap.size, 0, none⟩) (by simp [w0])
      have r1 := hbl.cell (p := ⟨w.heap.size, 1, none⟩) (by simp [w0])
      have f0 := hbl.frozen (p := ⟨w.heap.size, 0, none⟩) (by simp [w0])
      have f1 := hbl.frozen (p := ⟨w.heap.size, 1, none⟩) (by simp [w0])
      simp [w0] at r0 r1 f0 f1
      have hbx : w.heap.size < wr.heap.size := by omega
      clear hbad hall hf hbl
      go_wp2_with fail
      refine (refRight_as _ _ _ false HR.out _ g4).mono ?_
      rintro e w1 ⟨rfl, hb1⟩
      have hc1 := fun o => bcell hb1 wr.heap.size o (by simp)
      have hc2 := fun o => bcell hb1 w.heap.size o (by simp; omega)
      have hf2 := fun o => hb1.frozen (p := ⟨w.heap.size, o, none⟩) (by simp; omega)
      have hb4 : Below w.heap.size w w1 := (hbl2.alloc (by omega) _).trans (hb1.mono (by simp; omega))
      have k0 : w1.cell? ⟨w.heap.size, 0, none⟩ = some (.int .i64 0) := by rw [hc2, World.cell?_alloc_lt _ _ ⟨w.heap.size, 0, none⟩ hbx]; exact r0
      have k1 : w1.cell? ⟨w.heap.size, 1, none⟩ = some (.int .i64 0) := by rw [hc2, World.cell?_alloc_lt _ _ ⟨w.heap.size, 1, none⟩ hbx]; exact r1
      have l0 : w1.frozen? ⟨w.heap.size, 0, none⟩ = false := by rw [hf2, World.frozen?_alloc_old _ _ ⟨w.heap.size, 0, none⟩ (Nat.ne_of_lt hbx)]; exact f0
      have l1 : w1.frozen? ⟨w.heap.size, 1, none⟩ = false := by rw [hf2, World.frozen?_alloc_old _ _ ⟨w.heap.size, 1, none⟩ (Nat.ne_of_lt hbx)]; exact f1
      clear hb1 hbl2 hc1 hc2 hf2 r0 r1 f0 f1
      go_wp2
      refine bodyPost_ret (v := .tuple #[.string ⟨#[]⟩, .agg #[.int .i64 1, .int .i64 k]]) ?_ rfl ⟨rfl, ?_⟩
      · simp [results, Tryd.results5, go_sem, k0, k1]
      · exact (hb4.setCell (Nat.le_refl _) _).setCell (Nat.le_refl _) _
end Go.Proofs.YtkbnbkhloajmbaaDoor
