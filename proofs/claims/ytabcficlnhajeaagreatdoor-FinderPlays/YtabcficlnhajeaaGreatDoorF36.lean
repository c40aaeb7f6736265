/- Texts of the proof of FinderPlays: Is, Lsm. -/
import Derived.Test.YtabcficlnhajeaaGreatDoorF35
namespace Go.Proofs.YtabcficlnhajeaaGreatDoor
open Go.RowKit

/-- an error is this one, and there -/
def ErrIs (E : Value) (n j : Int) (w : World) : Prop :=
  (E = .nilIface ∧ n = 0 ∧ j = -1) ∨ (∃ b, E = .iface 128 (.pointer (some ⟨b, 0, none⟩)) ∧ w.cell? ⟨b, 0, none⟩ = some (.int .i64 n) ∧ w.cell? ⟨b, 1, none⟩ = some (.int .i64 j)) ∨ (E = .iface 30 (.int .i64 n) ∧ j = -1)

theorem ErrIs.below {E : Value} {n j : Int} {w w' : World} (h : ErrIs E n j w) (hb : Below w.heap.size w w') : ErrIs E n j w' := by
  rcases h with h | ⟨b, h1, h2, h3⟩ | h
  · exact .inl h
  · have hlt := World.block_lt_of_cell? w _ h2
    exact .inr (.inl ⟨b, h1, (hb.cell (p := ⟨b, 0, none⟩) hlt).trans h2, (hb.cell (p := ⟨b, 1, none⟩) hlt).trans h3⟩)
  · exact .inr (.inr h)

theorem placeE_any (E : Value) (n j : Int) (w : World) (hg : HG w) (h : ErrIs E n j w) : Calls Tryz.prog 35 #[E] w fun e w' => e = .returned (.tuple #[.int .i64 n, .int .i64 j]) ∧ Below w.heap.size w w' := by
  rcases h with ⟨rfl, rfl, rfl⟩ | ⟨b, rfl, h2, h3⟩ | ⟨rfl, rfl⟩
  · exact place_nil w
  · exact place_at b n j w hg h2 h3
  · exact place_errno n w hg

set_option maxRecDepth 100000 in
set_option maxHeartbeats 1000000 in
theorem is_any (E : Value) (n j : Int) (w : World) (hg : HG w) (h : ErrIs E n j w) : Calls Tryz.prog 14 #[E, .agg #[.int .i64 n, .int .i64 j]] w fun e w' => e = .returned (.bool true) ∧ Below w.heap.size w w' := by
  have hb0 : Below w.heap.size w (w.alloc (.cells #[.int .i64 n, .int .i64 j] 56)) := (Below.refl _ w).alloc (Nat.le_refl _) _
  have hg2 := hg.below hb0 hg.lt
  have h2 := h.below hb0
  have HH : Hid _ := h2
  clear h h2
  go_enter Tryz.func14, Tryz.ntmps14
  go_wp2_with fail
  refine (placeE_any E n j _ hg2 HH.out).mono ?_
  rintro _ w1 ⟨rfl, hb1⟩
  have q0 := hb1.cell (p := ⟨w.heap.size, 0, none⟩) (by simp)
  have q1 := hb1.cell (p := ⟨w.heap.size, 1, none⟩) (by simp)
  simp at q0 q1
  have hb2 := hb0.trans (hb1.mono (by simp))
  clear hb1 hb0 HH hg2
  go_wp2
  go_ret
  exact ⟨rfl, hb2⟩

theorem refBare_any (n : Int) (w : World) : Calls Tryz.prog 15 #[.int .i64 n] w fun e w' => e = .returned (.agg #[.int .i64 n, .int .i64 (-1)]) ∧ Below w.heap.size w w' := by
  go_enter Tryz.func15, Tryz.ntmps15
  go_wp2
  exact bodyPost_ret (v := .agg #[.int .i64 n, .int .i64 (-1)]) (by simp [results, Tryz.results15, go_sem]) rfl ⟨rfl, (Below.refl _ _).alloc (Nat.le_refl _) _⟩

set_option maxRecDepth 100000 in
set_option maxHeartbeats 1000000 in
theorem bare_any (E : Value) (n : Int) (w : World) (hg : HG w) (h : ErrIs E n (-1) w) : Calls Tryz.prog 6 #[E, .int .i64 n] w fun e w' => e = .returned (.bool true) ∧ Below w.heap.size w w' := by
  have HH : Hid (ErrIs E n (-1) w) := h
  clear h
  go_enter Tryz.func6, Tryz.ntmps6
  go_wp2_with fail
  refine (refBare_any n _).mono ?_
  rintro _ w1 ⟨rfl, hb1⟩
  have hs1 := hb1.size
  go_wp2_with fail
  refine (is_any E n (-1) _ (hg.below hb1 hg.lt) (ErrIs.below HH.out hb1)).mono ?_
  rintro _ w2 ⟨rfl, hb2⟩
  have hb3 := hb1.trans (hb2.mono hs1)
  clear hb1 hb2 HH
  go_wp2
  go_ret
  exact ⟨rfl, hb3⟩
end Go.Proofs.YtabcficlnhajeaaGreatDoor
namespace Go.Proofs.YtabcficlnhajeaaGreatDoor
open Go.RowKit Go.Maps

set_option maxHeartbeats 1000000 in
theorem sameTexts_any (a a' : Option Addr) (len len' cap cap' : Nat) (xs : List ByteArray) (w : World) (hr : RowS w a len xs) (hr' : RowS w a' len' xs) :
    Calls Tryz.prog 31 #[.slice a len cap, .slice a' len' cap'] w fun e w' => e = .returned (.bool true) ∧ ∃ m, w' = w.drewN m := by
  obtain ⟨rfl, hm, hx⟩ := hr
  obtain ⟨rfl, _, hx'⟩ := hr'
  go_enter Tryz.func31, Tryz.ntmps31
  go_wp2
  go_loopw [5] (fun i wr => ∃ k : Nat, k ≤ xs.length ∧ i = .int .i64 k ∧ Hid (∃ m, wr = w.drewN m)) (fun i _ => xs.length - (intOf i).toNat)
  case atStart => exact ⟨0, Nat.zero_le _, rfl, 0, rfl⟩
  case round =>
    obtain ⟨k, hk, rfl, hbl⟩ := hrel
    obtain ⟨m, rfl⟩ := hbl.out
    by_cases hlt : k < xs.length
    · rcases hx with hx | ⟨b, off, rfl, hb, hrow⟩
      · simp [hx] at hlt
      rcases hx' with hx' | ⟨b', off', rfl, hb', hrow'⟩
      · simp [hx'] at hlt
      have g1 := hrow k hlt
      have e1 := hrow' k hlt
      clear hrow hrow' hbl
      have i1 : (k : Int) < (xs.length : Int) := by omega
      generalize xs[k] = x at *
      go_wp2
      go_quiet (fail)
      go_wp2
      go_roundw
      case rel => exact ⟨k + 1, by omega, by go_num, m + nq, rfl⟩
      case measure => simp [intOf]; omega
    · go_wp2
      go_ret
      exact ⟨rfl, m, rfl⟩
set_option maxRecDepth 100000 in
set_option maxHeartbeats 1000000 in
theorem same_keep (a a' : Option Addr) (len len' cap cap' : Nat) (xs : List Pl) (w : World) (hr : RowP w a len xs) (hr' : RowP w a' len' xs) :
    Calls Tryz.prog 27 #[.slice a len cap, .slice a' len' cap'] w fun e w' => e = .returned (.bool true) ∧ Below w.heap.size w w' := by
  have st := stoodPl
  have gd := guardPl
  obtain ⟨rfl, hm, hx⟩ := hr
  obtain ⟨rfl, _, hx'⟩ := hr'
  go_enter Tryz.func27, Tryz.ntmps27
  go_wp2
  go_loopw [5] (fun i wr => ∃ k : Nat, k ≤ xs.length ∧ i = .int .i64 k ∧ Hid (Below w.heap.size w wr)) (fun i _ => xs.length - (intOf i).toNat)
  case atStart => exact ⟨0, Nat.zero_le _, rfl, Below.refl _ _⟩
  case round =>
    obtain ⟨k, hk, rfl, hbl⟩ := hrel
    by_cases hlt : k < xs.length
    · rcases hx with hx | ⟨b, off, rfl, hb, hrow⟩
      · simp [hx] at hlt
      rcases hx' with hx' | ⟨b', off', rfl, hb', hrow'⟩
      · simp [hx'] at hlt
      obtain ⟨g1, g2⟩ := hrow k hlt
      obtain ⟨e1, e2⟩ := hrow' k hlt
      clear hrow hrow'
      rw [← hbl.out.cell (p := ⟨b, _, none⟩) hb] at g1 g2
      rw [← hbl.out.cell (p := ⟨b', _, none⟩) hb'] at e1 e2
      have i1 : (k : Int) < (xs.length : Int) := by omega
      generalize xs[k] = x at *
      go_wp2
      go_quiet (fail)
      have HB : Hid (Below w.heap.size w (wr.drewN nq)) := below_drewN' hbl.out _
      clear hbl
      go_wp2
      go_roundw
      case rel => exact ⟨k + 1, by omega, by go_num, HB⟩
      case measure => simp [intOf]; omega
    · go_wp2
      go_ret
      exact ⟨rfl, hbl.out⟩
set_option maxRecDepth 100000 in
set_option maxHeartbeats 1000000 in
theorem openF_any (w : World) : Calls Tryz.prog 4 #[] w fun e w' => ∃ bf bt bp bd bm, e = .returned (.pointer (some ⟨bf, 0, none⟩)) ∧ PrS bf bt bp bd bm 0 0 (InD []) w' ∧ (w.heap.size ≤ bf ∧ w.heap.size ≤ bt ∧ w.heap.size ≤ bp ∧ w.heap.size ≤ bd ∧ w.heap.size ≤ bm) ∧ Below w.heap.size w w' := by
  have hz := Tryz.zeroValue48
  have HO : Hid _ := open_new w
  go_enter Tryz.func4, Tryz.ntmps4
  go_wp2_with fail
  refine (show Calls _ _ _ _ _ from HO.out).mono ?_
  rintro _ w1 ⟨bp, bm, up, V, rfl, h1, h2, h3, hW, hU, hE, hb⟩
  have HW : Hid _ := hW
  have HU : Hid _ := hU
  have HE : Hid (TrAt V 3 Tr.none) := hE 3 (by omega)
  have HB : Hid (Below w.heap.size w w1) := hb
  obtain ⟨bd, hbd⟩ : ∃ bd, w.heap.size = bd := ⟨_, rfl⟩
  rw [hbd] at h1 h2 HW
  have hbd2 : w.heap.size ≤ bd := by omega
  clear hW hU hE hb HO hbd
  go_wp2_with fail
  refine (at_any (r := 3) HW.out (by omega)).mono ?_
  rintro _ w2 ⟨bt, rfl, hT2, hlt2, hb2⟩
  have hwl := HW.out.lt
  have HT2 : Hid (Tt bt bp 3 w2) := hT2
  have HW2 : Hid _ := HW.out.below hb2
  have HB2 : Hid (Below w.heap.size w w2) := HB.out.trans (hb2.mono HB.out.size)
  have hs2 := hT2.lt
  have hs12 := hb2.size
  have hs11 := HB.out.size
  clear hT2 hb2
  go_wp2_with fail
  refine (overF_any bt w2).mono ?_
  rintro _ w3 ⟨rfl, hw3⟩
  have hb3 : Below w2.heap.size w2 w3 := by rw [hw3]; exact (Below.refl _ _).alloc (Nat.le_refl _) _
  have HF : Hid (Fs w2.heap.size bt bp bd bm 0 up V Tr.none w3) := ⟨by rw [hw3]; exact Own1.new w2 _ _, HT2.out.below hb3, HW2.out.below hb3, HE.out, Sole.none HU.out, ⟨by omega, by omega⟩, ⟨by omega, by omega⟩⟩
  have HB3 : Hid (Below w.heap.size w w3) := HB2.out.trans (hb3.mono HB2.out.size)
  clear hw3 hb3
  go_wp2
  go_ret
  refine ⟨_, bt, bp, bd, bm, rfl, ⟨0, up, V, Tr.none, Nat.le_refl _, HF.out, Nat.le_refl _, fun x => ?_⟩, ⟨by omega, by omega, by omega, by omega, by omega⟩, HB3.out⟩
  constructor
  · intro h; cases h
  · rintro ⟨t, ht, _⟩; cases ht
end Go.Proofs.YtabcficlnhajeaaGreatDoor
