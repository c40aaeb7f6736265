/- The contracts of appendNumber and Write. -/
import Derived.Test.YtalfjdpdecngoaaPRight
import Derived.Laws.IdiomStrings
import Derived.Deep.AppendLies
namespace Go.Proofs.Ytalfjdpdecngoaa
open Go.RowKit

/-- a number, seven bits a byte, the least ones first -/
def numL (n : Nat) : List UInt8 := if n < 128 then [UInt8.ofNat n] else UInt8.ofNat (n % 128 + 128) :: numL (n / 128)
termination_by n
decreasing_by omega
theorem numL_small {n : Nat} (h : n < 128) : numL n = [UInt8.ofNat n] := by rw [numL, if_pos h]
theorem numL_big {n : Nat} (h : ¬ n < 128) : numL n = UInt8.ofNat (n % 128 + 128) :: numL (n / 128) := by rw [numL, if_neg h]

/-- bytes, as cells -/
def bcs (l : List UInt8) : List Value := l.map fun b => Value.int .u8 b.toNat
theorem bcs_append (a b : List UInt8) : bcs (a ++ b) = bcs a ++ bcs b := by simp [bcs]

/-- only the row that is appended to, and what is new, has changed -/
def Gr (w w' : World) (v v' : Value) : Prop := w.grownBy w' v.ownBlock ∧ ∀ k, v'.ownBlock = some k → v.ownBlock = some k ∨ w.heap.size ≤ k
theorem Gr.refl (w : World) (v : Value) : Gr w w v v := ⟨⟨rfl, rfl, rfl, Nat.le_refl _, fun _ _ _ => rfl⟩, fun _ h => .inl h⟩
theorem Gr.trans {w w1 w2 : World} {v v1 v2 : Value} (h : Gr w w1 v v1) (k : Gr w1 w2 v1 v2) : Gr w w2 v v2 := by
  have hs := h.1.size
  refine ⟨⟨k.1.os.trans h.1.os, k.1.tape.trans h.1.tape, k.1.output.trans h.1.output, Nat.le_trans hs k.1.size, fun b hb hn => ?_⟩, fun b hb => ?_⟩
  · rw [k.1.block b (Nat.lt_of_lt_of_le hb hs) (fun e => by
      rcases h.2 b e.symm with h2 | h2
      · exact hn h2.symm
      · omega), h.1.block b hb hn]
  · rcases k.2 b hb with h2 | h2
    · exact h.2 b h2
    · exact .inr (Nat.le_trans hs h2)
theorem Gr.alloc {w w' : World} {v v' : Value} (o : Obj) (h : Gr (w.alloc o) w' v v') : Gr w w' v v' := by
  have hs := h.1.size
  simp at hs
  refine ⟨⟨h.1.os, h.1.tape, h.1.output, by omega, fun b hb hn => ?_⟩, fun b hb => ?_⟩
  · rw [h.1.block b (by simp; omega) hn]
    exact ((Below.refl _ w).alloc (Nat.le_refl _) o).block b hb
  · rcases h.2 b hb with h2 | h2
    · exact .inl h2
    · exact .inr (by simp at h2; omega)
theorem Gr.below {w w' : World} {v v' : Value} {B : Nat} (h : Gr w w' v v') (hv : ∀ k, v.ownBlock = some k → B ≤ k) (hB : B ≤ w.heap.size) : Below B w w' :=
  (Below.refl B w).grown h.1 hB hv
theorem own_slice (g n c : Nat) : (Value.slice (some ⟨g, 0, none⟩) n c).ownBlock = some g := rfl

def natOf : Value → Nat
  | .int _ n => n.toNat
  | _ => 0

theorem one_byte (x : Int) : ∀ u ∈ [Value.int .u8 x], u.oneCell' = true := by intro y hy; simp at hy; subst hy; rfl

set_option maxRecDepth 100000 in
set_option maxHeartbeats 1000000 in
theorem appendNumber_any (B : Nat) (v : Value) (l : List UInt8) (n : Nat) (w : World) (hown : w.ownsRow B 5 1 v l.length (bcs l)) (hB : B ≤ w.heap.size) (hl : (l ++ numL n).length ≤ 1000000) (hn : n < 18446744073709551616) :
    Calls Try.prog 34 #[v, .int .u64 n] w fun e w' => ∃ v', e = .returned v' ∧ w'.ownsRow B 5 1 v' (l ++ numL n).length (bcs (l ++ numL n)) ∧ Gr w w' v v' := by
  obtain ⟨i0, hi, hz0, hz1, hz2⟩ := pinfo_parts infoByte
  obtain ⟨T, hT⟩ : ∃ T, l ++ numL n = T := ⟨_, rfl⟩
  rw [hT] at hl ⊢
  have HT : Hid (l ++ numL n = T) := hT
  clear hT
  go_enter Try.func34, Try.ntmps34
  go_wp2
  go_loopw [0, 1] (fun x i wr => ∃ (l : List UInt8) (m : Nat), m < 18446744073709551616 ∧ i = .int .u64 m ∧ Hid (l ++ numL m = T) ∧ Hid (wr.ownsRow B 5 1 x l.length (bcs l) ∧ Gr w wr v x)) (fun _ i _ => natOf i)
  case atStart => exact ⟨l, n, hn, rfl, HT, hown, Gr.refl _ _⟩
  case round =>
    clear hown HT hn
    obtain ⟨l, m, hm, rfl, hT, hown⟩ := hrel
    have hlen : l.length + 1 ≤ 1000000 := by
      have e := hT.out
      rw [numL] at e
      rw [← e] at hl
      split at hl <;> simp at hl <;> omega
    by_cases hs : m < 128
    · have hs' : ¬ (128 : Int) ≤ (m : Int) := by omega
      go_wp2_with (at_builtin; refine wpList_append_lies _ rfl _ _ 53 rfl B 5 i0 (.int .u8 0) 1 1 Try.underlying53 hi hz0 hz1 hz2 rfl (by decide) _ _ _ rfl (hown.out.1.alloc _) ⟨wr.heap.size, 0, none⟩ 1 1 [.int .u8 (m)] rfl rfl (cell_one_new _ _ _) (one_byte _) (by decide) (by simp [maxLen]; omega) (by omega) (by have := hown.out.2.1.size; simp; omega) _ rfl ?_)
      intro g cap w1 hown' hgrow hg _
      have HB1 : Hid (Gr w w1 v (.slice (some ⟨g, 0, none⟩) (l.length + 1) cap)) := hown.out.2.trans (Gr.alloc _ ⟨hgrow, fun k hk => by
        have e : g = k := by simpa [own_slice] using hk
        subst e
        rcases hg with h | h
        · exact .inl h
        · exact .inr (by rw [h]; simp)⟩)
      have HO1 : Hid (w1.ownsRow B 5 1 (.slice (some ⟨g, 0, none⟩) (l.length + 1) cap) T.length (bcs T)) := by
        have e : l ++ [UInt8.ofNat m] = T := by rw [← hT.out, numL_small hs]
        refine own_eqP hown' (by rw [← e]; simp) ?_
        rw [← e, bcs_append]
        simp [bcs]
        omega
      clear hown hown' hgrow
      go_wp2
      go_ret
      exact ⟨_, rfl, HO1.out, HB1.out⟩
    · have hs' : (128 : Int) ≤ (m : Int) := by omega
      go_wp2_with (at_builtin; refine wpList_append_lies _ rfl _ _ 53 rfl B 5 i0 (.int .u8 0) 1 1 Try.underlying53 hi hz0 hz1 hz2 rfl (by decide) _ _ _ rfl (hown.out.1.alloc _) ⟨wr.heap.size, 0, none⟩ 1 1 [.int .u8 ((m : Int) % 128 + 128)] rfl rfl (cell_one_new _ _ _) (one_byte _) (by decide) (by simp [maxLen]; omega) (by omega) (by have := hown.out.2.1.size; simp; omega) _ rfl ?_)
      intro g cap w1 hown' hgrow hg _
      have HB1 : Hid (Gr w w1 v (.slice (some ⟨g, 0, none⟩) (l.length + 1) cap)) := hown.out.2.trans (Gr.alloc _ ⟨hgrow, fun k hk => by
        have e : g = k := by simpa [own_slice] using hk
        subst e
        rcases hg with h | h
        · exact .inl h
        · exact .inr (by rw [h]; simp)⟩)
      have HT2 : Hid ((l ++ [UInt8.ofNat (m % 128 + 128)]) ++ numL (m / 128) = T) := by
        show _ = _
        rw [← hT.out, numL_big hs]
        simp
      have HO1 : Hid (w1.ownsRow B 5 1 (.slice (some ⟨g, 0, none⟩) (l.length + 1) cap) (l ++ [UInt8.ofNat (m % 128 + 128)]).length (bcs (l ++ [UInt8.ofNat (m % 128 + 128)]))) := by
        refine own_eqP hown' (by simp) ?_
        rw [bcs_append]
        simp [bcs]
        omega
      clear hown hown' hgrow hT
      go_wp2
      go_roundw
      case rel => exact ⟨_, m / 128, by omega, by simp, HT2, HO1.out, HB1.out⟩
      case measure => simp [natOf]; omega
end Go.Proofs.Ytalfjdpdecngoaa
