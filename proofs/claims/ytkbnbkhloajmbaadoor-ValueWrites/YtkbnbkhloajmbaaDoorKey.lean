/- The contract of Key. -/
import Derived.Test.YtkbnbkhloajmbaaDoorBytes
import Derived.Test.YtkbnbkhloajmbaaDoorOpen
namespace Go.Proofs.YtkbnbkhloajmbaaDoor
open Go.RowKit

def rightW (x : Vl) : Bool := rightB x.k x.n x.s
def encW (x : Vl) : List UInt8 := enc1 x.k x.n x.s
/-- a list as bytes -/
def keyL (xs : List Vl) : List UInt8 := xs.flatMap encW
def strOf (l : List UInt8) : ByteArray := ⟨l.toArray⟩

theorem Fits.low {x : Vl} (h : Fits x) : -9223372036854775808 ≤ x.n ∧ x.n ≤ 9223372036854775807 := by
  have := h.2
  simp [Lit.wf, IntKind.min, IntKind.max, IntKind.signed, IntKind.bits] at this
  omega

theorem textB_le {s : ByteArray} (h : textB s = true) : s.size ≤ 40 := by
  unfold textB at h; simp at h; exact h.1

theorem encW_le {x : Vl} (h : rightW x = true) : (encW x).length ≤ 42 := by
  unfold rightW rightB at h
  unfold encW enc1
  by_cases h1 : x.k = 1
  · simp [h1, numK_length]
  · by_cases h2 : x.k = 2
    · simp [h2] at h
      have := textB_le h.2
      simp [h2]; omega
    · simp [h1, h2]

theorem appendValue_any (B : Nat) (v : Value) (l : List UInt8) (x : Vl) (w : World) (hown : w.ownsRow B 5 1 v l.length (bc l)) (hB : B ≤ w.heap.size) (hl : l.length ≤ 900000) (hf : Fits x) (hr : rightW x = true) :
    Calls Tryd.prog 14 #[v, .agg #[.int .i64 x.k, .int .i64 x.n, .string x.s]] w fun e w' => ∃ v', e = .returned v' ∧ w'.ownsRow B 5 1 v' (l ++ encW x).length (bc (l ++ encW x)) ∧ Below B w w' := by
  obtain ⟨k, n, s⟩ := x
  have hlow := hf.low
  unfold rightW rightB at hr
  unfold encW enc1
  simp only at hr hlow ⊢
  by_cases h1 : k = 1
  · subst h1
    exact appendValue_1 B v l n s w hown hB hl hlow.1 hlow.2
  · by_cases h2 : k = 2
    · subst h2
      simp at hr
      exact appendValue_2 B v l n s w hown hB hl (textB_le hr.2)
    · by_cases h0 : k = 0
      · subst h0
        exact appendValue_0 B v l n s w hown hB hl
      · simp [h0, h1, h2] at hr

theorem keyL_take (xs : List Vl) (k : Nat) (h : k < xs.length) : keyL (xs.take (k + 1)) = keyL (xs.take k) ++ encW xs[k] := by
  unfold keyL
  rw [List.take_succ_eq_append_getElem h, List.flatMap_append]
  simp

theorem keyL_le (xs : List Vl) (h : ∀ x ∈ xs, rightW x = true) : (keyL xs).length ≤ 42 * xs.length := by
  induction xs with
  | nil => simp [keyL]
  | cons x xs ih =>
    have h1 := encW_le (h x (by simp))
    have h2 := ih (fun y hy => h y (by simp [hy]))
    simp only [keyL, List.flatMap_cons, List.length_append, List.length_cons] at h2 ⊢
    omega

set_option maxRecDepth 100000 in
theorem conv_own (w : World) (B : Nat) (v : Value) (l : List UInt8) (hown : w.ownsRow B 5 1 v l.length (bc l)) : (convert 44 9 v).run Tryd.prog w = .ok (.string (strOf l)) w := by
  rcases hown.2 with ⟨rfl, h0⟩ | ⟨g, cap, cur, rfl, _, hg, _⟩
  · have : l = [] := List.length_eq_zero_iff.1 h0
    subst this
    exact run_convert_bytes_nil w 44 5 Tryd.underlying44 Tryd.underlying5 0 0 9 Tryd.underlying9
  · have := run_convert_bytes_arg w 44 5 Tryd.underlying44 Tryd.underlying5 g 0 l.length cap (l.map fun b => (b.toNat : Int)) (by simp) (fun i hi => by
      have hc := hown.cells (g := g) rfl i (.int .u8 (l[i].toNat)) (by simp [bc, hi])
      rw [Go.WideShapes.add_plain] at hc
      rw [hc]
      simp [hi]) 9 Tryd.underlying9
    rw [this]
    congr 2
    simp [strOfNums, strOf, Function.comp_def]

theorem own_below {w w' : World} {B D : Nat} {e : TypeId} {size : Nat} {v : Value} {n : Nat} {xs : List Value} (h : w.ownsRow B e size v n xs) (hb : Below D w w') (hD : w.heap.size ≤ D) : w'.ownsRow B e size v n xs := by
  refine ⟨h.1, ?_⟩
  rcases h.2 with h2 | ⟨g, cap, cur, hv, hg, hh, r⟩
  · exact .inl h2
  · have := (Array.getElem?_eq_some_iff.1 hh).1
    exact .inr ⟨g, cap, cur, hv, hg, by rw [hb.block g (by omega)]; exact hh, r⟩

set_option maxRecDepth 100000 in
set_option maxHeartbeats 400000 in
theorem key_ok (a : Option Addr) (len cap : Nat) (xs : List Vl) (w : World) (hr : Row w a len xs) (hf : ∀ x ∈ xs, Fits x) (hlen : xs.length ≤ 1000) (hall : ∀ x ∈ xs, rightW x = true) :
    Calls Tryd.prog 6 #[.slice a len cap] w fun e w' => e = .returned (.tuple #[.string (strOf (keyL xs)), .nilIface]) ∧ Below w.heap.size w w' := by
  obtain ⟨rfl, hm, hx⟩ := hr
  clear hm
  go_enter Tryd.func6, Tryd.ntmps6
  go_wp2
  go_loopw [4, 9] (fun v i wr => ∃ k : Nat, k ≤ xs.length ∧ i = .int .i64 k ∧ wr.ownsRow w.heap.size 5 1 v (keyL (xs.take k)).length (bc (keyL (xs.take k))) ∧ Below w.heap.size w wr) (fun _ i _ => xs.length - (intOf i).toNat)
  case atStart => exact ⟨0, Nat.zero_le _, rfl, World.ownsRow_nil _ _ _ _, Below.refl _ _⟩
  case round =>
    obtain ⟨k, hk, rfl, hown, hbl⟩ := hrel
    have hbs := hbl.size
    by_cases hlt : k < xs.length
    · rcases hx with hx | ⟨b, off, rfl, hb, hrow⟩
      · simp [hx] at hlt
      obtain ⟨g1, g2, g3, g4⟩ := hrow k hlt
      clear hrow
      rw [← hbl.cell (p := ⟨b, _, none⟩) hb] at g1 g2 g3
      have hb2 : b < wr.heap.size := by omega
      have hfx := hf _ (List.getElem_mem hlt)
      have hrx := hall _ (List.getElem_mem hlt)
      have hkl : Hid _ := keyL_take xs k hlt
      have hle : (keyL (xs.take k)).length ≤ 900000 := by
        have := keyL_le (xs.take k) (fun x hx => hall x (List.mem_of_mem_take hx))
        simp at this
        omega
      generalize xs[k] = x at *
      have HF : Hid _ := hfx
      have HR : Hid _ := hrx
      have HA : Hid _ := hall
      have HFs : Hid _ := hf
      clear hfx hrx hall hf
      go_wp2_with fail
      refine (right_as _ _ _ true HR.out _ g4).mono ?_
      rintro e w1 ⟨rfl, hb1⟩
      have hown1 := own_below (hown.alloc _) hb1 (Nat.le_refl _)
      have hbl1 : Below w.heap.size w w1 := (hbl.alloc hbs _).trans (hb1.mono (by simp; omega))
      have hbs1 := hbl1.size
      have hc1 := fun o => bcell hb1 wr.heap.size o (by simp)
      clear hown hbl hb1
      go_wp2_with fail
      refine (appendValue_any w.heap.size _ (keyL (List.take k xs)) x _ hown1 hbs1 hle HF.out HR.out).mono ?_
      rintro e w2 ⟨v2, rfl, ho2, hb2⟩
      rw [← hkl.out] at ho2
      have hbl2 := hbl1.trans hb2
      clear hown1 hbl1 hb2
      go_wp2
      go_roundw
      case rel => exact ⟨k + 1, by omega, by go_num, ho2, hbl2⟩
      case measure => simp [intOf]; omega
    · have e : xs.take k = xs := List.take_of_length_le (by omega)
      rw [e] at hown
      have hcv := conv_own wr _ _ _ hown
      clear hown e
      go_wp2
      go_ret2
      exact ⟨rfl, hbl⟩
end Go.Proofs.YtkbnbkhloajmbaaDoor
