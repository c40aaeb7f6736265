/- The contracts of the document's in, Before, Places, . -/
import Derived.Test.YtalfjdpdecngoaaPEnc
namespace Go.Proofs.Ytalfjdpdecngoaa
open Go.RowKit

def inB (n lo hi : Int) : Bool := decide (lo ≤ n) && decide (n ≤ hi)
theorem in_any (n lo hi : Int) (w : World) : Calls Try.prog 22 #[.int .i64 n, .int .i64 lo, .int .i64 hi] w fun e w' => e = .returned (.bool (inB n lo hi)) ∧ w' = w := by
  obtain ⟨b1, e1⟩ : ∃ b, decide (lo ≤ n) = b := ⟨_, rfl⟩
  have HR : Hid (inB n lo hi = (b1 && decide (n ≤ hi))) := by show _ = _; rw [inB, e1]
  cases b1
  · go_enter Try.func22, Try.ntmps22
    go_wp2
    go_ret
    exact ⟨pret_bool (by rw [HR.out]; simp), rfl⟩
  · go_enter Try.func22, Try.ntmps22
    go_wp2
    go_ret
    exact ⟨pret_bool (by rw [HR.out]; simp), rfl⟩
theorem in_as (b : Bool) (n lo hi : Int) (h : inB n lo hi = b) (w : World) : Calls Try.prog 22 #[.int .i64 n, .int .i64 lo, .int .i64 hi] w fun e w' => e = .returned (.bool b) ∧ w' = w := by
  rw [← h]; exact in_any n lo hi w

theorem cmpP_neg (p q : Pl) : (cmpP p q < 0) ↔ (p.r < q.r ∨ (p.r = q.r ∧ p.a < q.a)) := by
  unfold cmpP cmpI
  by_cases h : p.r = q.r
  · rw [if_pos h]
    by_cases h2 : p.a < q.a
    · rw [if_pos h2]; omega
    · rw [if_neg h2]; split <;> omega
  · rw [if_neg h]
    by_cases h2 : p.r < q.r
    · rw [if_pos h2]; omega
    · rw [if_neg h2]; split <;> omega

set_option maxHeartbeats 1000000 in
theorem before_any (p q : Pl) (w : World) : Calls Try.prog 23 #[.agg #[.int .i64 p.r, .int .i64 p.a], .agg #[.int .i64 q.r, .int .i64 q.a]] w fun e w' => e = .returned (.bool (decide (cmpP p q < 0))) ∧ Below w.heap.size w w' := by
  have HC : Hid (∀ b : Bool, (b = true ↔ (p.r < q.r ∨ (p.r = q.r ∧ p.a < q.a))) → b = decide (cmpP p q < 0)) := by
    intro b hb
    rw [Bool.eq_iff_iff, hb, decide_eq_true_eq, cmpP_neg]
  by_cases h1 : p.r < q.r
  · have j1 : decide (p.r < q.r) = true := by simpa using h1
    go_enter Try.func23, Try.ntmps23
    go_wp2
    go_ret
    exact ⟨pret_bool (HC.out _ (by simp [h1])), ((Below.refl _ _).alloc (Nat.le_refl _) _).alloc (by simp) _⟩
  · have j1 : decide (p.r < q.r) = false := by simpa using h1
    by_cases h2 : p.r = q.r
    · have j2 : (p.r == q.r) = true := by simpa using h2
      have HE : Hid (p.r = q.r ∧ ¬ p.r < q.r) := ⟨h2, h1⟩
      clear h2 h1
      go_enter Try.func23, Try.ntmps23
      go_wp2
      go_ret
      exact ⟨pret_bool (HC.out _ (by simp [HE.out.1])), ((Below.refl _ _).alloc (Nat.le_refl _) _).alloc (by simp) _⟩
    · have j2 : (p.r == q.r) = false := by simpa using h2
      go_enter Try.func23, Try.ntmps23
      go_wp2
      go_ret
      exact ⟨pret_bool (HC.out _ (by simp [h1, h2])), ((Below.refl _ _).alloc (Nat.le_refl _) _).alloc (by simp) _⟩
theorem before_as (b : Bool) (p q : Pl) (h : decide (cmpP p q < 0) = b) (w : World) : Calls Try.prog 23 #[.agg #[.int .i64 p.r, .int .i64 p.a], .agg #[.int .i64 q.r, .int .i64 q.a]] w fun e w' => e = .returned (.bool b) ∧ Below w.heap.size w w' := by
  rw [← h]; exact before_any p q w

theorem okB_in (q : Pl) : okB q = (inB q.r 1 1073741824 && inB q.a 0 1073741823) := by
  rw [Bool.eq_iff_iff]
  simp only [okB, inB, Bool.and_eq_true, decide_eq_true_eq]
  omega
theorem first_foll (q : Pl) (h : okB q = true) : follB ⟨0, 0⟩ q = true := by
  have h' := h
  simp only [okB, Bool.and_eq_true, decide_eq_true_eq] at h'
  rw [follB, h, Bool.true_and, decide_eq_true_eq, cmpP_neg]
  exact .inl (by show (0 : Int) < q.r; omega)

/-- what is known of a world in a round of Places -/
def QE (b o1 o2 bx : Nat) (p q : Pl) (w wa wx : World) : Prop :=
  (wx.cell? ⟨bx, 0, none⟩ = some (.int .i64 q.r) ∧ wx.cell? ⟨bx, 1, none⟩ = some (.int .i64 q.a) ∧ wx.cell? ⟨b, o1, none⟩ = some (.int .i64 p.r) ∧ wx.cell? ⟨b, o2, none⟩ = some (.int .i64 p.a)) ∧ (b < w.heap.size ∧ bx < wa.heap.size ∧ w.heap.size ≤ wa.heap.size) ∧ Below w.heap.size w wx ∧ Below wa.heap.size wa wx
theorem QE.step {b o1 o2 bx : Nat} {p q : Pl} {w wa wx wy : World} (h : QE b o1 o2 bx p q w wa wx) (hb : Below wx.heap.size wx wy) : QE b o1 o2 bx p q w wa wy := by
  obtain ⟨⟨h1, h2, h3, h4⟩, ⟨h5, h6, h7⟩, h8, h9⟩ := h
  have s := h9.size
  refine ⟨⟨?_, ?_, ?_, ?_⟩, ⟨h5, h6, h7⟩, h8.trans (hb.mono h8.size), h9.trans (hb.mono s)⟩
  · rw [hb.cell (p := ⟨bx, _, none⟩) (by show bx < _; omega)]; exact h1
  · rw [hb.cell (p := ⟨bx, _, none⟩) (by show bx < _; omega)]; exact h2
  · rw [hb.cell (p := ⟨b, _, none⟩) (by show b < _; omega)]; exact h3
  · rw [hb.cell (p := ⟨b, _, none⟩) (by show b < _; omega)]; exact h4
theorem QE.drew {b o1 o2 bx : Nat} {p q : Pl} {w wa wx : World} (h : QE b o1 o2 bx p q w wa wx) : QE b o1 o2 bx p q w wa wx.drew := h.step (Below.refl _ _).drew

theorem prev_drop (xs : List Pl) (k : Nat) (hk : k < xs.length) (p : Pl) (R : Bool) (h : rightFrom p (xs.drop k) = R) :
    (follB p xs[k] = false → R = false) ∧ (follB p xs[k] = true → rightFrom xs[k] (xs.drop (k + 1)) = R) := right_drop p xs k hk R h

set_option maxRecDepth 100000 in
set_option maxHeartbeats 4000000 in
theorem places_any (a : Option Addr) (len cap : Nat) (xs : List Pl) (w : World) (hr : RowP w a len xs) :
    Calls Try.prog 5 #[.slice a len cap] w fun e w' => e = .returned (.bool (rightL xs)) ∧ Below w.heap.size w w' := by
  obtain ⟨rfl, hm, hx⟩ := hr
  have HR : Hid (rightFrom ⟨0, 0⟩ (xs.drop 0) = rightL xs) := rfl
  generalize rightL xs = R at *
  go_enter Try.func5, Try.ntmps5
  go_wp2
  go_loopw [7] (fun i wr => ∃ (k : Nat) (p : Pl), k ≤ xs.length ∧ i = .int .i64 k ∧ Hid (Below w.heap.size w wr ∧ rightFrom p (xs.drop k) = R ∧ ((k = 0 ∧ p = ⟨0, 0⟩) ∨ (0 < k ∧ xs[k - 1]? = some p))) ) (fun i _ => xs.length - (intOf i).toNat)
  case atStart => exact ⟨0, ⟨0, 0⟩, Nat.zero_le _, rfl, Below.refl _ _, HR.out, .inl ⟨rfl, rfl⟩⟩
  case round =>
    clear HR
    obtain ⟨k, p, hk, rfl, hz⟩ := hrel
    by_cases hlt : k < xs.length
    · rcases hx with hx | ⟨b, off, rfl, hb, hrow⟩
      · simp [hx] at hlt
      obtain ⟨g1, g2⟩ := hrow k hlt
      have HROW : Hid (∀ i (h : i < xs.length), w.cell? ⟨b, off + i * 2, none⟩ = some (.int .i64 xs[i].r) ∧ w.cell? ⟨b, off + i * 2 + 1, none⟩ = some (.int .i64 xs[i].a)) := hrow
      clear hrow
      rw [← hz.out.1.cell (p := ⟨b, _, none⟩) hb] at g1 g2
      obtain ⟨hR1, hR2⟩ := right_drop p xs k hlt R hz.out.2.1
      have i1 : (k : Int) < (xs.length : Int) := by omega
      have HNX : Hid (0 < k + 1 ∧ xs[k + 1 - 1]? = some xs[k]) := ⟨by omega, by simp [hlt]⟩
      have HPV : Hid ((k = 0 ∧ p = ⟨0, 0⟩) ∨ (0 < k ∧ xs[k - 1]? = some p)) := hz.out.2.2
      obtain ⟨q, hq⟩ : ∃ q, xs[k] = q := ⟨_, rfl⟩
      rw [hq] at g1 g2 hR1 hR2 HNX
      clear hq
      have HB : Hid (Below w.heap.size w wr) := hz.out.1
      have H1 : Hid (follB p q = false → R = false) := hR1
      have H2 : Hid (follB p q = true → rightFrom q (xs.drop (k + 1)) = R) := hR2
      clear hz hR1 hR2
      obtain ⟨b1, e1⟩ : ∃ b, inB q.r 1 1073741824 = b := ⟨_, rfl⟩
      obtain ⟨b2, e2⟩ : ∃ b, inB q.a 0 1073741823 = b := ⟨_, rfl⟩
      have HK : Hid (okB q = (b1 && b2)) := by show _ = _; rw [okB_in, e1, e2]
      have HA : Hid (Below wr.heap.size wr (wr.alloc (.cells #[.int .i64 q.r, .int .i64 q.a] 25))) := (Below.refl _ _).alloc (Nat.le_refl _) _
      have HB1 : Hid (Below w.heap.size w (wr.alloc (.cells #[.int .i64 q.r, .int .i64 q.a] 25))) := HB.out.trans (HA.out.mono HB.out.size)
      cases b1
      · have e : R = false := H1.out (by rw [follB, HK.out]; simp)
        subst e
        go_wp2_with fail
        go_quiet ((go_at_call 22; refine Calls.quiet_of_same (in_any _ _ _ _)))
        go_wp2
        go_ret
        exact ⟨rfl, below_drewN HB1.out _⟩
      · cases b2
        · have e : R = false := H1.out (by rw [follB, HK.out]; simp)
          subst e
          go_wp2_with fail
          go_quiet ((go_at_call 22; refine Calls.quiet_of_same (in_any _ _ _ _)))
          go_wp2
          go_ret
          exact ⟨rfl, below_drewN HB1.out _⟩
        · by_cases hk0 : k = 0
          · subst hk0
            simp only [Nat.zero_mul, Nat.add_zero] at g1 g2
            have HF : Hid (follB p q = true) := by
              show _ = _
              rcases HPV.out with ⟨_, e⟩ | ⟨h, _⟩
              · subst e; exact first_foll q (by rw [HK.out]; rfl)
              · omega
            go_wp2_with fail
            go_quiet ((go_at_call 22; refine Calls.quiet_of_same (in_any _ _ _ _)))
            go_wp2
            go_roundw
            case rel => exact ⟨1, q, by omega, by go_num, below_drewN HB1.out _, H2.out HF.out, .inr HNX.out⟩
            case measure => simp [intOf]; omega
          · obtain ⟨j, rfl⟩ : ∃ j, k = j + 1 := ⟨k - 1, by omega⟩
            have hpe : xs[j]? = some p := by
              rcases HPV.out with ⟨h, _⟩ | ⟨_, h⟩
              · exact absurd h hk0
              · simpa using h
            obtain ⟨g3, g4⟩ := HROW.out j (by omega)
            have hpe2 : xs[j]'(by omega) = p := by rw [List.getElem?_eq_getElem (by omega)] at hpe; exact Option.some.inj hpe
            rw [hpe2, ← HB1.out.cell (p := ⟨b, _, none⟩) hb] at g3 g4
            have i2 : (j : Int) < (xs.length : Int) := by omega
            have i5 : IntKind.i64.wrap (j : Int) = (j : Int) := by rw [IntKind.wrap_i64]; omega
            have d0 : decide ((0 : Int) < (j : Int) + 1) = true := by simp
            have HQ : Hid (QE b (off + j * 2) (off + j * 2 + 1) wr.heap.size p q w (wr.alloc (.cells #[.int .i64 q.r, .int .i64 q.a] 25)) (wr.alloc (.cells #[.int .i64 q.r, .int .i64 q.a] 25))) := ⟨⟨by simp, by simp, g3, g4⟩, ⟨hb, by simp, HB1.out.size⟩, HB1.out, Below.refl _ _⟩
            clear g3 g4 hpe hpe2 HPV HROW
            obtain ⟨cb, hcb⟩ : ∃ cb, decide (cmpP p q < 0) = cb := ⟨_, rfl⟩
            have HCB : Hid (decide (cmpP p q < 0) = cb) := hcb
            have HF : Hid (follB p q = cb) := by show _ = _; rw [follB, HK.out, hcb]; simp
            clear hcb
            cases cb
            · have e : R = false := H1.out HF.out
              subst e
              go_wp2_with fail
              have HQ : Hid _ := QE.drew HQ.out
              go_region_held3 (fun w' => w'.cell? ⟨wr.heap.size, 0, none⟩ = some (.int .i64 q.r) ∧ w'.cell? ⟨wr.heap.size, 1, none⟩ = some (.int .i64 q.a) ∧ w'.cell? ⟨b, off + j * 2, none⟩ = some (.int .i64 p.r) ∧ w'.cell? ⟨b, off + j * 2 + 1, none⟩ = some (.int .i64 p.a)) (exact HQ.out.1)
                (first
                  | (go_at_call 22; refine Calls.mono (in_any _ _ _ _) ?_; rintro _ _ ⟨rfl, rfl⟩)
                  | (go_at_call 23; refine Calls.mono (before_as _ p q HCB.out _) ?_; rintro _ w3 ⟨rfl, hb3⟩; have HQ : Hid _ := QE.step HQ.out hb3; clear hb3))
              go_wp2
              go_ret
              exact ⟨rfl, HQ.out.2.2.1⟩
            · go_wp2_with fail
              have HQ : Hid _ := QE.drew HQ.out
              go_region_held3 (fun w' => w'.cell? ⟨wr.heap.size, 0, none⟩ = some (.int .i64 q.r) ∧ w'.cell? ⟨wr.heap.size, 1, none⟩ = some (.int .i64 q.a) ∧ w'.cell? ⟨b, off + j * 2, none⟩ = some (.int .i64 p.r) ∧ w'.cell? ⟨b, off + j * 2 + 1, none⟩ = some (.int .i64 p.a)) (exact HQ.out.1)
                (first
                  | (go_at_call 22; refine Calls.mono (in_any _ _ _ _) ?_; rintro _ _ ⟨rfl, rfl⟩)
                  | (go_at_call 23; refine Calls.mono (before_as _ p q HCB.out _) ?_; rintro _ w3 ⟨rfl, hb3⟩; have HQ : Hid _ := QE.step HQ.out hb3; clear hb3))
              go_wp2
              go_roundw
              case rel => exact ⟨j + 1 + 1, q, by omega, by go_num, HQ.out.2.2.1, H2.out HF.out, .inr HNX.out⟩
              case measure => simp [intOf]; omega
    · have e : R = true := by
        have := hz.out.2.1
        rw [List.drop_eq_nil_of_le (by omega)] at this
        exact this.symm
      subst e
      go_wp2
      go_ret
      exact ⟨rfl, hz.out.1⟩
end Go.Proofs.Ytalfjdpdecngoaa
