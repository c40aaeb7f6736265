/- The contracts of the law's sameTexts and sameQuery, of things that are the same. -/
import Derived.Test.YtleegplecdknlaaDoorAAsk
namespace Go.Proofs.YtleegplecdknlaaDoor
open Go.RowKit

theorem RowS.drewN {w : World} {a : Option Addr} {len : Nat} {xs : List ByteArray} (h : RowS w a len xs) (n : Nat) : RowS (w.drewN n) a len xs := h.below (below_drewN (Below.refl _ _) n)

set_option maxHeartbeats 1000000 in
theorem sameTexts_any (a a' : Option Addr) (len len' cap cap' : Nat) (xs : List ByteArray) (w : World) (hr : RowS w a len xs) (hr' : RowS w a' len' xs) :
    Calls Tryd.prog 16 #[.slice a len cap, .slice a' len' cap'] w fun e w' => e = .returned (.bool true) ∧ ∃ m, w' = w.drewN m := by
  obtain ⟨rfl, hm, hx⟩ := hr
  obtain ⟨rfl, _, hx'⟩ := hr'
  go_enter Tryd.func16, Tryd.ntmps16
  go_wp2
  go_loopw [5] (fun i wr => ∃ k : Nat, k ≤ xs.length ∧ i = .int .i64 k ∧ Hid (∃ m, wr = w.drewN m)) (fun i _ => xs.length - (intOf i).toNat)
  case atStart => exact ⟨0, Nat.zero_le _, rfl, 0, rfl⟩
  case round =>
    obtain ⟨k, hk, rfl, hbl⟩ := hrel
    obtain ⟨m, rfl⟩ := hbl.out
    by_cases hlt : k < xs.length
    · rcases hx with hx | ⟨b, off, rfl, hb, hrow⟩
      · simp [hx] at hlt
      rcases hx' with hx' | ⟨b', off', rfl, hb', hrow'⟩
      · simp [hx'] at hlt
      have g1 := hrow k hlt
      have e1 := hrow' k hlt
      clear hrow hrow' hbl
      have i1 : (k : Int) < (xs.length : Int) := by omega
      generalize xs[k] = x at *
      go_wp2
      go_quiet (fail)
      go_wp2
      go_roundw
      case rel => exact ⟨k + 1, by omega, by go_num, m + nq, rfl⟩
      case measure => simp [intOf]; omega
    · go_wp2
      go_ret
      exact ⟨rfl, m, rfl⟩

/-- how far apart two words may stand -/
def farOf (k : Int) : Int := if k = 3 then 3 else 0
/-- what lies there is this, as the program has it -/
def MIs (w : World) : Option Addr → Qy → Prop
  | p, .nil => p = none
  | p, .node k ws a b => ∃ B x n c pa pb, p = some ⟨B, 0, none⟩ ∧ B < w.heap.size ∧ (w.cell? ⟨B, 0, none⟩ = some (.int .i64 k) ∧ w.cell? ⟨B, 1, none⟩ = some (.slice x n c) ∧ w.cell? ⟨B, 2, none⟩ = some (.int .i64 (farOf k)) ∧ w.cell? ⟨B, 3, none⟩ = some (.pointer pa) ∧ w.cell? ⟨B, 4, none⟩ = some (.pointer pb)) ∧ RowS w x n ws ∧ MIs w pa a ∧ MIs w pb b
theorem MIs.below {w w' : World} (hb : Below w.heap.size w w') (q : Qy) : ∀ {p : Option Addr}, MIs w p q → MIs w' p q := by
  induction q with
  | nil => intro p h; exact h
  | node k ws a b ha hb' =>
    intro p h
    obtain ⟨B, x, n, c, pa, pb, e, h2, ⟨c0, c1, c2, c3, c4⟩, hr, qa, qb⟩ := h
    have key : ∀ o, w'.cell? ⟨B, o, none⟩ = w.cell? ⟨B, o, none⟩ := fun o => hb.cell (p := ⟨B, o, none⟩) h2
    exact ⟨B, x, n, c, pa, pb, e, Nat.lt_of_lt_of_le h2 hb.size, ⟨by rw [key]; exact c0, by rw [key]; exact c1, by rw [key]; exact c2, by rw [key]; exact c3, by rw [key]; exact c4⟩, hr.below hb, ha qa, hb' qb⟩
theorem QIs.below {A : Nat} {w w' : World} (hb : Below w.heap.size w w') (q : Qy) {p : Option Addr} (h : QIs A w p q) : QIs A w' p q := QIs.grown (grown_of_belowA hb _) q h
theorem rowS_of_W {A : Nat} {w : World} {v : Value} {ws : List ByteArray} (h : RowW A w v ws) : ∃ a c, v = .slice a ws.length c ∧ RowS w a ws.length ws := by
  obtain ⟨a, c, rfl, hl, h⟩ := h
  refine ⟨a, c, rfl, rfl, hl, ?_⟩
  rcases h with h | ⟨b, off, e, _, h2, h3⟩
  · exact .inl h
  · exact .inr ⟨b, off, e, h2, h3⟩

set_option maxRecDepth 100000 in
set_option maxHeartbeats 8000000 in
theorem sameQuery_any (A : Nat) (q : Qy) : ∀ (w : World) (p p' : Option Addr), MIs w p q → QIs A w p' q →
    Calls Tryd.prog 7 #[.pointer p, .pointer p'] w fun e w' => e = .returned (.bool true) ∧ ∃ m, w' = w.drewN m := by
  induction q with
  | nil =>
    intro w p p' h h'
    obtain rfl : p = none := h
    obtain rfl : p' = none := h'
    go_enter Tryd.func7, Tryd.ntmps7
    go_wp2
    go_ret
    exact ⟨rfl, 0, rfl⟩
  | node k ws a b ha hb =>
    intro w p p' h h'
    obtain ⟨B, x, n, c, pa, pb, rfl, _, ⟨c0, c1, c2, c3, c4⟩, hr, qa, qb⟩ := h
    obtain ⟨B', vw, pa', pb', rfl, _, ⟨c0', c1', c2', c3'⟩, hr', qa', qb'⟩ := h'
    obtain ⟨x', cx', rfl, hrs'⟩ := rowS_of_W hr'
    have HT : Hid (∀ m, Calls Tryd.prog 16 #[.slice x n c, .slice x' ws.length cx'] (w.drewN m) fun e w'' => e = .returned (.bool true) ∧ ∃ m', w'' = w.drewN m') := fun m => Calls.quiet_of (sameTexts_any x x' n ws.length c cx' ws _ (hr.drewN m) (hrs'.drewN m))
    have HL : Hid (∀ m, Calls Tryd.prog 7 #[.pointer pa, .pointer pa'] (w.drewN m) fun e w'' => e = .returned (.bool true) ∧ ∃ m', w'' = w.drewN m') := fun m => Calls.quiet_of (ha _ pa pa' (MIs.below (below_drewN (Below.refl _ _) m) a qa) (QIs.below (below_drewN (Below.refl _ _) m) a qa'))
    have HRt : Hid (∀ m, Calls Tryd.prog 7 #[.pointer pb, .pointer pb'] (w.drewN m) fun e w'' => e = .returned (.bool true) ∧ ∃ m', w'' = w.drewN m') := fun m => Calls.quiet_of (hb _ pb pb' (MIs.below (below_drewN (Below.refl _ _) m) b qb) (QIs.below (below_drewN (Below.refl _ _) m) b qb'))
    clear ha hb hr hr' hrs' qa qb qa' qb'
    by_cases hk : k = 3
    · subst hk
      have e3 : farOf 3 = 3 := rfl
      rw [e3] at c2
      go_enter Tryd.func7, Tryd.ntmps7
      go_wp2
      go_quiet (first | (go_at_call 16; with_reducible exact HT.out _) | (go_at_call 7; with_reducible exact HL.out _) | (go_at_call 7; with_reducible exact HRt.out _))
      go_wp2
      go_ret
      exact ⟨rfl, _, rfl⟩
    · have e3 : farOf k = 0 := by rw [farOf, if_neg hk]
      rw [e3] at c2
      have d3 : (k == 3) = false := by simpa using hk
      go_enter Tryd.func7, Tryd.ntmps7
      go_wp2
      go_quiet (first | (go_at_call 16; with_reducible exact HT.out _) | (go_at_call 7; with_reducible exact HL.out _) | (go_at_call 7; with_reducible exact HRt.out _))
      go_wp2
      go_ret
      exact ⟨rfl, _, rfl⟩
end Go.Proofs.YtleegplecdknlaaDoor
