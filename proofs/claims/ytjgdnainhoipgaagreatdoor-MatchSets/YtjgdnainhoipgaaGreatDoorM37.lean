/- Texts of the proof of MatchSets: MAsk4, MAsk5, MAsk6, MAsk7, MAsk8, MAsk9, MCut, MSix. -/
import Derived.Test.YtjgdnainhoipgaaGreatDoorM36
namespace Go.Proofs.YtjgdnainhoipgaaGreatDoor
open Go.RowKit

theorem take_badM (s : Rst) (x : ByteArray) (h : s.bad ≠ 0) (hx : x ≠ tNone) : s.take x = (false, s) := take_no (by rw [peek_bad s h]; exact fun e => hx e.symm)
theorem beginsM_bad (x : ByteArray) (cs : List UInt8) : ∀ s : Rst, s.bad ≠ 0 → s.begins x cs = s := by
  induction cs with
  | nil => intro s _; rfl
  | cons c r ih =>
    intro s h
    unfold Rst.begins
    rw [fails_bad s 3 h, ite_self]
    exact ih s h
theorem begins_more (x : ByteArray) (M R : List ByteArray) (cs : List UInt8) : ∀ L', (⟨M, 0⟩ : Rst).begins x cs = ⟨L', 0⟩ → L' = M ∧ (⟨M ++ R, 0⟩ : Rst).begins x cs = ⟨M ++ R, 0⟩ := by
  induction cs with
  | nil =>
    intro L' h
    have h' : (⟨M, 0⟩ : Rst) = ⟨L', 0⟩ := h
    simp only [Rst.mk.injEq] at h'
    exact ⟨h'.1.symm, rfl⟩
  | cons c r ih =>
    intro L' h
    unfold Rst.begins at h ⊢
    by_cases hc : (!alnum c || decide (12 < x.size)) = true
    · rw [if_pos hc] at h
      have e : (⟨M, 0⟩ : Rst).fails 3 = ⟨M, 3⟩ := rfl
      rw [e, beginsM_bad x r _ (by show (3 : Int) ≠ 0; decide)] at h
      simp only [Rst.mk.injEq] at h
      exact absurd h.2 (by decide)
    · rw [if_neg hc] at h ⊢
      exact ih L' h
theorem plain_good {M L' : List ByteArray} {x y : ByteArray} (h : (⟨M, 0⟩ : Rst).plain x = (y, ⟨L', 0⟩)) : L' = M ∧ ∀ M' : List ByteArray, (⟨M', 0⟩ : Rst).plain x = (y, ⟨M', 0⟩) := by
  unfold Rst.plain at h ⊢
  split at h
  · rename_i z hz
    simp only [Prod.mk.injEq, Rst.mk.injEq] at h
    obtain ⟨rfl, rfl, _⟩ := h
    exact ⟨rfl, fun M' => rfl⟩
  · rename_i hz
    simp only [Prod.mk.injEq] at h
    have e : (⟨M, 0⟩ : Rst).fails 3 = ⟨M, 3⟩ := rfl
    rw [e] at h
    simp only [Rst.mk.injEq] at h
    exact absurd h.2.2 (by decide)
theorem near_more {R : List ByteArray} (hR : Shuts R) (p : ByteArray) (M L' : List ByteArray) (q : Qy) (h : nearM p ⟨M, 0⟩ = (q, ⟨L', 0⟩)) : nearM p ⟨M ++ R, 0⟩ = (q, ⟨L' ++ R, 0⟩) := by
  unfold nearM at h ⊢
  obtain ⟨r, hr⟩ : ∃ r, (⟨M, 0⟩ : Rst).plain p = r := ⟨_, rfl⟩
  obtain ⟨y, s1⟩ := r
  by_cases hb : s1.bad = 0
  · rw [rst_zero hb] at hr
    obtain ⟨e, g⟩ := plain_good hr
    rw [g (M ++ R)]
    rw [g M] at h
    simp only at h ⊢
    obtain ⟨t1, t2⟩ := take_more (L := M) (x := tNear) hR (by decide) (by decide)
    have e1 := rst_zero t2
    obtain ⟨c, hc⟩ : ∃ c, ((⟨M, 0⟩ : Rst).take tNear).1 = c := ⟨_, rfl⟩
    obtain ⟨K, hK⟩ : ∃ K, ((⟨M, 0⟩ : Rst).take tNear).2.l = K := ⟨_, rfl⟩
    rw [hK] at e1 t1
    rw [hc] at t1
    rw [hc, e1] at h
    rw [t1]
    simp only at h ⊢
    cases c
    · simp only [Bool.false_eq_true, if_false, Prod.mk.injEq, Rst.mk.injEq] at h ⊢
      obtain ⟨rfl, rfl, _⟩ := h
      simp
    · simp only [if_true] at h ⊢
      cases K with
      | nil =>
        have e0 : (⟨[], 0⟩ : Rst).peek = tNone := rfl
        rw [e0, if_pos (.inl rfl)] at h
        simp only [Prod.mk.injEq] at h
        have e2 : (⟨[], 0⟩ : Rst).fails 3 = ⟨[], 3⟩ := rfl
        rw [e2] at h
        simp only [Rst.mk.injEq] at h
        exact absurd h.2.2 (by decide)
      | cons t k =>
        have e0 : (⟨t :: k, 0⟩ : Rst).peek = t := rfl
        have e0' : (⟨t :: k ++ R, 0⟩ : Rst).peek = t := rfl
        rw [e0] at h
        rw [e0']
        by_cases hs : t = tNone ∨ isSign (firstB t) = true
        · rw [if_pos hs] at h
          simp only [Prod.mk.injEq] at h
          have e2 : (⟨t :: k, 0⟩ : Rst).fails 3 = ⟨t :: k, 3⟩ := rfl
          rw [e2] at h
          simp only [Rst.mk.injEq] at h
          exact absurd h.2.2 (by decide)
        · rw [if_neg hs] at h ⊢
          rw [take_yes e0] at h
          rw [take_yes e0']
          simp only [List.tail_cons, List.cons_append] at h ⊢
          obtain ⟨r2, hr2⟩ : ∃ r, (⟨k, 0⟩ : Rst).plain t = r := ⟨_, rfl⟩
          obtain ⟨z, s2⟩ := r2
          rw [hr2] at h
          simp only [Prod.mk.injEq] at h
          obtain ⟨rfl, h2⟩ := h
          rw [h2] at hr2
          obtain ⟨e3, g3⟩ := plain_good hr2
          rw [g3 (k ++ R), e3]
  · rw [hr] at h
    simp only at h
    rw [take_badM s1 tNear hb (by decide)] at h
    simp only [Bool.false_eq_true, if_false, Prod.mk.injEq] at h
    rw [h.2] at hb
    exact absurd rfl hb
section
variable {E : Bool} {R : List ByteArray} {any any2 : Rst → Qy × Rst}
theorem sim_one (hR : Shuts R) (hs : Sim E R any any2) : Sim E R (oneM any false) (oneM any2 false) := by
  intro L q L' h
  cases L with
  | nil =>
    exfalso
    have e : oneM any false ⟨[], 0⟩ = (zeroQ, ⟨[], 3⟩) := rfl
    rw [e] at h
    simp only [Prod.mk.injEq, Rst.mk.injEq] at h
    exact absurd h.2.2 (by decide)
  | cons y l =>
    have e0 : (⟨y :: l, 0⟩ : Rst).peek = y := rfl
    have e0' : (⟨y :: l ++ R, 0⟩ : Rst).peek = y := rfl
    unfold oneM at h ⊢
    rw [e0] at h
    rw [e0']
    simp only [Bool.false_eq_true, if_false] at h ⊢
    by_cases h1 : y = tOpen
    · subst h1
      rw [if_pos rfl, take_yes e0] at h
      rw [if_pos rfl, take_yes e0']
      simp only [List.tail_cons, List.cons_append] at h ⊢
      obtain ⟨r, hr⟩ : ∃ r, any ⟨l, 0⟩ = r := ⟨_, rfl⟩
      obtain ⟨q1, s1⟩ := r
      simp only [hr, Prod.mk.injEq] at h
      obtain ⟨rfl, h⟩ := h
      by_cases hb : s1.bad = 0
      · obtain ⟨M, rfl⟩ : ∃ M, s1 = ⟨M, 0⟩ := ⟨s1.l, rst_zero hb⟩
        by_cases hp : (⟨M, 0⟩ : Rst).peek = tShut
        · cases M with
          | nil => exact absurd hp (by decide)
          | cons z m =>
            simp only [take_yes hp, if_true, List.tail_cons, Rst.mk.injEq] at h
            obtain ⟨rfl, _⟩ := h
            rcases hs _ _ _ hr with g | ⟨g1, g2⟩
            · left
              have e5 := take_yes (show (⟨z :: m ++ R, 0⟩ : Rst).peek = tShut from hp)
              simp only [g, e5, if_true] <;> rfl
            · refine .inr ⟨g1, ?_⟩
              have k := take_badM (any2 ⟨l ++ R, 0⟩).2 tShut (by rw [g2]; decide) (by decide)
              have k2 := fails_bad (any2 ⟨l ++ R, 0⟩).2 3 (by rw [g2]; decide)
              simp only [k, k2, Bool.false_eq_true, if_false]
              exact g2
        · simp only [take_no hp, Bool.false_eq_true, if_false] at h
          have e2 : (⟨M, 0⟩ : Rst).fails 3 = ⟨M, 3⟩ := rfl
          rw [e2] at h
          simp only [Rst.mk.injEq] at h
          exact absurd h.2 (by decide)
      · simp only [take_badM s1 tShut hb (by decide), Bool.false_eq_true, if_false] at h
        rw [fails_bad s1 3 hb] at h
        rw [h] at hb
        exact absurd rfl hb
    · rw [if_neg h1] at h ⊢
      by_cases h2 : noOne y = true
      · rw [if_pos h2] at h
        simp only [Prod.mk.injEq] at h
        have e2 : (⟨y :: l, 0⟩ : Rst).fails 3 = ⟨y :: l, 3⟩ := rfl
        rw [e2] at h
        simp only [Rst.mk.injEq] at h
        exact absurd h.2.2 (by decide)
      · rw [if_neg h2] at h ⊢
        by_cases h3 : firstB y = 34
        · rw [if_pos h3, take_yes e0] at h
          rw [if_pos h3, take_yes e0']
          simp only [List.tail_cons, List.cons_append, Prod.mk.injEq] at h ⊢
          obtain ⟨rfl, h⟩ := h
          by_cases hw : wordsL (y.data.toList.drop 1) = []
          · rw [if_pos hw] at h
            have e2 : (⟨l, 0⟩ : Rst).fails 3 = ⟨l, 3⟩ := rfl
            rw [e2] at h
            simp only [Rst.mk.injEq] at h
            exact absurd h.2 (by decide)
          · rw [if_neg hw] at h ⊢
            simp only [Rst.mk.injEq] at h
            obtain ⟨rfl, _⟩ := h
            exact .inl ⟨rfl, rfl⟩
        · rw [if_neg h3, take_yes e0] at h
          rw [if_neg h3, take_yes e0']
          simp only [List.tail_cons, List.cons_append] at h ⊢
          obtain ⟨t1, t2⟩ := take_more (L := l) (x := tStar) hR (by decide) (by decide)
          have e1 := rst_zero t2
          obtain ⟨c, hc⟩ : ∃ c, ((⟨l, 0⟩ : Rst).take tStar).1 = c := ⟨_, rfl⟩
          obtain ⟨K, hK⟩ : ∃ K, ((⟨l, 0⟩ : Rst).take tStar).2.l = K := ⟨_, rfl⟩
          rw [hK] at e1 t1
          rw [hc] at t1
          simp only [hc, e1] at h
          simp only [t1]
          left
          cases c
          · simp only [Bool.false_eq_true, if_false] at h ⊢
            exact near_more hR y K L' q h
          · simp only [if_true, Prod.mk.injEq] at h ⊢
            obtain ⟨rfl, h⟩ := h
            obtain ⟨e4, g4⟩ := begins_more y K R _ _ h
            rw [e4]
            exact ⟨rfl, g4⟩
end
theorem eats_one (any : Rst → Qy × Rst) (ha : ∀ s, (any s).2.nu ≤ s.nu) (over : Bool) : Eats (oneM any over) := by
  intro L q L' h
  have h1 := (nu_one ha over (⟨L, 0⟩ : Rst)).2
  rw [h, nu_good, nu_good] at h1
  refine h1 (fun e => ?_)
  have : (oneM any over ⟨L, 0⟩).2.bad ≠ 0 := by
    unfold oneM
    rw [e]
    cases over
    · simp only [Bool.false_eq_true, if_false]
      rw [if_neg (by decide), if_pos (by decide)]
      show (3 : Int) ≠ 0
      decide
    · show (4 : Int) ≠ 0
      decide
  rw [h] at this
  exact this rfl
theorem eats_at (m : Nat) : Eats (oneAt m) := by
  cases m with
  | zero => exact eats_one _ (fun s => Nat.le_refl _) true
  | succ m => exact eats_one _ (nu_anyM (fun s => (nu_oneAt m s).1)) false
theorem never_zero (L L' : List ByteArray) (q : Qy) : oneAt 0 ⟨L, 0⟩ ≠ (q, ⟨L', 0⟩) := fun h => by
  have e : oneAt 0 ⟨L, 0⟩ = (zeroQ, ⟨L, 4⟩) := rfl
  rw [e] at h
  simp only [Prod.mk.injEq, Rst.mk.injEq] at h
  exact absurd h.2.2 (by decide)
theorem sim_same {R : List ByteArray} (hR : Shuts R) : ∀ m, Sim false R (oneAt m) (oneAt m) := by
  intro m
  induction m with
  | zero => intro L q L' h; exact absurd h (never_zero L L' q)
  | succ m ih => exact sim_one hR (sim_any hR ih (eats_at m) (fun s => (nu_oneAt m s).1))
end Go.Proofs.YtjgdnainhoipgaaGreatDoor
namespace Go.Proofs.YtjgdnainhoipgaaGreatDoor
open Go.RowKit

theorem ask_good {L : List ByteArray} {q : Qy} (h : askM L = (q, 0)) : anyM (oneAt 13) ⟨L, 0⟩ = (q, ⟨[], 0⟩) := by
  unfold askM at h
  obtain ⟨r, hr⟩ : ∃ r, anyM (oneAt 13) ⟨L, 0⟩ = r := ⟨_, rfl⟩
  obtain ⟨q1, s1⟩ := r
  simp only [hr] at h
  by_cases hl : s1.l = []
  · simp only [hl, if_true, Prod.mk.injEq] at h
    obtain ⟨h1, h2⟩ := h
    rw [if_pos h2] at h1
    rw [hr, rst_zero h2, hl, h1]
  · simp only [hl, if_false, Prod.mk.injEq] at h
    exfalso
    by_cases hb : s1.bad = 0
    · have e : (s1.fails 3).bad = 3 := by rw [Rst.fails, if_pos hb]
      rw [e] at h
      exact absurd h.2 (by decide)
    · rw [fails_bad s1 3 hb] at h
      exact hb h.2
theorem ask_of {L : List ByteArray} {q : Qy} (h : anyM (oneAt 13) ⟨L, 0⟩ = (q, ⟨[], 0⟩)) : askM L = (q, 0) := by
  unfold askM
  simp only [h, if_true]
theorem ask_bad {L : List ByteArray} (h : (anyM (oneAt 13) ⟨L, 0⟩).2.bad = 4) : (askM L).2 = 4 := by
  unfold askM
  have hb : (anyM (oneAt 13) ⟨L, 0⟩).2.bad ≠ 0 := by rw [h]; decide
  simp only [fails_bad _ 3 hb, ite_self]
  exact h
section
variable {La Lb : List ByteArray} {qa qb : Qy} (ha : askM La = (qa, 0)) (hb : askM Lb = (qb, 0))
include ha hb
end
end Go.Proofs.YtjgdnainhoipgaaGreatDoor
namespace Go.Proofs.YtjgdnainhoipgaaGreatDoor
open Go.RowKit

/-- at every state the second is the first, or it has come to the limit -/
def Low (X Y : Rst → Qy × Rst) : Prop := ∀ s, Y s = X s ∨ (Y s).2.bad = 4
section
variable {X Y : Rst → Qy × Rst}
theorem low_allL (h : Low X Y) : ∀ f q s, allL Y f q s = allL X f q s ∨ (allL Y f q s).2.bad = 4 := by
  intro f
  induction f with
  | zero => intro q s; exact .inl rfl
  | succ f ih =>
    intro q s
    unfold allL
    by_cases hg : goes s.peek = true
    · rw [if_pos hg, if_pos hg]
      obtain ⟨s1, hs1⟩ : ∃ s1, (if (s.take tNot).1 then (s.take tNot).2 else ((s.take tNot).2.take tAnd).2) = s1 := ⟨_, rfl⟩
      simp only [hs1]
      rcases h s1 with e | e
      · rw [e]; exact ih _ _
      · right
        rw [allL_badM _ _ _ _ (by rw [e]; decide)]
        exact e
    · rw [if_neg hg, if_neg hg]; exact .inl rfl
theorem low_all (h : Low X Y) : Low (allM X) (allM Y) := fun s => by
  unfold allM
  rcases h s with e | e
  · rw [e]; exact low_allL h _ _ _
  · right
    simp only
    rw [allL_badM _ _ _ _ (by rw [e]; decide)]
    exact e
theorem low_anyL (h : Low X Y) : ∀ f q s, anyL Y f q s = anyL X f q s ∨ (anyL Y f q s).2.bad = 4 := by
  intro f
  induction f with
  | zero => intro q s; exact .inl rfl
  | succ f ih =>
    intro q s
    unfold anyL
    obtain ⟨o, ho⟩ : ∃ o, s.take tOr = o := ⟨_, rfl⟩
    simp only [ho]
    by_cases hg : o.1 = true
    · rw [if_pos hg, if_pos hg]
      rcases h o.2 with e | e
      · rw [e]; exact ih _ _
      · right
        rw [anyL_badM _ _ _ _ (by rw [e]; decide)]
        exact e
    · rw [if_neg hg, if_neg hg]; exact .inl rfl
theorem low_any (h : Low X Y) : Low (anyM X) (anyM Y) := fun s => by
  unfold anyM
  rcases low_all h s with e | e
  · rw [e]; exact low_anyL (low_all h) _ _ _
  · right
    simp only
    rw [anyL_badM _ _ _ _ (by rw [e]; decide)]
    exact e
theorem low_one (h : Low X Y) : Low (oneM X false) (oneM Y false) := fun s => by
  unfold oneM
  simp only [Bool.false_eq_true, if_false]
  by_cases hp : s.peek = tOpen
  · rw [if_pos hp, if_pos hp]
    rcases h (s.take tOpen).2 with e | e
    · left; simp only [e]
    · right
      have k := take_badM (Y (s.take tOpen).2).2 tShut (by rw [e]; decide) (by decide)
      have k2 := fails_bad (Y (s.take tOpen).2).2 3 (by rw [e]; decide)
      simp only [k, k2, Bool.false_eq_true, if_false]
      exact e
  · rw [if_neg hp, if_neg hp]; exact .inl rfl
end
theorem low_at : ∀ m, Low (oneAt (m + 1)) (oneAt m) := by
  intro m
  induction m with
  | zero =>
    intro s
    have e : oneAt 0 s = (zeroQ, s.fails 4) := rfl
    by_cases hb : s.bad = 0
    · right
      rw [e]
      show (s.fails 4).bad = 4
      rw [Rst.fails, if_pos hb]
    · left
      rw [e, fails_bad s 4 hb]
      show _ = oneM (anyM (oneAt 0)) false s
      unfold oneM
      simp only [peek_bad s hb, Bool.false_eq_true, if_false]
      rw [if_neg (by decide), if_pos (by decide), fails_bad s 3 hb]
  | succ m ih => exact low_one (low_any ih)
end Go.Proofs.YtjgdnainhoipgaaGreatDoor
namespace Go.Proofs.YtjgdnainhoipgaaGreatDoor
open Go.RowKit

def Four (R : List ByteArray) (X : Rst → Qy × Rst) : Prop := ∀ L, (X ⟨L, 0⟩).2.bad = 4 → (X ⟨L ++ R, 0⟩).2.bad = 4
theorem begins_neM (x : ByteArray) (M : List ByteArray) (cs : List UInt8) : ((⟨M, 0⟩ : Rst).begins x cs).bad ≠ 4 := by
  induction cs with
  | nil => show (0 : Int) ≠ 4; decide
  | cons c r ih =>
    unfold Rst.begins
    split
    · rw [beginsM_bad x r _ (by show (3 : Int) ≠ 0; decide)]
      show (3 : Int) ≠ 4; decide
    · exact ih
theorem plain_ne (s : Rst) (x : ByteArray) (h : s.bad ≠ 4) : (s.plain x).2.bad ≠ 4 := by
  unfold Rst.plain
  split
  · exact h
  · show (s.fails 3).bad ≠ 4
    unfold Rst.fails
    split
    · show (3 : Int) ≠ 4; decide
    · exact h
theorem take_same (s : Rst) (x : ByteArray) : (s.take x).2.bad = s.bad := by
  unfold Rst.take
  split <;> rfl
theorem fails_neM (s : Rst) (h : s.bad ≠ 4) : (s.fails 3).bad ≠ 4 := by
  unfold Rst.fails
  split
  · show (3 : Int) ≠ 4; decide
  · exact h
theorem near_ne (p : ByteArray) (s : Rst) (h : s.bad ≠ 4) : (nearM p s).2.bad ≠ 4 := by
  have h1 := plain_ne s p h
  have h2 : ((s.plain p).2.take tNear).2.bad ≠ 4 := by rw [take_same]; exact h1
  unfold nearM
  simp only
  split
  · split
    · exact fails_neM _ h2
    · exact plain_ne _ _ (by rw [take_same]; exact h2)
  · exact h2
section
variable {R : List ByteArray} {one : Rst → Qy × Rst}
theorem four_one (hs : Four R one) : Four R (oneM one false) := by
  intro L h
  cases L with
  | nil =>
    have e : oneM one false ⟨[], 0⟩ = (zeroQ, ⟨[], 3⟩) := rfl
    rw [e] at h
    exact absurd h (by decide)
  | cons y l =>
    have e0 : (⟨y :: l, 0⟩ : Rst).peek = y := rfl
    have e0' : (⟨y :: l ++ R, 0⟩ : Rst).peek = y := rfl
    unfold oneM at h ⊢
    rw [e0] at h
    rw [e0']
    simp only [Bool.false_eq_true, if_false] at h ⊢
    by_cases h1 : y = tOpen
    · subst h1
      rw [if_pos rfl, take_yes e0] at h
      rw [if_pos rfl, take_yes e0']
      simp only [List.tail_cons, List.cons_append] at h ⊢
      by_cases hb : (one ⟨l, 0⟩).2.bad = 0
      · exfalso
        have k := take_same (one ⟨l, 0⟩).2 tShut
        rw [hb] at k
        by_cases hc : ((one ⟨l, 0⟩).2.take tShut).1 = true
        · simp only [hc, if_true] at h
          rw [k] at h; exact absurd h (by decide)
        · simp only [hc] at h
          exact fails_neM _ (by rw [k]; decide) h
      · have k := take_badM (one ⟨l, 0⟩).2 tShut hb (by decide)
        have k2 := fails_bad (one ⟨l, 0⟩).2 3 hb
        simp only [k, k2, Bool.false_eq_true, if_false] at h
        have g := hs l h
        have j := take_badM (one ⟨l ++ R, 0⟩).2 tShut (by rw [g]; decide) (by decide)
        have j2 := fails_bad (one ⟨l ++ R, 0⟩).2 3 (by rw [g]; decide)
        simp only [j, j2, Bool.false_eq_true, if_false]
        exact g
    · exfalso
      rw [if_neg h1] at h
      by_cases h2 : noOne y = true
      · rw [if_pos h2] at h
        exact fails_neM (⟨y :: l, 0⟩ : Rst) (by show (0 : Int) ≠ 4; decide) h
      · rw [if_neg h2] at h
        have kt : ((⟨y :: l, 0⟩ : Rst).take y).2 = ⟨l, 0⟩ := by rw [take_yes e0]; rfl
        by_cases h3 : firstB y = 34
        · rw [if_pos h3] at h
          simp only [kt] at h
          split at h
          · exact fails_neM (⟨l, 0⟩ : Rst) (by show (0 : Int) ≠ 4; decide) h
          · exact absurd h (by show ¬ (0 : Int) = 4; decide)
        · rw [if_neg h3] at h
          simp only [kt] at h
          have e1 : ((⟨l, 0⟩ : Rst).take tStar).2.bad = 0 := take_same _ _
          obtain ⟨K, hK⟩ : ∃ K, ((⟨l, 0⟩ : Rst).take tStar).2 = ⟨K, 0⟩ := ⟨_, rst_zero e1⟩
          simp only [hK] at h
          split at h
          · exact begins_neM y K _ h
          · exact near_ne y ⟨K, 0⟩ (by show (0 : Int) ≠ 4; decide) h
theorem four_allL (hR : Shuts R) (hs : Sim false R one one) (h4 : Four R one) (he : Eats one) : ∀ (f f' : Nat) (L : List ByteArray) (q : Qy), L.length ≤ f → L.length + R.length ≤ f' → (allL one f q ⟨L, 0⟩).2.bad = 4 → (allL one f' q ⟨L ++ R, 0⟩).2.bad = 4 := by
  intro f
  induction f with
  | zero =>
    intro f' L q hl hl' h
    exact absurd h (by show ¬ (0 : Int) = 4; decide)
  | succ f ih =>
    intro f' L q hl hl' h
    by_cases hg : goes (⟨L, 0⟩ : Rst).peek = true
    · have hne : L ≠ [] := fun e => by rw [e] at hg; exact absurd hg (by decide)
      have hpos : 0 < L.length := List.length_pos_iff.2 hne
      obtain ⟨f'', rfl⟩ : ∃ m, f' = m + 1 := ⟨f' - 1, by omega⟩
      unfold allL at h ⊢
      rw [if_pos hg] at h
      rw [if_pos (by rw [goes_more hR]; exact hg)]
      obtain ⟨t1, t2⟩ := take_more (L := L) (x := tNot) hR (by decide) (by decide)
      have e1 := rst_zero t2
      have l1 := take_len L tNot
      obtain ⟨c, hc⟩ : ∃ c, ((⟨L, 0⟩ : Rst).take tNot).1 = c := ⟨_, rfl⟩
      obtain ⟨M, hM⟩ : ∃ M, ((⟨L, 0⟩ : Rst).take tNot).2.l = M := ⟨_, rfl⟩
      rw [hM] at e1 t1 l1
      rw [hc] at t1
      simp only [e1, hc] at h
      simp only [t1]
      obtain ⟨u1, u2⟩ := take_more (L := M) (x := tAnd) hR (by decide) (by decide)
      have e2 := rst_zero u2
      have l2 := take_len M tAnd
      have key : ∃ M', (if c then (⟨M, 0⟩ : Rst) else ((⟨M, 0⟩ : Rst).take tAnd).2) = ⟨M', 0⟩ ∧ (if c then (⟨M ++ R, 0⟩ : Rst) else ((⟨M ++ R, 0⟩ : Rst).take tAnd).2) = ⟨M' ++ R, 0⟩ ∧ M'.length ≤ L.length := by
        cases c
        · refine ⟨((⟨M, 0⟩ : Rst).take tAnd).2.l, ?_, ?_, by omega⟩
          · simp only [Bool.false_eq_true, if_false]; exact e2
          · simp only [Bool.false_eq_true, if_false]; rw [u1]
        · exact ⟨M, by simp, by simp, l1⟩
      obtain ⟨M', k1, k2, k3⟩ := key
      rw [k1] at h
      rw [k2]
      obtain ⟨r, hr⟩ : ∃ r, one ⟨M', 0⟩ = r := ⟨_, rfl⟩
      obtain ⟨q1, s1⟩ := r
      by_cases hb : s1.bad = 0
      · have es := rst_zero hb
        rw [es] at hr
        have hlt := he _ _ _ hr
        rw [hr] at h
        rcases hs _ _ _ hr with g | ⟨g1, _⟩
        · rw [g]
          exact ih f'' s1.l _ (by omega) (by omega) h
        · cases g1
      · have hb' : (one ⟨M', 0⟩).2.bad ≠ 0 := by rw [hr]; exact hb
        rw [allL_badM _ _ _ _ hb'] at h
        have g := h4 M' h
        rw [allL_badM _ _ _ _ (by rw [g]; decide)]
        exact g
    · have hg' : goes (⟨L, 0⟩ : Rst).peek = false := by simpa using hg
      rw [allL_stop _ _ _ _ hg'] at h
      exact absurd h (by show ¬ (0 : Int) = 4; decide)
theorem four_all (hR : Shuts R) (hs : Sim false R one one) (h4 : Four R one) (he : Eats one) : Four R (allM one) := by
  intro L h
  unfold allM at h ⊢
  simp only at h ⊢
  obtain ⟨r, hr⟩ : ∃ r, one ⟨L, 0⟩ = r := ⟨_, rfl⟩
  obtain ⟨q1, s1⟩ := r
  by_cases hb : s1.bad = 0
  · rw [rst_zero hb] at hr
    rw [hr] at h
    rcases hs _ _ _ hr with g | ⟨g1, _⟩
    · rw [g]
      exact four_allL hR hs h4 he _ _ s1.l _ (Nat.le_refl _) (by show _ ≤ (s1.l ++ R).length; rw [List.length_append]; exact Nat.le_refl _) h
    · cases g1
  · have hb' : (one ⟨L, 0⟩).2.bad ≠ 0 := by rw [hr]; exact hb
    rw [allL_badM _ _ _ _ hb'] at h
    have g := h4 L h
    rw [allL_badM _ _ _ _ (by rw [g]; decide)]
    exact g
theorem four_anyL (hs : Sim false R one one) (h4 : Four R one) (he : Eats one) : ∀ (f f' : Nat) (L : List ByteArray) (q : Qy), L.length ≤ f → L.length + R.length ≤ f' → (anyL one f q ⟨L, 0⟩).2.bad = 4 → (anyL one f' q ⟨L ++ R, 0⟩).2.bad = 4 := by
  intro f
  induction f with
  | zero =>
    intro f' L q hl hl' h
    exact absurd h (by show ¬ (0 : Int) = 4; decide)
  | succ f ih =>
    intro f' L q hl hl' h
    by_cases hg : (⟨L, 0⟩ : Rst).peek = tOr
    · cases L with
      | nil => exact absurd hg (by decide)
      | cons y l =>
        have ey : y = tOr := hg
        subst ey
        simp only [List.length_cons] at hl hl'
        obtain ⟨f'', rfl⟩ : ∃ m, f' = m + 1 := ⟨f' - 1, by omega⟩
        unfold anyL at h ⊢
        rw [take_yes hg] at h
        rw [take_yes (show (⟨tOr :: l ++ R, 0⟩ : Rst).peek = tOr from rfl)]
        simp only [if_true, List.tail_cons, List.cons_append] at h ⊢
        obtain ⟨r, hr⟩ : ∃ r, one ⟨l, 0⟩ = r := ⟨_, rfl⟩
        obtain ⟨q1, s1⟩ := r
        by_cases hb : s1.bad = 0
        · rw [rst_zero hb] at hr
          have hlt := he _ _ _ hr
          rw [hr] at h
          rcases hs _ _ _ hr with g | ⟨g1, _⟩
          · rw [g]
            exact ih f'' s1.l _ (by omega) (by omega) h
          · cases g1
        · have hb' : (one ⟨l, 0⟩).2.bad ≠ 0 := by rw [hr]; exact hb
          rw [anyL_badM _ _ _ _ hb'] at h
          have g := h4 l h
          rw [anyL_badM _ _ _ _ (by rw [g]; decide)]
          exact g
    · rw [anyL_stop _ _ _ _ hg] at h
      exact absurd h (by show ¬ (0 : Int) = 4; decide)
theorem four_any (hR : Shuts R) (hs : Sim false R one one) (h4 : Four R one) (he : Eats one) (ho : ∀ s, (one s).2.nu ≤ s.nu) : Four R (anyM one) := by
  intro L h
  have ha := sim_all hR hs he
  have hf := four_all hR hs h4 he
  unfold anyM at h ⊢
  simp only at h ⊢
  obtain ⟨r, hr⟩ : ∃ r, allM one ⟨L, 0⟩ = r := ⟨_, rfl⟩
  obtain ⟨q1, s1⟩ := r
  by_cases hb : s1.bad = 0
  · rw [rst_zero hb] at hr
    rw [hr] at h
    rcases ha _ _ _ hr with g | ⟨g1, _⟩
    · rw [g]
      exact four_anyL ha hf (eats_all ho he) _ _ s1.l _ (Nat.le_refl _) (by show _ ≤ (s1.l ++ R).length; rw [List.length_append]; exact Nat.le_refl _) h
    · cases g1
  · have hb' : (allM one ⟨L, 0⟩).2.bad ≠ 0 := by rw [hr]; exact hb
    rw [anyL_badM _ _ _ _ hb'] at h
    have g := hf L h
    rw [anyL_badM _ _ _ _ (by rw [g]; decide)]
    exact g
end
theorem four_at {R : List ByteArray} (hR : Shuts R) : ∀ m, Four R (oneAt m) := by
  intro m
  induction m with
  | zero => intro L _; rfl
  | succ m ih => exact four_one (four_any hR (sim_same hR m) ih (eats_at m) (fun s => (nu_oneAt m s).1))
/-- a text at a depth: what it asks whatever stands behind it, or the limit whatever stands behind it -/
theorem deep_or {L : List ByteArray} {q : Qy} (h : askM L = (q, 0)) (m : Nat) (hm : m ≤ 13) :
    (∀ R, Shuts R → anyM (oneAt m) ⟨L ++ R, 0⟩ = (q, ⟨R, 0⟩)) ∨ (∀ R, Shuts R → (anyM (oneAt m) ⟨L ++ R, 0⟩).2.bad = 4) := by
  have more : anyM (oneAt m) ⟨L, 0⟩ = (q, ⟨[], 0⟩) ∨ (anyM (oneAt m) ⟨L, 0⟩).2.bad = 4 := by
    obtain ⟨d, rfl⟩ : ∃ d, m = 13 - d := ⟨13 - m, by omega⟩
    induction d with
    | zero => exact .inl (ask_good h)
    | succ d ih =>
      by_cases hd : 13 - (d + 1) = 13 - d
      · rw [hd]; exact ih (by omega)
      · have e : 13 - d = (13 - (d + 1)) + 1 := by omega
        have i := ih (by omega)
        rw [e] at i
        rcases low_any (low_at (13 - (d + 1))) ⟨L, 0⟩ with k | k
        · rw [k]; exact i
        · exact .inr k
  rcases more with g | g
  · left
    intro R hR
    rcases sim_any hR (sim_same hR m) (eats_at m) (fun s => (nu_oneAt m s).1) _ _ _ g with k | ⟨k, _⟩
    · exact k
    · cases k
  · right
    intro R hR
    exact four_any hR (sim_same hR m) (four_at hR m) (eats_at m) (fun s => (nu_oneAt m s).1) L g
end Go.Proofs.YtjgdnainhoipgaaGreatDoor
namespace Go.Proofs.YtjgdnainhoipgaaGreatDoor
open Go.RowKit

theorem all_four {one : Rst → Qy × Rst} {s : Rst} (h : (one s).2.bad = 4) : (allM one s).2.bad = 4 := by
  unfold allM
  simp only
  rw [allL_badM _ _ _ _ (by rw [h]; decide)]
  exact h
theorem any_four {one : Rst → Qy × Rst} {s : Rst} (h : (one s).2.bad = 4) : (anyM one s).2.bad = 4 := by
  have g := all_four h
  unfold anyM
  simp only
  rw [anyL_badM _ _ _ _ (by rw [g]; decide)]
  exact g
theorem one_four {any : Rst → Qy × Rst} {l : List ByteArray} (h : (any ⟨l, 0⟩).2.bad = 4) : (oneM any false ⟨tOpen :: l, 0⟩).2.bad = 4 := by
  have e0 : (⟨tOpen :: l, 0⟩ : Rst).peek = tOpen := rfl
  unfold oneM
  have j := take_badM (any ⟨l, 0⟩).2 tShut (by rw [h]; decide) (by decide)
  have j2 := fails_bad (any ⟨l, 0⟩).2 3 (by rw [h]; decide)
  simp only [e0, Bool.false_eq_true, if_false, if_true, take_yes e0, List.tail_cons, j, j2]
  exact h
theorem one_box {any : Rst → Qy × Rst} {l R : List ByteArray} {q : Qy} (h : any ⟨l, 0⟩ = (q, ⟨tShut :: R, 0⟩)) : oneM any false ⟨tOpen :: l, 0⟩ = (q, ⟨R, 0⟩) := by
  have e0 : (⟨tOpen :: l, 0⟩ : Rst).peek = tOpen := rfl
  have e1 : (⟨tShut :: R, 0⟩ : Rst).take tShut = (true, ⟨R, 0⟩) := take_yes rfl
  unfold oneM
  simp only [e0, Bool.false_eq_true, if_false, if_true, take_yes e0, List.tail_cons, h, e1]
theorem shuts_cons (R : List ByteArray) : Shuts (tShut :: R) := fun _ hx => (Option.some.inj hx).symm
/-- what comes to the limit at a depth comes to it at one less -/
theorem lower {L : List ByteArray} {m : Nat} (h : (anyM (oneAt (m + 1)) ⟨L, 0⟩).2.bad = 4) : (anyM (oneAt m) ⟨L, 0⟩).2.bad = 4 := by
  rcases low_any (low_at m) ⟨L, 0⟩ with k | k
  · rw [k]; exact h
  · exact k
/-- the two texts at the depth of the four: both well, or the text of both in two parentheses comes to the limit -/
theorem ask_deep {La Lb : List ByteArray} {qa qb : Qy} (ha : askM La = (qa, 0)) (hb : askM Lb = (qb, 0)) :
    ((∀ R, anyM (oneAt 12) ⟨La ++ tShut :: R, 0⟩ = (qa, ⟨tShut :: R, 0⟩)) ∧ (∀ R, anyM (oneAt 12) ⟨Lb ++ tShut :: R, 0⟩ = (qb, ⟨tShut :: R, 0⟩))) ∨
      (askM (tOpen :: tOpen :: (La ++ tShut :: tOr :: tOpen :: (Lb ++ [tShut, tShut])))).2 = 4 := by
  -- the inner text of both
  have out : (anyM (oneAt 12) ⟨tOpen :: (La ++ tShut :: tOr :: tOpen :: (Lb ++ [tShut, tShut])), 0⟩).2.bad = 4 → (askM (tOpen :: tOpen :: (La ++ tShut :: tOr :: tOpen :: (Lb ++ [tShut, tShut])))).2 = 4 := fun h =>
    ask_bad (any_four (one := oneAt 13) (one_four (any := anyM (oneAt 12)) h))
  rcases deep_or ha 11 (by decide) with a11 | a11
  · rcases deep_or hb 11 (by decide) with b11 | b11
    · -- well at 11: well at 12
      left
      refine ⟨fun R => ?_, fun R => ?_⟩
      · rcases deep_or ha 12 (by decide) with g | g
        · exact g _ (shuts_cons R)
        · have k := lower (g (tShut :: R) (shuts_cons R))
          rw [a11 _ (shuts_cons R)] at k
          exact absurd k (by show ¬ (0 : Int) = 4; decide)
      · rcases deep_or hb 12 (by decide) with g | g
        · exact g _ (shuts_cons R)
        · have k := lower (g (tShut :: R) (shuts_cons R))
          rw [b11 _ (shuts_cons R)] at k
          exact absurd k (by show ¬ (0 : Int) = 4; decide)
    · right
      refine out ?_
      have h1 : oneAt 12 ⟨tOpen :: (La ++ tShut :: tOr :: tOpen :: (Lb ++ [tShut, tShut])), 0⟩ = (qa, ⟨tOr :: tOpen :: (Lb ++ [tShut, tShut]), 0⟩) := one_box (any := anyM (oneAt 11)) (a11 _ (shuts_cons _))
      have h2 : (oneAt 12 ⟨tOpen :: (Lb ++ [tShut, tShut]), 0⟩).2.bad = 4 := one_four (any := anyM (oneAt 11)) (b11 _ (shuts_cons _))
      have h3 : allM (oneAt 12) ⟨tOpen :: (La ++ tShut :: tOr :: tOpen :: (Lb ++ [tShut, tShut])), 0⟩ = (qa, ⟨tOr :: tOpen :: (Lb ++ [tShut, tShut]), 0⟩) := by
        unfold allM
        simp only [h1]
        rw [allL_stop _ _ _ _ (by show goes tOr = false; decide)]
      have h4 := all_four h2
      unfold anyM
      simp only [h3, nu_good, List.length_cons]
      unfold anyL
      have e : (⟨tOr :: tOpen :: (Lb ++ [tShut, tShut]), 0⟩ : Rst).take tOr = (true, ⟨tOpen :: (Lb ++ [tShut, tShut]), 0⟩) := take_yes rfl
      simp only [e, if_true]
      rw [anyL_badM _ _ _ _ (by rw [h4]; decide)]
      exact h4
  · right
    exact out (any_four (one := oneAt 12) (one_four (any := anyM (oneAt 11)) (a11 _ (shuts_cons _))))
end Go.Proofs.YtjgdnainhoipgaaGreatDoor
namespace Go.Proofs.YtjgdnainhoipgaaGreatDoor
open Go.RowKit

/-- read well in one parenthesis, whatever stands behind -/
def Well (L : List ByteArray) (q : Qy) : Prop := ∀ R, anyM (oneAt 12) ⟨L ++ tShut :: R, 0⟩ = (q, ⟨tShut :: R, 0⟩)
theorem Well.one {L : List ByteArray} {q : Qy} (h : Well L q) (R : List ByteArray) : oneAt 13 ⟨tOpen :: (L ++ tShut :: R), 0⟩ = (q, ⟨R, 0⟩) := one_box (any := anyM (oneAt 12)) (h R)
section
variable {La Lb : List ByteArray} {qa qb : Qy}
theorem well_all {G : List ByteArray} {k : Int} (ha : Well La qa) (hb : Well Lb qb)
    (hg : goes (⟨G ++ tOpen :: (Lb ++ [tShut]), 0⟩ : Rst).peek = true)
    (ht : (if ((⟨G ++ tOpen :: (Lb ++ [tShut]), 0⟩ : Rst).take tNot).1 then ((⟨G ++ tOpen :: (Lb ++ [tShut]), 0⟩ : Rst).take tNot).2 else (((⟨G ++ tOpen :: (Lb ++ [tShut]), 0⟩ : Rst).take tNot).2.take tAnd).2) = ⟨tOpen :: (Lb ++ [tShut]), 0⟩)
    (hk : (if ((⟨G ++ tOpen :: (Lb ++ [tShut]), 0⟩ : Rst).take tNot).1 then (6 : Int) else 4) = k) :
    askM (tOpen :: (La ++ tShut :: (G ++ tOpen :: (Lb ++ [tShut])))) = (.node k [] qa qb, 0) := by
  refine ask_of ?_
  have g := ha.one (G ++ tOpen :: (Lb ++ [tShut]))
  have g2 := hb.one []
  unfold anyM allM
  simp only [g, nu_good]
  obtain ⟨f, hf⟩ : ∃ f, (G ++ tOpen :: (Lb ++ [tShut])).length = f + 1 := ⟨(G ++ tOpen :: (Lb ++ [tShut])).length - 1, by simp [List.length_append]; omega⟩
  rw [hf]
  have hstep : allL (oneAt 13) (f + 1) qa ⟨G ++ tOpen :: (Lb ++ [tShut]), 0⟩ = allL (oneAt 13) f (.node k [] qa (oneAt 13 ⟨tOpen :: (Lb ++ [tShut]), 0⟩).1) (oneAt 13 ⟨tOpen :: (Lb ++ [tShut]), 0⟩).2 := by
    conv => lhs; unfold allL
    rw [if_pos hg]
    simp only [ht, hk]
  rw [hstep]
  simp only [g2]
  rw [allL_stop _ _ _ _ (by decide)]
  simp only
  rw [anyL_stop _ _ _ _ (by decide)]
theorem well_and (ha : Well La qa) (hb : Well Lb qb) : askM (tOpen :: (La ++ tShut :: tAnd :: tOpen :: (Lb ++ [tShut]))) = (.node 4 [] qa qb, 0) := by
  have e : (⟨[tAnd] ++ tOpen :: (Lb ++ [tShut]), 0⟩ : Rst).take tNot = (false, ⟨[tAnd] ++ tOpen :: (Lb ++ [tShut]), 0⟩) := take_no (by show tAnd ≠ tNot; decide)
  have e2 : (⟨[tAnd] ++ tOpen :: (Lb ++ [tShut]), 0⟩ : Rst).take tAnd = (true, ⟨tOpen :: (Lb ++ [tShut]), 0⟩) := take_yes rfl
  exact well_all (G := [tAnd]) ha hb (by show goes tAnd = true; decide) (by simp only [e, e2, Bool.false_eq_true, if_false]) (by simp only [e, Bool.false_eq_true, if_false])
theorem well_not (ha : Well La qa) (hb : Well Lb qb) : askM (tOpen :: (La ++ tShut :: tNot :: tOpen :: (Lb ++ [tShut]))) = (.node 6 [] qa qb, 0) := by
  have e : (⟨[tNot] ++ tOpen :: (Lb ++ [tShut]), 0⟩ : Rst).take tNot = (true, ⟨tOpen :: (Lb ++ [tShut]), 0⟩) := take_yes rfl
  exact well_all (G := [tNot]) ha hb (by show goes tNot = true; decide) (by simp only [e, if_true]) (by simp only [e, if_true])
theorem well_bare (ha : Well La qa) (hb : Well Lb qb) : askM (tOpen :: (La ++ tShut :: tOpen :: (Lb ++ [tShut]))) = (.node 4 [] qa qb, 0) := by
  have e : (⟨[] ++ tOpen :: (Lb ++ [tShut]), 0⟩ : Rst).take tNot = (false, ⟨tOpen :: (Lb ++ [tShut]), 0⟩) := take_no (by show tOpen ≠ tNot; decide)
  have e2 : (⟨tOpen :: (Lb ++ [tShut]), 0⟩ : Rst).take tAnd = (false, ⟨tOpen :: (Lb ++ [tShut]), 0⟩) := take_no (by show tOpen ≠ tAnd; decide)
  exact well_all (G := []) ha hb (by show goes tOpen = true; decide) (by simp only [e, e2, Bool.false_eq_true, if_false]) (by simp only [e, Bool.false_eq_true, if_false])
theorem well_or (ha : Well La qa) (hb : Well Lb qb) : askM (tOpen :: (La ++ tShut :: tOr :: tOpen :: (Lb ++ [tShut]))) = (.node 5 [] qa qb, 0) := by
  refine ask_of ?_
  have h3 : allM (oneAt 13) ⟨tOpen :: (La ++ tShut :: tOr :: tOpen :: (Lb ++ [tShut])), 0⟩ = (qa, ⟨tOr :: tOpen :: (Lb ++ [tShut]), 0⟩) := by
    unfold allM
    simp only [ha.one (tOr :: tOpen :: (Lb ++ [tShut]))]
    rw [allL_stop _ _ _ _ (by show goes tOr = false; decide)]
  have h4 : allM (oneAt 13) ⟨tOpen :: (Lb ++ [tShut]), 0⟩ = (qb, ⟨[], 0⟩) := by
    unfold allM
    simp only [hb.one []]
    rw [allL_stop _ _ _ _ (by decide)]
  unfold anyM
  simp only [h3, nu_good, List.length_cons]
  unfold anyL
  have e : (⟨tOr :: tOpen :: (Lb ++ [tShut]), 0⟩ : Rst).take tOr = (true, ⟨tOpen :: (Lb ++ [tShut]), 0⟩) := take_yes rfl
  simp only [e, if_true, h4]
  rw [anyL_stop _ _ _ _ (by decide)]
end
end Go.Proofs.YtjgdnainhoipgaaGreatDoor
namespace Go.Proofs.YtjgdnainhoipgaaGreatDoor
open Go.RowKit

/-- what stands ahead of the first that is not so, in two texts -/
theorem tw_more {α : Type} (p : α → Bool) (l r : List α) (h : (l.takeWhile p).length ≠ l.length) : (l ++ r).takeWhile p = l.takeWhile p := by
  induction l with
  | nil => exact absurd rfl h
  | cons x l ih =>
    by_cases e : p x = true
    · simp only [List.cons_append, List.takeWhile_cons, e, if_true] at h ⊢
      rw [ih (by simpa using h)]
    · simp [e]
theorem tw_end {α : Type} (p : α → Bool) (l r : List α) (h : ∀ x ∈ r.head?, p x = false) : (l ++ r).takeWhile p = l.takeWhile p := by
  induction l with
  | nil =>
    cases r with
    | nil => rfl
    | cons y r => simp [h y (by simp)]
  | cons x l ih =>
    by_cases e : p x = true
    · simp [e, ih]
    · simp [e]
theorem tw_le {α : Type} (p : α → Bool) (l : List α) : (l.takeWhile p).length ≤ l.length := (List.takeWhile_prefix p).length_le
/-- two texts one behind the other, the second of which begins with a byte that ends a run: their pieces one behind the other -/
theorem pcs_append (g : Nat) (r : List UInt8) (R : List ByteArray) (hg : r.length ≤ g) (hr : pcs g r = some R) (hh : ∀ x ∈ r.head?, notC x = false) :
    ∀ (f : Nat) (l : List UInt8) (L : List ByteArray), l.length ≤ f → pcs f l = some L → pcs (f + g) (l ++ r) = some (L ++ R) := by
  intro f
  induction f with
  | zero =>
    intro l L hl h
    have e : l = [] := List.eq_nil_of_length_eq_zero (by omega)
    subst e
    obtain rfl : L = [] := (Option.some.inj h).symm
    rw [Nat.zero_add]; exact hr
  | succ f ih =>
    intro l L hl h
    cases l with
    | nil =>
      obtain rfl : L = [] := (Option.some.inj h).symm
      show pcs _ r = some R
      rw [pcs_fuel (f + 1 + g) g r (by omega) hg]; exact hr
    | cons c l =>
      have hl' : l.length ≤ f := by simpa using hl
      rw [show f + 1 + g = (f + g) + 1 by omega]
      simp only [List.cons_append]
      unfold pcs at h ⊢
      by_cases h1 : c.toNat = 32
      · rw [if_pos h1] at h ⊢
        exact ih l L hl' h
      · rw [if_neg h1] at h ⊢
        by_cases h2 : c.toNat = 40 ∨ c.toNat = 41 ∨ c.toNat = 42
        · rw [if_pos h2] at h ⊢
          obtain ⟨M, hM, rfl⟩ := Option.map_eq_some_iff.1 h
          rw [ih l M hl' hM]; rfl
        · rw [if_neg h2] at h ⊢
          by_cases h3 : c.toNat = 34
          · rw [if_pos h3] at h ⊢
            by_cases h4 : (l.takeWhile notQ).length = l.length
            · rw [if_pos h4] at h; cases h
            · rw [if_neg h4] at h
              have hle := tw_le notQ l
              have e := tw_more notQ l r h4
              rw [e, if_neg (by rw [List.length_append]; omega)]
              obtain ⟨M, hM, rfl⟩ := Option.map_eq_some_iff.1 h
              rw [List.drop_append_of_le_length (by omega), ih _ M (by rw [List.length_drop]; omega) hM]; rfl
          · rw [if_neg h3] at h ⊢
            have hle := tw_le notC l
            rw [tw_end notC l r hh]
            obtain ⟨M, hM, rfl⟩ := Option.map_eq_some_iff.1 h
            rw [List.drop_append_of_le_length hle, ih _ M (by rw [List.length_drop]; omega) hM]; rfl
theorem Cuts.append {l r : List UInt8} {L R : List ByteArray} (h : Cuts l L) (k : Cuts r R) (hh : ∀ x ∈ r.head?, notC x = false) : Cuts (l ++ r) (L ++ R) :=
  Cuts.of (by rw [List.length_append]; exact Nat.le_refl _) (pcs_append r.length r R (Nat.le_refl _) k hh l.length l L (Nat.le_refl _) h)
theorem cuts_shut : Cuts [41] [⟨#[41]⟩] := rfl
theorem cuts_box {l : List UInt8} {L : List ByteArray} (h : Cuts l L) : Cuts ([40] ++ l ++ [41]) (⟨#[40]⟩ :: L ++ [⟨#[41]⟩]) := by
  have h1 : Cuts ([40] ++ l) ([⟨#[40]⟩] ++ L) := by
    refine Cuts.of (f := l.length + 1) (by simp) ?_
    have : pcs l.length l = some L := h
    show pcs (l.length + 1) (40 :: l) = _
    unfold pcs
    rw [if_neg (by decide), if_pos (by decide), this]
    rfl
  exact h1.append cuts_shut (fun x hx => by simp at hx; subst hx; decide)
end Go.Proofs.YtjgdnainhoipgaaGreatDoor
namespace Go.Proofs.YtjgdnainhoipgaaGreatDoor
open Go.RowKit

theorem askS_cuts {s : ByteArray} {L : List ByteArray} (h : Cuts s.data.toList L) : askS s = askM L := by
  have e := pcs_at s s.size 0
  rw [List.drop_zero] at e
  have h2 : pcs s.size s.data.toList = some L := by
    have : pcs s.data.toList.length s.data.toList = some L := h
    rw [ba_len] at this
    exact this
  exact askS_some (e.trans h2)
theorem askS_good {s : ByteArray} (h : (askS s).2 = 0) : ∃ L, Cuts s.data.toList L ∧ askM L = ((askS s).1, 0) := by
  cases hp : piecesM s s.size 0 with
  | none => rw [askS_none hp] at h; cases h
  | some L =>
    have e := pcs_at s s.size 0
    rw [List.drop_zero, hp] at e
    refine ⟨L, ?_, ?_⟩
    · show pcs _ _ = _
      rw [ba_len]
      exact e.symm
    · rw [askS_some hp] at h ⊢
      exact Prod.ext rfl h
theorem cuts_sp {l : List UInt8} {L : List ByteArray} (h : Cuts l L) : Cuts (32 :: l) L := by
  refine Cuts.of (f := l.length + 1) (by simp) ?_
  unfold pcs
  rw [if_pos (by decide)]
  exact h
theorem cuts_and : Cuts [32, 65, 78, 68] [tAnd] := rfl
theorem cuts_or : Cuts [32, 79, 82] [tOr] := rfl
theorem cuts_not : Cuts [32, 78, 79, 84] [tNot] := rfl
theorem head_sp {l : List UInt8} : ∀ x ∈ (32 :: l).head?, notC x = false := fun x hx => by simp at hx; subst hx; decide
section
variable {a b : List UInt8} {La Lb : List ByteArray}
/-- both in parentheses, with a sign between -/
theorem cuts_two {g : List UInt8} {G : List ByteArray} (hg : Cuts (32 :: g) G) (ha : Cuts a La) (hb : Cuts b Lb) :
    Cuts (([40] ++ a ++ [41]) ++ ((32 :: g) ++ (32 :: ([40] ++ b ++ [41])))) (tOpen :: (La ++ tShut :: (G ++ tOpen :: (Lb ++ [tShut])))) := by
  have h := (cuts_box ha).append (hg.append (cuts_sp (cuts_box hb)) head_sp) head_sp
  have e : (tOpen :: (La ++ tShut :: (G ++ tOpen :: (Lb ++ [tShut])))) = (⟨#[40]⟩ :: La ++ [⟨#[41]⟩]) ++ (G ++ (⟨#[40]⟩ :: Lb ++ [⟨#[41]⟩])) := by
    unfold tOpen tShut
    simp
  rw [e]
  exact h
theorem cuts_bare (ha : Cuts a La) (hb : Cuts b Lb) : Cuts (([40] ++ a ++ [41]) ++ (32 :: ([40] ++ b ++ [41]))) (tOpen :: (La ++ tShut :: tOpen :: (Lb ++ [tShut]))) := by
  have h := (cuts_box ha).append (cuts_sp (cuts_box hb)) head_sp
  have e : (tOpen :: (La ++ tShut :: tOpen :: (Lb ++ [tShut]))) = (⟨#[40]⟩ :: La ++ [⟨#[41]⟩]) ++ (⟨#[40]⟩ :: Lb ++ [⟨#[41]⟩]) := by
    unfold tOpen tShut
    simp
  rw [e]
  exact h
theorem cuts_deep (ha : Cuts a La) (hb : Cuts b Lb) : Cuts ([40] ++ (([40] ++ a ++ [41]) ++ ((32 :: [79, 82]) ++ (32 :: ([40] ++ b ++ [41])))) ++ [41]) (tOpen :: tOpen :: (La ++ tShut :: tOr :: tOpen :: (Lb ++ [tShut, tShut]))) := by
  have h := cuts_box (cuts_two cuts_or ha hb)
  have e : (tOpen :: tOpen :: (La ++ tShut :: tOr :: tOpen :: (Lb ++ [tShut, tShut]))) = ⟨#[40]⟩ :: (tOpen :: (La ++ tShut :: ([tOr] ++ tOpen :: (Lb ++ [tShut])))) ++ [⟨#[41]⟩] := by
    unfold tOpen tShut
    simp
  rw [e]
  exact h
end
/-- the two texts at the depth of the four: both well; or the text of both in two parentheses comes to the limit, and so does one of the four -/
theorem ask_deep3 {La Lb : List ByteArray} {qa qb : Qy} (ha : askM La = (qa, 0)) (hb : askM Lb = (qb, 0)) :
    (Well La qa ∧ Well Lb qb) ∨ ((askM (tOpen :: tOpen :: (La ++ tShut :: tOr :: tOpen :: (Lb ++ [tShut, tShut])))).2 = 4 ∧
      ((askM (tOpen :: (La ++ tShut :: tAnd :: tOpen :: (Lb ++ [tShut])))).2 = 4 ∨ (askM (tOpen :: (Lb ++ tShut :: tOpen :: (La ++ [tShut])))).2 = 4)) := by
  rcases ask_deep ha hb with h | h
  · exact .inl h
  · rcases deep_or ha 12 (by decide) with a12 | a12
    · rcases deep_or hb 12 (by decide) with b12 | b12
      · exact .inl ⟨fun R => a12 _ (shuts_cons R), fun R => b12 _ (shuts_cons R)⟩
      · exact .inr ⟨h, .inr (ask_bad (any_four (one := oneAt 13) (one_four (any := anyM (oneAt 12)) (b12 _ (shuts_cons _)))))⟩
    · exact .inr ⟨h, .inl (ask_bad (any_four (one := oneAt 13) (one_four (any := anyM (oneAt 12)) (a12 _ (shuts_cons _)))))⟩
/-- what stands between two quotes -/
theorem tw_all {l : List UInt8} (h : ∀ x ∈ l, notQ x = true) : (l ++ [34]).takeWhile notQ = l := by
  induction l with
  | nil => decide
  | cons c l ih =>
    rw [List.cons_append, List.takeWhile_cons_of_pos (h c (by simp)), ih (fun x hx => h x (by simp [hx]))]
theorem cuts_quot {t : List UInt8} (h : ∀ x ∈ t, notQ x = true) : Cuts (34 :: (t ++ [34])) [⟨(34 :: t).toArray⟩] := by
  refine Cuts.of (f := t.length + 2) (by simp) ?_
  have e := tw_all h
  unfold pcs
  rw [if_neg (by decide), if_neg (by decide), if_pos (by decide), e, if_neg (by simp), List.drop_eq_nil_of_le (by simp)]
  rfl
theorem ask_quot {t : List UInt8} (hw : wordsL t ≠ []) : askM [⟨(34 :: t).toArray⟩] = (.node 1 (wordsL t) .nil .nil, 0) := by
  refine ask_of ?_
  have n1 : (⟨(34 :: t).toArray⟩ : ByteArray) ≠ tOpen := mk_ne (by decide)
  have n2 : noOne ⟨(34 :: t).toArray⟩ = false := by
    unfold noOne
    have k : ∀ (d : UInt8) (r : List UInt8), (34 : UInt8) ≠ d → (⟨(34 :: t).toArray⟩ : ByteArray) ≠ ⟨(d :: r).toArray⟩ := fun d r hd e => by
      have := congrArg firstB e
      rw [first_mk, first_mk] at this
      exact hd this
    simp only [decide_eq_false (mk_none 34 t), decide_eq_false (show (⟨(34 :: t).toArray⟩ : ByteArray) ≠ tShut from k 41 [] (by decide)), decide_eq_false (show (⟨(34 :: t).toArray⟩ : ByteArray) ≠ tStar from k 42 [] (by decide)), decide_eq_false (show (⟨(34 :: t).toArray⟩ : ByteArray) ≠ tAnd from k 65 [78, 68] (by decide)), decide_eq_false (show (⟨(34 :: t).toArray⟩ : ByteArray) ≠ tOr from k 79 [82] (by decide)), decide_eq_false (show (⟨(34 :: t).toArray⟩ : ByteArray) ≠ tNot from k 78 [79, 84] (by decide)), decide_eq_false (show (⟨(34 :: t).toArray⟩ : ByteArray) ≠ tNear from k 78 [69, 65, 82] (by decide))]
    rfl
  have hone : oneAt 13 ⟨[⟨(34 :: t).toArray⟩], 0⟩ = (.node 1 (wordsL t) .nil .nil, ⟨[], 0⟩) := by
    show oneM (anyM (oneAt 12)) false ⟨[⟨(34 :: t).toArray⟩], 0⟩ = _
    have e0 : (⟨[⟨(34 :: t).toArray⟩], 0⟩ : Rst).peek = ⟨(34 :: t).toArray⟩ := rfl
    unfold oneM
    simp only [e0, Bool.false_eq_true, if_false, if_neg n1, n2, first_mk, if_true, take_yes e0, List.tail_cons, List.drop_succ_cons, List.drop_zero, if_neg hw]
  unfold anyM allM
  simp only [hone]
  rw [allL_stop _ _ _ _ (by decide)]
  simp only
  rw [anyL_stop _ _ _ _ (by decide)]
end Go.Proofs.YtjgdnainhoipgaaGreatDoor
