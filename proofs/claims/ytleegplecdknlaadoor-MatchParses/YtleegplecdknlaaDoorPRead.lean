/- The program's one, put together; read. -/
import Derived.Test.YtleegplecdknlaaDoorPAll
namespace Go.Proofs.YtleegplecdknlaaDoor
open Go.RowKit

theorem pcs_good (f : Nat) : ∀ l L, l.length ≤ 400 → pcs f l = some L → ∀ x ∈ L, Good x := by
  induction f with
  | zero => intro l L _ h x hx; cases h; cases hx
  | succ f ih =>
    have key : ∀ (y : ByteArray) (o : Option (List ByteArray)) (L : List ByteArray), Good y → (∀ M, o = some M → ∀ x ∈ M, Good x) → o.map (y :: ·) = some L → ∀ x ∈ L, Good x := by
      intro y o L hy ho h x hx
      obtain ⟨M, rfl, h'⟩ := map_cons h
      rcases List.mem_cons.1 hx with rfl | hx
      · exact hy
      · exact ho M h' x hx
    intro l L hl h
    cases l with
    | nil => cases h; intro x hx; cases hx
    | cons c l =>
      simp only [List.length_cons] at hl
      rw [pcs] at h
      split at h
      · exact ih l L (by omega) h
      · rename_i h1
        split at h
        · rename_i h2
          refine key _ _ _ ?_ (fun M hM => ih l M (by omega) hM) h
          rcases h2 with h2 | h2 | h2
          · rw [show c = 40 from UInt8.toNat_inj.1 h2]; exact .opens
          · rw [show c = 41 from UInt8.toNat_inj.1 h2]; exact .shuts
          · rw [show c = 42 from UInt8.toNat_inj.1 h2]; exact .star
        · rename_i h2
          split at h
          · rename_i h3
            split at h
            · cases h
            · refine key _ _ _ ?_ (fun M hM => ih _ M (by rw [List.length_drop]; omega) hM) h
              rw [show c = 34 from UInt8.toNat_inj.1 h3]
              have := (List.takeWhile_sublist notQ (l := l)).length_le
              exact .quoted _ (by omega)
          · rename_i h3
            refine key _ _ _ ?_ (fun M hM => ih _ M (by rw [List.length_drop]; omega) hM) h
            have := (List.takeWhile_sublist notC (l := l)).length_le
            refine .run c _ (by omega) ?_
            intro d hd
            rcases List.mem_cons.1 hd with rfl | hd
            · exact notC_of h1 h2 h3
            · have h4 := List.all_takeWhile (p := notC) (l := l)
              rw [List.all_eq_true] at h4
              exact h4 d hd
theorem Rd.good {A : Nat} {y : ByteArray} {r : List ByteArray} {w : World} (h : Rd A (y :: r) w) : ∀ x ∈ r, Good x := by
  obtain ⟨⟨⟨_, _, t, _, h4, h5⟩, _⟩, _⟩ := h
  exact pcs_good _ _ _ (by rw [ba_len]; exact h4) h5

theorem pone_any (any : St → Qy × St) (d : Int) (hd0 : 0 ≤ d) (hd : ¬ 12 < d) (hO : PReads 23 any (d + 1)) : PReads 43 (oneM any false) d := by
  intro A l w h
  cases l with
  | nil => exact pone_bad A d [] 0 _ w _ h hd rfl (by decide) (by decide) (by decide) rfl
  | cons y r =>
    have hy : Good y := h.2 y rfl
    cases hy with
    | opens => exact pone_open any A d r w h hd0 hd hO
    | shuts => exact pone_bad A d _ 2 _ w _ h hd rfl (by decide) (by decide) (by decide) rfl
    | star => exact pone_bad A d _ 3 _ w _ h hd rfl (by decide) (by decide) (by decide) rfl
    | quoted q hq => exact pone_quote any A d q r w h hq hd
    | run c m h1 h2 =>
      have hR : RunP ⟨(c :: m).toArray⟩ := ⟨c, m, rfl, h1, h2⟩
      generalize (⟨(c :: m).toArray⟩ : ByteArray) = x at *
      cases hs : signT x with
      | true => exact pone_sign A d (x :: r) x w _ h hd hR.kind hs (oneM_sign any hR r hs)
      | false =>
        have e := oneM_run any hR r hs
        by_cases hst : (⟨r, 0⟩ : St).peek = tStar
        · rw [if_pos hst, begins_is] at e
          obtain ⟨_, r2, hr2⟩ := peek_some (s := ⟨r, 0⟩) (by rw [hst]; decide)
          rw [hst] at hr2
          simp only at hr2
          rw [hr2, List.tail_cons] at e
          exact pone_star A d x r w _ h hd hR hs r2 hr2 (by rw [← e, hr2])
        · rw [if_neg hst] at e
          by_cases hw : (wordsL x.data.toList).length = 1
          · obtain ⟨y, hy⟩ := List.length_eq_one_iff.1 hw
            by_cases hn : (⟨r, 0⟩ : St).peek = tNear
            · obtain ⟨_, r2, hr2⟩ := peek_some (s := ⟨r, 0⟩) (by rw [hn]; decide)
              rw [hn] at hr2
              simp only at hr2
              have hg : ∀ z ∈ r2.head?, Good z := fun z hz => h.good z (by rw [hr2]; exact List.mem_cons_of_mem _ (List.mem_of_mem_head? hz))
              rcases head_run hg with ⟨t, r3, hr3, ht⟩ | ⟨k, z, hk, hz, hb⟩
              · by_cases hw2 : (wordsL t.data.toList).length = 1
                · obtain ⟨z, hz⟩ := List.length_eq_one_iff.1 hw2
                  exact pone_nearyes A d x r w _ h hd hR hs r2 hr2 t r3 hr3 ht y z hy hz (by rw [e, hr2, hr3]; exact near4 hy ht hz)
                · exact pone_nearno A d x r w _ h hd hR hs r2 hr2 t r3 hr3 ht y hy hw2 (by rw [e, hr2, hr3]; exact near3 hy ht hw2)
              · exact pone_nearbad A d x r w _ h hd hR hs r2 hr2 y hy k z hk hz (by rw [e, hr2]; exact near2 hy hb)
            · exact pone_word A d x r w _ h hd hR hs hst y hy hn (by rw [e]; exact near1 hy hn)
          · exact pone_noplain A d x r w _ h hd hR hs hst hw (by rw [e]; exact near0 hw)
theorem pone_at (m : Nat) : m ≤ 13 → PReads 43 (oneAt m) (13 - (m : Int)) := by
  induction m with
  | zero => intro _ A l w h; exact pone_over A _ w _ (by decide) rfl
  | succ m ih =>
    intro hm
    refine pone_any (anyM (oneAt m)) _ (by omega) (by omega) ?_
    have e : (13 : Int) - ((m + 1 : Nat) : Int) + 1 = 13 - (m : Int) := by omega
    rw [e]
    exact pany_any (oneAt m) _ (pall_any (oneAt m) _ (ih (by omega)) (nu_oneAt m)) (fun s => (nu_oneAt m s).1)
theorem pany_top : PReads 23 (anyM (oneAt 13)) 0 := pany_any (oneAt 13) _ (pall_any (oneAt 13) _ (pone_at 13 (Nat.le_refl _)) (nu_oneAt 13)) (fun s => (nu_oneAt 13 s).1)

/-- what read tells -/
def ReadTo (s : ByteArray) (w : World) (e : Ending) (w' : World) : Prop :=
  ((askS s).2 = 0 ∧ (∃ p A, e = .returned (.pointer p) ∧ w.heap.size ≤ A ∧ MQ A w' p (askS s).1) ∨ (askS s).2 ≠ 0 ∧ (askS s).1 = .nil ∧ e = .panicked [{ v := .iface 55 (.agg #[.int .i64 (askS s).2]), recovered := false }]) ∧ Below w.heap.size w w'
theorem EndsAt.lt {w : World} (h : EndsAt w) : 2 < w.heap.size := by
  have := h.1
  by_cases hh : 2 < w.heap.size
  · exact hh
  · rw [World.cell?] at this
    simp [Array.getElem?_eq_none (Nat.le_of_not_lt hh)] at this
theorem rd_new {w : World} {s : ByteArray} {L : List ByteArray} (he : EndsAt w) (hs : s.size ≤ 400) (hc : Cuts s.data.toList L) : Rd0 w.heap.size 0 ⟨#[]⟩ L (w.alloc (.cells #[.int .i64 0, .string ⟨#[]⟩, .string s] 63)) := by
  have hn := heap_alloc_new w (.cells #[.int .i64 0, .string ⟨#[]⟩, .string s] 63)
  refine ⟨⟨by simp, by simp, s, by simp, hs, hc⟩, ⟨?_, ?_, ?_⟩, by simp, he.lt, he.below ((Below.refl _ _).alloc (Nat.le_refl _) _)⟩
  all_goals (simp only [World.frozen?, hn]; simp)
set_option maxRecDepth 100000 in
set_option maxHeartbeats 4000000 in
theorem read_any (s : ByteArray) (w : World) (hs : s.size ≤ 400) (he : EndsAt w) : Calls Tryd.prog 13 #[.string s] w fun e w' => ReadTo s w e w' := by
  have HE : Hid (EndsAt w) := he
  obtain ⟨n, hn⟩ : ∃ n, Lib.countByte s.data.toList 34 = n := ⟨_, rfl⟩
  have HN : Hid (Lib.countByte s.data.toList 34 = n) := hn
  have hodd := pcs_odd s.data.toList.length s.data.toList (Nat.le_refl _)
  have hpa := pcs_at s s.size 0
  rw [List.drop_zero] at hpa
  rw [ba_len, ← hpa, show s.data.toList.count 34 = n from hn] at hodd
  have hle : n ≤ 400 := by
    rw [← hn]
    have := List.count_le_length (a := (34 : UInt8)) (l := s.data.toList)
    rw [ba_len] at this
    exact Nat.le_trans this hs
  cases hp : piecesM s s.size 0 with
  | none =>
    have hn1 : n % 2 = 1 := hodd.1 hp
    have HA : Hid (askS s = (.nil, 3)) := askS_none hp
    have d1 : ((n : Int) % 2 == 0) = false := by simp; omega
    clear hp hodd hpa hn he
    go_enter Tryd.func13, Tryd.ntmps13
    go_wp2_with first | (go_at_call 21; refine (count_any s _).mono ?_; rintro _ w0 ⟨rfl, hw0⟩; obtain rfl := hw0.symm; rw [HN.out]) | (go_at_call 20; refine (must_no _).mono ?_; rintro _ w0 ⟨rfl, hw0⟩; obtain rfl := hw0.symm)
    refine ⟨rfl, .inr ⟨by rw [HA.out]; decide, by rw [HA.out], by rw [HA.out]⟩, Below.refl _ _⟩
  | some L =>
    have hn0 : n % 2 = 0 := by
      have : ¬ n % 2 = 1 := fun e => by have := hodd.2 e; rw [hp] at this; cases this
      omega
    have d1 : ((n : Int) % 2 == 0) = true := by simp; omega
    obtain ⟨q, s2, hqs⟩ : ∃ q s, anyM (oneAt 13) ⟨L, 0⟩ = (q, s) := ⟨_, _, rfl⟩
    have HQ : Hid (anyM (oneAt 13) ⟨L, 0⟩ = (q, s2)) := hqs
    have HC : Hid (Cuts s.data.toList L) := by
      show pcs _ _ = _
      rw [ba_len, ← hpa, hp]
    have HA : Hid (∀ s3, (if s2.l = [] then s2 else s2.fails 3) = s3 → askS s = (if s3.bad = 0 then q else .nil, s3.bad)) := fun s3 e => by
      rw [askS_some hp]
      unfold askM
      rw [hqs]
      simp only
      rw [e]
    have HTop : Hid (PReads 23 (anyM (oneAt 13)) 0) := pany_top
    clear hp hodd hpa hn he hqs
    go_enter Tryd.func13, Tryd.ntmps13
    go_wp2_with first | (go_at_call 21; refine (count_any s _).mono ?_; rintro _ w0 ⟨rfl, hw0⟩; obtain rfl := hw0.symm; rw [HN.out]) | (go_at_call 20; refine (must_yes _).mono ?_; rintro _ w0 ⟨rfl, hw0⟩; obtain rfl := hw0.symm) | fail
    refine (take0_any w.heap.size 0 ⟨#[]⟩ L _ (rd_new HE.out hs HC.out)).mono ?_
    rintro _ w1 ⟨rfl, hr1, hg1⟩
    have HB1 : Hid (Below w.heap.size w w1 ∧ w.heap.size ≤ w1.heap.size) := ⟨((Below.refl w.heap.size w).alloc (Nat.le_refl _) _).trans (grown_below hg1 _ (Nat.le_refl _) (by simp)), by have := hg1.size; simp at this; omega⟩
    have H1 : Hid (Rd w.heap.size L w1) := hr1
    clear hr1 hg1
    go_wp2_with fail
    refine (HTop.out w.heap.size L w1 H1.out).mono ?_
    rintro e w2 ⟨hg2, hcase⟩
    rw [HQ.out] at hcase
    have HB2 : Hid (Below w.heap.size w w2) := HB1.out.1.trans (grown_below hg2 _ (Nat.le_refl _) HB1.out.2)
    clear hg2 H1 HB1
    rcases hcase with ⟨hb, p, rfl, hq, hrd⟩ | ⟨hb, rfl⟩
    · simp only at hb hq hrd
      obtain ⟨l2, rfl⟩ := st_zero hb
      have HM : Hid (MQ w.heap.size w2 p q) := hq
      obtain ⟨⟨⟨c0, c1, _⟩, _⟩, _⟩ := hrd
      cases l2 with
      | nil =>
        have HA2 : Hid (askS s = (q, 0)) := by
          show _ = _
          rw [HA.out ⟨[], 0⟩ rfl]; rfl
        have c0' : w2.cell? ⟨w.heap.size, 0, none⟩ = some (.int .i64 0) := c0
        clear hb hq c0 c1 HA
        go_wp2_with (go_at_call 20; refine (must_yes _).mono ?_; rintro _ w0 ⟨rfl, hw0⟩; obtain rfl := hw0.symm)
        go_ret
        refine ⟨.inl ⟨by rw [HA2.out], p, w.heap.size, rfl, Nat.le_refl _, ?_⟩, HB2.out⟩
        rw [HA2.out]
        exact HM.out
      | cons y r =>
        have HA2 : Hid (askS s = (.nil, 3)) := by
          show _ = _
          rw [HA.out ⟨y :: r, 3⟩ rfl]; rfl
        obtain ⟨k, hk⟩ : ∃ k, (kindT y).1 = k := ⟨_, rfl⟩
        have c0' : w2.cell? ⟨w.heap.size, 0, none⟩ = some (.int .i64 k) := by rw [← hk]; exact c0
        have j0 : (k == 0) = false := by
          have := kind_ne y
          rw [hk] at this
          simpa using this
        clear hb hq c0 c1 HA hk
        go_wp2_with (go_at_call 20; refine (must_no _).mono ?_; rintro _ w0 ⟨rfl, hw0⟩; obtain rfl := hw0.symm)
        refine ⟨rfl, .inr ⟨by rw [HA2.out]; decide, by rw [HA2.out], by rw [HA2.out]⟩, HB2.out⟩
    · simp only at hb
      have HA2 : Hid (askS s = (.nil, s2.bad) ∧ s2.bad ≠ 0) := by
        refine ⟨?_, hb⟩
        have e : (if s2.l = [] then s2 else s2.fails 3) = s2 := by rw [show s2.fails 3 = s2 by rw [St.fails, if_neg hb]]; split <;> rfl
        rw [HA.out s2 e, if_neg hb]
      clear hb HA
      go_wp2
      refine ⟨rfl, .inr ⟨by rw [HA2.out.1]; exact HA2.out.2, by rw [HA2.out.1], by rw [HA2.out.1]⟩, HB2.out⟩
end Go.Proofs.YtleegplecdknlaaDoor
