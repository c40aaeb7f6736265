/- The document's reader of what is looked for: one, whole; and any, at the top. -/
import Derived.Test.YtleegplecdknlaaDoorAOne6
namespace Go.Proofs.YtleegplecdknlaaDoor
open Go.RowKit

theorem one_any (any : St → Qy × St) (d : Int) (hd0 : 0 ≤ d) (hd : d ≤ 12) (hO : Reads 9 any (d + 1)) : Reads 26 (oneM any false) d := by
  intro A s w h
  have hd' : ¬ 12 < d := by omega
  obtain ⟨t, ht⟩ : ∃ t, s.peek = t := ⟨_, rfl⟩
  by_cases hp : t = tOpen
  · exact one_open any A d s w h hd0 hd (ht.trans hp) hO _ (by
      unfold oneM
      simp only
      rw [if_neg (by decide), if_pos (ht.trans hp)])
  · cases hn : noOne t with
    | true =>
      have e : oneM any false s = (zeroQ, s.fails 3) := by
        unfold oneM
        simp only
        rw [if_neg (by decide), if_neg (by rw [ht]; exact hp), if_pos (by rw [ht]; exact hn)]
      rw [e]
      exact one_none A d s w h hd' (by rw [ht]; exact hn)
    | false =>
      by_cases hq : firstB t = 34
      · exact one_quote A d s t w h hd' ht hp hn hq _ (by
          unfold oneM
          simp only
          rw [if_neg (by decide), if_neg (by rw [ht]; exact hp), if_neg (by rw [ht, hn]; decide), if_pos (by rw [ht]; exact hq), ht])
      · have e : oneM any false s = if ((s.take t).2.take tStar).1 then (.node 2 [smallS t] .nil .nil, ((s.take t).2.take tStar).2.begins t (smallL t.data.toList)) else nearM t ((s.take t).2.take tStar).2 := by
          unfold oneM
          simp only
          rw [if_neg (by decide), if_neg (by rw [ht]; exact hp), if_neg (by rw [ht, hn]; decide), if_neg (by rw [ht]; exact hq), ht]
        by_cases hst : (s.take t).2.peek = tStar
        · refine one_star A d s t w h hd' ht hp hn hq hst _ ?_
          rw [e, take_yes hst, if_pos rfl]
        · rw [e, take_no hst, if_neg (by simp)]
          have hr := run_of h hd' ht hp hn hq hst
          obtain ⟨s1, hs1⟩ : ∃ u, (s.take t).2 = u := ⟨_, rfl⟩
          rw [hs1] at hr ⊢
          show OneTo A d w (nearM t s1)
          by_cases hno : (s1.plain t).2.peek = tNear
          · obtain ⟨s3, hs3⟩ : ∃ u, ((s1.plain t).2.take tNear).2 = u := ⟨_, rfl⟩
            have hs3' : (⟨(s1.plain t).2.l.tail, (s1.plain t).2.bad⟩ : St) = s3 := by rw [← hs3, take_yes hno]
            by_cases hb : s3.peek = tNone
            · rw [near_bad hno hs3 (.inl hb)]
              exact near_bad0 A d s t w s1 hr hno s3 hs3' _ rfl hb
            · cases hsg : isSign (firstB s3.peek) with
              | true =>
                rw [near_bad hno hs3 (.inr hsg)]
                exact near_bad1 A d s t w s1 hr hno s3 hs3' _ rfl hb hsg
              | false =>
                rw [near_yes hno hs3 (by rw [hsg]; rintro (h | h); exact hb h; cases h)]
                exact near_two A d s t w s1 hr hno s3 hs3' _ rfl hb hsg _ (by rw [take_yes rfl])
          · rw [near_no hno]
            exact one_word A d s t w s1 hr hno

theorem one_at (m : Nat) : m ≤ 13 → Reads 26 (oneAt m) (13 - (m : Int)) := by
  induction m with
  | zero =>
    intro _ A s w h
    exact one_over A _ s w h (by decide)
  | succ m ih =>
    intro hm
    have i1 := ih (by omega)
    have i2 := any_any (oneAt m) _ (all_any (oneAt m) _ i1 (nu_oneAt m)) (fun s => (nu_oneAt m s).1)
    refine one_any (anyM (oneAt m)) _ (by omega) (by omega) ?_
    rw [show (13 - ((m + 1 : Nat) : Int) + 1) = 13 - (m : Int) by omega]
    exact i2
theorem any_top : Reads 9 (anyM (oneAt 13)) 0 := any_any (oneAt 13) _ (all_any (oneAt 13) _ (one_at 13 (Nat.le_refl _)) (nu_oneAt 13)) (fun s => (nu_oneAt 13 s).1)

/-- what the reader made, whoever looks at it later: base B -/
theorem grown_below {w w' : World} {A : Nat} (h : w.grownBy w' (some A)) (B : Nat) (hB : B ≤ A) (hw : B ≤ w.heap.size) : Below B w w' := (Below.refl B w).grown h hw (fun g hg => by cases hg; exact hB)
end Go.Proofs.YtleegplecdknlaaDoor
