/- Texts of the proof of MatchSets: HL0. -/
import Derived.Test.YtjgdnainhoipgaaGreatDoorM38
namespace Go.Proofs.YtjgdnainhoipgaaGreatDoor
open Go.RowKit Go.Maps

/-- what is noted of the first k texts -/
structure NtOk (ts : List ByteArray) (k : Nat) (D : List Nd) : Prop where
  nts : Nts D
  r : ∀ d ∈ D, d.r ≤ k
  len : D.length ≤ 20 * k
  mem : ∀ i (hi : i < ts.length), i < k → ∀ j (hj : j < (wordsL ts[i].data.toList).length), (⟨tN, (wordsL ts[i].data.toList)[j], i + 1, j⟩ : Nd) ∈ D
theorem NtOk.zero (ts : List ByteArray) : NtOk ts 0 [] := ⟨Nts.nil, fun _ h => (by cases h), Nat.le_refl _, fun _ _ h => absurd h (Nat.not_lt_zero _)⟩
theorem noteL_get (nm : ByteArray) (r : Nat) : ∀ (ws : List ByteArray) (i j : Nat) (hj : j < ws.length), (⟨nm, ws[j], r, i + j⟩ : Nd) ∈ noteL nm r i ws
  | [], _, _, hj => absurd hj (Nat.not_lt_zero _)
  | x :: t, i, 0, _ => by rw [noteL]; exact List.mem_cons_self
  | x :: t, i, j + 1, hj => by
    have := noteL_get nm r t (i + 1) j (by simpa using hj)
    rw [noteL, List.getElem_cons_succ, show i + (j + 1) = i + 1 + j by omega]
    exact List.mem_cons_of_mem _ this
theorem chk_tN {r : Int} (h0 : 1 ≤ r) (h1 : r ≤ 1073741824) : chkE tN r = 0 := by
  have e : nameBad tN = false := by decide
  unfold chkE
  rw [e, if_neg (by decide), if_neg (by omega)]
theorem NtOk.add {ts : List ByteArray} {k : Nat} {D : List Nd} (h : NtOk ts k D) (hk : k < ts.length) (hk2 : k < 20) (hs : ts[k].size ≤ 40) : addE D tN ((k : Int) + 1) ts[k] = 0 ∧ NtOk ts (k + 1) (addD D tN ((k : Int) + 1) ts[k]) := by
  have hwl := words_count ts[k]
  have hr : ((k : Int) + 1).toNat = k + 1 := by omega
  have hno : ¬ hasD D tN (k + 1) (wordsL ts[k].data.toList) := by
    rintro ⟨x, _, d, hd, _, _, e⟩
    have := h.r d hd
    omega
  have he : addE D tN ((k : Int) + 1) ts[k] = 0 := by
    unfold addE
    rw [if_pos (chk_tN (by omega) (by omega)), if_neg (by omega), hr, if_neg (fun e => hno (hasNd_iff.1 e)), if_neg (by have := h.len; omega)]
  have hd : addD D tN ((k : Int) + 1) ts[k] = D ++ noteL tN (k + 1) 0 (wordsL ts[k].data.toList) := by
    unfold addD
    rw [if_pos he, hr]
  refine ⟨he, h.nts.add _ _ _, fun d hd2 => ?_, ?_, fun i hi hik j hj => ?_⟩
  · rw [hd] at hd2
    rcases List.mem_append.1 hd2 with h1 | h1
    · have := h.r d h1; omega
    · have := (mem_noteL h1).2.1; omega
  · rw [hd, List.length_append, noteL_len]
    have := h.len
    omega
  · rw [hd]
    by_cases e : i = k
    · subst e
      have := noteL_get tN (i + 1) (wordsL ts[i].data.toList) 0 j hj
      rw [Nat.zero_add] at this
      exact List.mem_append_right _ this
    · exact List.mem_append_left _ (h.mem i hi (by omega) j hj)
/-- so the words stand where they were noted -/
theorem NtOk.pls {ts : List ByteArray} {D : List Nd} (h : NtOk ts ts.length D) {pls : ByteArray → List Pl} (hp : ∀ wd, PlsOf D tN wd (pls wd)) : ∀ i (hi : i < ts.length) j (hj : j < (wordsL ts[i].data.toList).length), (⟨(i : Int) + 1, (j : Int)⟩ : Pl) ∈ pls (wordsL ts[i].data.toList)[j] := fun i hi j hj =>
  ((hp _).mem _).2 ⟨_, h.mem i hi hi j hj, rfl, rfl, by show (⟨(i : Int) + 1, (j : Int)⟩ : Pl) = ⟨((i + 1 : Nat) : Int), (j : Int)⟩; rw [show ((i + 1 : Nat) : Int) = (i : Int) + 1 by omega]⟩
/-- the law's texts -/
def tTwo (m : List UInt8) (a b : ByteArray) : ByteArray := ⟨#[40]⟩ ++ a ++ ⟨m.toArray⟩ ++ b ++ ⟨#[41]⟩
def tDeep (a b : ByteArray) : ByteArray := ⟨#[40, 40]⟩ ++ a ++ ⟨#[41, 32, 79, 82, 32, 40]⟩ ++ b ++ ⟨#[41, 41]⟩
theorem tTwo_list (m : List UInt8) (a b : ByteArray) : (tTwo m a b).data.toList = 40 :: (a.data.toList ++ (m ++ (b.data.toList ++ [41]))) := by
  unfold tTwo
  simp [ByteArray.data_append]
theorem tDeep_list (a b : ByteArray) : (tDeep a b).data.toList = 40 :: 40 :: (a.data.toList ++ (41 :: 32 :: 79 :: 82 :: 32 :: 40 :: (b.data.toList ++ [41, 41]))) := by
  unfold tDeep
  simp [ByteArray.data_append]
theorem tTwo_size (m : List UInt8) (a b : ByteArray) : (tTwo m a b).size = a.size + b.size + m.length + 2 := by
  rw [← ba_len, tTwo_list]
  simp
  omega
theorem tDeep_size (a b : ByteArray) : (tDeep a b).size = a.size + b.size + 10 := by
  rw [← ba_len, tDeep_list]
  simp
  omega
def mAnd : List UInt8 := [41, 32, 65, 78, 68, 32, 40]
def mOr : List UInt8 := [41, 32, 79, 82, 32, 40]
def mNot : List UInt8 := [41, 32, 78, 79, 84, 32, 40]
def mBare : List UInt8 := [41, 32, 40]
/-- what the four ask, and the one in two parentheses -/
theorem four_ask {a b : ByteArray} (ha : (askS a).2 = 0) (hb : (askS b).2 = 0) :
    (askS (tTwo mAnd a b) = (.node 4 [] (askS a).1 (askS b).1, 0) ∧ askS (tTwo mOr a b) = (.node 5 [] (askS a).1 (askS b).1, 0) ∧ askS (tTwo mNot a b) = (.node 6 [] (askS a).1 (askS b).1, 0) ∧ askS (tTwo mBare b a) = (.node 4 [] (askS b).1 (askS a).1, 0)) ∨
      ((askS (tDeep a b)).2 ≠ 0 ∧ ((askS (tTwo mAnd a b)).2 ≠ 0 ∨ (askS (tTwo mBare b a)).2 ≠ 0)) := by
  obtain ⟨La, ca, ma⟩ := askS_good ha
  obtain ⟨Lb, cb, mb⟩ := askS_good hb
  have k1 : askS (tTwo mAnd a b) = askM (tOpen :: (La ++ tShut :: tAnd :: tOpen :: (Lb ++ [tShut]))) := askS_cuts (by rw [tTwo_list]; simpa [mAnd] using cuts_two cuts_and ca cb)
  have k2 : askS (tTwo mOr a b) = askM (tOpen :: (La ++ tShut :: tOr :: tOpen :: (Lb ++ [tShut]))) := askS_cuts (by rw [tTwo_list]; simpa [mOr] using cuts_two cuts_or ca cb)
  have k3 : askS (tTwo mNot a b) = askM (tOpen :: (La ++ tShut :: tNot :: tOpen :: (Lb ++ [tShut]))) := askS_cuts (by rw [tTwo_list]; simpa [mNot] using cuts_two cuts_not ca cb)
  have k4 : askS (tTwo mBare b a) = askM (tOpen :: (Lb ++ tShut :: tOpen :: (La ++ [tShut]))) := askS_cuts (by rw [tTwo_list]; simpa [mBare] using cuts_bare cb ca)
  have k5 : askS (tDeep a b) = askM (tOpen :: tOpen :: (La ++ tShut :: tOr :: tOpen :: (Lb ++ [tShut, tShut]))) := askS_cuts (by rw [tDeep_list]; simpa using cuts_deep ca cb)
  rcases ask_deep3 ma mb with ⟨wa, wb⟩ | ⟨h1, h2⟩
  · exact .inl ⟨by rw [k1]; exact well_and wa wb, by rw [k2]; exact well_or wa wb, by rw [k3]; exact well_not wa wb, by rw [k4]; exact well_bare wb wa⟩
  · refine .inr ⟨by rw [k5, h1]; decide, ?_⟩
    rcases h2 with h2 | h2
    · exact .inl (by rw [k1, h2]; decide)
    · exact .inr (by rw [k4, h2]; decide)
/-- row by row -/
theorem cn_and {X Y : List Ht} {M N : Nat} (hx : Hk M X) (hy : Hk N Y) (r : Int) : cn (togL 4 X Y) r = if 0 < cn X r ∧ 0 < cn Y r then cn X r + cn Y r else 0 := by
  rw [cn_tog 4 X Y r hx.ris hy.ris hx.pos hy.pos]
  have e : staysB 4 (decide (0 < cn X r)) (decide (0 < cn Y r)) = (decide (0 < cn X r) && decide (0 < cn Y r)) := rfl
  rw [e]
  by_cases h1 : 0 < cn X r <;> by_cases h2 : 0 < cn Y r <;> simp [h1, h2]
theorem cn_or {X Y : List Ht} {M N : Nat} (hx : Hk M X) (hy : Hk N Y) (r : Int) : cn (togL 5 X Y) r = cn X r + cn Y r := by
  rw [cn_tog 5 X Y r hx.ris hy.ris hx.pos hy.pos]
  have e : staysB 5 (decide (0 < cn X r)) (decide (0 < cn Y r)) = true := rfl
  rw [e, if_pos rfl]
theorem cn_not2 {X Y : List Ht} {M N : Nat} (hx : Hk M X) (hy : Hk N Y) (r : Int) : cn (togL 6 X Y) r = if 0 < cn Y r then 0 else cn X r := by
  rw [cn_tog 6 X Y r hx.ris hy.ris hx.pos hy.pos]
  have e : staysB 6 (decide (0 < cn X r)) (decide (0 < cn Y r)) = !decide (0 < cn Y r) := rfl
  rw [e]
  have := cn_nonneg hy.pos r
  by_cases h2 : 0 < cn Y r
  · simp [h2]
  · have : cn Y r = 0 := by omega
    simp [this]
theorem cn_le {X : List Ht} {M : Nat} (hx : Hk M X) (r : Int) : cn X r ≤ M := by
  by_cases e : ∃ x ∈ X, x.r = r
  · obtain ⟨x, hxm, rfl⟩ := e
    rw [cn_at hx.ris hxm]
    exact hx.le x hxm
  · rw [cn_none (fun x hxm e' => e ⟨x, hxm, e'⟩)]
    omega
end Go.Proofs.YtjgdnainhoipgaaGreatDoor
