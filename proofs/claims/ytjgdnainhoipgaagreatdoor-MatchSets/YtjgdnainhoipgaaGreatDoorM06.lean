/- Texts of the proof of MatchSets: PRead2, PRead3, PMergeM, POnly, PWith, PFoll. -/
import Derived.Test.YtjgdnainhoipgaaGreatDoorM05
namespace Go.Proofs.YtjgdnainhoipgaaGreatDoor
open Go.RowKit

theorem rnF_bound (f : Nat) : ∀ (i acc : Nat) (l : List UInt8), acc < 128 ^ i → (rnF f i acc l).1 < 128 ^ (i + f) ∧ (rnF f i acc l).2 ≤ i + f ∧ (rnF f i acc l).2 ≤ i + l.length := by
  induction f with
  | zero => intro i acc l h; simp [rnF]; exact Nat.lt_of_le_of_lt (Nat.zero_le _) (Nat.pow_pos (by omega))
  | succ f ih =>
    intro i acc l h
    have hp : 0 < 128 ^ (i + (f + 1)) := Nat.pow_pos (by omega)
    cases l with
    | nil => simp [rnF, hp]
    | cons c l =>
      have hc := UInt8.toNat_lt c
      have e : 128 ^ (i + 1) = 128 ^ i * 128 := Nat.pow_succ ..
      have e2 : i + (f + 1) = i + 1 + f := by omega
      unfold rnF
      split
      · rename_i h1
        split
        · simp [hp]
        · refine ⟨?_, by simp only; omega, by simp⟩
          have h3 : 128 ^ (i + 1) ≤ 128 ^ (i + (f + 1)) := Nat.pow_le_pow_right (by omega) (by omega)
          have h2 : c.toNat * 128 ^ i ≤ 127 * 128 ^ i := Nat.mul_le_mul_right _ (by omega)
          simp only
          omega
      · have h2 : c.toNat % 128 * 128 ^ i ≤ 127 * 128 ^ i := Nat.mul_le_mul_right _ (by omega)
        have := ih (i + 1) (acc + c.toNat % 128 * 128 ^ i) l (by omega)
        rw [e2]
        simp only [List.length_cons]
        omega
theorem rnL_bound (l : List UInt8) : (rnL l).1 < 34359738368 ∧ (rnL l).2 ≤ 5 ∧ (rnL l).2 ≤ l.length := by
  have := rnF_bound 5 0 0 l (by omega)
  simp only [rnL]
  omega

/-- a place that is read behind another one, and how many bytes it takes -/
def rpL (l : List UInt8) (p : Pl) : Option (Pl × Nat) :=
  if (rnL l).2 = 0 then none
  else if (rnL l).1 % 2 = 1 then
    (if (rnL (l.drop (rnL l).2)).2 = 0 ∨ (rnL l).1 / 2 = 0 then none
     else if follB p ⟨p.r + ((rnL l).1 / 2 : Nat), ((rnL (l.drop (rnL l).2)).1 : Nat)⟩ then some (⟨p.r + ((rnL l).1 / 2 : Nat), ((rnL (l.drop (rnL l).2)).1 : Nat)⟩, (rnL l).2 + (rnL (l.drop (rnL l).2)).2) else none)
  else if follB p ⟨p.r, p.a + ((rnL l).1 / 2 : Nat)⟩ then some (⟨p.r, p.a + ((rnL l).1 / 2 : Nat)⟩, (rnL l).2) else none

/-- what readPlace answers -/
def rpV : Option (Pl × Nat) → Value
  | none => .tuple #[.agg #[.int .i64 0, .int .i64 0], .int .i64 0]
  | some (q, n) => .tuple #[.agg #[.int .i64 q.r, .int .i64 q.a], .int .i64 n]

theorem readNumber_as (s : ByteArray) (n k : Nat) (h1 : (rnL s.data.toList).1 = n) (h2 : (rnL s.data.toList).2 = k) (w : World) (hs : s.size ≤ 1000000) :
    Calls Tryz.prog 136 #[.string s] w fun e w' => e = .returned (.tuple #[.int .i64 n, .int .i64 k]) ∧ w' = w := by
  rw [← h1, ← h2]; exact readNumP_any s w hs

theorem ba_drop (s : ByteArray) (k : Nat) : (s.extract k s.size).data.toList = s.data.toList.drop k := by
  rw [ByteArray.data_extract, Array.toList_extract, List.extract_eq_take_drop, List.take_of_length_le]
  rw [List.length_drop]
  have : s.data.toList.length = s.size := by simp
  omega

theorem boxes3 (w : World) (p q : Pl) : VarP (w.heap.size + 1) ⟨0, 0⟩ (((w.alloc (.cells #[.int .i64 p.r, .int .i64 p.a] 117)).alloc (.cells #[.int .i64 0, .int .i64 0] 117)).alloc (.cells #[.int .i64 q.r, .int .i64 q.a] 117)) ∧
    VarP (w.heap.size + 1 + 1) q (((w.alloc (.cells #[.int .i64 p.r, .int .i64 p.a] 117)).alloc (.cells #[.int .i64 0, .int .i64 0] 117)).alloc (.cells #[.int .i64 q.r, .int .i64 q.a] 117)) ∧
    Below w.heap.size w (((w.alloc (.cells #[.int .i64 p.r, .int .i64 p.a] 117)).alloc (.cells #[.int .i64 0, .int .i64 0] 117)).alloc (.cells #[.int .i64 q.r, .int .i64 q.a] 117)) := by
  obtain ⟨w1, h1⟩ : ∃ w1, w.alloc (.cells #[.int .i64 p.r, .int .i64 p.a] 117) = w1 := ⟨_, rfl⟩
  have s1 : w1.heap.size = w.heap.size + 1 := by rw [← h1]; simp
  have b1 : Below w.heap.size w w1 := by rw [← h1]; exact (Below.refl _ _).alloc (Nat.le_refl _) _
  rw [h1]
  obtain ⟨w2, h2⟩ : ∃ w2, w1.alloc (.cells #[.int .i64 0, .int .i64 0] 117) = w2 := ⟨_, rfl⟩
  have s2 : w2.heap.size = w.heap.size + 1 + 1 := by rw [← h2]; simp [s1]
  have v2 : VarP (w.heap.size + 1) ⟨0, 0⟩ w2 := by have := VarP.new w1; rw [s1, h2] at this; exact this
  have b2 : Below w.heap.size w w2 := by rw [← h2]; exact b1.alloc (by omega) _
  rw [h2]
  have b3 : Below w2.heap.size w2 (w2.alloc (.cells #[.int .i64 q.r, .int .i64 q.a] 117)) := (Below.refl _ _).alloc (Nat.le_refl _) _
  have v3 := VarP.box w2 q
  rw [s2] at v3
  exact ⟨v2.below b3, v3, b2.trans (b3.mono b2.size)⟩

set_option maxRecDepth 100000 in
set_option maxHeartbeats 4000000 in
theorem readPlace_any (s : ByteArray) (p : Pl) (hp : Ahead p) (w : World) (hs : s.size ≤ 1000000) :
    Calls Tryz.prog 101 #[.string s, .agg #[.int .i64 p.r, .int .i64 p.a]] w fun e w' => e = .returned (rpV (rpL s.data.toList p)) ∧ Below w.heap.size w w' := by
  obtain ⟨p1, p2, p3, p4⟩ := hp
  obtain ⟨b1, b2, b3⟩ := rnL_bound s.data.toList
  obtain ⟨n, hn⟩ : ∃ n, (rnL s.data.toList).1 = n := ⟨_, rfl⟩
  obtain ⟨k, hk⟩ : ∃ k, (rnL s.data.toList).2 = k := ⟨_, rfl⟩
  rw [hn] at b1
  rw [hk] at b2 b3
  rw [show s.data.toList.length = s.size by simp] at b3
  have HN : Hid ((rnL s.data.toList).1 = n ∧ (rnL s.data.toList).2 = k) := ⟨hn, hk⟩
  obtain ⟨V, hV⟩ : ∃ V, rpV (rpL s.data.toList p) = V := ⟨_, rfl⟩
  have HV : Hid (rpV (rpL s.data.toList p) = V) := hV
  rw [hV]
  have e2 : ((n / 2 : Nat) : Int) = (n : Int) / 2 := by omega
  simp only [rpL, hn, hk, e2] at hV
  have HU : Hid _ := hV
  clear hV hn hk HV e2
  go_enter Tryz.func101, Tryz.ntmps101
  go_wp2_with fail
  refine (readNumber_as s n k HN.out.1 HN.out.2 _ hs).mono ?_
  rintro _ wq ⟨rfl, hwq⟩
  subst hwq
  by_cases hk0 : k = 0
  · subst hk0
    have HR : Hid (V = .tuple #[.agg #[.int .i64 0, .int .i64 0], .int .i64 0]) := by show _ = _; rw [← HU.out]; rfl
    clear HU
    go_wp2
    rw [HR.out]
    exact bodyPost_ret (v := .tuple #[.agg #[.int .i64 0, .int .i64 0], .int .i64 0]) (by simp [results, Tryz.results101, go_sem]) rfl ⟨rfl, ((Below.refl _ _).alloc (Nat.le_refl _) _).alloc (by simp) _⟩
  · have j0 : ((k : Int) == 0) = false := by simp [hk0]
    by_cases hodd : n % 2 = 1
    · have j1 : ((n : Int) % 2 == 1) = true := by simp; omega
      obtain ⟨c1, c2, c3⟩ := rnL_bound (s.data.toList.drop k)
      obtain ⟨x, hx⟩ : ∃ x, (rnL (s.data.toList.drop k)).1 = x := ⟨_, rfl⟩
      obtain ⟨m, hm⟩ : ∃ m, (rnL (s.data.toList.drop k)).2 = m := ⟨_, rfl⟩
      have HM : Hid ((rnL (s.extract k s.size).data.toList).1 = x ∧ (rnL (s.extract k s.size).data.toList).2 = m) := by rw [ba_drop]; exact ⟨hx, hm⟩
      have HU : Hid _ := HU.out
      simp only [hk0, hodd, hx, hm, if_true, if_false] at HU
      rw [hx] at c1
      rw [hm] at c2 c3
      clear hx hm
      go_wp2_with fail
      refine (readNumber_as (s.extract k s.size) x m HM.out.1 HM.out.2 _ (by simp; omega)).mono ?_
      rintro _ wq ⟨rfl, hwq⟩
      subst hwq
      by_cases hm0 : m = 0
      · have j2 : ((m : Int) == 0) = true := by simp [hm0]
        have HR : Hid (V = .tuple #[.agg #[.int .i64 0, .int .i64 0], .int .i64 0]) := by show _ = _; rw [← HU.out, if_pos (.inl hm0)]; rfl
        clear HU hm0
        go_wp2
        rw [HR.out]
        exact bodyPost_ret (v := .tuple #[.agg #[.int .i64 0, .int .i64 0], .int .i64 0]) (by simp [results, Tryz.results101, go_sem]) rfl ⟨rfl, (((Below.refl _ _).alloc (Nat.le_refl _) _).alloc (by simp) _).alloc (by simp; omega) _⟩
      · have j2 : ((m : Int) == 0) = false := by simp [hm0]
        by_cases hh : n / 2 = 0
        · have j3 : ((n : Int) / 2 == 0) = true := by simp; omega
          have HR : Hid (V = .tuple #[.agg #[.int .i64 0, .int .i64 0], .int .i64 0]) := by show _ = _; rw [← HU.out, if_pos (.inr hh)]; rfl
          clear HU hh
          go_wp2
          rw [HR.out]
          exact bodyPost_ret (v := .tuple #[.agg #[.int .i64 0, .int .i64 0], .int .i64 0]) (by simp [results, Tryz.results101, go_sem]) rfl ⟨rfl, (((Below.refl _ _).alloc (Nat.le_refl _) _).alloc (by simp) _).alloc (by simp; omega) _⟩
        · have j3 : ((n : Int) / 2 == 0) = false := by simp; omega
          obtain ⟨bb, hbb⟩ : ∃ bb, follB p ⟨p.r + (n : Int) / 2, (x : Int)⟩ = bb := ⟨_, rfl⟩
          have HU2 : Hid (V = rpV (if bb then some (⟨p.r + (n : Int) / 2, (x : Int)⟩, k + m) else none)) := by
            show _ = _
            rw [← HU.out, if_neg (by omega), hbb]
          clear HU
          go_wp2_with fail
          refine (follows_as p ⟨p.r + (n : Int) / 2, (x : Int)⟩ bb hbb _).mono ?_
          rintro _ w4 ⟨rfl, hb4⟩
          obtain ⟨v1, v2, hbw⟩ := boxes3 w p ⟨p.r + (n : Int) / 2, (x : Int)⟩
          have HV1 : Hid (VarP (w.heap.size + 1) ⟨0, 0⟩ w4) := v1.below hb4
          have HV2 : Hid (VarP (w.heap.size + 1 + 1) ⟨p.r + (n : Int) / 2, (x : Int)⟩ w4) := v2.below hb4
          have HB4 : Hid (Below w.heap.size w w4) := hbw.trans (hb4.mono hbw.size)
          clear v1 v2 hbw hb4
          obtain ⟨y1, y2, y3, y4, y5⟩ := HV1.out
          obtain ⟨y6, y7, _, _, _⟩ := HV2.out
          cases bb
          · go_wp2
            rw [HU2.out]
            obtain ⟨z1, z2, _, _, _⟩ := HV1.out.set ⟨0, 0⟩
            exact bodyPost_ret (v := .tuple #[.agg #[.int .i64 0, .int .i64 0], .int .i64 0]) (by simp [results, Tryz.results101, go_sem, z1, z2]) rfl ⟨rfl, (HB4.out.setCell (p := ⟨_, 0, none⟩) (by show _ ≤ w.heap.size + 1; omega) _).setCell (p := ⟨_, 1, none⟩) (by show _ ≤ w.heap.size + 1; omega) _⟩
          · go_wp2
            rw [HU2.out]
            obtain ⟨z1, z2, _, _, _⟩ := HV1.out.set ⟨p.r + (n : Int) / 2, (x : Int)⟩
            exact bodyPost_ret (v := .tuple #[.agg #[.int .i64 (⟨p.r + (n : Int) / 2, (x : Int)⟩ : Pl).r, .int .i64 (⟨p.r + (n : Int) / 2, (x : Int)⟩ : Pl).a], .int .i64 ((k : Int) + (m : Int))]) (by simp [results, Tryz.results101, go_sem, z1, z2]) rfl ⟨by simp [rpV], (HB4.out.setCell (p := ⟨_, 0, none⟩) (by show _ ≤ w.heap.size + 1; omega) _).setCell (p := ⟨_, 1, none⟩) (by show _ ≤ w.heap.size + 1; omega) _⟩
    · have j1 : ((n : Int) % 2 == 1) = false := by simp; omega
      have HU : Hid _ := HU.out
      simp only [hk0, hodd, if_false] at HU
      obtain ⟨bb, hbb⟩ : ∃ bb, follB p ⟨p.r, p.a + (n : Int) / 2⟩ = bb := ⟨_, rfl⟩
      have HU2 : Hid (V = rpV (if bb then some (⟨p.r, p.a + (n : Int) / 2⟩, k) else none)) := by
        show _ = _
        rw [← HU.out, hbb]
      clear HU
      go_wp2_with fail
      refine (follows_as p ⟨p.r, p.a + (n : Int) / 2⟩ bb hbb _).mono ?_
      rintro _ w4 ⟨rfl, hb4⟩
      obtain ⟨v1, v2, hbw⟩ := boxes3 w p ⟨p.r, p.a + (n : Int) / 2⟩
      have HV1 : Hid (VarP (w.heap.size + 1) ⟨0, 0⟩ w4) := v1.below hb4
      have HV2 : Hid (VarP (w.heap.size + 1 + 1) ⟨p.r, p.a + (n : Int) / 2⟩ w4) := v2.below hb4
      have HB4 : Hid (Below w.heap.size w w4) := hbw.trans (hb4.mono hbw.size)
      clear v1 v2 hbw hb4
      obtain ⟨y1, y2, y3, y4, y5⟩ := HV1.out
      obtain ⟨y6, y7, _, _, _⟩ := HV2.out
      cases bb
      · go_wp2
        rw [HU2.out]
        obtain ⟨z1, z2, _, _, _⟩ := HV1.out.set ⟨0, 0⟩
        exact bodyPost_ret (v := .tuple #[.agg #[.int .i64 0, .int .i64 0], .int .i64 0]) (by simp [results, Tryz.results101, go_sem, z1, z2]) rfl ⟨rfl, (HB4.out.setCell (p := ⟨_, 0, none⟩) (by show _ ≤ w.heap.size + 1; omega) _).setCell (p := ⟨_, 1, none⟩) (by show _ ≤ w.heap.size + 1; omega) _⟩
      · go_wp2
        rw [HU2.out]
        obtain ⟨z1, z2, _, _, _⟩ := HV1.out.set ⟨p.r, p.a + (n : Int) / 2⟩
        exact bodyPost_ret (v := .tuple #[.agg #[.int .i64 (⟨p.r, p.a + (n : Int) / 2⟩ : Pl).r, .int .i64 (⟨p.r, p.a + (n : Int) / 2⟩ : Pl).a], .int .i64 ((k : Int))]) (by simp [results, Tryz.results101, go_sem, z1, z2]) rfl ⟨by simp [rpV], (HB4.out.setCell (p := ⟨_, 0, none⟩) (by show _ ≤ w.heap.size + 1; omega) _).setCell (p := ⟨_, 1, none⟩) (by show _ ≤ w.heap.size + 1; omega) _⟩
end Go.Proofs.YtjgdnainhoipgaaGreatDoor
namespace Go.Proofs.YtjgdnainhoipgaaGreatDoor
open Go.RowKit

def rdF : Nat → Pl → List UInt8 → Option (List Pl)
  | _, _, [] => some []
  | 0, _, _ :: _ => none
  | f + 1, p, c :: l => match rpL (c :: l) p with
    | none => none
    | some (q, n) => (rdF f q ((c :: l).drop n)).map (q :: ·)
/-- the places that bytes are -/
def readL (l : List UInt8) : Option (List Pl) := rdF l.length ⟨0, 0⟩ l

theorem rpL_pos {l : List UInt8} {p q : Pl} {n : Nat} (h : rpL l p = some (q, n)) : 1 ≤ n ∧ n ≤ l.length ∧ follB p q = true := by
  have hb := rnL_bound l
  have hb2 := rnL_bound (l.drop (rnL l).2)
  rw [List.length_drop] at hb2
  unfold rpL at h
  split at h
  · cases h
  · split at h
    · split at h
      · cases h
      · split at h
        · rename_i hf
          cases h
          exact ⟨by omega, by omega, hf⟩
        · cases h
    · split at h
      · rename_i hf
        cases h
        exact ⟨by omega, by omega, hf⟩
      · cases h

theorem rdF_step (f : Nat) (p : Pl) (l : List UInt8) (hl : 0 < l.length) (hf : l.length ≤ f) (R : Option (List Pl)) (ps : List Pl) (h : (rdF f p l).map (ps ++ ·) = R) :
    (rpL l p = none → R = none) ∧ ∀ q n, rpL l p = some (q, n) → (rdF (f - 1) q (l.drop n)).map ((ps ++ [q]) ++ ·) = R := by
  cases l with
  | nil => simp at hl
  | cons c l =>
    cases f with
    | zero => simp at hf
    | succ f =>
      rw [rdF] at h
      refine ⟨fun e => ?_, fun q n e => ?_⟩
      · rw [e] at h; exact h.symm
      · rw [e] at h
        rw [← h]
        simp only [Nat.add_sub_cancel]
        cases rdF f q ((c :: l).drop n) <;> simp

theorem readPlace_none (s : ByteArray) (p : Pl) (hp : Ahead p) (h : rpL s.data.toList p = none) (w : World) (hs : s.size ≤ 1000000) :
    Calls Tryz.prog 101 #[.string s, .agg #[.int .i64 p.r, .int .i64 p.a]] w fun e w' => e = .returned (.tuple #[.agg #[.int .i64 0, .int .i64 0], .int .i64 0]) ∧ Below w.heap.size w w' := by
  have := readPlace_any s p hp w hs
  rw [h] at this
  exact this
theorem readPlace_some (s : ByteArray) (p q : Pl) (n : Nat) (hp : Ahead p) (h : rpL s.data.toList p = some (q, n)) (w : World) (hs : s.size ≤ 1000000) :
    Calls Tryz.prog 101 #[.string s, .agg #[.int .i64 p.r, .int .i64 p.a]] w fun e w' => e = .returned (.tuple #[.agg #[.int .i64 q.r, .int .i64 q.a], .int .i64 n]) ∧ Below w.heap.size w w' := by
  have := readPlace_any s p hp w hs
  rw [h] at this
  exact this

theorem one_pl (p : Pl) : ∀ u ∈ plc [p], u.oneCell' = true := plc_one [p]
theorem news_pl (w : World) (q : Pl) (t : TypeId) : ∀ j u, (plc [q])[j]? = some u → (w.alloc (.cells #[.int .i64 q.r, .int .i64 q.a] t)).cell? ((⟨w.heap.size, 0, none⟩ : Addr).add j) = some u := by
  intro j u hj
  rw [Go.WideShapes.add_plain]
  have hj2 : j = 0 ∨ j = 1 := by
    have := (List.getElem?_eq_some_iff.1 hj).1
    simp [plc] at this
    omega
  rcases hj2 with rfl | rfl <;> simp [plc] at hj ⊢ <;> exact hj

theorem own_monoP {w : World} {B B' : Nat} {t : TypeId} {z : Nat} {v : Value} {n : Nat} {xs : List Value} (h : w.ownsRow B t z v n xs) (hb : B' ≤ B) : w.ownsRow B' t z v n xs := by
  refine ⟨h.1, ?_⟩
  rcases h.2 with h2 | ⟨g, cap, cur, h1, h2, h3⟩
  · exact .inl h2
  · exact .inr ⟨g, cap, cur, h1, Nat.le_trans hb h2, h3⟩

def strLenP : Value → Nat
  | .string t => t.size
  | _ => 0

set_option maxRecDepth 100000 in
set_option maxHeartbeats 4000000 in
theorem readP_any (s : ByteArray) (w : World) (hs : s.size ≤ 900000) :
    Calls Tryz.prog 63 #[.string s] w fun e w' => ((∃ ps v, readL s.data.toList = some ps ∧ e = .returned (.tuple #[v, .nilIface]) ∧ ps.length ≤ 900000 ∧ w'.ownsRow w.heap.size 117 2 v ps.length (plc ps)) ∨
      (readL s.data.toList = none ∧ e = .returned (.tuple #[.slice none 0 0, .iface 52 (.int .i64 3)]))) ∧ Below w.heap.size w w' := by
  obtain ⟨i0, hi, hz0, hz1, hz2⟩ := pinfo_parts infoPl
  obtain ⟨R, hR⟩ : ∃ R, readL s.data.toList = R := ⟨_, rfl⟩
  have HR : Hid ((rdF s.size ⟨0, 0⟩ s.data.toList).map ([] ++ ·) = R) := by
    show _ = _
    rw [← hR, readL, show s.data.toList.length = s.size by simp]
    cases rdF s.size ⟨0, 0⟩ s.data.toList <;> simp
  rw [hR]
  clear hR
  go_enter Tryz.func63, Tryz.ntmps63
  go_wp2
  go_loopw [0, 4] (fun x v wr => ∃ (t : ByteArray) (p : Pl) (ps : List Pl) (f : Nat), t.size ≤ f ∧ ps.length + t.size ≤ s.size ∧ x = .string t ∧ Hid (VarP w.heap.size p wr ∧ Below w.heap.size w wr ∧ (rdF f p t.data.toList).map (ps ++ ·) = R) ∧ Hid (wr.ownsRow (w.heap.size + 1) 117 2 v ps.length (plc ps)) ∧ Hid (Ahead p)) (fun x _ _ => strLenP x)
  case atStart => exact ⟨s, ⟨0, 0⟩, [], s.size, Nat.le_refl _, by simp, rfl, ⟨VarP.new w, (Below.refl _ _).alloc (Nat.le_refl _) _, HR.out⟩, World.ownsRow_nil _ _ _ _, ⟨by decide, by decide, by decide, by decide⟩⟩
  case round =>
    clear HR
    obtain ⟨t, p, ps, f, hf, hps, rfl, hz, hown, hah⟩ := hrel
    by_cases h0 : 0 < t.size
    · have hst := rdF_step f p t.data.toList (by simpa using h0) (by simpa using hf) R ps hz.out.2.2
      have HV : Hid (VarP w.heap.size p wr) := hz.out.1
      have HB : Hid (Below w.heap.size w wr) := hz.out.2.1
      obtain ⟨c1, c2, f1, f2, hlt1⟩ := HV.out
      clear hz
      cases hrp : rpL t.data.toList p with
      | none =>
        have e := hst.1 hrp
        subst e
        clear hst
        go_wp2_with fail
        refine (readPlace_none t p hah.out hrp _ (by omega)).mono ?_
        rintro _ w2 ⟨rfl, hb2⟩
        go_wp2
        go_ret2
        exact ⟨rfl, (HB.out.trans (hb2.mono HB.out.size)).alloc (by have := HB.out.size; have := hb2.size; omega) _⟩
      | some y =>
        obtain ⟨q, n⟩ := y
        have HST : Hid _ := hst.2 q n hrp
        obtain ⟨n1, n2, n3⟩ := rpL_pos hrp
        rw [show t.data.toList.length = t.size by simp] at n2
        clear hst
        go_wp2_with fail
        refine (readPlace_some t p q n hah.out hrp _ (by omega)).mono ?_
        rintro _ w2 ⟨rfl, hb2⟩
        have HV2 : Hid (VarP w.heap.size p w2) := HV.out.below hb2
        have HB2 : Hid (Below w.heap.size w w2) := HB.out.trans (hb2.mono HB.out.size)
        have HO2 : Hid (w2.ownsRow (w.heap.size + 1) 117 2 u4 ps.length (plc ps)) := own_belowP hown.out hb2
        have hs2 : w.heap.size + 1 ≤ w2.heap.size := by have := hb2.size; omega
        clear hb2 HV HB hown c1 c2 f1 f2 hlt1 hrp
        obtain ⟨⟨k1, k2⟩, ⟨k3, k4⟩, _⟩ := foll_facts n3
        have j0 : ((n : Int) == 0) = false := by simp; omega
        -- the box of the place
        have HBX : Hid (VarP w2.heap.size q (w2.alloc (.cells #[.int .i64 q.r, .int .i64 q.a] 117))) := VarP.box w2 q
        have HA : Hid (Below w2.heap.size w2 (w2.alloc (.cells #[.int .i64 q.r, .int .i64 q.a] 117))) := (Below.refl _ _).alloc (Nat.le_refl _) _
        have HO3 : Hid ((w2.alloc (.cells #[.int .i64 q.r, .int .i64 q.a] 117)).ownsRow (w.heap.size + 1) 117 2 u4 ps.length (plc ps)) := own_belowP HO2.out HA.out
        have hsz3 : (w2.alloc (.cells #[.int .i64 q.r, .int .i64 q.a] 117)).heap.size = w2.heap.size + 1 := by simp
        have HN : Hid (u4.ownBlock ≠ some w2.heap.size) := own_ne HO2.out _ (.inr (Nat.le_refl _))
        go_wp2_with (at_builtin; refine wpList_append_lies _ rfl _ _ 65 rfl (w.heap.size + 1) 117 i0 (.agg #[.int .i64 0, .int .i64 0]) 2 16 Tryz.underlying65 hi hz0 hz1 hz2 rfl (by decide) _ _ _ rfl (HO3.out.alloc _) ⟨w2.heap.size + 1, 0, none⟩ 1 1 (plc [q]) rfl rfl (by have := news_pl (w2.alloc (.cells #[.int .i64 q.r, .int .i64 q.a] 117)) q 117; rw [hsz3] at this; exact this) (one_pl q) (by decide) (by simp [maxLen]; omega) (by omega) (by simp; omega) _ rfl ?_)
        intro g cap w3 hown' hgrow hg _
        have HG : Hid (Gr (w2.alloc (.cells #[.int .i64 q.r, .int .i64 q.a] 117)) w3 u4 (.slice (some ⟨g, 0, none⟩) (ps.length + 1) cap)) := Gr.alloc _ ⟨hgrow, fun k hk => by
          have e : g = k := by simpa [own_slice] using hk
          subst e
          rcases hg with h | h
          · exact .inl h
          · exact .inr (by rw [h]; simp)⟩
        have HV3 : Hid (VarP w.heap.size p w3) := VarP.gr (HV2.out.below HA.out) HG.out (own_ne HO3.out _ (.inl (by omega)))
        have HX3 : Hid (VarP w2.heap.size q w3) := VarP.gr HBX.out HG.out HN.out
        have HB3 : Hid (Below w.heap.size w w3) := (HB2.out.trans (HA.out.mono HB2.out.size)).trans (HG.out.below (fun k hk => by have := (HO3.out.lt k hk).1; omega) (by omega))
        have HO4 : Hid (w3.ownsRow (w.heap.size + 1) 117 2 (.slice (some ⟨g, 0, none⟩) (ps.length + 1) cap) (ps ++ [q]).length (plc (ps ++ [q]))) := own_eqP hown' (by simp) (by rw [plc_append])
        clear hown' hgrow hg HG HBX HA HO3 HN HO2 HV2 HB2 hsz3
        obtain ⟨c1, c2, f1, f2, hlt1⟩ := HV3.out
        obtain ⟨c3, c4, _, _, _⟩ := HX3.out
        go_wp2
        go_roundw
        case rel =>
          refine ⟨t.extract n t.size, q, ps ++ [q], f - 1, by simp; omega, by simp; omega, by simp, ⟨HV3.out.set q, (HB3.out.setCell (p := ⟨_, 0, none⟩) (Nat.le_refl _) _).setCell (p := ⟨_, 1, none⟩) (Nat.le_refl _) _, ?_⟩, own_set (own_set HO4.out _ _ (by omega) _) _ _ (by omega) _, ⟨by omega, by omega, by omega, by omega⟩⟩
          rw [ba_drop]
          exact HST.out
        case measure => simp [strLenP]; omega
    · obtain rfl : t = ⟨#[]⟩ := by
        cases t with
        | mk d =>
          have : d.size = 0 := Nat.eq_zero_of_not_pos h0
          simp [Array.size_eq_zero_iff.1 this]
      have e : R = some ps := by
        have := hz.out.2.2
        cases f <;> simpa [rdF] using this.symm
      subst e
      go_wp2
      go_ret2
      exact ⟨⟨_, rfl, by omega, own_monoP hown.out (by omega)⟩, hz.out.2.1⟩
end Go.Proofs.YtjgdnainhoipgaaGreatDoor
namespace Go.Proofs.YtjgdnainhoipgaaGreatDoor
open Go.RowKit

theorem cmpI_cases (a b : Int) : (cmpI a b = -1 ∧ a < b) ∨ (cmpI a b = 0 ∧ a = b) ∨ (cmpI a b = 1 ∧ b < a) := by
  unfold cmpI
  split
  · exact .inl ⟨rfl, by assumption⟩
  · split
    · exact .inr (.inr ⟨rfl, by assumption⟩)
    · exact .inr (.inl ⟨rfl, by omega⟩)
/-- one place stands ahead of another -/
def LtP (p q : Pl) : Prop := p.r < q.r ∨ (p.r = q.r ∧ p.a < q.a)
theorem cmpP_cases (p q : Pl) : (cmpP p q = -1 ∧ LtP p q) ∨ (cmpP p q = 0 ∧ p = q) ∨ (cmpP p q = 1 ∧ LtP q p) := by
  obtain ⟨r, a⟩ := p
  obtain ⟨r', a'⟩ := q
  unfold cmpP LtP
  simp only
  by_cases h : r = r'
  · subst h
    rw [if_pos rfl]
    rcases cmpI_cases a a' with ⟨e, l⟩ | ⟨e, l⟩ | ⟨e, l⟩
    · exact .inl ⟨e, .inr ⟨rfl, l⟩⟩
    · exact .inr (.inl ⟨e, by rw [l]⟩)
    · exact .inr (.inr ⟨e, .inr ⟨rfl, l⟩⟩)
  · rw [if_neg h]
    rcases cmpI_cases r r' with ⟨e, l⟩ | ⟨e, l⟩ | ⟨e, l⟩
    · exact .inl ⟨e, .inl l⟩
    · exact absurd l h
    · exact .inr (.inr ⟨e, .inl l⟩)

/-- a list that came in, as it stands in a walk: its row, and what may be said of nil -/
def InP (w : World) (v : Value) (xs : List Pl) : Prop := ∃ a cap, v = .slice a xs.length cap ∧ xs.length ≤ cap ∧ RowP w a xs.length xs ∧ (a = none → cap = 0)

theorem InP.below {w w' : World} {v : Value} {xs : List Pl} (h : InP w v xs) (hb : Below w.heap.size w w') : InP w' v xs := by
  obtain ⟨a, cap, h1, h2, h3, h4⟩ := h
  exact ⟨a, cap, h1, h2, h3.below hb, h4⟩
theorem InP.of_own {w : World} {B : Nat} {v : Value} {xs : List Pl} (h : w.ownsRow B 117 2 v xs.length (plc xs)) (hl : xs.length ≤ 1000000) : InP w v xs := by
  obtain ⟨a, cap, rfl, hr, hn⟩ := rowP_of_own h hl
  refine ⟨a, cap, rfl, ?_, hr, hn⟩
  rcases h.2 with ⟨e, h0⟩ | ⟨g, c, cur, e, _, _, hc, _⟩
  · omega
  · cases e; exact hc
theorem InP.nil (w : World) : InP w (.slice none 0 0) [] := ⟨none, 0, rfl, Nat.le_refl _, ⟨rfl, by simp, .inl rfl⟩, fun _ => rfl⟩

theorem InP.tail {w : World} {b o n c : Nat} {x : Pl} {xs : List Pl} (h : InP w (.slice (some ⟨b, o, none⟩) (n + 1) c) (x :: xs)) : InP w (.slice (if c = 1 then some ⟨b, o, none⟩ else some ⟨b, o + 2, none⟩) n (c - 1)) xs := by
  obtain ⟨a, cap, h1, h2, ⟨_, hm, hr⟩, _⟩ := h
  cases h1
  simp only [List.length_cons] at h2 hm
  refine ⟨_, _, rfl, by omega, ⟨rfl, by omega, ?_⟩, fun e => by split at e <;> cases e⟩
  by_cases hc : c = 1
  · exact .inl (List.length_eq_zero_iff.1 (by omega))
  · rw [if_neg hc]
    rcases hr with hr | ⟨b', o', e, hb, hrow⟩
    · cases hr
    · cases e
      refine .inr ⟨b, o + 2, rfl, hb, fun i hi => ?_⟩
      have := hrow (i + 1) (by simp; omega)
      simp only [List.getElem_cons_succ] at this
      rw [show o + 2 + i * 2 = o + (i + 1) * 2 by omega]
      exact this

def sliceLen : Value → Nat
  | .slice _ n _ => n
  | _ => 0
end Go.Proofs.YtjgdnainhoipgaaGreatDoor
namespace Go.Proofs.YtjgdnainhoipgaaGreatDoor
open Go.RowKit

/-- the places that stay, where what stays may hang on what came ahead -/
def keepL {σ : Type} (stp : σ → Pl → Bool × σ) : σ → List Pl → List Pl
  | _, [] => []
  | s, p :: l => if (stp s p).1 then p :: keepL stp (stp s p).2 l else keepL stp (stp s p).2 l
theorem keep_le {σ : Type} (stp : σ → Pl → Bool × σ) (l : List Pl) : ∀ s, (keepL stp s l).length ≤ l.length := by
  induction l with
  | nil => intro s; simp [keepL]
  | cons p l ih =>
    intro s
    have := ih (stp s p).2
    unfold keepL
    split <;> simp only [List.length_cons] <;> omega
theorem keep_sub {σ : Type} (stp : σ → Pl → Bool × σ) (l : List Pl) : ∀ s, (keepL stp s l).Sublist l := by
  induction l with
  | nil => intro s; simp [keepL]
  | cons p l ih =>
    intro s
    unfold keepL
    split
    · exact (ih _).cons_cons p
    · exact (ih _).cons p
theorem grown_cellP {W W' : World} {row : Option Nat} (hg : W.grownBy W' row) (b o : Nat) (h : b < W.heap.size) (hne : row ≠ some b) : W'.cell? ⟨b, o, none⟩ = W.cell? ⟨b, o, none⟩ :=
  World.cell?_of_block (w := W) (hg.block b h (fun e => hne e.symm))

set_option maxRecDepth 100000 in
set_option maxHeartbeats 4000000 in
theorem only_follow {σ : Type} (B : Nat) (I : σ → World → Prop) (stp : σ → Pl → Bool × σ) (hI : ∀ s w w', I s w → Below B w w' → w'.heap[B]? = w.heap[B]? → I s w') (Ok : Pl → Prop)
    (hcl : ∀ s p wx, Ok p → B < wx.heap.size → I s wx → Calls Tryz.prog 173 #[.agg #[.int .i64 p.r, .int .i64 p.a], .pointer (some ⟨B, 0, none⟩)] wx fun e w' => e = .returned (.bool (stp s p).1) ∧ I (stp s p).2 w' ∧ wx.grownBy w' (some B))
    (a : Option Addr) (len cap : Nat) (xs : List Pl) (s0 : σ) (w : World) (hr : RowP w a len xs) (hlt : ∀ b o, a = some ⟨b, o, none⟩ → xs ≠ [] → b < B) (hB : B < w.heap.size) (hok : ∀ p ∈ xs, Ok p) (hs0 : I s0 w) (hlen : xs.length ≤ 100000) :
    Calls Tryz.prog 172 #[.slice a len cap, .func (.func 173) #[] #[.pointer (some ⟨B, 0, none⟩)]] w fun e w' => ∃ v, e = .returned v ∧ w'.ownsRow (B + 1) 117 2 v (keepL stp s0 xs).length (plc (keepL stp s0 xs)) ∧ Below B w w' := by
  obtain ⟨i0, hi, hz0, hz1, hz2⟩ := pinfo_parts infoPl
  have HI : Hid (∀ s w w', I s w → Below B w w' → w'.heap[B]? = w.heap[B]? → I s w') := hI
  have HCL : Hid (∀ s p wx, Ok p → B < wx.heap.size → I s wx → Calls Tryz.prog 173 #[.agg #[.int .i64 p.r, .int .i64 p.a], .pointer (some ⟨B, 0, none⟩)] wx fun e w' => e = .returned (.bool (stp s p).1) ∧ I (stp s p).2 w' ∧ wx.grownBy w' (some B)) := hcl
  have HOK : Hid (∀ p ∈ xs, Ok p) := hok
  clear hI hcl hok
  obtain ⟨rfl, hm, hx⟩ := hr
  obtain ⟨T, hT⟩ : ∃ T, keepL stp s0 xs = T := ⟨_, rfl⟩
  have HT : Hid (keepL stp s0 xs = T ∧ T.length ≤ xs.length) := ⟨hT, by rw [← hT]; exact keep_le stp xs s0⟩
  rw [hT]
  clear hT
  go_enter Tryz.func172, Tryz.ntmps172
  go_wp2
  go_loopw [5, 10] (fun v i wr => ∃ (k : Nat) (s : σ) (l : List Pl), k ≤ xs.length ∧ i = .int .i64 k ∧ Hid (I s wr ∧ Below B w wr ∧ l ++ keepL stp s (xs.drop k) = T) ∧ Hid (wr.ownsRow (B + 1) 117 2 v l.length (plc l))) (fun _ i _ => xs.length - (intOf i).toNat)
  case atStart => exact ⟨0, s0, [], Nat.zero_le _, rfl, ⟨hs0, Below.refl _ _, HT.out.1⟩, World.ownsRow_nil _ _ _ _⟩
  case round =>
    obtain ⟨k, s, l, hk, rfl, hz, hown⟩ := hrel
    clear hs0
    by_cases hkl : k < xs.length
    · have hLL : l.length ≤ xs.length := by
        have h1 := HT.out.2
        rw [← hz.out.2.2] at h1
        rw [List.length_append] at h1
        omega
      rcases hx with hx | ⟨b, off, rfl, hb, hrow⟩
      · simp [hx] at hkl
      have hbB : b < B := hlt b off rfl (fun e => by rw [e] at hkl; simp at hkl)
      obtain ⟨g1, g2⟩ := hrow k hkl
      clear hrow
      rw [← hz.out.2.1.cell (p := ⟨b, _, none⟩) hbB] at g1 g2
      have hok := HOK.out xs[k] (List.getElem_mem hkl)
      have hz2' := hz.out.2.2
      rw [List.drop_eq_getElem_cons hkl] at hz2'
      have i1 : (k : Int) < (xs.length : Int) := by omega
      generalize xs[k] = q at *
      have HS : Hid (I s wr) := hz.out.1
      have HB : Hid (Below B w wr) := hz.out.2.1
      have HZ : Hid (l ++ keepL stp s (q :: xs.drop (k + 1)) = T) := hz2'
      have HQ : Hid (Ok q) := hok
      have hBr : B < wr.heap.size := Nat.lt_of_lt_of_le hB HB.out.size
      clear hz hz2' hok hlt
      have HX1 : Hid (VarP wr.heap.size q (wr.alloc (.cells #[.int .i64 q.r, .int .i64 q.a] 117))) := VarP.box wr q
      have HA : Hid (Below wr.heap.size wr (wr.alloc (.cells #[.int .i64 q.r, .int .i64 q.a] 117))) := (Below.refl _ _).alloc (Nat.le_refl _) _
      have HS1 : Hid (I s (wr.alloc (.cells #[.int .i64 q.r, .int .i64 q.a] 117))) := HI.out s wr _ HS.out (HA.out.mono (by omega)) (HA.out.block B hBr)
      have HO1 : Hid ((wr.alloc (.cells #[.int .i64 q.r, .int .i64 q.a] 117)).ownsRow (B + 1) 117 2 u5 l.length (plc l)) := own_belowP hown.out HA.out
      have hB1 : B < (wr.alloc (.cells #[.int .i64 q.r, .int .i64 q.a] 117)).heap.size := by simp; omega
      have HB1 : Hid (Below B w (wr.alloc (.cells #[.int .i64 q.r, .int .i64 q.a] 117))) := HB.out.trans (HA.out.mono (by omega))
      obtain ⟨c1, c2, _, _, _⟩ := HX1.out
      go_wp2_with fail
      refine (HCL.out s q _ HQ.out hB1 HS1.out).mono ?_
      rintro _ w2 ⟨rfl, hs2, hg2⟩
      have HS2 : Hid (I (stp s q).2 w2) := hs2
      have HB2 : Hid (Below B w w2) := HB1.out.grown hg2 (by omega) (fun g hg => by cases hg; exact Nat.le_refl _)
      have HO2 : Hid (w2.ownsRow (B + 1) 117 2 u5 l.length (plc l)) := HO1.out.kept hg2 (by
        cases e : u5.ownBlock with
        | none => exact .inl rfl
        | some g => exact .inr (fun e2 => by cases e2; have := (HO1.out.lt _ e).1; omega))
      have hs2' : wr.heap.size + 1 ≤ w2.heap.size := by have := hg2.size; simpa using this
      have k1 : w2.cell? ⟨wr.heap.size, 0, none⟩ = some (.int .i64 q.r) := by
        rw [grown_cellP hg2 _ _ (by simp) (by simp; omega)]; exact c1
      have k2 : w2.cell? ⟨wr.heap.size, 1, none⟩ = some (.int .i64 q.a) := by
        rw [grown_cellP hg2 _ _ (by simp) (by simp; omega)]; exact c2
      clear c1 c2 hg2 hs2 HS1 HO1 HB1 hB1 HX1 HA HS HB hown g1 g2
      obtain ⟨bb, hbb⟩ : ∃ bb, (stp s q).1 = bb := ⟨_, rfl⟩
      obtain ⟨s2, hss⟩ : ∃ s2, (stp s q).2 = s2 := ⟨_, rfl⟩
      rw [hbb]
      rw [hss] at HS2
      have HZ2 : Hid (l ++ (if bb then q :: keepL stp s2 (xs.drop (k + 1)) else keepL stp s2 (xs.drop (k + 1))) = T) := by
        show _ = _
        rw [← HZ.out, keepL, hbb, hss]
      clear hbb hss HZ
      cases bb
      · have HZ3 : Hid (l ++ keepL stp s2 (xs.drop (k + 1)) = T) := HZ2.out
        clear HZ2
        go_wp2
        go_roundw
        case rel => exact ⟨k + 1, s2, l, by omega, by go_num, ⟨HS2.out, HB2.out, HZ3.out⟩, HO2⟩
        case measure => simp [intOf]; omega
      · have HZ3 : Hid ((l ++ [q]) ++ keepL stp s2 (xs.drop (k + 1)) = T) := by show _ = _; rw [List.append_assoc]; exact HZ2.out
        clear HZ2
        go_wp2_with (at_builtin; refine wpList_append_own _ rfl _ _ 65 rfl (B + 1) 117 i0 (.agg #[.int .i64 0, .int .i64 0]) 2 16 Tryz.underlying65 hi hz0 hz1 hz2 rfl (by decide) _ _ _ rfl (HO2.out.alloc _) ⟨w2.heap.size, 0, none⟩ 1 1 (plc [q]) rfl rfl (news_pl w2 q 117) (one_pl q) (by simp [maxLen]; omega) (by omega) (by simp; omega) ?_)
        intro v3 w3 ho3 hg3 _
        have HB3 : Hid (Below B w w3) := (HB2.out.alloc (by omega) _).grown hg3 (by simp; omega) (fun g hg => by have := (HO2.out.lt g hg).1; omega)
        have HS3 : Hid (I s2 w3) := HI.out s2 w2 w3 HS2.out (((Below.refl B w2).alloc (by omega) _).grown hg3 (by simp; omega) (fun g hg => by have := (HO2.out.lt g hg).1; omega)) (by
          rw [hg3.block B (by simp; omega) (fun e => by have := (HO2.out.lt _ e.symm).1; omega)]
          exact ((Below.refl _ w2).alloc (Nat.le_refl _) _).block B (by omega))
        have HO3 : Hid (w3.ownsRow (B + 1) 117 2 v3 (l ++ [q]).length (plc (l ++ [q]))) := own_eqP ho3 (by simp) (by rw [plc_append])
        clear ho3 hg3 k1 k2 HS2 HB2 HO2
        go_wp2
        go_roundw
        case rel => exact ⟨k + 1, s2, l ++ [q], by omega, by go_num, ⟨HS3.out, HB3.out, HZ3.out⟩, HO3⟩
        case measure => simp [intOf]; omega
    · have e : l = T := by
        have := hz.out.2.2
        rw [List.drop_eq_nil_of_le (by omega)] at this
        simpa [keepL] using this
      subst e
      go_wp2
      go_ret
      exact ⟨_, rfl, hown.out, hz.out.2.1⟩
end Go.Proofs.YtjgdnainhoipgaaGreatDoor
namespace Go.Proofs.YtjgdnainhoipgaaGreatDoor
open Go.RowKit

theorem grown_of_belowP {w w' : World} (h : Below w.heap.size w w') (row : Option Nat) : w.grownBy w' row := ⟨h.os, h.tape, h.output, h.size, fun k hk _ => h.block k hk⟩
/-- the place right behind another one -/
def beh (p : Pl) : Pl := ⟨p.r, p.a + 1⟩
set_option maxRecDepth 100000 in
set_option maxHeartbeats 1000000 in
theorem behind_any (p : Pl) (h0 : 0 ≤ p.a) (h1 : p.a < 1073741824) (w : World) : Calls Tryz.prog 174 #[.agg #[.int .i64 p.r, .int .i64 p.a]] w fun e w' => e = .returned (.agg #[.int .i64 (beh p).r, .int .i64 (beh p).a]) ∧ Below w.heap.size w w' := by
  have HE : Hid (beh p = ⟨p.r, p.a + 1⟩) := rfl
  go_enter Tryz.func174, Tryz.ntmps174
  go_wp2
  rw [HE.out]
  exact bodyPost_ret (v := .agg #[.int .i64 p.r, .int .i64 (p.a + 1)]) (by simp [results, Tryz.results174, go_sem]) rfl ⟨rfl, ((Below.refl _ _).alloc (Nat.le_refl _) _).alloc (by simp) _⟩
end Go.Proofs.YtjgdnainhoipgaaGreatDoor
namespace Go.Proofs.YtjgdnainhoipgaaGreatDoor
open Go.RowKit

def headB (p : Pl) : List Pl → Bool
  | [] => false
  | z :: _ => decide (beh z = p)
def dropF (p : Pl) : List Pl → List Pl
  | [] => []
  | z :: zs => if cmpP (beh z) p < 0 then dropF p zs else z :: zs
/-- what is left of the first places, and whether the next one stands right ahead -/
def stpF : List Pl → Pl → Bool × List Pl := fun zs p => (headB p (dropF p zs), dropF p zs)
def memLen (w : World) (B : Nat) : Nat := match w.cell? ⟨B, 0, none⟩ with | some v => sliceLen v | none => 0
theorem memLen_of {w : World} {B : Nat} {v : Value} (h : w.cell? ⟨B, 0, none⟩ = some v) : memLen w B = sliceLen v := by simp [memLen, h]

def OkP (p : Pl) : Prop := 1 ≤ p.r ∧ p.r ≤ 1073741824 ∧ 0 ≤ p.a ∧ p.a < 1073741824

/-- the captured list -/
def IF (w0 : World) (B : Nat) (zs : List Pl) (wx : World) : Prop := (∃ v, wx.cell? ⟨B, 0, none⟩ = some v ∧ InP w0 v zs) ∧ wx.frozen? ⟨B, 0, none⟩ = false ∧ Below B w0 wx ∧ ∀ z ∈ zs, OkP z

theorem IF.step {w0 : World} {B : Nat} {zs : List Pl} {wx wy : World} (h : IF w0 B zs wx) (hb : Below B wx wy) (he : wy.heap[B]? = wx.heap[B]?) : IF w0 B zs wy := by
  obtain ⟨⟨v, h1, h2⟩, h3, h4, h5⟩ := h
  exact ⟨⟨v, by rw [← h1]; exact World.cell?_of_block he, h2⟩, by rw [← h3]; exact World.frozen?_of_block he, h4.trans hb, h5⟩

/-- what is known in a round of the closure -/
def FE (w0 : World) (B b o n c bp : Nat) (z p : Pl) (wa wx : World) : Prop :=
  (wx.cell? ⟨B, 0, none⟩ = some (.slice (some ⟨b, o, none⟩) (n + 1) c) ∧ wx.cell? ⟨b, o, none⟩ = some (.int .i64 z.r) ∧ wx.cell? ⟨b, o + 1, none⟩ = some (.int .i64 z.a) ∧ wx.cell? ⟨bp, 0, none⟩ = some (.int .i64 p.r) ∧ wx.cell? ⟨bp, 1, none⟩ = some (.int .i64 p.a)) ∧
  (b < w0.heap.size ∧ B < wa.heap.size ∧ bp < wa.heap.size ∧ w0.heap.size ≤ B) ∧ Below wa.heap.size wa wx
theorem FE.step {w0 : World} {B b o n c bp : Nat} {z p : Pl} {wa wx wy : World} (h : FE w0 B b o n c bp z p wa wx) (hb : Below wx.heap.size wx wy) : FE w0 B b o n c bp z p wa wy := by
  obtain ⟨⟨h1, h2, h3, h4, h5⟩, ⟨h6, h7, h8, h9⟩, h10⟩ := h
  have s := h10.size
  refine ⟨⟨?_, ?_, ?_, ?_, ?_⟩, ⟨h6, h7, h8, h9⟩, h10.trans (hb.mono s)⟩
  · rw [hb.cell (p := ⟨B, _, none⟩) (by show B < _; omega)]; exact h1
  · rw [hb.cell (p := ⟨b, _, none⟩) (by show b < _; omega)]; exact h2
  · rw [hb.cell (p := ⟨b, _, none⟩) (by show b < _; omega)]; exact h3
  · rw [hb.cell (p := ⟨bp, _, none⟩) (by show bp < _; omega)]; exact h4
  · rw [hb.cell (p := ⟨bp, _, none⟩) (by show bp < _; omega)]; exact h5
theorem FE.drew {w0 : World} {B b o n c bp : Nat} {z p : Pl} {wa wx : World} (h : FE w0 B b o n c bp z p wa wx) : FE w0 B b o n c bp z p wa wx.drew := h.step (Below.refl _ _).drew

set_option maxRecDepth 100000 in
set_option maxHeartbeats 4000000 in
theorem follow_fn (w0 : World) (B : Nat) (zs : List Pl) (p : Pl) (w : World) (h0 : w0.heap.size ≤ B) (hB : B < w.heap.size) (hI : IF w0 B zs w) :
    Calls Tryz.prog 173 #[.agg #[.int .i64 p.r, .int .i64 p.a], .pointer (some ⟨B, 0, none⟩)] w fun e w' => e = .returned (.bool (stpF zs p).1) ∧ IF w0 B (stpF zs p).2 w' ∧ w.grownBy w' (some B) := by
  have st := stoodPl
  have gd := guardPl
  obtain ⟨D, hD⟩ : ∃ D, dropF p zs = D := ⟨_, rfl⟩
  have HD : Hid (dropF p zs = D) := hD
  simp only [stpF, hD]
  clear hD
  have HA : Hid (Below w.heap.size w (w.alloc (.cells #[.int .i64 p.r, .int .i64 p.a] 117))) := (Below.refl _ _).alloc (Nat.le_refl _) _
  have HI : Hid (IF w0 B zs (w.alloc (.cells #[.int .i64 p.r, .int .i64 p.a] 117))) := IF.step hI (HA.out.mono (by omega)) (HA.out.block B hB)
  have HV : Hid (VarP w.heap.size p (w.alloc (.cells #[.int .i64 p.r, .int .i64 p.a] 117))) := VarP.box w p
  clear hI
  go_enter Tryz.func173, Tryz.ntmps173
  go_wp2
  go_loopw [4] (fun _ wr => ∃ zs : List Pl, Hid (IF w0 B zs wr ∧ VarP w.heap.size p wr ∧ w.grownBy wr (some B) ∧ dropF p zs = D)) (fun _ wr => memLen wr B)
  case atStart => exact ⟨zs, HI.out, HV.out, grown_of_belowP HA.out _, HD.out⟩
  case round =>
    clear HI HV HA HD
    obtain ⟨zs, hz⟩ := hrel
    obtain ⟨⟨v, hcell, a, c, rfl, hc, hr, _⟩, hfz, hbl, hok⟩ := hz.out.1
    have hsz := hz.out.2.2.1.size
    have hpv := hz.out.2.1
    cases zs with
    | nil =>
      have e : D = [] := by have := hz.out.2.2.2; simpa [dropF] using this.symm
      subst e
      simp only [List.length_nil] at hcell
      have HZ : Hid (IF w0 B [] wr ∧ w.grownBy wr (some B)) := ⟨hz.out.1, hz.out.2.2.1⟩
      clear hz hpv hbl hok hr hfz
      go_wp2
      go_quiet (fail)
      go_wp2
      go_quiet (fail)
      go_wp2
      go_ret
      refine ⟨rfl, ?_, ?_⟩
      · exact IF.step HZ.out.1 (below_drewN (below_drewN (Below.refl _ _) _) _) rfl
      · exact HZ.out.2.trans (grown_of_belowP (below_drewN (below_drewN (Below.refl _ _) _) _) _)
    | cons z zs =>
      have HOK : Hid (∀ z' ∈ zs, OkP z') := fun z' hz' => hok z' (by simp [hz'])
      obtain ⟨ok1, ok2, ok3, ok4⟩ := hok z (by simp)
      rcases hr.2.2 with hx | ⟨b, o, rfl, hb, hrow⟩
      · cases hx
      obtain ⟨g1, g2⟩ := hrow 0 (by simp)
      simp only [Nat.zero_mul, Nat.add_zero, List.getElem_cons_zero] at g1 g2
      rw [← hbl.cell (p := ⟨b, _, none⟩) (by show b < B; omega)] at g1 g2
      simp only [List.length_cons] at hcell hc
      have HIN : Hid (InP w0 (.slice (some ⟨b, o, none⟩) (zs.length + 1) c) (z :: zs)) := ⟨_, _, rfl, by simpa using hc, hr, fun e => by cases e⟩
      obtain ⟨n, hn⟩ : ∃ n, zs.length = n := ⟨_, rfl⟩
      rw [hn] at hcell hc HIN
      have hml : memLen wr B = n + 1 := memLen_of hcell
      have HFE : Hid (FE w0 B b o n c w.heap.size z p wr wr) := ⟨⟨hcell, g1, g2, hpv.1, hpv.2.1⟩, ⟨hb, by omega, hpv.2.2.2.2, h0⟩, Below.refl _ _⟩
      have HZ : Hid (IF w0 B (z :: zs) wr ∧ VarP w.heap.size p wr ∧ w.grownBy wr (some B) ∧ dropF p (z :: zs) = D) := hz.out
      have d1 : decide ((0 : Int) < (n : Int) + 1) = true := by simp
      clear hz hok hr hrow hfz hbl hpv g1 g2 hcell
      obtain ⟨cc, hcc⟩ : ∃ cc, cmpP (beh z) p = cc := ⟨_, rfl⟩
      have HCC : Hid (cmpP (beh z) p = cc) := hcc
      clear hcc
      go_wp2_with fail
      have HFE : Hid _ := FE.drew HFE.out
      go_region_held3 (fun w' => w'.cell? ⟨B, 0, none⟩ = some (.slice (some ⟨b, o, none⟩) (n + 1) c) ∧ w'.cell? ⟨b, o, none⟩ = some (.int .i64 z.r) ∧ w'.cell? ⟨b, o + 1, none⟩ = some (.int .i64 z.a) ∧ w'.cell? ⟨w.heap.size, 0, none⟩ = some (.int .i64 p.r) ∧ w'.cell? ⟨w.heap.size, 1, none⟩ = some (.int .i64 p.a)) (exact HFE.out.1)
        (first
          | (go_at_call 174; refine Calls.mono (behind_any z ok3 ok4 _) ?_; rintro _ w2 ⟨rfl, hb2⟩; have HFE : Hid _ := FE.step HFE.out hb2; clear hb2)
          | (go_at_call 137; refine Calls.mono (compare_as (beh z) p _ HCC.out _) ?_; rintro _ w3 ⟨rfl, hb3⟩; have HFE : Hid _ := FE.step HFE.out hb3; clear hb3))
      have HB3 : Hid (Below wr.heap.size wr w3) := HFE.out.2.2
      have hB3 : B < wr.heap.size := by omega
      have HI3 : Hid (IF w0 B (z :: zs) w3) := IF.step HZ.out.1 (HB3.out.mono (by omega)) (HB3.out.block B hB3)
      have HV3 : Hid (VarP w.heap.size p w3) := VarP.below HZ.out.2.1 HB3.out
      have HG3 : Hid (w.grownBy w3 (some B)) := HZ.out.2.2.1.trans (grown_of_belowP HB3.out _)
      by_cases hneg : cc < 0
      · have HD2 : Hid (dropF p zs = D) := by show _ = _; rw [← HZ.out.2.2.2, dropF, if_pos (by rw [HCC.out]; exact hneg)]
        obtain ⟨q1, _⟩ := HFE.out.1
        have f1 := HI3.out.2.1
        clear HFE HZ HCC
        go_wp2
        go_roundw
        case rel =>
          refine ⟨zs, ⟨⟨_, World.cell?_setCell_same _ _ _ q1, HIN.out.tail⟩, by rw [World.frozen?_setCell]; exact f1, HI3.out.2.2.1.setCell (p := ⟨B, 0, none⟩) (Nat.le_refl _) _, HOK.out⟩, ?_, HG3.out.trans (grownBy_set w3 B 0 _), HD2.out⟩
          obtain ⟨y1, y2, y3, y4, y5⟩ := HV3.out
          refine ⟨?_, ?_, ?_, ?_, ?_⟩
          · rw [World.cell?_setCell_other _ _ _ _ (fun e => by cases e; omega)]; exact y1
          · rw [World.cell?_setCell_other _ _ _ _ (fun e => by cases e)]; exact y2
          · rw [World.frozen?_setCell]; exact y3
          · rw [World.frozen?_setCell]; exact y4
          · simpa [World.setCell] using y5
        case measure =>
          rw [hml, memLen_of (World.cell?_setCell_same _ _ _ q1)]
          simp [sliceLen]
      · have e : D = z :: zs := by rw [← HZ.out.2.2.2, dropF, if_neg (by rw [HCC.out]; exact hneg)]
        subst e
        have HI : Hid (IF w0 B (z :: zs) wr) := HZ.out.1
        have HG : Hid (w.grownBy wr (some B)) := HZ.out.2.2.1
        clear HZ HCC
        obtain ⟨m1, em1⟩ : ∃ m, ((beh z).r == p.r) = m := ⟨_, rfl⟩
        obtain ⟨m2, em2⟩ : ∃ m, ((beh z).a == p.a) = m := ⟨_, rfl⟩
        have HH : Hid (headB p (z :: zs) = (m1 && m2)) := by
          show _ = _
          rw [← em1, ← em2, headB, Bool.eq_iff_iff]
          obtain ⟨pr, pa⟩ := p
          simp [beh]
        cases m1 <;> cases m2 <;> (
          go_wp2_with fail
          have HFE : Hid _ := FE.drew HFE.out
          go_region_held3 (fun w' => w'.cell? ⟨B, 0, none⟩ = some (.slice (some ⟨b, o, none⟩) (n + 1) c) ∧ w'.cell? ⟨b, o, none⟩ = some (.int .i64 z.r) ∧ w'.cell? ⟨b, o + 1, none⟩ = some (.int .i64 z.a) ∧ w'.cell? ⟨w.heap.size, 0, none⟩ = some (.int .i64 p.r) ∧ w'.cell? ⟨w.heap.size, 1, none⟩ = some (.int .i64 p.a)) (exact HFE.out.1)
            ((go_at_call 174; refine Calls.mono (behind_any z ok3 ok4 _) ?_; rintro _ w4 ⟨rfl, hb4⟩; have HFE : Hid _ := FE.step HFE.out hb4; clear hb4))
          go_wp2
          go_ret
          exact ⟨by rw [HH.out]; rfl, IF.step HI.out (HFE.out.2.2.mono (by omega)) (HFE.out.2.2.block B hB3), HG.out.trans (grown_of_belowP HFE.out.2.2 _)⟩)
end Go.Proofs.YtjgdnainhoipgaaGreatDoor
