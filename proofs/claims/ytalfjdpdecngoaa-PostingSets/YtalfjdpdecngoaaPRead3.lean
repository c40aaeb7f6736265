/- The contract of Read. -/
import Derived.Test.YtalfjdpdecngoaaPRead2
namespace Go.Proofs.Ytalfjdpdecngoaa
open Go.RowKit

def rdF : Nat → Pl → List UInt8 → Option (List Pl)
  | _, _, [] => some []
  | 0, _, _ :: _ => none
  | f + 1, p, c :: l => match rpL (c :: l) p with
    | none => none
    | some (q, n) => (rdF f q ((c :: l).drop n)).map (q :: ·)
/-- the places that bytes are -/
def readL (l : List UInt8) : Option (List Pl) := rdF l.length ⟨0, 0⟩ l

theorem rpL_pos {l : List UInt8} {p q : Pl} {n : Nat} (h : rpL l p = some (q, n)) : 1 ≤ n ∧ n ≤ l.length ∧ follB p q = true := by
  have hb := rnL_bound l
  have hb2 := rnL_bound (l.drop (rnL l).2)
  rw [List.length_drop] at hb2
  unfold rpL at h
  split at h
  · cases h
  · split at h
    · split at h
      · cases h
      · split at h
        · rename_i hf
          cases h
          exact ⟨by omega, by omega, hf⟩
        · cases h
    · split at h
      · rename_i hf
        cases h
        exact ⟨by omega, by omega, hf⟩
      · cases h

theorem rdF_step (f : Nat) (p : Pl) (l : List UInt8) (hl : 0 < l.length) (hf : l.length ≤ f) (R : Option (List Pl)) (ps : List Pl) (h : (rdF f p l).map (ps ++ ·) = R) :
    (rpL l p = none → R = none) ∧ ∀ q n, rpL l p = some (q, n) → (rdF (f - 1) q (l.drop n)).map ((ps ++ [q]) ++ ·) = R := by
  cases l with
  | nil => simp at hl
  | cons c l =>
    cases f with
    | zero => simp at hf
    | succ f =>
      rw [rdF] at h
      refine ⟨fun e => ?_, fun q n e => ?_⟩
      · rw [e] at h; exact h.symm
      · rw [e] at h
        rw [← h]
        simp only [Nat.add_sub_cancel]
        cases rdF f q ((c :: l).drop n) <;> simp

theorem readPlace_none (s : ByteArray) (p : Pl) (hp : Ahead p) (h : rpL s.data.toList p = none) (w : World) (hs : s.size ≤ 1000000) :
    Calls Try.prog 35 #[.string s, .agg #[.int .i64 p.r, .int .i64 p.a]] w fun e w' => e = .returned (.tuple #[.agg #[.int .i64 0, .int .i64 0], .int .i64 0]) ∧ Below w.heap.size w w' := by
  have := readPlace_any s p hp w hs
  rw [h] at this
  exact this
theorem readPlace_some (s : ByteArray) (p q : Pl) (n : Nat) (hp : Ahead p) (h : rpL s.data.toList p = some (q, n)) (w : World) (hs : s.size ≤ 1000000) :
    Calls Try.prog 35 #[.string s, .agg #[.int .i64 p.r, .int .i64 p.a]] w fun e w' => e = .returned (.tuple #[.agg #[.int .i64 q.r, .int .i64 q.a], .int .i64 n]) ∧ Below w.heap.size w w' := by
  have := readPlace_any s p hp w hs
  rw [h] at this
  exact this

theorem one_pl (p : Pl) : ∀ u ∈ plc [p], u.oneCell' = true := plc_one [p]
theorem news_pl (w : World) (q : Pl) (t : TypeId) : ∀ j u, (plc [q])[j]? = some u → (w.alloc (.cells #[.int .i64 q.r, .int .i64 q.a] t)).cell? ((⟨w.heap.size, 0, none⟩ : Addr).add j) = some u := by
  intro j u hj
  rw [Go.WideShapes.add_plain]
  have hj2 : j = 0 ∨ j = 1 := by
    have := (List.getElem?_eq_some_iff.1 hj).1
    simp [plc] at this
    omega
  rcases hj2 with rfl | rfl <;> simp [plc] at hj ⊢ <;> exact hj

theorem own_monoP {w : World} {B B' : Nat} {t : TypeId} {z : Nat} {v : Value} {n : Nat} {xs : List Value} (h : w.ownsRow B t z v n xs) (hb : B' ≤ B) : w.ownsRow B' t z v n xs := by
  refine ⟨h.1, ?_⟩
  rcases h.2 with h2 | ⟨g, cap, cur, h1, h2, h3⟩
  · exact .inl h2
  · exact .inr ⟨g, cap, cur, h1, Nat.le_trans hb h2, h3⟩

def strLenP : Value → Nat
  | .string t => t.size
  | _ => 0

set_option maxRecDepth 100000 in
set_option maxHeartbeats 4000000 in
theorem read_any (s : ByteArray) (w : World) (hs : s.size ≤ 900000) :
    Calls Try.prog 20 #[.string s] w fun e w' => ((∃ ps v, readL s.data.toList = some ps ∧ e = .returned (.tuple #[v, .nilIface]) ∧ ps.length ≤ 900000 ∧ w'.ownsRow w.heap.size 25 2 v ps.length (plc ps)) ∨
      (readL s.data.toList = none ∧ e = .returned (.tuple #[.slice none 0 0, .iface 52 (.int .i64 3)]))) ∧ Below w.heap.size w w' := by
  obtain ⟨i0, hi, hz0, hz1, hz2⟩ := pinfo_parts infoPl
  obtain ⟨R, hR⟩ : ∃ R, readL s.data.toList = R := ⟨_, rfl⟩
  have HR : Hid ((rdF s.size ⟨0, 0⟩ s.data.toList).map ([] ++ ·) = R) := by
    show _ = _
    rw [← hR, readL, show s.data.toList.length = s.size by simp]
    cases rdF s.size ⟨0, 0⟩ s.data.toList <;> simp
  rw [hR]
  clear hR
  go_enter Try.func20, Try.ntmps20
  go_wp2
  go_loopw [0, 4] (fun x v wr => ∃ (t : ByteArray) (p : Pl) (ps : List Pl) (f : Nat), t.size ≤ f ∧ ps.length + t.size ≤ s.size ∧ x = .string t ∧ Hid (VarP w.heap.size p wr ∧ Below w.heap.size w wr ∧ (rdF f p t.data.toList).map (ps ++ ·) = R) ∧ Hid (wr.ownsRow (w.heap.size + 1) 25 2 v ps.length (plc ps)) ∧ Hid (Ahead p)) (fun x _ _ => strLenP x)
  case atStart => exact ⟨s, ⟨0, 0⟩, [], s.size, Nat.le_refl _, by simp, rfl, ⟨VarP.new w, (Below.refl _ _).alloc (Nat.le_refl _) _, HR.out⟩, World.ownsRow_nil _ _ _ _, ⟨by decide, by decide, by decide, by decide⟩⟩
  case round =>
    clear HR
    obtain ⟨t, p, ps, f, hf, hps, rfl, hz, hown, hah⟩ := hrel
    by_cases h0 : 0 < t.size
    · have hst := rdF_step f p t.data.toList (by simpa using h0) (by simpa using hf) R ps hz.out.2.2
      have HV : Hid (VarP w.heap.size p wr) := hz.out.1
      have HB : Hid (Below w.heap.size w wr) := hz.out.2.1
      obtain ⟨c1, c2, f1, f2, hlt1⟩ := HV.out
      clear hz
      cases hrp : rpL t.data.toList p with
      | none =>
        have e := hst.1 hrp
        subst e
        clear hst
        go_wp2_with fail
        refine (readPlace_none t p hah.out hrp _ (by omega)).mono ?_
        rintro _ w2 ⟨rfl, hb2⟩
        go_wp2
        go_ret2
        exact ⟨rfl, (HB.out.trans (hb2.mono HB.out.size)).alloc (by have := HB.out.size; have := hb2.size; omega) _⟩
      | some y =>
        obtain ⟨q, n⟩ := y
        have HST : Hid _ := hst.2 q n hrp
        obtain ⟨n1, n2, n3⟩ := rpL_pos hrp
        rw [show t.data.toList.length = t.size by simp] at n2
        clear hst
        go_wp2_with fail
        refine (readPlace_some t p q n hah.out hrp _ (by omega)).mono ?_
        rintro _ w2 ⟨rfl, hb2⟩
        have HV2 : Hid (VarP w.heap.size p w2) := HV.out.below hb2
        have HB2 : Hid (Below w.heap.size w w2) := HB.out.trans (hb2.mono HB.out.size)
        have HO2 : Hid (w2.ownsRow (w.heap.size + 1) 25 2 u4 ps.length (plc ps)) := own_belowP hown.out hb2
        have hs2 : w.heap.size + 1 ≤ w2.heap.size := by have := hb2.size; omega
        clear hb2 HV HB hown c1 c2 f1 f2 hlt1 hrp
        obtain ⟨⟨k1, k2⟩, ⟨k3, k4⟩, _⟩ := foll_facts n3
        have j0 : ((n : Int) == 0) = false := by simp; omega
        -- the box of the place
        have HBX : Hid (VarP w2.heap.size q (w2.alloc (.cells #[.int .i64 q.r, .int .i64 q.a] 25))) := VarP.box w2 q
        have HA : Hid (Below w2.heap.size w2 (w2.alloc (.cells #[.int .i64 q.r, .int .i64 q.a] 25))) := (Below.refl _ _).alloc (Nat.le_refl _) _
        have HO3 : Hid ((w2.alloc (.cells #[.int .i64 q.r, .int .i64 q.a] 25)).ownsRow (w.heap.size + 1) 25 2 u4 ps.length (plc ps)) := own_belowP HO2.out HA.out
        have hsz3 : (w2.alloc (.cells #[.int .i64 q.r, .int .i64 q.a] 25)).heap.size = w2.heap.size + 1 := by simp
        have HN : Hid (u4.ownBlock ≠ some w2.heap.size) := own_ne HO2.out _ (.inr (Nat.le_refl _))
        go_wp2_with (at_builtin; refine wpList_append_lies _ rfl _ _ 22 rfl (w.heap.size + 1) 25 i0 (.agg #[.int .i64 0, .int .i64 0]) 2 16 Try.underlying22 hi hz0 hz1 hz2 rfl (by decide) _ _ _ rfl (HO3.out.alloc _) ⟨w2.heap.size + 1, 0, none⟩ 1 1 (plc [q]) rfl rfl (by have := news_pl (w2.alloc (.cells #[.int .i64 q.r, .int .i64 q.a] 25)) q 25; rw [hsz3] at this; exact this) (one_pl q) (by decide) (by simp [maxLen]; omega) (by omega) (by simp; omega) _ rfl ?_)
        intro g cap w3 hown' hgrow hg _
        have HG : Hid (Gr (w2.alloc (.cells #[.int .i64 q.r, .int .i64 q.a] 25)) w3 u4 (.slice (some ⟨g, 0, none⟩) (ps.length + 1) cap)) := Gr.alloc _ ⟨hgrow, fun k hk => by
          have e : g = k := by simpa [own_slice] using hk
          subst e
          rcases hg with h | h
          · exact .inl h
          · exact .inr (by rw [h]; simp)⟩
        have HV3 : Hid (VarP w.heap.size p w3) := VarP.gr (HV2.out.below HA.out) HG.out (own_ne HO3.out _ (.inl (by omega)))
        have HX3 : Hid (VarP w2.heap.size q w3) := VarP.gr HBX.out HG.out HN.out
        have HB3 : Hid (Below w.heap.size w w3) := (HB2.out.trans (HA.out.mono HB2.out.size)).trans (HG.out.below (fun k hk => by have := (HO3.out.lt k hk).1; omega) (by omega))
        have HO4 : Hid (w3.ownsRow (w.heap.size + 1) 25 2 (.slice (some ⟨g, 0, none⟩) (ps.length + 1) cap) (ps ++ [q]).length (plc (ps ++ [q]))) := own_eqP hown' (by simp) (by rw [plc_append])
        clear hown' hgrow hg HG HBX HA HO3 HN HO2 HV2 HB2 hsz3
        obtain ⟨c1, c2, f1, f2, hlt1⟩ := HV3.out
        obtain ⟨c3, c4, _, _, _⟩ := HX3.out
        go_wp2
        go_roundw
        case rel =>
          refine ⟨t.extract n t.size, q, ps ++ [q], f - 1, by simp; omega, by simp; omega, by simp, ⟨HV3.out.set q, (HB3.out.setCell (p := ⟨_, 0, none⟩) (Nat.le_refl _) _).setCell (p := ⟨_, 1, none⟩) (Nat.le_refl _) _, ?_⟩, own_set (own_set HO4.out _ _ (by omega) _) _ _ (by omega) _, ⟨by omega, by omega, by omega, by omega⟩⟩
          rw [ba_drop]
          exact HST.out
        case measure => simp [strLenP]; omega
    · obtain rfl : t = ⟨#[]⟩ := by
        cases t with
        | mk d =>
          have : d.size = 0 := Nat.eq_zero_of_not_pos h0
          simp [Array.size_eq_zero_iff.1 this]
      have e : R = some ps := by
        have := hz.out.2.2
        cases f <;> simpa [rdF] using this.symm
      subst e
      go_wp2
      go_ret2
      exact ⟨⟨_, rfl, by omega, own_monoP hown.out (by omega)⟩, hz.out.2.1⟩
end Go.Proofs.Ytalfjdpdecngoaa
