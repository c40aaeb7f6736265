/- Texts of the proof of MatchSets: HBn, MAsk, MOk, HFi. -/
import Derived.Test.YtjgdnainhoipgaaGreatDoorM30
namespace Go.Proofs.YtjgdnainhoipgaaGreatDoor
open Go.RowKit

section
variable {bf : Nat} {nm : ByteArray} {pls : ByteArray → List Pl} {beg : ByteArray → List ByteArray} {w : World}
set_option maxRecDepth 100000 in
set_option maxHeartbeats 4000000 in
theorem begin_in (hF : Fdr bf nm pls beg w) (s : ByteArray) (hs : s.size ≤ 100) :
    Calls Tryz.prog 112 #[.agg #[.pointer (some ⟨bf, 0, none⟩), .string nm], .string s] w fun e w' => ∃ v, e = .returned (.tuple #[v, .nilIface]) ∧ InH w' v (begF pls [] (beg s)) ∧ Below w.heap.size w w' := by
  obtain ⟨T, hT⟩ : ∃ T, begF pls [] (beg s) = T := ⟨_, rfl⟩
  have HT : Hid (begF pls [] (beg s) = T) := hT
  rw [hT]
  clear hT
  have HF : Hid (Fdr bf nm pls beg w) := hF
  clear hF
  have HSV0 : Hid (SV w.heap.size bf nm (w.alloc (.cells #[.pointer (some ⟨bf, 0, none⟩), .string nm] 101))) := SV.new bf nm w
  have HB0 : Hid (Below w.heap.size w (w.alloc (.cells #[.pointer (some ⟨bf, 0, none⟩), .string nm] 101))) := alloc_below w _
  have HBG : Hid _ := HF.out.bg _ HB0.out s hs
  obtain ⟨_, s1, s2⟩ := HSV0.out
  go_enter Tryz.func112, Tryz.ntmps112
  go_wp2_with fail
  refine (show Calls _ _ _ _ _ from HBG.out).mono ?_
  rintro _ w1 ⟨a, c, rfl, hr, hb1⟩
  have HB1 : Hid (Below w.heap.size w w1) := HB0.out.trans (hb1.mono HB0.out.size)
  have HSV1 : Hid (SV w.heap.size bf nm w1) := HSV0.out.below hb1
  have HWS : Hid (∀ x ∈ beg s, x.size ≤ 100) := HF.out.bw s
  have hbl := HF.out.ok.bl s
  obtain ⟨ws, hws⟩ : ∃ ws, beg s = ws := ⟨_, rfl⟩
  rw [hws] at hr HT HWS hbl ⊢
  obtain ⟨_, _, hx⟩ := hr
  clear hb1 hws HB0 HSV0 HBG s1 s2
  go_wp2
  go_loopw [8, 27] (fun v i wr => ∃ (k : Nat) (l : List Ht), k ≤ ws.length ∧ i = .int .i64 k ∧ Hid (InH wr v l ∧ Hk (500 * k) l) ∧ Hid (begF pls l (ws.drop k) = T) ∧ Hid (SV w.heap.size bf nm wr ∧ Below w1.heap.size w1 wr)) (fun _ i _ => ws.length - (intOf i).toNat)
  case atStart => exact ⟨0, [], Nat.zero_le _, rfl, ⟨InH.nil _, Hk.nil _⟩, HT.out, ⟨HSV1.out, Below.refl _ _⟩⟩
  case round =>
    clear HSV1 HT
    obtain ⟨k, l, hk, rfl, hl, hz, hw⟩ := hrel
    have HL : Hid _ := hl.out
    have HZ : Hid _ := hz.out
    have HSV : Hid (SV w.heap.size bf nm wr) := hw.out.1
    have HB : Hid (Below w1.heap.size w1 wr) := hw.out.2
    have HBW : Hid (Below w.heap.size w wr) := HB1.out.trans (hw.out.2.mono HB1.out.size)
    clear hl hz hw
    by_cases hlt : k < ws.length
    · rcases hx with hx | ⟨b, off, rfl, hb, hrow⟩
      · simp [hx] at hlt
      have g1 := hrow k hlt
      clear hrow
      rw [← HB.out.cell (p := ⟨b, _, none⟩) hb] at g1
      have i1 : (k : Int) < (ws.length : Int) := by omega
      have hq := HWS.out ws[k] (List.getElem_mem hlt)
      obtain ⟨q, hqe⟩ : ∃ q, ws[k] = q := ⟨_, rfl⟩
      have HZ1 : Hid (begF pls (togL 5 l (cntL2 (pls q))) (ws.drop (k + 1)) = T) := by
        show _ = _
        have := HZ.out
        rw [List.drop_eq_getElem_cons hlt, hqe, begF_cons] at this
        exact this
      rw [hqe] at g1 hq
      clear hqe HZ
      obtain ⟨_, s1, s2⟩ := HSV.out
      have HPL : Hid _ := HF.out.pl wr HBW.out q hq
      go_wp2_with fail
      refine (show Calls _ _ _ _ _ from HPL.out).mono ?_
      rintro _ w2 ⟨v2, rfl, hin2, hb2⟩
      have HC : Hid _ := count_in hin2 (HF.out.ok.ris q) (by have := HF.out.ok.len q; omega)
      have HB2 : Hid (Below w1.heap.size w1 w2) := HB.out.trans (hb2.mono HB.out.size)
      have HSV2 : Hid (SV w.heap.size bf nm w2) := HSV.out.below hb2
      have HL2 : Hid (InH w2 u8 l ∧ Hk (500 * k) l) := ⟨HL.out.1.below hb2, HL.out.2⟩
      clear hin2 hb2 HPL s1 s2 g1 HSV HB HL HBW
      go_wp2_with fail
      refine (show Calls _ _ _ _ _ from HC.out).mono ?_
      rintro _ w3 ⟨v3, rfl, hin3, hb3⟩
      have HKC : Hid (Hk 500 (cntL2 (pls q))) := (cnt_of (HF.out.ok.ris q)).hk.mono (HF.out.ok.len q)
      have HTG : Hid _ := together_in 5 (HL2.out.1.below hb3) hin3 HL2.out.2 HKC.out (by omega)
      have HB3 : Hid (Below w1.heap.size w1 w3) := HB2.out.trans (hb3.mono HB2.out.size)
      have HSV3 : Hid (SV w.heap.size bf nm w3) := HSV2.out.below hb3
      have HK3 : Hid (Hk (500 * k) l) := HL2.out.2
      clear hin3 hb3 HC HSV2 HB2 HL2
      go_wp2_with fail
      refine (show Calls _ _ _ _ _ from HTG.out).mono ?_
      rintro _ w4 ⟨v4, rfl, hin4, hb4⟩
      have HL4 : Hid (InH w4 v4 (togL 5 l (cntL2 (pls q))) ∧ Hk (500 * (k + 1)) (togL 5 l (cntL2 (pls q)))) := ⟨hin4, (HK3.out.tog 5 HKC.out).mono (by omega)⟩
      have HB4 : Hid (Below w1.heap.size w1 w4) := HB3.out.trans (hb4.mono HB3.out.size)
      have HSV4 : Hid (SV w.heap.size bf nm w4) := HSV3.out.below hb4
      clear hin4 hb4 HTG HSV3 HB3 HK3 HKC
      go_wp2
      go_roundw
      case rel => exact ⟨k + 1, _, by omega, by go_num, HL4, HZ1, ⟨HSV4.out, HB4.out⟩⟩
      case measure => simp [intOf]; omega
    · have e : l = T := by
        have := HZ.out
        rw [List.drop_eq_nil_of_le (by omega)] at this
        exact this
      subst e
      go_wp2
      go_ret2
      exact ⟨_, rfl, HL.out.1, HBW.out⟩
set_option maxRecDepth 100000 in
set_option maxHeartbeats 4000000 in
theorem near_in2 (hF : Fdr bf nm pls beg w) (s t : ByteArray) (hs : s.size ≤ 100) (ht : t.size ≤ 100) :
    Calls Tryz.prog 113 #[.agg #[.pointer (some ⟨bf, 0, none⟩), .string nm], .string s, .string t, .int .i64 3] w fun e w' => ∃ v, e = .returned (.tuple #[v, .nilIface]) ∧ InH w' v (nearL2 pls s t) ∧ Below w.heap.size w w' := by
  obtain ⟨i0, hi, hz0, hz1, hz2⟩ := pinfo_parts infoHt
  obtain ⟨R, hR⟩ : ∃ R, nearFrom 3 [] (pls s) (pls t) = R := ⟨_, rfl⟩
  have e0 : nearL2 pls s t = R.map (fun r => ⟨r, 1⟩) := by rw [← hR]; rfl
  rw [e0]
  have HR : Hid (nearFrom 3 [] (pls s) (pls t) = R) := hR
  clear e0 hR
  have HF : Hid (Fdr bf nm pls beg w) := hF
  clear hF
  have HSV0 : Hid (SV w.heap.size bf nm (w.alloc (.cells #[.pointer (some ⟨bf, 0, none⟩), .string nm] 101))) := SV.new bf nm w
  have HB0 : Hid (Below w.heap.size w (w.alloc (.cells #[.pointer (some ⟨bf, 0, none⟩), .string nm] 101))) := alloc_below w _
  have HP1 : Hid _ := HF.out.pl _ HB0.out s hs
  obtain ⟨_, s1, s2⟩ := HSV0.out
  go_enter Tryz.func113, Tryz.ntmps113
  go_wp2_with fail
  refine (show Calls _ _ _ _ _ from HP1.out).mono ?_
  rintro _ w1 ⟨v1, rfl, hin1, hb1⟩
  have HB1 : Hid (Below w.heap.size w w1) := HB0.out.trans (hb1.mono HB0.out.size)
  have HSV1 : Hid (SV w.heap.size bf nm w1) := HSV0.out.below hb1
  have HI1 : Hid (InP w1 v1 (pls s)) := hin1
  have HP2 : Hid _ := HF.out.pl _ HB1.out t ht
  clear hin1 hb1 s1 s2 HB0 HSV0 HP1
  obtain ⟨_, s1, s2⟩ := HSV1.out
  go_wp2_with fail
  refine (show Calls _ _ _ _ _ from HP2.out).mono ?_
  rintro _ w2 ⟨v2, rfl, hin2, hb2⟩
  have HB2 : Hid (Below w.heap.size w w2) := HB1.out.trans (hb2.mono HB1.out.size)
  have HN : Hid _ := near_any v1 v2 3 (pls s) (pls t) w2 (HI1.out.below hb2) hin2 (by have := HF.out.ok.len s; omega) (by have := HF.out.ok.len t; omega) (HF.out.ok.ok s) (HF.out.ok.ok t)
  clear hin2 hb2 s1 s2 HB1 HSV1 HI1 HP2
  go_wp2_with fail
  refine (show Calls _ _ _ _ _ from HN.out).mono ?_
  rintro _ w3 ⟨v3, rfl, ho3, hb3⟩
  have hnl := near_le 3 _ [] (pls s) (pls t) (Nat.le_refl _)
  have hn1 := HF.out.ok.len s
  have hn2 := HF.out.ok.len t
  rw [HR.out] at ho3 hnl
  simp only [List.length_nil] at hnl
  have HB3 : Hid (Below w.heap.size w w3) := HB2.out.trans (hb3.mono HB2.out.size)
  clear hb3 HN HB2 HR
  have hRl : R.length ≤ 1000 := by omega
  have hv : ∃ a c, v3 = .slice a R.length c ∧ (R = [] ∨ ∃ g, a = some ⟨g, 0, none⟩ ∧ g < w3.heap.size ∧ ∀ i (h : i < R.length), w3.cell? ⟨g, i, none⟩ = some (.int .i64 R[i])) := by
    rcases ho3.2 with ⟨rfl, h0⟩ | ⟨g, cap, cur, rfl, _, hg, _⟩
    · have : R = [] := List.length_eq_zero_iff.1 h0
      subst this
      exact ⟨none, 0, rfl, .inl rfl⟩
    · refine ⟨_, cap, rfl, .inr ⟨g, rfl, (Array.getElem?_eq_some_iff.1 hg).1, fun i hi => ?_⟩⟩
      have k0 := ho3.cells (g := g) rfl i (.int .i64 R[i]) (by simp [icc, hi])
      rw [Go.WideShapes.add_plain, Nat.zero_add] at k0
      exact k0
  obtain ⟨a, c, rfl, hx⟩ := hv
  clear ho3 hnl hn1 hn2
  have hsz := HB3.out.size
  go_wp2
  go_loopw [13, 45] (fun v i wr => ∃ (k : Nat) (l : List Ht), k ≤ R.length ∧ i = .int .i64 k ∧ l.length = k ∧ Hid (l ++ (R.drop k).map (fun r => (⟨r, 1⟩ : Ht)) = R.map (fun r => ⟨r, 1⟩)) ∧ Hid (wr.ownsRow w3.heap.size 61 2 v l.length (htc l) ∧ Below w3.heap.size w3 wr)) (fun _ i _ => R.length - (intOf i).toNat)
  case atStart => exact ⟨0, [], Nat.zero_le _, rfl, rfl, rfl, World.ownsRow_nil _ _ _ _, Below.refl _ _⟩
  case round =>
    obtain ⟨k, l, hk, rfl, hlk, hz, hown⟩ := hrel
    by_cases hlt : k < R.length
    · rcases hx with hx | ⟨g, rfl, hb, hrow⟩
      · simp [hx] at hlt
      have g1 := hrow k hlt
      clear hrow
      rw [← hown.out.2.cell (p := ⟨g, _, none⟩) hb] at g1
      have i1 : (k : Int) < (R.length : Int) := by omega
      obtain ⟨q, hqe⟩ : ∃ q, R[k] = q := ⟨_, rfl⟩
      have HZ1 : Hid ((l ++ [⟨q, 1⟩]) ++ (R.drop (k + 1)).map (fun r => (⟨r, 1⟩ : Ht)) = R.map (fun r => ⟨r, 1⟩)) := by
        show _ = _
        have := hz.out
        rw [List.drop_eq_getElem_cons hlt, hqe, List.map_cons] at this
        rw [List.append_assoc]
        exact this
      rw [hqe] at g1
      have HO : Hid (wr.ownsRow w3.heap.size 61 2 u13 l.length (htc l)) := hown.out.1
      have HB : Hid (Below w3.heap.size w3 wr) := hown.out.2
      have hs4 := HB.out.size
      clear hqe hz hown
      go_wp2_with (at_builtin; refine wpList_append_own _ rfl _ _ 57 rfl w3.heap.size 61 i0 (.agg #[.int .i64 0, .int .i64 0]) 2 16 Tryz.underlying57 hi hz0 hz1 hz2 rfl (by decide) _ _ _ rfl (HO.out.alloc _) ⟨wr.heap.size, 0, none⟩ 1 1 (htc [⟨q, 1⟩]) rfl rfl (news_ht wr ⟨q, 1⟩ 61) (one_ht _) (by simp [maxLen]; omega) (by omega) (by simp; omega) ?_)
      intro v4 w4 ho4 hg4 _
      have HB4 : Hid (Below w3.heap.size w3 w4) := (HB.out.alloc hs4 _).grown hg4 (by simp; omega) (fun g hg => (HO.out.lt g hg).1)
      have HO4 : Hid (w4.ownsRow w3.heap.size 61 2 v4 (l ++ [(⟨q, 1⟩ : Ht)]).length (htc (l ++ [(⟨q, 1⟩ : Ht)]))) := own_eqP ho4 (by simp; omega) (by rw [htc_append])
      clear ho4 hg4 HO HB
      go_wp2
      go_roundw
      case rel => exact ⟨k + 1, l ++ [⟨q, 1⟩], by omega, by go_num, by simp; omega, HZ1, HO4.out, HB4.out⟩
      case measure => simp [intOf]; omega
    · have e : l = R.map (fun r => (⟨r, 1⟩ : Ht)) := by
        have := hz.out
        rw [List.drop_eq_nil_of_le (by omega)] at this
        simpa using this
      have HE : Hid (l = R.map (fun r => (⟨r, 1⟩ : Ht))) := e
      have HO : Hid (wr.ownsRow w3.heap.size 61 2 u13 l.length (htc l)) := hown.out.1
      have HB : Hid (Below w.heap.size w wr) := HB3.out.trans (hown.out.2.mono hsz)
      have HLL : Hid (l.length ≤ 1000) := by show _ ≤ _; omega
      clear hown hz e hlk
      go_wp2
      go_ret2
      exact ⟨u13, rfl, by rw [← HE.out]; exact InH.of_own (xs := l) HO.out (by have := HLL.out; omega), HB.out⟩
end
end Go.Proofs.YtjgdnainhoipgaaGreatDoor
namespace Go.Proofs.YtjgdnainhoipgaaGreatDoor
open Go.RowKit

/-- what may stand behind: nothing, or ) -/
def Shuts (R : List ByteArray) : Prop := ∀ x ∈ R.head?, x = tShut
/-- where the one reads well, the other reads the same ahead of R; or (E) it has come to the limit -/
def Sim (E : Bool) (R : List ByteArray) (X Y : Rst → Qy × Rst) : Prop := ∀ L q L', X ⟨L, 0⟩ = (q, ⟨L', 0⟩) → Y ⟨L ++ R, 0⟩ = (q, ⟨L' ++ R, 0⟩) ∨ (E = true ∧ (Y ⟨L ++ R, 0⟩).2.bad = 4)
theorem peek_end {R : List ByteArray} (hR : Shuts R) : (⟨R, 0⟩ : Rst).peek = tNone ∨ (⟨R, 0⟩ : Rst).peek = tShut := by
  cases R with
  | nil => exact .inl rfl
  | cons x l => exact .inr (hR x rfl)
/-- a sign that is neither nothing nor ): it stands ahead of R or not -/
theorem take_more {L R : List ByteArray} {x : ByteArray} (hR : Shuts R) (h0 : x ≠ tNone) (h1 : x ≠ tShut) :
    (⟨L ++ R, 0⟩ : Rst).take x = (((⟨L, 0⟩ : Rst).take x).1, ⟨((⟨L, 0⟩ : Rst).take x).2.l ++ R, 0⟩) ∧ ((⟨L, 0⟩ : Rst).take x).2.bad = 0 := by
  cases L with
  | nil =>
    have e : (⟨[], 0⟩ : Rst).peek = tNone := rfl
    have e' : (⟨[] ++ R, 0⟩ : Rst).peek ≠ x := fun h => by
      rcases peek_end hR with k | k
      · exact h0 (h.symm.trans k)
      · exact h1 (h.symm.trans k)
    rw [take_no e', take_no (by rw [e]; exact fun h => h0 h.symm)]
    exact ⟨rfl, rfl⟩
  | cons y l =>
    by_cases e : y = x
    · subst e
      have k1 : (⟨y :: l, 0⟩ : Rst).peek = y := rfl
      have k2 : (⟨y :: l ++ R, 0⟩ : Rst).peek = y := rfl
      rw [take_yes k1, take_yes k2]
      exact ⟨rfl, rfl⟩
    · have k1 : (⟨y :: l, 0⟩ : Rst).peek ≠ x := e
      have k2 : (⟨y :: l ++ R, 0⟩ : Rst).peek ≠ x := e
      rw [take_no k1, take_no k2]
      exact ⟨rfl, rfl⟩
theorem goes_more {L R : List ByteArray} (hR : Shuts R) : goes (⟨L ++ R, 0⟩ : Rst).peek = goes (⟨L, 0⟩ : Rst).peek := by
  cases L with
  | nil =>
    show goes (⟨R, 0⟩ : Rst).peek = _
    rcases peek_end hR with k | k <;> rw [k] <;> decide
  | cons y l => rfl
theorem fails_bad (s : Rst) (e : Int) (h : s.bad ≠ 0) : s.fails e = s := by rw [Rst.fails, if_neg h]
theorem peek_bad (s : Rst) (h : s.bad ≠ 0) : s.peek = tNone := by rw [Rst.peek, if_neg h]; rfl
theorem allL_stop (one : Rst → Qy × Rst) (f : Nat) (q : Qy) (s : Rst) (h : goes s.peek = false) : allL one f q s = (q, s) := by
  cases f with
  | zero => rfl
  | succ f => unfold allL; rw [if_neg (by rw [h]; decide)]
theorem anyL_stop (all : Rst → Qy × Rst) (f : Nat) (q : Qy) (s : Rst) (h : s.peek ≠ tOr) : anyL all f q s = (q, s) := by
  cases f with
  | zero => rfl
  | succ f => unfold anyL; rw [take_no h]; rfl
theorem goes_bad (s : Rst) (h : s.bad ≠ 0) : goes s.peek = false := by rw [peek_bad s h]; decide
theorem allL_badM (one : Rst → Qy × Rst) (f : Nat) (q : Qy) (s : Rst) (h : s.bad ≠ 0) : allL one f q s = (q, s) := allL_stop one f q s (goes_bad s h)
theorem anyL_badM (all : Rst → Qy × Rst) (f : Nat) (q : Qy) (s : Rst) (h : s.bad ≠ 0) : anyL all f q s = (q, s) := anyL_stop all f q s (by rw [peek_bad s h]; decide)
end Go.Proofs.YtjgdnainhoipgaaGreatDoor
namespace Go.Proofs.YtjgdnainhoipgaaGreatDoor
open Go.RowKit

/-- words that a finder may be asked -/
def QOk : Qy → Prop
  | .nil => True
  | .node _ ws a b => (∀ x ∈ ws, x.size ≤ 100) ∧ QOk a ∧ QOk b
def szQ : Qy → Nat
  | .nil => 0
  | .node _ _ a b => 1 + szQ a + szQ b
def QSz (q : Qy) : Prop := QOk q ∧ szQ q + 1 ≤ 2 * lvs q
def NiceQ (f : Rst → Qy × Rst) : Prop := ∀ s, lvs (f s).1 + (f s).2.nu ≤ s.nu ∧ ((f s).2.bad = 0 → QSz (f s).1)
theorem fails_ne4 (s : Rst) : (s.fails 4).bad ≠ 0 := by
  unfold Rst.fails
  split
  · intro h; cases h
  · assumption
theorem one_size {q : Qy} (h1 : lvs q = 1) (h2 : szQ q = 1) (h : QOk q) : QSz q := ⟨h, by omega⟩
theorem tog_size {k : Int} {a b : Qy} (hk : isTog k = true) (ha : QSz a) (hb : QSz b) : QSz (.node k [] a b) :=
  ⟨⟨fun _ h => (by cases h), ha.1, hb.1⟩, by
    have h1 := ha.2
    have h2 := hb.2
    rw [lvs, if_pos hk, szQ]
    omega⟩
theorem fails_ne (s : Rst) : (s.fails 3).bad ≠ 0 := by
  unfold Rst.fails
  split
  · intro h; cases h
  · assumption
theorem take_bad (s : Rst) (x : ByteArray) : (s.take x).2.bad = s.bad := by unfold Rst.take; split <;> rfl
theorem begins_ne (x : ByteArray) (l : List UInt8) : ∀ s : Rst, s.bad ≠ 0 → (s.begins x l).bad ≠ 0 := by
  induction l with
  | nil => intro s h; exact h
  | cons c r ih =>
    intro s h
    unfold Rst.begins
    refine ih _ ?_
    split
    · exact fails_ne s
    · exact h
theorem begins_le {x : ByteArray} {c : UInt8} {l : List UInt8} {s : Rst} (h : (s.begins x (c :: l)).bad = 0) : x.size ≤ 12 := by
  rcases Nat.lt_or_ge 12 x.size with hx | hx
  · exfalso
    unfold Rst.begins at h
    rw [if_pos (by rw [decide_eq_true hx, Bool.or_true])] at h
    exact begins_ne x l _ (fails_ne s) h
  · exact hx
theorem plain_ok (s : Rst) (x : ByteArray) : (s.plain x).1.size ≤ 100 := by
  unfold Rst.plain
  split
  · rename_i y h
    have := (word_ok (l := x.data.toList) (w := y) (by rw [h]; simp)).le
    show y.size ≤ 100
    omega
  · exact Nat.zero_le _
theorem near_nice (p : ByteArray) (s : Rst) : lvs (nearM p s).1 = 1 ∧ szQ (nearM p s).1 = 1 ∧ QOk (nearM p s).1 := by
  have e1 : isTog 1 = false := rfl
  have e3 : isTog 3 = false := rfl
  have h0 := plain_ok s p
  unfold nearM
  simp only
  split
  · split
    · exact ⟨rfl, rfl, fun x hx => by rw [List.mem_singleton.1 hx]; exact h0, trivial, trivial⟩
    · refine ⟨rfl, rfl, fun x hx => ?_, trivial, trivial⟩
      rcases List.mem_cons.1 hx with rfl | hx
      · exact h0
      · rw [List.mem_singleton.1 hx]; exact plain_ok _ _
  · exact ⟨rfl, rfl, fun x hx => by rw [List.mem_singleton.1 hx]; exact h0, trivial, trivial⟩
theorem one_nice {any : Rst → Qy × Rst} (over : Bool) (ha : over = false → NiceQ any) : NiceQ (oneM any over) := by
  intro s
  have z : lvs zeroQ = 0 := rfl
  have key : s.peek ≠ tNone → 0 < s.nu := fun h => by
    obtain ⟨hb, r, hl⟩ := peek_some h
    unfold Rst.nu; rw [if_pos hb, hl]; simp
  unfold oneM
  simp only
  split
  · rw [nu_fails _ _ (by decide)]
    exact ⟨by rw [z]; omega, fun h => absurd h (fails_ne4 _)⟩
  · rename_i hov
    split
    · rename_i hp
      obtain ⟨a1, a2⟩ := ha (by simpa using hov) (s.take tOpen).2
      have h1 := nu_take_lt hp (by decide)
      have h3 := nu_take (any (s.take tOpen).2).2 tShut
      refine ⟨?_, fun hb => a2 ?_⟩
      · split
        · simp only; omega
        · simp only; rw [nu_fails _ _ (by decide)]; omega
      · split at hb
        · rw [take_bad] at hb; exact hb
        · exact absurd hb (fails_ne _)
    · split
      · rw [nu_fails _ _ (by decide)]
        exact ⟨by rw [z]; omega, fun h => absurd h (fails_ne _)⟩
      · rename_i hp hno
        have hne : s.peek ≠ tNone := fun e => hno (by rw [e]; decide)
        have h1 := nu_take_lt (s := s) rfl hne
        split
        · refine ⟨?_, fun _ => one_size rfl rfl ⟨fun x hx => ?_, trivial, trivial⟩⟩
          · have e : lvs (.node 1 (wordsL (s.peek.data.toList.drop 1)) .nil .nil) = 1 := rfl
            simp only
            rw [e]
            split
            · rw [nu_fails _ _ (by decide)]; omega
            · omega
          · have := (word_ok hx).le
            omega
        · have h2 := nu_take (s.take s.peek).2 tStar
          split
          · have h3 := nu_begins s.peek (smallL s.peek.data.toList) ((s.take s.peek).2.take tStar).2
            have e : lvs (.node 2 [smallS s.peek] .nil .nil) = 1 := rfl
            refine ⟨by simp only; rw [e]; omega, fun hb => one_size rfl rfl ⟨fun x hx => ?_, trivial, trivial⟩⟩
            rw [List.mem_singleton.1 hx, smallS_size]
            have hl : (smallL s.peek.data.toList).length = s.peek.size := by exact small_len _
            cases hc : smallL s.peek.data.toList with
            | nil => rw [hc] at hl; simp at hl; omega
            | cons c l =>
              simp only at hb
              rw [hc] at hb
              have := begins_le hb
              omega
          · have h3 := nu_near s.peek ((s.take s.peek).2.take tStar).2
            obtain ⟨n1, n3, n2⟩ := near_nice s.peek ((s.take s.peek).2.take tStar).2
            exact ⟨by rw [n1]; omega, fun _ => one_size n1 n3 n2⟩
theorem allL_nice {one : Rst → Qy × Rst} (ha : NiceQ one) : ∀ f q s, lvs (allL one f q s).1 + (allL one f q s).2.nu ≤ lvs q + s.nu ∧ (QSz q → (allL one f q s).2.bad = 0 → QSz (allL one f q s).1) := by
  intro f
  induction f with
  | zero => intro q s; exact ⟨Nat.le_refl _, fun h _ => h⟩
  | succ f ih =>
    intro q s
    unfold allL
    split
    · have h1 := nu_take s tNot
      have h2 := nu_take (s.take tNot).2 tAnd
      simp only
      obtain ⟨k, hk⟩ : ∃ k : Int, (if (s.take tNot).1 then (6 : Int) else 4) = k := ⟨_, rfl⟩
      have hkt : isTog k = true := by rw [← hk]; split <;> rfl
      obtain ⟨s1, hs1⟩ : ∃ s1, (if (s.take tNot).1 then (s.take tNot).2 else ((s.take tNot).2.take tAnd).2) = s1 := ⟨_, rfl⟩
      have h3 : s1.nu ≤ s.nu := by rw [← hs1]; split <;> omega
      rw [hk, hs1]
      obtain ⟨a1, a2⟩ := ha s1
      obtain ⟨i1, i2⟩ := ih (.node k [] q (one s1).1) (one s1).2
      have e : lvs (.node k [] q (one s1).1) = lvs q + lvs (one s1).1 := by rw [lvs, if_pos hkt]
      refine ⟨by rw [e] at i1; omega, fun hq hb => ?_⟩
      by_cases hb1 : (one s1).2.bad = 0
      · exact i2 (tog_size hkt hq (a2 hb1)) hb
      · rw [allL_badM _ _ _ _ hb1] at hb
        exact absurd hb hb1
    · exact ⟨Nat.le_refl _, fun h _ => h⟩
theorem all_nice {one : Rst → Qy × Rst} (ha : NiceQ one) : NiceQ (allM one) := by
  intro s
  obtain ⟨a1, a2⟩ := ha s
  obtain ⟨i1, i2⟩ := allL_nice ha (one s).2.nu (one s).1 (one s).2
  unfold allM
  refine ⟨by simp only; omega, fun hb => ?_⟩
  by_cases hb1 : (one s).2.bad = 0
  · exact i2 (a2 hb1) hb
  · simp only at hb
    rw [allL_badM _ _ _ _ hb1] at hb
    exact absurd hb hb1
theorem anyL_nice {all : Rst → Qy × Rst} (ha : NiceQ all) : ∀ f q s, lvs (anyL all f q s).1 + (anyL all f q s).2.nu ≤ lvs q + s.nu ∧ (QSz q → (anyL all f q s).2.bad = 0 → QSz (anyL all f q s).1) := by
  intro f
  induction f with
  | zero => intro q s; exact ⟨Nat.le_refl _, fun h _ => h⟩
  | succ f ih =>
    intro q s
    have h1 := nu_take s tOr
    unfold anyL
    simp only
    split
    · obtain ⟨a1, a2⟩ := ha (s.take tOr).2
      obtain ⟨i1, i2⟩ := ih (.node 5 [] q (all (s.take tOr).2).1) (all (s.take tOr).2).2
      have e : lvs (.node 5 [] q (all (s.take tOr).2).1) = lvs q + lvs (all (s.take tOr).2).1 := by rw [lvs, if_pos (by rfl)]
      refine ⟨by rw [e] at i1; omega, fun hq hb => ?_⟩
      by_cases hb1 : (all (s.take tOr).2).2.bad = 0
      · exact i2 (tog_size rfl hq (a2 hb1)) hb
      · rw [anyL_badM _ _ _ _ hb1] at hb
        exact absurd hb hb1
    · exact ⟨by simp only; omega, fun h _ => h⟩
theorem any_nice {one : Rst → Qy × Rst} (ha : NiceQ one) : NiceQ (anyM one) := by
  intro s
  have hall := all_nice ha
  obtain ⟨a1, a2⟩ := hall s
  obtain ⟨i1, i2⟩ := anyL_nice hall (allM one s).2.nu (allM one s).1 (allM one s).2
  unfold anyM
  refine ⟨by simp only; omega, fun hb => ?_⟩
  by_cases hb1 : (allM one s).2.bad = 0
  · exact i2 (a2 hb1) hb
  · simp only at hb
    rw [anyL_badM _ _ _ _ hb1] at hb
    exact absurd hb hb1
theorem oneAt_nice (m : Nat) : NiceQ (oneAt m) := by
  induction m with
  | zero => exact one_nice true (fun h => by cases h)
  | succ m ih => exact one_nice false (fun _ => any_nice ih)
/-- a query that a text asks -/
theorem ask_nice (L : List ByteArray) : lvs (askM L).1 ≤ L.length ∧ QOk (askM L).1 ∧ szQ (askM L).1 ≤ 2 * lvs (askM L).1 := by
  obtain ⟨h1, h2⟩ := any_nice (oneAt_nice 13) ⟨L, 0⟩
  have hn : (⟨L, 0⟩ : Rst).nu = L.length := rfl
  obtain ⟨r, hr⟩ : ∃ r, anyM (oneAt 13) ⟨L, 0⟩ = r := ⟨_, rfl⟩
  rw [hr] at h1 h2
  obtain ⟨s, hs⟩ : ∃ s, (if r.2.l = [] then r.2 else r.2.fails 3) = s := ⟨_, rfl⟩
  have hsb : s.bad = 0 → r.2.bad = 0 := fun h => by
    rw [← hs] at h
    split at h
    · exact h
    · exact absurd h (fails_ne _)
  have e : (askM L).1 = if s.bad = 0 then r.1 else .nil := by unfold askM; simp only [hr, hs]
  rw [e]
  by_cases hb : s.bad = 0
  · rw [if_pos hb]
    have h3 := h2 (hsb hb)
    exact ⟨by omega, h3.1, by have := h3.2; omega⟩
  · rw [if_neg hb]
    exact ⟨Nat.zero_le _, trivial, Nat.zero_le _⟩
end Go.Proofs.YtjgdnainhoipgaaGreatDoor
namespace Go.Proofs.YtjgdnainhoipgaaGreatDoor
open Go.RowKit

/-- what a query's own node has, in memory -/
structure NodeAt (B : Nat) (k : Int) (ws : List ByteArray) (pa pb : Option Addr) (x : Option Addr) (n c : Nat) (w : World) : Prop where
  lt : B < w.heap.size
  kd : w.cell? ⟨B, 0, none⟩ = some (.int .i64 k)
  wd : w.cell? ⟨B, 1, none⟩ = some (.slice x n c)
  far : w.cell? ⟨B, 2, none⟩ = some (.int .i64 (farOf k))
  sa : w.cell? ⟨B, 3, none⟩ = some (.pointer pa)
  sb : w.cell? ⟨B, 4, none⟩ = some (.pointer pb)
theorem NodeAt.below {B : Nat} {k : Int} {ws : List ByteArray} {pa pb x : Option Addr} {n c : Nat} {w w' : World} (h : NodeAt B k ws pa pb x n c w) (hb : Below w.heap.size w w') : NodeAt B k ws pa pb x n c w' :=
  ⟨Nat.lt_of_lt_of_le h.lt hb.size, by rw [hb.cell (p := ⟨B, _, none⟩) h.lt]; exact h.kd, by rw [hb.cell (p := ⟨B, _, none⟩) h.lt]; exact h.wd, by rw [hb.cell (p := ⟨B, _, none⟩) h.lt]; exact h.far, by rw [hb.cell (p := ⟨B, _, none⟩) h.lt]; exact h.sa, by rw [hb.cell (p := ⟨B, _, none⟩) h.lt]; exact h.sb⟩
theorem MIs.node {w : World} {p : Option Addr} {k : Int} {ws : List ByteArray} {a b : Qy} (h : MIs w p (.node k ws a b)) : ∃ B x c pa pb, p = some ⟨B, 0, none⟩ ∧ NodeAt B k ws pa pb x ws.length c w ∧ RowS w x ws.length ws ∧ MIs w pa a ∧ MIs w pb b := by
  obtain ⟨B, x, n, c, pa, pb, e, h2, ⟨c0, c1, c2, c3, c4⟩, hr, qa, qb⟩ := h
  have hn : n = ws.length := hr.1
  subst hn
  exact ⟨B, x, c, pa, pb, e, ⟨h2, c0, c1, c2, c3, c4⟩, hr, qa, qb⟩
section
variable {bf : Nat} {nm : ByteArray} {pls : ByteArray → List Pl} {beg : ByteArray → List ByteArray} {w : World}
/-- a query without sides -/
def aloneQ (pls : ByteArray → List Pl) (beg : ByteArray → List ByteArray) : Qy → List Ht
  | .nil => []
  | .node k ws _ _ => aloneL pls beg k ws
/-- what is known in alone -/
structure AE (w : World) (bf : Nat) (nm : ByteArray) (pls : ByteArray → List Pl) (beg : ByteArray → List ByteArray) (B : Nat) (k : Int) (ws : List ByteArray) (pa pb x : Option Addr) (c : Nat) (wx : World) : Prop where
  sv : SV w.heap.size bf nm wx
  nd : NodeAt B k ws pa pb x ws.length c wx
  rw : RowS wx x ws.length ws
  fd : Fdr bf nm pls beg wx
  b : Below w.heap.size w wx
theorem AE.step {B : Nat} {k : Int} {ws : List ByteArray} {pa pb x : Option Addr} {c : Nat} {wx wy : World} (h : AE w bf nm pls beg B k ws pa pb x c wx) (hb : Below wx.heap.size wx wy) : AE w bf nm pls beg B k ws pa pb x c wy :=
  ⟨h.sv.below hb, h.nd.below hb, h.rw.below hb, h.fd.below hb, h.b.trans (hb.mono h.b.size)⟩
theorem row_at0 {wx : World} {x : Option Addr} {s : ByteArray} {l : List ByteArray} (h : RowS wx x (s :: l).length (s :: l)) : ∃ b o, x = some ⟨b, o, none⟩ ∧ b < wx.heap.size ∧ wx.cell? ⟨b, o, none⟩ = some (.string s) ∧ ∀ t l', l = t :: l' → wx.cell? ⟨b, o + 1, none⟩ = some (.string t) := by
  obtain ⟨_, _, hx⟩ := h
  rcases hx with hx | ⟨b, o, rfl, hb, hrow⟩
  · cases hx
  · refine ⟨b, o, rfl, hb, hrow 0 (by simp), fun t l' e => ?_⟩
    subst e
    exact hrow 1 (by simp)
theorem alone_none (k : Int) (ws : List ByteArray) (h1 : k ≠ 1) (h2 : k = 2 → ws.length ≠ 1) (h3 : k = 3 → ws.length ≠ 2) : aloneL pls beg k ws = [] := by
  unfold aloneL
  rw [if_neg h1]
  split
  · rename_i e
    match ws, h2 e with
    | [], _ => rfl
    | [_], h => exact absurd rfl h
    | _ :: _ :: _, _ => rfl
  · split
    · rename_i e
      match ws, h3 e with
      | [], _ => rfl
      | [_], _ => rfl
      | [_, _], h => exact absurd rfl h
      | _ :: _ :: _ :: _, _ => rfl
    · rfl
set_option maxRecDepth 100000 in
set_option maxHeartbeats 4000000 in
theorem alone_in (hF : Fdr bf nm pls beg w) (q : Qy) (p : Option Addr) (hq : MIs w p q) (hk : QOk q) :
    Calls Tryz.prog 70 #[.agg #[.pointer (some ⟨bf, 0, none⟩), .string nm], .pointer p] w fun e w' => ∃ v, e = .returned (.tuple #[v, .nilIface]) ∧ InH w' v (aloneQ pls beg q) ∧ Below w.heap.size w w' := by
  have HSV0 : Hid (SV w.heap.size bf nm (w.alloc (.cells #[.pointer (some ⟨bf, 0, none⟩), .string nm] 101))) := SV.new bf nm w
  have HB0 : Hid (Below w.heap.size w (w.alloc (.cells #[.pointer (some ⟨bf, 0, none⟩), .string nm] 101))) := alloc_below w _
  cases q with
  | nil =>
    obtain rfl : p = none := hq
    clear hk hF
    go_enter Tryz.func70, Tryz.ntmps70
    go_wp2
    go_ret2
    exact ⟨_, rfl, InH.nil _, HB0.out⟩
  | node k ws a b =>
    obtain ⟨B, x, c, pa, pb, rfl, hN, hr, _, _⟩ := hq.node
    obtain ⟨hws, _, _⟩ := hk
    have HM : Hid (AE w bf nm pls beg B k ws pa pb x c _) := ⟨HSV0.out, hN.below HB0.out, hr.below HB0.out, hF.below HB0.out, HB0.out⟩
    have HWS : Hid (∀ x ∈ ws, x.size ≤ 100) := hws
    have e0 : aloneQ pls beg (.node k ws a b) = aloneL pls beg k ws := rfl
    rw [e0]
    clear hN hr e0 hws hF HSV0 HB0
    by_cases k1 : k = 1
    · subst k1
      have e1 : aloneL pls beg 1 ws = cntL2 (standL pls ws) := rfl
      rw [e1]
      obtain ⟨_, s1, s2⟩ := HM.out.sv
      obtain ⟨_, n1, n2, n3, _, _⟩ := HM.out.nd
      go_enter Tryz.func70, Tryz.ntmps70
      go_wp2_with fail
      have HM : Hid _ := AE.step HM.out (Below.refl _ _).drew
      go_region_held3 (fun w' => w'.cell? ⟨w.heap.size, 0, none⟩ = some (.pointer (some ⟨bf, 0, none⟩)) ∧ w'.cell? ⟨w.heap.size, 1, none⟩ = some (.string nm) ∧ w'.cell? ⟨B, 1, none⟩ = some (.slice x ws.length c)) (exact ⟨HM.out.sv.f, HM.out.sv.n, HM.out.nd.wd⟩)
        ((go_at_call 111; refine Calls.mono (words_in HM.out.fd x c ws HM.out.rw HWS.out) ?_; rintro _ w2 ⟨v2, rfl, hi2, hb2⟩; have HI2 : Hid (InH w2 v2 (cntL2 (standL pls ws))) := hi2; have HM : Hid _ := AE.step HM.out hb2; clear hb2 hi2))
      go_wp2
      go_ret2
      exact ⟨_, rfl, HI2.out, HM.out.b⟩
    · by_cases k2 : k = 2 ∧ ws.length = 1
      · obtain ⟨rfl, hl⟩ := k2
        obtain ⟨s, rfl⟩ := List.length_eq_one_iff.1 hl
        have e1 : aloneL pls beg 2 [s] = begF pls [] (beg s) := rfl
        rw [e1]
        obtain ⟨b, o, rfl, hb, hc, _⟩ := row_at0 HM.out.rw
        have hs := HWS.out s (by simp)
        have HM2 : Hid (AE w bf nm pls beg B 2 [s] pa pb (some ⟨b, o, none⟩) c _ ∧ b < (w.alloc (.cells #[.pointer (some ⟨bf, 0, none⟩), .string nm] 101)).heap.size ∧ (w.alloc (.cells #[.pointer (some ⟨bf, 0, none⟩), .string nm] 101)).cell? ⟨b, o, none⟩ = some (.string s)) := ⟨HM.out, hb, hc⟩
        obtain ⟨_, s1, s2⟩ := HM.out.sv
        obtain ⟨_, n1, n2, n3, _, _⟩ := HM.out.nd
        clear HM hb k1 hl
        go_enter Tryz.func70, Tryz.ntmps70
        go_wp2_with fail
        have HM : Hid _ := AE.step HM2.out.1 (Below.refl _ _).drew
        have HC : Hid (Below (w.alloc (.cells #[.pointer (some ⟨bf, 0, none⟩), .string nm] 101)).heap.size (w.alloc (.cells #[.pointer (some ⟨bf, 0, none⟩), .string nm] 101)) _) := (Below.refl _ _).drew
        go_region_held3 (fun w' => w'.cell? ⟨w.heap.size, 0, none⟩ = some (.pointer (some ⟨bf, 0, none⟩)) ∧ w'.cell? ⟨w.heap.size, 1, none⟩ = some (.string nm) ∧ w'.cell? ⟨B, 1, none⟩ = some (.slice (some ⟨b, o, none⟩) 1 c) ∧ w'.cell? ⟨b, o, none⟩ = some (.string s)) (exact ⟨HM.out.sv.f, HM.out.sv.n, HM.out.nd.wd, by rw [HC.out.cell (p := ⟨b, _, none⟩) HM2.out.2.1]; exact HM2.out.2.2⟩)
          ((go_at_call 112; refine Calls.mono (begin_in HM.out.fd s hs) ?_; rintro _ w2 ⟨v2, rfl, hi2, hb2⟩; have HI2 : Hid (InH w2 v2 (begF pls [] (beg s))) := hi2; have HM : Hid _ := AE.step HM.out hb2; have HC : Hid _ := HC.out.trans (hb2.mono HC.out.size); clear hb2 hi2))
        go_wp2
        go_ret2
        exact ⟨_, rfl, HI2.out, HM.out.b⟩
      · by_cases k3 : k = 3 ∧ ws.length = 2
        · obtain ⟨rfl, hl⟩ := k3
          obtain ⟨s, t, rfl⟩ : ∃ s t, ws = [s, t] := by
            match ws, hl with
            | [s, t], _ => exact ⟨s, t, rfl⟩
          have e1 : aloneL pls beg 3 [s, t] = nearL2 pls s t := rfl
          rw [e1]
          obtain ⟨b, o, rfl, hb, hc, hc2⟩ := row_at0 HM.out.rw
          have hc2 := hc2 t [] rfl
          have hs := HWS.out s (by simp)
          have ht := HWS.out t (by simp)
          have HM2 : Hid (AE w bf nm pls beg B 3 [s, t] pa pb (some ⟨b, o, none⟩) c _ ∧ b < (w.alloc (.cells #[.pointer (some ⟨bf, 0, none⟩), .string nm] 101)).heap.size ∧ (w.alloc (.cells #[.pointer (some ⟨bf, 0, none⟩), .string nm] 101)).cell? ⟨b, o, none⟩ = some (.string s) ∧ (w.alloc (.cells #[.pointer (some ⟨bf, 0, none⟩), .string nm] 101)).cell? ⟨b, o + 1, none⟩ = some (.string t)) := ⟨HM.out, hb, hc, hc2⟩
          obtain ⟨_, s1, s2⟩ := HM.out.sv
          obtain ⟨_, n1, n2, n3, _, _⟩ := HM.out.nd
          have n3' : (w.alloc (.cells #[.pointer (some ⟨bf, 0, none⟩), .string nm] 101)).cell? ⟨B, 2, none⟩ = some (.int .i64 3) := n3
          clear HM hb k1 hl k2 n3
          go_enter Tryz.func70, Tryz.ntmps70
          go_wp2_with fail
          have HM : Hid _ := AE.step HM2.out.1 (Below.refl _ _).drew
          have HC : Hid (Below (w.alloc (.cells #[.pointer (some ⟨bf, 0, none⟩), .string nm] 101)).heap.size (w.alloc (.cells #[.pointer (some ⟨bf, 0, none⟩), .string nm] 101)) _) := (Below.refl _ _).drew
          go_region_held3 (fun w' => w'.cell? ⟨w.heap.size, 0, none⟩ = some (.pointer (some ⟨bf, 0, none⟩)) ∧ w'.cell? ⟨w.heap.size, 1, none⟩ = some (.string nm) ∧ w'.cell? ⟨B, 1, none⟩ = some (.slice (some ⟨b, o, none⟩) 2 c) ∧ w'.cell? ⟨b, o, none⟩ = some (.string s) ∧ w'.cell? ⟨b, o + 1, none⟩ = some (.string t) ∧ w'.cell? ⟨B, 2, none⟩ = some (.int .i64 3)) (exact ⟨HM.out.sv.f, HM.out.sv.n, HM.out.nd.wd, by rw [HC.out.cell (p := ⟨b, _, none⟩) HM2.out.2.1]; exact HM2.out.2.2.1, by rw [HC.out.cell (p := ⟨b, _, none⟩) HM2.out.2.1]; exact HM2.out.2.2.2, HM.out.nd.far⟩)
            ((go_at_call 113; refine Calls.mono (near_in2 HM.out.fd s t hs ht) ?_; rintro _ w2 ⟨v2, rfl, hi2, hb2⟩; have HI2 : Hid (InH w2 v2 (nearL2 pls s t)) := hi2; have HM : Hid _ := AE.step HM.out hb2; have HC : Hid _ := HC.out.trans (hb2.mono HC.out.size); clear hb2 hi2))
          go_wp2
          go_ret2
          exact ⟨_, rfl, HI2.out, HM.out.b⟩
        · have e1 : aloneL pls beg k ws = [] := alone_none k ws k1 (fun e h => k2 ⟨e, h⟩) (fun e h => k3 ⟨e, h⟩)
          rw [e1]
          obtain ⟨n, hn⟩ : ∃ n, ws.length = n := ⟨_, rfl⟩
          obtain ⟨_, s1, s2⟩ := HM.out.sv
          obtain ⟨_, n1, n2, _, _, _⟩ := HM.out.nd
          rw [hn] at n2 k2 k3
          have j1 : (k == 1) = false := by simpa using k1
          have HB : Hid _ := HM.out.b
          clear HM hn
          by_cases h2 : k = 2
          · subst h2
            have j2 : ((n : Int) == 1) = false := by simp; exact fun e => k2 ⟨rfl, by omega⟩
            clear k1 k2 k3 e1
            go_enter Tryz.func70, Tryz.ntmps70
            go_wp2
            go_ret2
            exact ⟨_, rfl, InH.nil _, HB.out⟩
          · have j2 : (k == 2) = false := by simpa using h2
            by_cases h3 : k = 3
            · subst h3
              have j3 : ((n : Int) == 2) = false := by simp; exact fun e => k3 ⟨rfl, by omega⟩
              clear k1 k2 k3 e1 h2
              go_enter Tryz.func70, Tryz.ntmps70
              go_wp2
              go_ret2
              exact ⟨_, rfl, InH.nil _, HB.out⟩
            · have j3 : (k == 3) = false := by simpa using h3
              clear k1 k2 k3 e1 h2 h3
              go_enter Tryz.func70, Tryz.ntmps70
              go_wp2
              go_ret2
              exact ⟨_, rfl, InH.nil _, HB.out⟩
end
end Go.Proofs.YtjgdnainhoipgaaGreatDoor
