/- Texts of the proof of MatchSets: Gad, Gpd, HFd. -/
import Derived.Test.YtjgdnainhoipgaaGreatDoorM29
namespace Go.Proofs.YtjgdnainhoipgaaGreatDoor
open Go.RowKit Go.Maps

/-- what is laid -/
structure Gl (w : World) : Prop where
  m : ∃ m : Int, w.cell? ⟨2, 0, none⟩ = some (.int .i64 m)
  h : HG w
  e : EndsAt w
section
variable {w w' : World}
theorem Gl.below (h : Gl w) (hb : Below w.heap.size w w') : Gl w' := by
  obtain ⟨⟨m, h1⟩, h2, h3⟩ := h
  exact ⟨⟨m, keepc hb h1⟩, h2.below hb h2.lt, h3.below hb⟩
theorem Gl.only {S : Nat → Prop} (h : Gl w) (ho : Only S w w') (hS : ∀ b, S b → 3 ≤ b) : Gl w' := by
  obtain ⟨⟨m, h1⟩, h2, h3⟩ := h
  have l2 : 2 < w.heap.size := World.block_lt_of_cell? _ _ h1
  refine ⟨⟨m, (ho.cell l2 (fun e => by have := hS _ e; omega) 0).trans h1⟩, (ho.cell h2.lt (fun e => by have := hS _ e; omega) 0).trans h2, ?_⟩
  unfold EndsAt at h3 ⊢
  have e : ∀ o, w'.cell? ⟨0, o, none⟩ = w.cell? ⟨0, o, none⟩ := fun o => ho.cell (by omega) (fun e => by have := hS _ e; omega) o
  simp only [e]
  exact h3
end

def hasNd (D : List Nd) (nm : ByteArray) (r : Nat) (ws : List ByteArray) : Bool := ws.any (fun x => D.any (fun d => d.is nm x r))
theorem hasNd_iff {D : List Nd} {nm : ByteArray} {r : Nat} {ws : List ByteArray} : hasNd D nm r ws = true ↔ hasD D nm r ws := by
  unfold hasNd hasD
  simp only [List.any_eq_true, is_iff]
theorem has_key {D : List Nd} {nm : ByteArray} {r : Nat} {ws : List ByteArray} (hD : DOk D) (hn : NmOk nm) (h2 : r ≤ 1073741824) (hw : ∀ x ∈ ws, WOk x) : (∃ x ∈ ws, ∃ y, InD D y ∧ y.k = keyF nm x r) ↔ hasD D nm r ws := by
  constructor
  · rintro ⟨x, hx, y, ⟨d, hd, rfl⟩, e⟩
    have k := hD.ok d hd
    obtain ⟨a1, a2, a3⟩ := keyG_inj (n := d.n) (w := d.w) (r := d.r) k.n.nz k.w.nz (by have := k.hi; omega) hn.nz (hw x hx).nz (by omega) e
    exact ⟨x, hx, d, hd, a1, a2, a3⟩
  · rintro ⟨x, hx, d, hd, rfl, rfl, rfl⟩
    exact ⟨d.w, hx, _, ⟨d, hd, rfl⟩, rfl⟩
/-- what Add tells; what is noted then -/
def addE (D : List Nd) (nm : ByteArray) (r : Int) (s : ByteArray) : Int :=
  if chkE nm r = 0 then (if 40 < s.size then 1 else if hasNd D nm r.toNat (wordsL s.data.toList) = true then 9 else if 500 < D.length + (wordsL s.data.toList).length then 12 else 0) else chkE nm r
def addD (D : List Nd) (nm : ByteArray) (r : Int) (s : ByteArray) : List Nd := if addE D nm r s = 0 then D ++ noteL nm r.toNat 0 (wordsL s.data.toList) else D
def drpD (D : List Nd) (nm : ByteArray) (r : Int) (s : ByteArray) : List Nd := if chkE nm r = 0 then dropD D nm r.toNat (wordsL s.data.toList) else D
theorem text_ok {nm : ByteArray} {r : Int} {s : ByteArray} (h : chkE nm r = 0) (hs : s.size ≤ 40) : Tx nm r.toNat (wordsL s.data.toList) := by
  obtain ⟨h1, h2, h3⟩ := chkE_ok h
  exact ⟨h1, by omega, by omega, fun x hx => word_ok hx, by have := words_count s; omega⟩
theorem addE_zero {D : List Nd} {nm : ByteArray} {r : Int} {s : ByteArray} (h : addE D nm r s = 0) : chkE nm r = 0 ∧ s.size ≤ 40 ∧ ¬ hasD D nm r.toNat (wordsL s.data.toList) ∧ D.length + (wordsL s.data.toList).length ≤ 500 := by
  unfold addE at h
  by_cases h1 : chkE nm r = 0
  · rw [if_pos h1] at h
    refine ⟨h1, ?_⟩
    by_cases h2 : 40 < s.size
    · rw [if_pos h2] at h; cases h
    · rw [if_neg h2] at h
      by_cases h3 : hasNd D nm r.toNat (wordsL s.data.toList) = true
      · rw [if_pos h3] at h; cases h
      · rw [if_neg h3] at h
        by_cases h4 : 500 < D.length + (wordsL s.data.toList).length
        · rw [if_pos h4] at h; cases h
        · exact ⟨by omega, fun h5 => h3 (hasNd_iff.2 h5), by omega⟩
  · rw [if_neg h1] at h; exact absurd h h1
/-- what is noted is as it should be -/
structure Nts (D : List Nd) : Prop where
  ok : DOk D
  len : D.length ≤ 500
theorem Nts.nil : Nts [] := ⟨DOk.nil, by simp⟩
theorem Nts.add {D : List Nd} (h : Nts D) (nm : ByteArray) (r : Int) (s : ByteArray) : Nts (addD D nm r s) := by
  unfold addD
  by_cases h0 : addE D nm r s = 0
  · rw [if_pos h0]
    obtain ⟨h1, h2, h3, h4⟩ := addE_zero h0
    have t := text_ok h1 h2
    exact ⟨h.ok.add t.n t.lo t.hi t.wk t.len h3, by rw [List.length_append, noteL_len]; exact h4⟩
  · rw [if_neg h0]; exact h
theorem Nts.drop {D : List Nd} (h : Nts D) (nm : ByteArray) (r : Int) (s : ByteArray) : Nts (drpD D nm r s) := by
  unfold drpD
  split
  · refine ⟨h.ok.drop _ _ _, Nat.le_trans ?_ h.len⟩
    unfold dropD
    exact List.length_filter_le _ _
  · exact h
section
variable {bf bt bp bd bm N Bx : Nat} {w w' : World} {D : List Nd} {nm s : ByteArray} {r : Int}
theorem errV_ne {n : Int} (h : ¬ n = 0) : errV n = .iface 52 (.int .i64 n) := by unfold errV; rw [if_neg h]
theorem split_own (hs : s.size ≤ 1000) (hg : Gl w) (w0 : World) (hb : Below w.heap.size w w0) :
    Calls Tryz.prog 14 #[.string s] w0 fun e w' => ∃ a c, e = .returned (.slice a (wordsL s.data.toList).length c) ∧ w'.ownsRow w0.heap.size 9 1 (.slice a (wordsL s.data.toList).length c) (wordsL s.data.toList).length (sc (wordsL s.data.toList)) ∧ Below w0.heap.size w0 w' := by
  refine (split_any s w0 (by omega) (hg.below hb).e).mono ?_
  rintro e w' ⟨v, rfl, h1, h2⟩
  obtain ⟨a, c, rfl⟩ := row_slice h1
  exact ⟨a, c, rfl, h1, h2⟩
theorem manyD (hD : Nts D) (h : PrS bf bt bp bd bm N 21000 (InD D) w) (hg : Gl w) :
    Calls Tryz.prog 16 #[.pointer (some ⟨bf, 0, none⟩)] w fun e w' => e = .returned (.tuple #[.int .i64 (D.length : Nat), .nilIface]) ∧ Below w.heap.size w w' := by
  obtain ⟨N1, up, V, T, L, k0, k1, k2, k3⟩ := h.piecesD hD.ok
  obtain ⟨m, hm⟩ := hg.m
  have := many_any k1 hm (k3.ok hD.ok) k2 (by have := k3.len hD.ok; have := hD.len; omega)
  rw [k3.cnt hD.ok] at this
  exact this
set_option maxRecDepth 100000 in
set_option maxHeartbeats 2000000 in
theorem addG_any (hD : Nts D) (h : PrS bf bt bp bd bm N 21000 (InD D) w) (hg : Gl w) (nm s : ByteArray) (r : Int) (hnm : nm.size ≤ 1000) (hs : s.size ≤ 1000) (hN : N + 1000 < 1000000) :
    Calls Tryz.prog 6 #[.pointer (some ⟨bf, 0, none⟩), .string nm, .int .i64 r, .string s] w fun e w' => e = .returned (errV (addE D nm r s)) ∧ PrS bf bt bp bd bm (N + 800) 21000 (InD (addD D nm r s)) w' ∧ Only (fun b => b = bp ∨ b = bm) w w' := by
  by_cases h1 : chkE nm r = 0
  · have hck : Calls Tryz.prog 13 #[.string nm, .int .i64 r] w fun e w' => e = .returned .nilIface ∧ w' = w := (checkG_any nm r w).mono (fun e w' hh => ⟨by rw [hh.1, h1]; rfl, hh.2⟩)
    have HCK : Hid _ := hck
    by_cases h2 : 40 < s.size
    · have he : addE D nm r s = 1 := by unfold addE; rw [if_pos h1, if_pos h2]
      have hd : addD D nm r s = D := by unfold addD; rw [he]; rfl
      rw [he, hd, errV_ne (by decide)]
      have hP : PrS bf bt bp bd bm (N + 800) 21000 (InD D) w := h.mono (by omega) (Nat.le_refl _)
      have HP : Hid _ := hP
      have i2 : (40 : Int) < (s.size : Int) := by omega
      clear he hd hP h hD hg hck h1 h2
      go_enter Tryz.func6, Tryz.ntmps6
      go_wp2_with fail
      refine (show Calls _ _ _ _ _ from HCK.out).mono ?_
      rintro _ w9 ⟨rfl, h9⟩
      obtain rfl := h9.symm
      clear h9
      go_wp2
      go_ret
      exact ⟨rfl, HP.out, Only.refl _ _⟩
    · have i2 : ¬ (40 : Int) < (s.size : Int) := by omega
      have ht := text_ok h1 (s := s) (by omega)
      have hrr := (chkE_ok h1).2
      have htl := ht.len
      obtain ⟨l1, l2, l3, l4, l5⟩ := h.lt
      have HSP : Hid _ := fun w0 hb => split_own (s := s) (w := w) hs hg w0 hb
      have HFR : Hid (∀ wx B a c, Below w.heap.size w wx → wx.ownsRow B 9 1 (.slice a (wordsL s.data.toList).length c) (wordsL s.data.toList).length (sc (wordsL s.data.toList)) → Calls Tryz.prog 15 #[.pointer (some ⟨bf, 0, none⟩), .string nm, .int .i64 r, .slice a (wordsL s.data.toList).length c] wx fun e w' => (¬ hasD D nm r.toNat (wordsL s.data.toList) ∧ e = .returned .nilIface ∨ hasD D nm r.toNat (wordsL s.data.toList) ∧ e = .returned (.iface 52 (.int .i64 9))) ∧ Below wx.heap.size wx w') := fun wx B a c hb ho => by
        have hr : r = ((r.toNat : Nat) : Int) := by omega
        have hq := fresh_any (r := r.toNat) (nm := nm) hnm (h.below hb) (hg.below hb).h (fun x hx => by have := (ht.wk x hx).le; omega) (by omega) ho
        rw [← hr] at hq
        have hk := has_key hD.ok ht.n ht.hi ht.wk
        refine hq.mono ?_
        rintro e w' ⟨hh, hb'⟩
        refine ⟨?_, hb'⟩
        rcases hh with ⟨g1, g2⟩ | ⟨g1, g2⟩
        · refine .inl ⟨fun hh => ?_, g2⟩
          obtain ⟨x, hx, y, hy, e⟩ := hk.2 hh
          exact g1 x hx y hy e
        · exact .inr ⟨hk.1 g1, g2⟩
      have HMY : Hid (∀ wx, Below w.heap.size w wx → Calls Tryz.prog 16 #[.pointer (some ⟨bf, 0, none⟩)] wx fun e w' => e = .returned (.tuple #[.int .i64 (D.length : Nat), .nilIface]) ∧ Below wx.heap.size wx w') := fun wx hb => manyD hD (h.below hb) (hg.below hb)
      have HNT : Hid (addE D nm r s = 0 → ∀ wx B a c, Below w.heap.size w wx → w.heap.size ≤ B → wx.ownsRow B 9 1 (.slice a (wordsL s.data.toList).length c) (wordsL s.data.toList).length (sc (wordsL s.data.toList)) → Calls Tryz.prog 17 #[.pointer (some ⟨bf, 0, none⟩), .string nm, .int .i64 r, .slice a (wordsL s.data.toList).length c] wx fun e w' => e = .returned .nilIface ∧ PrS bf bt bp bd bm (N + 800) 21000 (InD (addD D nm r s)) w' ∧ Only (fun b => b = bp ∨ b = bm) wx w') := fun h0 wx B a c hb hB ho => by
        have hr : r = ((r.toNat : Nat) : Int) := by omega
        obtain ⟨_, _, hno, hfull⟩ := addE_zero h0
        have hk := has_key hD.ok ht.n ht.hi ht.wk
        have hq := note_any ht (h.below hb) ho (fun b e => by have := (World.ownsRow.lt ho b e).1; omega) (fun x hx y hy e => hno (hk.1 ⟨x, hx, y, hy, e⟩)) (by omega) (by omega)
        rw [← hr] at hq
        refine hq.mono ?_
        rintro e w' ⟨rfl, g1, g2⟩
        have hNt := hD.add nm r s
        have e1 : addD D nm r s = D ++ noteL nm r.toNat 0 (wordsL s.data.toList) := by unfold addD; rw [if_pos h0]
        rw [e1] at hNt ⊢
        refine ⟨rfl, ?_, g2⟩
        have g3 := (g1.iff (M' := InD (D ++ noteL nm r.toNat 0 (wordsL s.data.toList))) (fun y => (inD_add hno y).symm)).tight hNt.ok
        exact g3.mono (by omega) (by have := hNt.len; omega)
      have HP : Hid (∀ wx, Below w.heap.size w wx → PrS bf bt bp bd bm (N + 800) 21000 (InD D) wx) := fun wx hb => (h.below hb).mono (by omega) (Nat.le_refl _)
      have HE9 : Hid (hasD D nm r.toNat (wordsL s.data.toList) → addE D nm r s = 9 ∧ addD D nm r s = D) := fun hh => by
        have he : addE D nm r s = 9 := by unfold addE; rw [if_pos h1, if_neg h2, if_pos (hasNd_iff.2 hh)]
        exact ⟨he, by unfold addD; rw [he]; rfl⟩
      have HE12 : Hid (¬ hasD D nm r.toNat (wordsL s.data.toList) → 500 < D.length + (wordsL s.data.toList).length → addE D nm r s = 12 ∧ addD D nm r s = D) := fun hh hf => by
        have he : addE D nm r s = 12 := by unfold addE; rw [if_pos h1, if_neg h2, if_neg (fun e => hh (hasNd_iff.1 e)), if_pos hf]
        exact ⟨he, by unfold addD; rw [he]; rfl⟩
      have HE0 : Hid (¬ hasD D nm r.toNat (wordsL s.data.toList) → ¬ 500 < D.length + (wordsL s.data.toList).length → addE D nm r s = 0) := fun hh hf => by unfold addE; rw [if_pos h1, if_neg h2, if_neg (fun e => hh (hasNd_iff.1 e)), if_neg hf]
      have hDl := hD.len
      obtain ⟨E, hE⟩ : ∃ E, errV (addE D nm r s) = E := ⟨_, rfl⟩
      have HEV : Hid (errV (addE D nm r s) = E) := hE
      rw [hE]
      obtain ⟨n, hn⟩ : ∃ n, (wordsL s.data.toList).length = n := ⟨_, rfl⟩
      rw [hn] at HSP HFR HNT htl HE12 HE0
      obtain ⟨m, hm⟩ : ∃ m, D.length = m := ⟨_, rfl⟩
      rw [hm] at HMY HE12 HE0 hDl
      clear ht hrr h hg hn hm hD hE hck h1 h2
      go_enter Tryz.func6, Tryz.ntmps6
      go_wp2_with fail
      refine (show Calls _ _ _ _ _ from HCK.out).mono ?_
      rintro _ w9 ⟨rfl, h9⟩
      obtain rfl := h9.symm
      clear h9
      go_wp2_with fail
      refine (show Calls _ _ _ _ _ from HSP.out w (Below.refl _ _)).mono ?_
      rintro _ w2 ⟨a, c, rfl, hr2, hb2⟩
      have HR2 : Hid (w2.ownsRow w.heap.size 9 1 (.slice a n c) n (sc (wordsL s.data.toList))) := hr2
      have HB2 : Hid (Below w.heap.size w w2) := hb2
      clear hr2 hb2
      go_wp2_with fail
      refine (show Calls _ _ _ _ _ from HFR.out w2 _ a c HB2.out HR2.out).mono ?_
      rintro _ w3 ⟨hcs, hb3⟩
      have HB3 : Hid (Below w.heap.size w w3) := HB2.out.trans (hb3.mono HB2.out.size)
      have HR3 : Hid (w3.ownsRow w.heap.size 9 1 (.slice a n c) n (sc (wordsL s.data.toList))) := row_below HR2.out hb3
      clear hb3
      rcases hcs with ⟨hno, rfl⟩ | ⟨hyes, rfl⟩
      · have HNO : Hid _ := hno
        clear hno
        go_wp2_with fail
        refine (show Calls _ _ _ _ _ from HMY.out w3 HB3.out).mono ?_
        rintro _ w4 ⟨rfl, hb4⟩
        have HB4 : Hid (Below w.heap.size w w4) := HB3.out.trans (hb4.mono HB3.out.size)
        have HR4 : Hid (w4.ownsRow w.heap.size 9 1 (.slice a n c) n (sc (wordsL s.data.toList))) := row_below HR3.out hb4
        have hwp : IntKind.i64.wrap ((m : Int) + (n : Int)) = (m : Int) + (n : Int) := wraps_i64 _ (by omega) (by omega)
        clear hb4
        by_cases hf : 500 < m + n
        · have hle : (500 : Int) < (m : Int) + (n : Int) := by omega
          have hv : E = .iface 52 (.int .i64 12) := by rw [← HEV.out, (HE12.out HNO.out hf).1]; exact errV_ne (by decide)
          have HDD : Hid (addD D nm r s = D) := (HE12.out HNO.out hf).2
          subst hv
          clear hf
          go_wp2
          go_ret
          exact ⟨rfl, by rw [HDD.out]; exact HP.out w4 HB4.out, below_only HB4.out _⟩
        · have hle : ¬ (500 : Int) < (m : Int) + (n : Int) := by omega
          have hz := HE0.out HNO.out hf
          have hv : E = .nilIface := by rw [← HEV.out, hz]; rfl
          have HN2 : Hid _ := HNT.out hz
          subst hv
          clear hf hz
          go_wp2_with fail
          refine (show Calls _ _ _ _ _ from HN2.out w4 _ a c HB4.out (Nat.le_refl _) HR4.out).mono ?_
          rintro _ w5 ⟨rfl, g1, g2⟩
          have HG1 : Hid (PrS bf bt bp bd bm (N + 800) 21000 (InD (addD D nm r s)) w5) := g1
          have HG2 : Hid (Only (fun b => b = bp ∨ b = bm) w w5) := (below_only HB4.out _).trans g2 (fun _ e => .inl e)
          clear g1 g2
          go_wp2
          go_ret
          exact ⟨rfl, HG1.out, HG2.out⟩
      · have hv : E = .iface 52 (.int .i64 9) := by rw [← HEV.out, (HE9.out hyes).1]; exact errV_ne (by decide)
        have HDD : Hid (addD D nm r s = D) := (HE9.out hyes).2
        subst hv
        clear hyes
        go_wp2
        go_ret
        exact ⟨rfl, by rw [HDD.out]; exact HP.out w3 HB3.out, below_only HB3.out _⟩
  · have he : addE D nm r s = chkE nm r := by unfold addE; rw [if_neg h1]
    have hd : addD D nm r s = D := by unfold addD; rw [he, if_neg h1]
    have hck := checkG_any nm r w
    rw [errV_ne h1] at hck
    rw [he, hd, errV_ne h1]
    have hP : PrS bf bt bp bd bm (N + 800) 21000 (InD D) w := h.mono (by omega) (Nat.le_refl _)
    have HP : Hid _ := hP
    have HCK : Hid _ := hck
    clear he hd hP h hD hg hck h1
    go_enter Tryz.func6, Tryz.ntmps6
    go_wp2_with fail
    refine (show Calls _ _ _ _ _ from HCK.out).mono ?_
    rintro _ w9 ⟨rfl, h9⟩
    obtain rfl := h9.symm
    clear h9
    go_wp2
    go_ret
    exact ⟨rfl, HP.out, Only.refl _ _⟩
end
end Go.Proofs.YtjgdnainhoipgaaGreatDoor
namespace Go.Proofs.YtjgdnainhoipgaaGreatDoor
open Go.RowKit Go.Maps

/-- rows one behind the other -/
def lastOr : Pl → List Pl → Pl
  | p, [] => p
  | _, q :: l => lastOr q l
theorem right_append : ∀ (a b : List Pl) (p : Pl), rightFrom p (a ++ b) = (rightFrom p a && rightFrom (lastOr p a) b)
  | [], b, p => by simp [rightFrom, lastOr]
  | q :: a, b, p => by rw [List.cons_append, rightFrom, rightFrom, right_append a b q, lastOr, Bool.and_assoc]
theorem lastOr_mem : ∀ (l : List Pl) (p : Pl), 0 < l.length → lastOr p l ∈ l
  | [], _, h => absurd h (by simp)
  | [q], _, _ => by simp [lastOr]
  | q :: q' :: l, _, _ => by
    rw [lastOr]
    exact List.mem_cons_of_mem _ (lastOr_mem (q' :: l) q (by simp))
theorem plsW_right {nm wd : ByteArray} : ∀ (L : List Pc) (p : Pl), OrdG L → (∀ c ∈ L, c.Ok) → 0 ≤ p.r → (∀ c ∈ L, c.n = nm → c.w = wd → p.r < (c.r : Int)) → rightFrom p (plsW nm wd L) = true
  | [], _, _, _, _, _ => rfl
  | c :: l, p, ho, hL, h0, hp => by
    unfold OrdG at ho
    rw [List.pairwise_cons] at ho
    unfold plsW
    by_cases e : c.n = nm ∧ c.w = wd
    · rw [if_pos e, right_append, Bool.and_eq_true]
      have hok := hL c (by simp)
      have hl := hok.ris.row _ (lastOr_mem c.l p hok.pos)
      refine ⟨ris_from hok.lo hok.hi c.l p hok.ris (.inr ⟨h0, hp c (by simp) e.1 e.2⟩), plsW_right l _ ho.2 (fun d hd => hL d (by simp [hd])) (by rw [hl.1]; omega) (fun d hd hn hw => ?_)⟩
      rw [hl.1]
      rcases ho.1 d hd with h | ⟨_, h | ⟨_, h⟩⟩
      · rw [e.1, hn, bl_irrefl] at h; cases h
      · rw [e.2, hw, bl_irrefl] at h; cases h
      · omega
    · rw [if_neg e]
      exact plsW_right l p ho.2 (fun d hd => hL d (by simp [hd])) h0 (fun d hd => hp d (by simp [hd]))
theorem mem_plsW {nm wd : ByteArray} {p : Pl} : ∀ {L : List Pc}, p ∈ plsW nm wd L ↔ ∃ c ∈ L, c.n = nm ∧ c.w = wd ∧ p ∈ c.l
  | [] => by simp [plsW]
  | c :: l => by
    unfold plsW
    by_cases e : c.n = nm ∧ c.w = wd
    · rw [if_pos e, List.mem_append, mem_plsW (L := l)]
      constructor
      · rintro (h | ⟨d, hd, h⟩)
        · exact ⟨c, by simp, e.1, e.2, h⟩
        · exact ⟨d, by simp [hd], h⟩
      · rintro ⟨d, hd, h1, h2, h3⟩
        rcases List.mem_cons.1 hd with rfl | hd
        · exact .inl h3
        · exact .inr ⟨d, hd, h1, h2, h3⟩
    · rw [if_neg e, mem_plsW (L := l)]
      constructor
      · rintro ⟨d, hd, h⟩; exact ⟨d, by simp [hd], h⟩
      · rintro ⟨d, hd, h1, h2, h3⟩
        rcases List.mem_cons.1 hd with rfl | hd
        · exact absurd ⟨h1, h2⟩ e
        · exact ⟨d, hd, h1, h2, h3⟩
/-- the places of a word, of a name -/
structure PlsOf (D : List Nd) (nm wd : ByteArray) (ps : List Pl) : Prop where
  right : rightL ps = true
  mem : ∀ p, p ∈ ps ↔ ∃ d ∈ D, d.n = nm ∧ d.w = wd ∧ p = d.pl
  len : ps.length ≤ D.length
theorem pls_of {D : List Nd} {L : List Pc} (hD : Nts D) (h : LsD D L) (nm wd : ByteArray) : PlsOf D nm wd (plsW nm wd L) := by
  refine ⟨plsW_right L ⟨0, 0⟩ (h.ord hD.ok) (h.ok hD.ok) (Int.le_refl _) (fun c hc _ _ => by have := (h.ok hD.ok c hc).lo; show (0 : Int) < (c.r : Int); omega), fun p => ?_, by rw [← h.cnt hD.ok]; exact plsW_len nm wd L⟩
  rw [mem_plsW]
  constructor
  · rintro ⟨c, hc, h1, h2, h3⟩
    obtain ⟨d, hd, rfl⟩ := h.of c hc
    obtain ⟨e, he, a1, a2, a3, rfl⟩ := mem_plsD.1 h3
    exact ⟨e, he, a1.trans h1, a2.trans h2, rfl⟩
  · rintro ⟨d, hd, h1, h2, rfl⟩
    exact ⟨pcD D d, h.all d hd, h1, h2, mem_plsD.2 ⟨d, hd, rfl, rfl, rfl, rfl⟩⟩
/-- words, each once, in order -/
theorem compactUpTo_congr {α : Type} [Inhabited α] [DecidableEq α] {d d' : Array α} {m : Nat} (h : ∀ j, j < m → d[j]! = d'[j]!) : Lib.compactUpTo d m = Lib.compactUpTo d' m := by
  induction m with
  | zero => rfl
  | succ m ih =>
    rw [Lib.compactUpTo_succ, Lib.compactUpTo_succ, ih (fun j hj => h j (by omega)), h m (by omega)]
    have : Lib.keeps d m = Lib.keeps d' m := by
      unfold Lib.keeps
      rw [h m (by omega), h (m - 1) (by omega)]
    rw [this]
theorem compact_snoc {α : Type} [Inhabited α] [DecidableEq α] (zs : List α) (z : α) : Lib.compact (zs ++ [z]) = Lib.compact zs ++ (if zs.getLast? = some z then [] else [z]) := by
  unfold Lib.compact
  rw [List.length_append, List.length_singleton, Lib.compactUpTo_succ]
  have hg : ∀ j, j < zs.length → (zs ++ [z]).toArray[j]! = zs.toArray[j]! := fun j hj => by
    simp [List.getElem!_eq_getElem?_getD, List.getElem?_append_left hj]
  have hz : (zs ++ [z]).toArray[zs.length]! = z := by simp
  rw [compactUpTo_congr hg, hz]
  congr 1
  unfold Lib.keeps
  rw [hz]
  by_cases h0 : zs.length = 0
  · have : zs = [] := List.length_eq_zero_iff.1 h0
    subst this
    simp
  · rw [hg (zs.length - 1) (by omega)]
    have hl : zs.getLast? = some (zs.toArray[zs.length - 1]!) := by
      rw [List.getLast?_eq_getElem?]
      have hlt : zs.length - 1 < zs.length := by omega
      simp [List.getElem!_eq_getElem?_getD, List.getElem?_eq_getElem hlt]
    rw [hl]
    generalize zs.toArray[zs.length - 1]! = y
    by_cases e : y = z
    · rw [decide_eq_false (fun h => by rcases h with h | h; exact h0 h; exact h e.symm), if_neg (by decide), if_pos (by rw [e])]
    · rw [decide_eq_true (.inr (fun h => e h.symm)), if_pos rfl, if_neg (fun e2 => e (Option.some.inj e2))]
theorem cmpW_nil : cmpW [] = [] := rfl
theorem cmpW_snoc (L : List ByteArray) (c : ByteArray) : cmpW (L ++ [c]) = cmpW L ++ (if L.getLast? = some c then [] else [c]) := by
  unfold cmpW
  rw [List.map_append, List.map_singleton, compact_snoc, List.map_append]
  congr 1
  rw [List.getLast?_map]
  by_cases e : L.getLast? = some c
  · rw [if_pos e, if_pos (by rw [e]; rfl)]
    rfl
  · rw [if_neg e, if_neg]
    · rfl
    · intro e2
      cases h : L.getLast? with
      | none => rw [h] at e2; cases e2
      | some x =>
        rw [h] at e2 e
        exact e (by rw [ba_ext (Option.some.inj e2)])
theorem cmpW_is {L : List ByteArray} (h : L.Pairwise (fun a b => bl a b = true ∨ a = b)) : ∀ k, k ≤ L.length → (∀ x, x ∈ cmpW (L.take k) ↔ x ∈ L.take k) ∧ (cmpW (L.take k)).Pairwise (fun a b => bl a b = true)
  | 0, _ => by rw [List.take_zero, cmpW_nil]; exact ⟨fun x => Iff.rfl, List.Pairwise.nil⟩
  | k + 1, hk => by
    obtain ⟨i1, i2⟩ := cmpW_is h k (by omega)
    have hkl : k < L.length := by omega
    have ho : (L.take k ++ [L[k]]).Pairwise (fun a b => bl a b = true ∨ a = b) := by
      rw [← List.take_succ_eq_append_getElem hkl]
      exact h.sublist (List.take_sublist _ _)
    rw [List.take_succ_eq_append_getElem hkl]
    generalize L[k] = c at *
    generalize L.take k = P at *
    rw [cmpW_snoc]
    rw [List.pairwise_append] at ho
    obtain ⟨o1, _, o3⟩ := ho
    by_cases e : P.getLast? = some c
    · rw [if_pos e, List.append_nil]
      refine ⟨fun x => ?_, i2⟩
      rw [i1 x, List.mem_append, List.mem_singleton]
      refine ⟨.inl, fun hx => ?_⟩
      rcases hx with hx | rfl
      · exact hx
      · exact List.mem_of_getLast? e
    · rw [if_neg e]
      refine ⟨fun x => by rw [List.mem_append, List.mem_append, i1 x], ?_⟩
      rw [List.pairwise_append]
      refine ⟨i2, List.pairwise_singleton _ _, fun a ha b hb => ?_⟩
      obtain rfl := List.mem_singleton.1 hb
      have ha' := (i1 a).1 ha
      rcases o3 a ha' b (by simp) with h1 | rfl
      · exact h1
      · rcases List.eq_nil_or_concat P with rfl | ⟨P0, x, rfl⟩
        · cases ha'
        · rw [List.concat_eq_append] at *
          rw [List.getLast?_append] at e
          have hx : x ≠ a := fun e2 => e (by simp [e2])
          rcases List.mem_append.1 ha' with hm | hm
          · rw [List.pairwise_append] at o1
            have q1 := o1.2.2 a hm x (by simp)
            have q2 := o3 x (by simp) a (by simp)
            rcases q1 with q1 | q1
            · rcases q2 with q2 | q2
              · rw [bl_asymm q1] at q2; cases q2
              · exact absurd q2 hx
            · exact absurd q1.symm hx
          · exact absurd (List.mem_singleton.1 hm).symm hx
structure BegOf (D : List Nd) (nm s : ByteArray) (xs : List ByteArray) : Prop where
  ord : xs.Pairwise (fun a b => bl a b = true)
  mem : ∀ x, x ∈ xs ↔ ∃ d ∈ D, d.n = nm ∧ d.w = x ∧ Lib.hasPrefix x.data.toList s.data.toList = true
  len : xs.length ≤ D.length
theorem cmpW_len (ws : List ByteArray) : (cmpW ws).length ≤ ws.length := by
  unfold cmpW
  rw [List.length_map]
  exact Nat.le_trans (compact_le _) (by rw [List.length_map]; exact Nat.le_refl _)
theorem beg_of {D : List Nd} {L : List Pc} (hD : Nts D) (h : LsD D L) (nm s : ByteArray) : BegOf D nm s (cmpW (begW' nm s L)) := by
  have hp : (begW' nm s L).Pairwise (fun a b => bl a b = true ∨ a = b) := by
    unfold begW'
    rw [List.pairwise_map]
    refine List.Pairwise.imp_of_mem (fun {a b} ha hb hab => ?_) ((h.ord hD.ok).filter (isB nm s))
    have h1 := (List.mem_filter.1 ha).2
    have h2 := (List.mem_filter.1 hb).2
    unfold isB at h1 h2
    rw [Bool.and_eq_true, decide_eq_true_eq] at h1 h2
    rcases hab with hab | ⟨_, hab | ⟨hab, _⟩⟩
    · rw [h1.1, h2.1, bl_irrefl] at hab; cases hab
    · exact .inl hab
    · exact .inr hab
  obtain ⟨c1, c2⟩ := cmpW_is hp (begW' nm s L).length (Nat.le_refl _)
  rw [List.take_length] at c1 c2
  refine ⟨c2, fun x => ?_, ?_⟩
  · rw [c1 x]
    unfold begW'
    constructor
    · intro hx
      obtain ⟨c, hc, rfl⟩ := List.mem_map.1 hx
      obtain ⟨h1, h2⟩ := List.mem_filter.1 hc
      obtain ⟨d, hd, rfl⟩ := h.of c h1
      unfold isB at h2
      rw [Bool.and_eq_true, decide_eq_true_eq] at h2
      exact ⟨d, hd, h2.1, rfl, h2.2⟩
    · rintro ⟨d, hd, h1, rfl, h2⟩
      refine List.mem_map.2 ⟨pcD D d, List.mem_filter.2 ⟨h.all d hd, ?_⟩, rfl⟩
      unfold isB
      rw [Bool.and_eq_true, decide_eq_true_eq]
      exact ⟨h1, h2⟩
  · have a1 := cmpW_len (begW' nm s L)
    have a2 := begW_len nm s L
    have a3 := h.len hD.ok
    omega
section
variable {bf bt bp bd bm N : Nat} {w : World} {D : List Nd}
end
/-- two rows that are right and have the same are the same -/
theorem right_lt : ∀ (l : List Pl) (p : Pl), rightFrom p l = true → (∀ q ∈ l, cmpP p q < 0) ∧ l.Pairwise (fun x y => cmpP x y < 0)
  | [], _, _ => ⟨fun _ h => (by cases h), List.Pairwise.nil⟩
  | q :: l, p, h => by
    rw [rightFrom, Bool.and_eq_true] at h
    obtain ⟨h1, h2⟩ := h
    unfold follB at h1
    rw [Bool.and_eq_true, decide_eq_true_eq] at h1
    obtain ⟨i1, i2⟩ := right_lt l q h2
    refine ⟨fun x hx => ?_, List.Pairwise.cons i1 i2⟩
    rcases List.mem_cons.1 hx with rfl | hx
    · exact h1.2
    · have a := h1.2
      have b := i1 x hx
      unfold cmpP cmpI at a b ⊢
      split at a <;> split at b <;> split <;> (repeat' split at a) <;> (repeat' split at b) <;> (repeat' split) <;> omega
theorem cmpP_irrefl (p : Pl) : ¬ cmpP p p < 0 := by
  unfold cmpP cmpI
  rw [if_pos rfl, if_neg (Int.lt_irrefl _), if_neg (Int.lt_irrefl _)]
  decide
theorem cmpP_asymm {p q : Pl} (h : cmpP p q < 0) : ¬ cmpP q p < 0 := by
  unfold cmpP cmpI at h ⊢
  split at h <;> split <;> (repeat' split at h) <;> (repeat' split) <;> omega
theorem ext_of {α : Type} {R : α → α → Prop} (irr : ∀ a, ¬ R a a) (asy : ∀ {a b}, R a b → ¬ R b a) : ∀ (l m : List α), l.Pairwise R → m.Pairwise R → (∀ x, x ∈ l ↔ x ∈ m) → l = m
  | [], [], _, _, _ => rfl
  | [], y :: m, _, _, h => by have := (h y).2 (by simp); cases this
  | x :: l, [], _, _, h => by have := (h x).1 (by simp); cases this
  | x :: l, y :: m, hl, hm, h => by
    rw [List.pairwise_cons] at hl hm
    have e : x = y := by
      rcases List.mem_cons.1 ((h x).1 (by simp)) with h1 | h1
      · exact h1
      · rcases List.mem_cons.1 ((h y).2 (by simp)) with h2 | h2
        · exact h2.symm
        · exact absurd (hm.1 x h1) (asy (hl.1 y h2))
    subst e
    rw [ext_of irr asy l m hl.2 hm.2 (fun z => ?_)]
    constructor
    · intro hz
      rcases List.mem_cons.1 ((h z).1 (by simp [hz])) with rfl | h1
      · exact absurd (hl.1 z hz) (irr z)
      · exact h1
    · intro hz
      rcases List.mem_cons.1 ((h z).2 (by simp [hz])) with rfl | h1
      · exact absurd (hm.1 z hz) (irr z)
      · exact h1
theorem PlsOf.same {D : List Nd} {nm wd : ByteArray} {ps qs : List Pl} (h : PlsOf D nm wd ps) (hr : qs.Pairwise (fun x y => cmpP x y < 0)) (hm : ∀ p, p ∈ qs ↔ ∃ d ∈ D, d.n = nm ∧ d.w = wd ∧ p = d.pl) : ps = qs :=
  ext_of (R := fun x y => cmpP x y < 0) cmpP_irrefl cmpP_asymm ps qs (right_lt ps _ h.right).2 hr (fun x => (h.mem x).trans (hm x).symm)
theorem BegOf.same {D : List Nd} {nm s : ByteArray} {xs ys : List ByteArray} (h : BegOf D nm s xs) (hr : ys.Pairwise (fun a b => bl a b = true)) (hm : ∀ x, x ∈ ys ↔ ∃ d ∈ D, d.n = nm ∧ d.w = x ∧ Lib.hasPrefix x.data.toList s.data.toList = true) : xs = ys :=
  ext_of (R := fun a b => bl a b = true) (fun a e => by rw [bl_irrefl] at e; cases e) (fun {a b} e1 e2 => by rw [bl_asymm e1] at e2; cases e2) xs ys h.ord hr (fun x => (h.mem x).trans (hm x).symm)
end Go.Proofs.YtjgdnainhoipgaaGreatDoor
namespace Go.Proofs.YtjgdnainhoipgaaGreatDoor
open Go.RowKit

/-- what the finder at bf tells of a name, in this world and in all that come of it -/
structure Fdr (bf : Nat) (nm : ByteArray) (pls : ByteArray → List Pl) (beg : ByteArray → List ByteArray) (w : World) : Prop where
  pl : ∀ wx, Below w.heap.size w wx → ∀ wd : ByteArray, wd.size ≤ 100 → Calls Tryz.prog 23 #[.pointer (some ⟨bf, 0, none⟩), .string nm, .string wd] wx fun e w' => ∃ v, e = .returned (.tuple #[v, .nilIface]) ∧ InP w' v (pls wd) ∧ Below wx.heap.size wx w'
  bg : ∀ wx, Below w.heap.size w wx → ∀ s : ByteArray, s.size ≤ 100 → Calls Tryz.prog 150 #[.pointer (some ⟨bf, 0, none⟩), .string nm, .string s] wx fun e w' => ∃ a c, e = .returned (.tuple #[.slice a (beg s).length c, .nilIface]) ∧ RowS w' a (beg s).length (beg s) ∧ Below wx.heap.size wx w'
  ok : FOk pls beg
  bw : ∀ s, ∀ x ∈ beg s, x.size ≤ 100
theorem Fdr.below {bf : Nat} {nm : ByteArray} {pls : ByteArray → List Pl} {beg : ByteArray → List ByteArray} {w w' : World} (h : Fdr bf nm pls beg w) (hb : Below w.heap.size w w') : Fdr bf nm pls beg w' :=
  ⟨fun wx hx => h.pl wx (hb.trans (hx.mono hb.size)), fun wx hx => h.bg wx (hb.trans (hx.mono hb.size)), h.ok, h.bw⟩
/-- a variable with a search -/
structure SV (B bf : Nat) (nm : ByteArray) (w : World) : Prop where
  lt : B < w.heap.size
  f : w.cell? ⟨B, 0, none⟩ = some (.pointer (some ⟨bf, 0, none⟩))
  n : w.cell? ⟨B, 1, none⟩ = some (.string nm)
theorem SV.below {B bf : Nat} {nm : ByteArray} {w w' : World} (h : SV B bf nm w) (hb : Below w.heap.size w w') : SV B bf nm w' :=
  ⟨Nat.lt_of_lt_of_le h.lt hb.size, by rw [hb.cell (p := ⟨B, _, none⟩) h.lt]; exact h.f, by rw [hb.cell (p := ⟨B, _, none⟩) h.lt]; exact h.n⟩
theorem SV.new (bf : Nat) (nm : ByteArray) (w : World) : SV w.heap.size bf nm (w.alloc (.cells #[.pointer (some ⟨bf, 0, none⟩), .string nm] 101)) := by
  exact ⟨by simp, by simp, by simp⟩
theorem alloc_below (w : World) (o : Obj) : Below w.heap.size w (w.alloc o) := (Below.refl _ w).alloc (Nat.le_refl _) _
section
variable {bf : Nat} {nm : ByteArray} {pls : ByteArray → List Pl} {beg : ByteArray → List ByteArray} {w : World}
theorem hits_in {B : Nat} {v : Value} {l : List Ht} {M : Nat} (h : w.ownsRow B 61 2 v l.length (htc l)) (hk : Hk M l) (hM : M ≤ 100000000) : InH w v l := InH.of_own h (by have := hk.len; omega)
theorem hk_o {M : Nat} {l : List Ht} (hk : Hk M l) (hM : M ≤ 1000000000000) : ∀ z ∈ l, 0 ≤ z.o ∧ z.o ≤ 1000000000000 := fun z hz => by
  have := hk.pos z hz
  have := hk.le z hz
  omega
/-- count, where what comes of it is a row as it stands in a walk -/
theorem count_in {v1 : Value} {xs : List Pl} (h1 : InP w v1 xs) (hr : xs.Pairwise LtP) (hl : xs.length ≤ 100000) :
    Calls Tryz.prog 149 #[v1] w fun e w' => ∃ v', e = .returned v' ∧ InH w' v' (cntL2 xs) ∧ Below w.heap.size w w' := by
  refine (count2_any v1 xs w h1 hl).mono ?_
  rintro e w' ⟨v, rfl, ho, hb⟩
  exact ⟨v, rfl, hits_in ho (cnt_of hr).hk (by omega), hb⟩
theorem together_in {M N : Nat} (k : Int) {va vb : Value} {xs ys : List Ht} (h1 : InH w va xs) (h2 : InH w vb ys) (hx : Hk M xs) (hy : Hk N ys) (hM : M + N ≤ 100000000) :
    Calls Tryz.prog 71 #[.int .i64 k, va, vb] w fun e w' => ∃ v', e = .returned v' ∧ InH w' v' (togL k xs ys) ∧ Below w.heap.size w w' := by
  have l1 := hx.len
  have l2 := hy.len
  refine (together_any k va vb xs ys w h1 h2 (by omega) (by omega) (hk_o hx (by omega)) (hk_o hy (by omega))).mono ?_
  rintro e w' ⟨v, rfl, ho, hb⟩
  exact ⟨v, rfl, hits_in ho (hx.tog k hy) hM, hb⟩
set_option maxRecDepth 100000 in
set_option maxHeartbeats 4000000 in
theorem words_in (hF : Fdr bf nm pls beg w) (a : Option Addr) (c : Nat) (ws : List ByteArray) (hr : RowS w a ws.length ws) (hok : ∀ x ∈ ws, x.size ≤ 100) :
    Calls Tryz.prog 111 #[.agg #[.pointer (some ⟨bf, 0, none⟩), .string nm], .slice a ws.length c] w fun e w' => ∃ v, e = .returned (.tuple #[v, .nilIface]) ∧ InH w' v (cntL2 (standL pls ws)) ∧ Below w.heap.size w w' := by
  obtain ⟨T, hT⟩ : ∃ T, standL pls ws = T := ⟨_, rfl⟩
  have HT : Hid (standL pls ws = T) := hT
  have HTL : Hid (T.Pairwise LtP ∧ T.length ≤ 500) := by rw [← hT]; exact ⟨standL_ris pls hF.ok.ris ws, standL_len pls 500 hF.ok.len ws⟩
  rw [hT]
  clear hT
  have HF : Hid (Fdr bf nm pls beg w) := hF
  have HOK : Hid (∀ x ∈ ws, x.size ≤ 100) := hok
  clear hF hok
  have HSV0 : Hid (SV w.heap.size bf nm (w.alloc (.cells #[.pointer (some ⟨bf, 0, none⟩), .string nm] 101))) := SV.new bf nm w
  have HB0 : Hid (Below w.heap.size w (w.alloc (.cells #[.pointer (some ⟨bf, 0, none⟩), .string nm] 101))) := alloc_below w _
  obtain ⟨hrl, hm, hx⟩ := hr
  clear hrl
  go_enter Tryz.func111, Tryz.ntmps111
  go_wp2
  go_loopw [6, 13] (fun v i wr => ∃ (k : Nat) (s : List Pl), k ≤ ws.length ∧ i = .int .i64 k ∧ Hid (InP wr v s ∧ (∀ p ∈ s, OkP p) ∧ s.Pairwise LtP ∧ s.length ≤ 500) ∧ Hid ((k = 0 → standL pls ws = T ∧ s = []) ∧ (0 < k → standF pls s (ws.drop k) = T)) ∧ Hid (SV w.heap.size bf nm wr ∧ Below w.heap.size w wr)) (fun _ i _ => ws.length - (intOf i).toNat)
  case atStart => exact ⟨0, [], Nat.zero_le _, rfl, ⟨InP.nil _, fun _ h => (by cases h), List.Pairwise.nil, Nat.zero_le _⟩, ⟨fun _ => ⟨HT.out, rfl⟩, fun h => absurd h (by omega)⟩, HSV0.out, HB0.out⟩
  case round =>
    clear HSV0 HB0
    obtain ⟨k, s, hk, rfl, hs, hz, hw⟩ := hrel
    have HS : Hid _ := hs.out
    have HZ : Hid _ := hz.out
    have HSV : Hid (SV w.heap.size bf nm wr) := hw.out.1
    have HB : Hid (Below w.heap.size w wr) := hw.out.2
    clear hs hz hw
    by_cases hlt : k < ws.length
    · rcases hx with hx | ⟨b, off, rfl, hb, hrow⟩
      · simp [hx] at hlt
      have g1 := hrow k hlt
      clear hrow
      rw [← HB.out.cell (p := ⟨b, _, none⟩) hb] at g1
      have i1 : (k : Int) < (ws.length : Int) := by omega
      have hq := HOK.out ws[k] (List.getElem_mem hlt)
      obtain ⟨q, hqe⟩ : ∃ q, ws[k] = q := ⟨_, rfl⟩
      have HD : Hid (ws.drop k = q :: ws.drop (k + 1)) := by show _ = _; rw [List.drop_eq_getElem_cons hlt, hqe]
      rw [hqe] at g1 hq
      clear hqe
      obtain ⟨_, s1, s2⟩ := HSV.out
      have HPL : Hid _ := HF.out.pl wr HB.out q hq
      go_wp2_with fail
      refine (show Calls _ _ _ _ _ from HPL.out).mono ?_
      rintro _ w1 ⟨v1, rfl, hin1, hb1⟩
      have HI1 : Hid (InP w1 v1 (pls q)) := hin1
      have HB1 : Hid (Below w.heap.size w w1) := HB.out.trans (hb1.mono HB.out.size)
      have HSV1 : Hid (SV w.heap.size bf nm w1) := HSV.out.below hb1
      have HS1 : Hid (InP w1 u6 s ∧ (∀ p ∈ s, OkP p) ∧ s.Pairwise LtP ∧ s.length ≤ 500) := ⟨HS.out.1.below hb1, HS.out.2⟩
      clear hin1 hb1 HPL s1 s2 g1 HSV HB HS
      have hkk := hk
      by_cases k0 : k = 0
      · subst k0
        have HZ2 : Hid (standF pls (pls q) (ws.drop 1) = T) := by
          show _ = _
          rw [← (HZ.out.1 rfl).1]
          have e : ws = q :: ws.drop 1 := HD.out
          conv => rhs; rw [e]
          rfl
        have HP2 : Hid ((∀ p ∈ pls q, OkP p) ∧ (pls q).Pairwise LtP ∧ (pls q).length ≤ 500) := ⟨HF.out.ok.ok q, HF.out.ok.ris q, HF.out.ok.len q⟩
        have HI2 : Hid (InP w1 v1 (pls q)) := HI1.out
        have HB2 : Hid (Below w.heap.size w w1) := HB1.out
        have HSV2 : Hid (SV w.heap.size bf nm w1) := HSV1.out
        obtain ⟨w2, hw2⟩ : ∃ w2, w1 = w2 := ⟨_, rfl⟩
        clear HZ HS1 HI1 HB1 HSV1 HD
        subst hw2
        obtain ⟨a2, c2, rfl, hc2, hr2, hn2⟩ := HI2.out
        obtain ⟨n2, hn⟩ : ∃ n, (pls q).length = n := ⟨_, rfl⟩
        have HN2 : Hid ((pls q).length = n2) := hn
        rw [hn] at hc2 hr2 ⊢
        have HI3 : Hid (InP w1 (.slice a2 n2 c2) ((pls q))) := ⟨a2, c2, by rw [hn], by rw [hn]; exact hc2, by rw [hn]; exact hr2, hn2⟩
        clear hc2 hr2 hn2 hn
        by_cases h0 : n2 = 0
        · have e : T = [] := by
            have e1 : (pls q) = [] := List.length_eq_zero_iff.1 (HN2.out.trans h0)
            have := HZ2.out
            rw [e1, stand_nil] at this
            exact this.symm
          have HE : Hid (cntL2 T = []) := by show _ = _; rw [e]; rfl
          subst h0
          clear e
          go_wp2
          go_ret2
          refine ⟨_, rfl, ?_, HB2.out⟩
          rw [HE.out]
          exact InH.nil _
        · have j0 : ((n2 : Int) == 0) = false := by simp; omega
          clear h0
          go_wp2
          go_roundw
          case rel => exact ⟨1, (pls q), by omega, by go_num, ⟨HI3.out, HP2.out⟩, ⟨fun h => absurd h (by omega), fun _ => HZ2.out⟩, ⟨HSV2.out, HB2.out⟩⟩
          case measure => simp [intOf]; omega
      · have hk0 : decide (0 < k) = true := by simp; omega
        have HZ2 : Hid (standF pls (keepL stpF s (pls q)) (ws.drop (k + 1)) = T) := by
          show _ = _
          have := HZ.out.2 (by omega)
          rw [HD.out] at this
          exact this
        have HFO : Hid _ := follow_any u6 v1 s (pls q) w1 HS1.out.1 HI1.out HS1.out.2.1 (by have := HF.out.ok.len q; omega)
        clear HZ k0 hk
        go_wp2_with fail
        refine (show Calls _ _ _ _ _ from HFO.out).mono ?_
        rintro _ w2 ⟨v2, rfl, ho2, hb2⟩
        obtain ⟨f1, f2⟩ := foll_list HS1.out.2.2.1 (HF.out.ok.ris q)
        have hkl := keep_le stpF (pls q) s
        have HP2 : Hid ((∀ p ∈ keepL stpF s (pls q), OkP p) ∧ (keepL stpF s (pls q)).Pairwise LtP ∧ (keepL stpF s (pls q)).length ≤ 500) := ⟨fun p hp => HF.out.ok.ok q p ((keep_sub stpF (pls q) s).subset hp), f1, Nat.le_trans hkl (HF.out.ok.len q)⟩
        have HI2 : Hid (InP w2 v2 (keepL stpF s (pls q))) := InP.of_own ho2 (by have := HP2.out.2.2; omega)
        have HB2 : Hid (Below w.heap.size w w2) := HB1.out.trans (hb2.mono HB1.out.size)
        have HSV2 : Hid (SV w.heap.size bf nm w2) := HSV1.out.below hb2
        clear ho2 hb2 f1 f2 hkl HFO HS1 HI1 HB1 HSV1 HD
        obtain ⟨a2, c2, rfl, hc2, hr2, hn2⟩ := HI2.out
        obtain ⟨n2, hn⟩ : ∃ n, (keepL stpF s (pls q)).length = n := ⟨_, rfl⟩
        have HN2 : Hid ((keepL stpF s (pls q)).length = n2) := hn
        rw [hn] at hc2 hr2 ⊢
        have HI3 : Hid (InP w2 (.slice a2 n2 c2) ((keepL stpF s (pls q)))) := ⟨a2, c2, by rw [hn], by rw [hn]; exact hc2, by rw [hn]; exact hr2, hn2⟩
        clear hc2 hr2 hn2 hn
        by_cases h0 : n2 = 0
        · have e : T = [] := by
            have e1 : (keepL stpF s (pls q)) = [] := List.length_eq_zero_iff.1 (HN2.out.trans h0)
            have := HZ2.out
            rw [e1, stand_nil] at this
            exact this.symm
          have HE : Hid (cntL2 T = []) := by show _ = _; rw [e]; rfl
          subst h0
          clear e
          go_wp2
          go_ret2
          refine ⟨_, rfl, ?_, HB2.out⟩
          rw [HE.out]
          exact InH.nil _
        · have j0 : ((n2 : Int) == 0) = false := by simp; omega
          clear h0
          go_wp2
          go_roundw
          case rel => exact ⟨k + 1, (keepL stpF s (pls q)), by omega, by go_num, ⟨HI3.out, HP2.out⟩, ⟨fun h => absurd h (by omega), fun _ => HZ2.out⟩, ⟨HSV2.out, HB2.out⟩⟩
          case measure => simp [intOf]; omega
    · have e : s = T := by
        by_cases k0 : k = 0
        · subst k0
          obtain ⟨z1, z2⟩ := HZ.out.1 rfl
          have e0 : ws = [] := List.length_eq_zero_iff.1 (by omega)
          rw [z2, ← z1, e0]
          rfl
        · have := HZ.out.2 (by omega)
          rw [List.drop_eq_nil_of_le (by omega)] at this
          exact this
      subst e
      have HC : Hid _ := count_in HS.out.1 HTL.out.1 (by have := HTL.out.2; omega)
      clear HZ HS
      go_wp2_with fail
      refine (show Calls _ _ _ _ _ from HC.out).mono ?_
      rintro _ w2 ⟨v2, rfl, hi2, hb2⟩
      have HI2 : Hid (InH w2 v2 (cntL2 s)) := hi2
      have HB2 : Hid (Below w.heap.size w w2) := HB.out.trans (hb2.mono HB.out.size)
      clear hi2 hb2 HC
      go_wp2
      go_ret2
      exact ⟨_, rfl, HI2.out, HB2.out⟩
end
end Go.Proofs.YtjgdnainhoipgaaGreatDoor
