/- Each has its own: for every two lists of puts and drops the function TreesApart of the package concordancekeep returns true, and leaves the lists as they were. No condition. The seat is set up under a lid of 48,000 MB (the word MEM) and two parts at a time (the word PARTSN): two tuples of the pager with arrays of 2,000 cells want some 34,000 MB each in the set-up's check of types; no text of the claim itself wants more than 10,240. -/
import Derived.Test.YtjcddeoihjppaaaQ16
import Derived.Deep.DeepCutAuto
import Derived.Deep.CutBlock
import Derived.BigQuiet
import Derived.Test.YtjcddeoihjppaaaRows
import Derived.ProofKit
import Derived.Deep.Slices
import Derived.Deep.Strs
import Derived.OpenShut
import Derived.Deep.DeepHandedRow
namespace Go.Proofs.Ytjcddeoihjppaaa
open Go.RowKit Go.Maps

/-- no pages but a tree's are in use -/
def Sole (V : Pst) (T : Tr) : Prop := ∀ k, V.used k = true ↔ k ∈ T.pgL
section
variable {V V' : Pst} {r : Nat} {T T' : Tr}
theorem Sole.lay (h : Sole V T) (hl : LayR V V' r T T') : Sole V' T' := fun k => by
  rw [hl.used k]
  constructor
  · rintro (⟨h1, h2⟩ | h1)
    · exact absurd ((h k).1 h1) h2
    · exact h1
  · exact fun h1 => .inr h1
theorem Sole.count (h : Sole V T) (hA : TrAt V r T) : countU V.used 2000 = T.pages := by
  rw [countU_list hA.pg_nodup (fun k hk => (hA.used_pg k hk).2.2) (fun k _ => h k), hA.pg_len]
theorem Sole.none (h : ∀ k, V.used k = false) : Sole V Tr.none := fun k => by
  rw [h k]
  simp [Tr.none, Tr.pgL]
theorem TrAt.none_of (h : TrAt V r T) (ha : T.all = []) : T.Ls = [] := by
  cases e : T.Ls with
  | nil => rfl
  | cons L R =>
    exfalso
    have hne := h.ok.ne L (by rw [e]; simp)
    unfold Tr.all at ha
    rw [e, List.flatten_cons] at ha
    exact hne (List.append_eq_nil_iff.1 ha).1
end
def bk : ByteArray := ⟨#[107]⟩
def bitem : ByteArray := ⟨#[105, 116, 101, 109]⟩
theorem kitem_ok : Pr.Ok ⟨bk, bitem⟩ := by unfold Pr.Ok; decide
set_option maxRecDepth 100000 in
set_option maxHeartbeats 1000000 in
theorem grown_any (w : World) : Calls Try.prog 14 #[] w fun e w' => e = .returned (.bool true) ∧ Below w.heap.size w w' := by
  have hz := Try.zeroValue32
  have HO : Hid _ := open_new w
  go_enter Try.func14, Try.ntmps14
  go_wp2_with fail
  refine (show Calls _ _ _ _ _ from HO.out).mono ?_
  rintro _ w1 ⟨bp, bm, up, V, rfl, h1, h2, h3, hW, hU, hE, hb⟩
  have HW : Hid _ := hW
  have HU : Hid _ := hU
  have HE : Hid (TrAt V 1 Tr.none) := hE 1 (by omega)
  have HB : Hid (Below w.heap.size w w1) := hb
  obtain ⟨bd, hbd⟩ : ∃ bd, w.heap.size = bd := ⟨_, rfl⟩
  rw [hbd] at h1 h2 HW
  have hbd2 : w.heap.size ≤ bd := by omega
  clear hW hU hE hb HO hbd
  go_wp2_with fail
  refine (at_any (r := 1) HW.out (by omega)).mono ?_
  rintro _ w2 ⟨bt, rfl, hT2, hlt2, hb2⟩
  have HT2 : Hid _ := hT2
  have HW2 : Hid _ := HW.out.below hb2
  have HB2 : Hid (Below w.heap.size w w2) := HB.out.trans (hb2.mono HB.out.size)
  have hwl := HW.out.lt
  have hne : bt ≠ bp ∧ bt ≠ bm := ⟨by omega, by omega⟩
  clear hT2 hb2
  have HCN : Hid (countU V.used 2000 + 30 < 1999) := by
    show _ < _
    rw [(Sole.none HU.out).count HE.out]
    decide
  have HP : Hid _ := put_any HT2.out HW2.out hne HE.out ⟨bk, bitem⟩ kitem_ok HCN.out (by omega)
  go_wp2_with fail
  refine (show Calls _ _ _ _ _ from HP.out).mono ?_
  rintro _ w3 ⟨A, mid, C, hc, hg⟩
  have hABC : A = [] ∧ mid = [] ∧ C = [] := by
    have := hc.all
    rw [show Tr.none.all = [] from rfl] at this
    have h1 := List.append_eq_nil_iff.1 this.symm
    have h2 := List.append_eq_nil_iff.1 h1.1
    exact ⟨h2.1, h2.2, h1.2⟩
  obtain ⟨rfl, rfl, rfl⟩ := hABC
  have hs7 : szL [⟨bk, bitem⟩] = 7 := rfl
  rcases hg with ⟨hbig, _⟩ | ⟨_, rfl, V3, N3, T3, ha3, hl3, hW3, hn3, ho3⟩
  · simp only [List.nil_append, List.append_nil, hs7] at hbig
    omega
  simp only [List.nil_append, List.append_nil] at ha3
  have HL3 : Hid _ := hl3
  have HW3 : Hid _ := hW3
  have HA3 : Hid (T3.all = [⟨bk, bitem⟩]) := ha3
  have HS3 : Hid (Sole V3 T3) := (Sole.none HU.out).lay hl3
  have HT3 : Hid (Tt bt bp 1 w3) := HT2.out.only ho3 (fun e => by rcases e with e | e; exact hne.1 e; exact hne.2 e)
  have HB3 : Hid (Below w.heap.size w w3) := Only.below HB2.out ho3 HB2.out.size (fun i hi => by rcases hi with hi | hi <;> omega)
  have HR3 : Hid (V3.rn 1 = (7 : Nat)) := by show _ = _; rw [hl3.at_.rn, ha3]; rfl
  clear hc hl3 hW3 ha3 ho3 HP hs7
  go_wp2_with fail
  refine (sum_any HT3.out HW3.out).mono ?_
  rintro _ w4 ⟨rfl, hb4⟩
  rw [HR3.out]
  have HT4 : Hid (Tt bt bp 1 w4) := HT3.out.below hb4
  have HW4 : Hid _ := HW3.out.below hb4
  have HB4 : Hid (Below w.heap.size w w4) := HB3.out.trans (hb4.mono HB3.out.size)
  clear hb4
  go_wp2_with fail
  refine (get_any HT4.out HW4.out HL3.out.at_ bk).mono ?_
  rintro e5 w5 ⟨hg5, hb5⟩
  have hg6 : e5 = Ending.returned (.tuple #[.string bitem, .nilIface]) := by
    rcases hg5 with ⟨x, hx, _, he⟩ | ⟨hno, _⟩
    · rw [HA3.out] at hx
      obtain rfl := List.mem_singleton.1 hx
      exact he
    · exact absurd rfl (hno ⟨bk, bitem⟩ (by rw [HA3.out]; simp))
  subst hg6
  have HT5 : Hid (Tt bt bp 1 w5) := HT4.out.below hb5
  have HW5 : Hid _ := HW4.out.below hb5
  have HB5 : Hid (Below w.heap.size w w5) := HB4.out.trans (hb5.mono HB4.out.size)
  clear hb5 hg5
  have HCN3 : Hid (countU V3.used 2000 + 30 < 1999) := by
    show _ < _
    rw [HS3.out.count HL3.out.at_]
    have := HL3.out.at_.pages_le
    omega
  have hbi : bitem.toList = [105, 116, 101, 109] := by rw [ByteArray.toList_eq]; rfl
  have HD : Hid _ := drop_any HT5.out HW5.out hne HL3.out.at_ bk HCN3.out (by omega)
  go_wp2_with fail
  refine (show Calls _ _ _ _ _ from HD.out).mono ?_
  rintro _ w6 hd6
  rcases hd6 with ⟨hno, _⟩ | ⟨A, y, C, hal, hyk, hg⟩
  · exact absurd rfl (hno ⟨bk, bitem⟩ (by rw [HA3.out]; simp))
  have hAC : A = [] ∧ C = [] := by
    rw [HA3.out] at hal
    have h1 := congrArg List.length hal
    rw [List.length_append, List.length_append] at h1
    simp only [List.length_cons, List.length_nil] at h1
    exact ⟨List.length_eq_zero_iff.1 (by omega), List.length_eq_zero_iff.1 (by omega)⟩
  obtain ⟨rfl, rfl⟩ := hAC
  rcases hg with ⟨hbig, _⟩ | ⟨_, rfl, V6, N6, T6, ha6, hl6, hW6, hn6, ho6⟩
  · simp [szL] at hbig
  have HT6 : Hid (Tt bt bp 1 w6) := HT5.out.only ho6 (fun e => by rcases e with e | e; exact hne.1 e; exact hne.2 e)
  have HB6 : Hid (Below w.heap.size w w6) := Only.below HB5.out ho6 HB5.out.size (fun i hi => by rcases hi with hi | hi <;> omega)
  have HW6 : Hid _ := hW6
  have HR6 : Hid (V6.rn 1 = (0 : Nat)) := by show _ = _; rw [hl6.at_.rn, ha6]; rfl
  have HC6 : Hid (countU V6.used 2000 = 0) := by
    show _ = _
    rw [(HS3.out.lay hl6).count hl6.at_]
    unfold Tr.pages
    rw [hl6.at_.none_of (by rw [ha6]; rfl)]
    rfl
  clear hal hyk ha6 hl6 hW6 ho6 HD
  go_wp2_with fail
  refine (sum_any HT6.out HW6.out).mono ?_
  rintro _ w7 ⟨rfl, hb7⟩
  rw [HR6.out]
  have HW7 : Hid _ := HW6.out.below hb7
  have HB7 : Hid (Below w.heap.size w w7) := HB6.out.trans (hb7.mono HB6.out.size)
  clear hb7
  go_wp2_with fail
  refine (tw_used HW7.out).mono ?_
  rintro _ w8 ⟨rfl, hw8⟩
  subst w8
  rw [HC6.out]
  go_wp2
  go_ret
  exact ⟨rfl, HB7.out⟩
end Go.Proofs.Ytjcddeoihjppaaa
namespace Go.Proofs.Ytjcddeoihjppaaa
open Go.RowKit Go.Maps

/-- two trees at two roots -/
structure Duo (bx bz bp bd bm N : Nat) (up : Nat → Bool) (V : Pst) (X Z : Tr) (w0 w : World) : Prop where
  tx : Tt bx bp 0 w
  tz : Tt bz bp 5 w
  tw : Tw bp bd bm N sd0 up 1 V w
  ax : TrAt V 0 X
  az : TrAt V 5 Z
  own : ∀ k, V.used k = true ↔ k ∈ X.pgL ∨ k ∈ Z.pgL
  dis : ∀ k ∈ X.pgL, k ∉ Z.pgL
  b0 : Below w0.heap.size w0 w
  lp : w0.heap.size ≤ bp
  lm : w0.heap.size ≤ bm
  nx : bx ≠ bp ∧ bx ≠ bm
  nz : bz ≠ bp ∧ bz ≠ bm
section
variable {bx bz bp bd bm N D : Nat} {up : Nat → Bool} {V : Pst} {X Z : Tr} {w0 w w' : World}
theorem Duo.count (h : Duo bx bz bp bd bm N up V X Z w0 w) : countU V.used 2000 ≤ 120 := by
  have h1 := countU_union (f := V.used) (g := fun _ => false) (n := 2000) (X.pgL ++ Z.pgL) (fun k hk => .inr (List.mem_append.2 ((h.own k).1 hk)))
  rw [countU_nil, List.length_append, h.ax.pg_len, h.az.pg_len] at h1
  have := h.ax.pages_le
  have := h.az.pages_le
  omega
theorem Duo.below (h : Duo bx bz bp bd bm N up V X Z w0 w) (hb : Below w.heap.size w w') : Duo bx bz bp bd bm N up V X Z w0 w' :=
  ⟨h.tx.below hb, h.tz.below hb, h.tw.below hb, h.ax, h.az, h.own, h.dis, h.b0.trans (hb.mono h.b0.size), h.lp, h.lm, h.nx, h.nz⟩
theorem Duo.layx {V' : Pst} {N' : Nat} {X' : Tr} (h : Duo bx bz bp bd bm N up V X Z w0 w) (h1 : LayR V V' 0 X X') (h2 : Tw bp bd bm N' sd0 up 1 V' w') (h4 : Only (fun b => b = bp ∨ b = bm) w w') : Duo bx bz bp bd bm N' up V' X' Z w0 w' := by
  refine ⟨h.tx.only h4 (fun e => by rcases e with e | e; exact h.nx.1 e; exact h.nx.2 e), h.tz.only h4 (fun e => by rcases e with e | e; exact h.nz.1 e; exact h.nz.2 e), h2, h1.at_, ?_, fun k => ?_, fun k hk hz => ?_, Only.below h.b0 h4 h.b0.size (fun i hi => by rcases hi with hi | hi; rw [hi]; exact h.lp; rw [hi]; exact h.lm), h.lp, h.lm, h.nx, h.nz⟩
  · refine h.az.keep (fun k hk => ?_) (h1.rp 5 (by decide)) (h1.rn 5 (by decide))
    have hu := (h.az.used_pg k hk).1
    have hx : k ∉ X.pgL := fun e => h.dis k e hk
    exact ⟨(h1.used k).2 (.inl ⟨hu, hx⟩), h1.tx k hu hx⟩
  · rw [h1.used k, h.own k]
    constructor
    · rintro (⟨h5 | h5, h6⟩ | h5)
      · exact absurd h5 h6
      · exact .inr h5
      · exact .inl h5
    · rintro (h5 | h5)
      · exact .inr h5
      · exact .inl ⟨.inr h5, fun e => h.dis k e h5⟩
  · rcases h1.new k hk with h5 | h5
    · exact h.dis k h5 hz
    · have := (h.own k).2 (.inr hz)
      rw [h5] at this; cases this
theorem Duo.stepx (h : Duo bx bz bp bd bm N up V X Z w0 w) (hs : StepTo bp bd bm N D 0 sd0 up 1 V X w w') : ∃ V' N' X', N' ≤ N + D ∧ Duo bx bz bp bd bm N' up V' X' Z w0 w' := by
  obtain ⟨V', N', X', h1, h2, h3, h4⟩ := hs
  exact ⟨V', N', X', h3, h.layx h1 h2 h4⟩
theorem Duo.stepz (h : Duo bx bz bp bd bm N up V X Z w0 w) (hs : StepTo bp bd bm N D 5 sd0 up 1 V Z w w') : ∃ V' N' Z', N' ≤ N + D ∧ Duo bx bz bp bd bm N' up V' X Z' w0 w' := by
  obtain ⟨V', N', Z', h1, h2, h3, h4⟩ := hs
  refine ⟨V', N', Z', h3, ⟨h.tx.only h4 (fun e => by rcases e with e | e; exact h.nx.1 e; exact h.nx.2 e), h.tz.only h4 (fun e => by rcases e with e | e; exact h.nz.1 e; exact h.nz.2 e), h2, ?_, h1.at_, fun k => ?_, fun k hk hz => ?_, Only.below h.b0 h4 h.b0.size (fun i hi => by rcases hi with hi | hi; rw [hi]; exact h.lp; rw [hi]; exact h.lm), h.lp, h.lm, h.nx, h.nz⟩⟩
  · refine h.ax.keep (fun k hk => ?_) (h1.rp 0 (by decide)) (h1.rn 0 (by decide))
    have hu := (h.ax.used_pg k hk).1
    have hx : k ∉ Z.pgL := h.dis k hk
    exact ⟨(h1.used k).2 (.inl ⟨hu, hx⟩), h1.tx k hu hx⟩
  · rw [h1.used k, h.own k]
    constructor
    · rintro (⟨h5 | h5, h6⟩ | h5)
      · exact .inl h5
      · exact absurd h5 h6
      · exact .inr h5
    · rintro (h5 | h5)
      · exact .inl ⟨.inl h5, h.dis k h5⟩
      · exact .inr h5
  · rcases h1.new k hz with h5 | h5
    · exact h.dis k hk h5
    · have := (h.own k).2 (.inl hk)
      rw [h5] at this; cases this
theorem StepTo.only {r : Nat} {s : St} {cm : Int} (hs : StepTo bp bd bm N D r s up cm V X w w') : Only (fun b => b = bp ∨ b = bm) w w' := by
  obtain ⟨V', N', T', _, _, _, h⟩ := hs
  exact h
theorem LayTo.stepTo {r : Nat} {s : St} {cm : Int} {Ls : List (List Pr)} {e : Ending} (h : LayTo bp bd bm N r s up cm V X Ls (fun b => b = bp ∨ b = bm) w e w') : e = .returned .nilIface ∧ ∃ V' N' T', T'.Ls = Ls ∧ LayR V V' r X T' ∧ Tw bp bd bm N' s up cm V' w' ∧ N' ≤ N + 40 ∧ Only (fun b => b = bp ∨ b = bm) w w' := h
end
/-- a mark in memory -/
structure Mks (q : Pg) (mk bv Nq : Nat) (L : List Value) (w : World) : Prop where
  own : Sheets mk Nq q.chg w
  row : w.rangeAt bv 0 L
  lt : bv < w.heap.size
theorem Mks.block {q : Pg} {mk bv Nq : Nat} {L : List Value} {w w' : World} (h : Mks q mk bv Nq L w) (hs : w.heap.size ≤ w'.heap.size) (h1 : w'.heap[mk]? = w.heap[mk]?) (h2 : w'.heap[bv]? = w.heap[bv]?) : Mks q mk bv Nq L w' :=
  ⟨h.own.block h1, fun j v hj => by have := h.row j v hj; simp only [World.cell?] at this ⊢; rw [h2]; exact this, by have := h.lt; omega⟩
theorem Mks.only {q : Pg} {mk bv Nq : Nat} {L : List Value} {w w' : World} {S : Nat → Prop} (h : Mks q mk bv Nq L w) (ho : Only S w w') (h1 : ¬ S mk) (h2 : ¬ S bv) : Mks q mk bv Nq L w' := h.block ho.size (ho.block _ h.own.lt h1) (ho.block _ h.lt h2)
theorem there_fresh (w : World) (Z : Array Value) (t n : Nat) (hn : n ≤ Z.size) : (w.alloc (.cells Z t)).there w.heap.size 0 n := fun j hj => by
  have hw : (w.alloc (.cells Z t)).heap[w.heap.size]? = some (.cells Z t) := heap_alloc_new w _
  refine ⟨?_, by simp only [World.frozen?, hw]; simp⟩
  rw [Nat.zero_add, cell_of_row _ _ _ _ _ _ hw]
  simp
  omega
/-- what is taken back -/
theorem Tw.taken {bp bd bm N bm' N' : Nat} {s : St} {up : Nat → Bool} {cm : Int} {V : Pst} {w w' : World} {p q : Pg} (hp : PagerIs bp bd bm N p w) (hprg : Prg bd s w) (hdown : p.down = false) (hup : p.upper = up) (hcm : p.commits = cm) (hq : q.Ok) (hqu : q.upper = up) (hm : Match q s.pg V) (h1 : PagerIs bp bd bm' N' (p.back q) w') (ho : Only (fun b => b = bp) w w') : Tw bp bd bm' N' s up cm V w' := by
  refine ⟨⟨p.back q, h1, hq.back, hdown, hup, hcm, hm.used, fun k hk hu => ?_, hm.rp, hm.rn⟩, Prg.only hprg ho (fun e => hp.nd hprg e.symm)⟩
  have := hm.text k hk hu
  rw [← this]
  show ((q.chg k).getD (s.pg (placeF k (p.upper k)))) = (q.chg k).getD (s.pg (placeF k (q.upper k)))
  rw [hup, hqu]
end Go.Proofs.Ytjcddeoihjppaaa
namespace Go.Proofs.Ytjcddeoihjppaaa
open Go.RowKit Go.Maps

set_option maxRecDepth 100000 in
set_option maxHeartbeats 40000000 in
theorem apart_walk (a0 : Option Addr) (l0 c0 : Nat) (xs : List Pu) (a1 : Option Addr) (l1 c1 : Nat) (ys : List Pu) (w : World) (hr0 : RowQ w a0 l0 xs) (hr1 : RowQ w a1 l1 ys) :
    Calls Try.prog 5 #[.slice a0 l0 c0, .slice a1 l1 c1] w fun e w' => e = .returned (.bool true) ∧ Below w.heap.size w w' := by
  have HR0 : Hid (RowQ w a0 l0 xs) := hr0
  have HR1 : Hid (RowQ w a1 l1 ys) := hr1
  obtain ⟨e0, hm0, _⟩ := hr0
  obtain ⟨e1, hm1, _⟩ := hr1
  unfold maxLen at hm0 hm1
  by_cases h30 : 60 < l0
  · have hd : (60 : Int) < (l0 : Int) := by omega
    go_enter Try.func5, Try.ntmps5
    go_wp2
    go_ret
    exact ⟨rfl, Below.refl _ _⟩
  by_cases h31 : 60 < l1
  · have hd : (60 : Int) < (l1 : Int) := by omega
    have hd2 : ¬ (60 : Int) < (l0 : Int) := by omega
    go_enter Try.func5, Try.ntmps5
    go_wp2
    go_ret
    exact ⟨rfl, Below.refl _ _⟩
  have hd : ¬ (60 : Int) < (l0 : Int) := by omega
  have hd2 : ¬ (60 : Int) < (l1 : Int) := by omega
  have L0 : l0 ≤ 60 := by omega
  have L1 : l1 ≤ 60 := by omega
  have hz := Try.zeroValue32
  clear e0 e1 hm0 hm1 h30 h31
  go_enter Try.func5, Try.ntmps5
  go_wp2_with fail
  refine (grown_any w).mono ?_
  rintro _ w1 ⟨rfl, hb1⟩
  have HB1 : Hid (Below w.heap.size w w1) := hb1
  have HO : Hid _ := open_new w1
  clear hb1
  go_wp2_with fail
  refine (show Calls _ _ _ _ _ from HO.out).mono ?_
  rintro _ w2 ⟨bp, bm, up, V, rfl, h1, h2, h3, hW, hU, hE, hb2⟩
  have HW : Hid _ := hW
  have HU : Hid _ := hU
  have HE0 : Hid (TrAt V 0 Tr.none) := hE 0 (by omega)
  have HE5 : Hid (TrAt V 5 Tr.none) := hE 5 (by omega)
  have HB2 : Hid (Below w.heap.size w w2) := HB1.out.trans (hb2.mono HB1.out.size)
  have hsz1 := HB1.out.size
  obtain ⟨bd, hbd⟩ : ∃ bd, w1.heap.size = bd := ⟨_, rfl⟩
  rw [hbd] at h1 h2 HW hsz1
  try rw [hbd]
  clear hW hU hE hb2 HO hbd HB1 hz
  go_wp2_with fail
  refine (at_any (r := 0) HW.out (by omega)).mono ?_
  rintro _ w3 ⟨bx, rfl, hT3, hlt3, hb3⟩
  have HX3 : Hid _ := hT3
  have HW3 : Hid _ := HW.out.below hb3
  have HB3 : Hid (Below w.heap.size w w3) := HB2.out.trans (hb3.mono HB2.out.size)
  have hwl := HW.out.lt
  have hnx : bx ≠ bp ∧ bx ≠ bm := ⟨by omega, by omega⟩
  have hwl3 := HW3.out.lt
  clear hT3 hb3 HB2 HW hlt3
  go_wp2_with fail
  refine (at_any (r := 5) HW3.out (by omega)).mono ?_
  rintro _ w4 ⟨bz, rfl, hT4, hlt4, hb4⟩
  have hnz : bz ≠ bp ∧ bz ≠ bm := ⟨by omega, by omega⟩
  have HD4 : Hid (Duo bx bz bp bd bm 0 up V Tr.none Tr.none w w4) := ⟨HX3.out.below hb4, hT4, HW3.out.below hb4, HE0.out, HE5.out, fun k => by rw [HU.out k]; simp [Tr.none, Tr.pgL], fun k hk => by simp [Tr.none, Tr.pgL] at hk, HB3.out.trans (hb4.mono HB3.out.size), by omega, by omega, hnx, hnz⟩
  clear hT4 hlt4 hb4 HX3 HW3 HB3 HE0 HE5 HU hwl hwl3 h1 h2 hsz1
  go_wp2_with fail
  have hcnw5 := HD4.out.count
  refine (puts_any HD4.out.tx HD4.out.tw HD4.out.nx HD4.out.ax HR0.out (by omega) HD4.out.b0 HD4.out.lp HD4.out.lm (by omega) (by omega)).mono ?_
  rintro _ w5 ⟨rfl, hsw5⟩
  have HONw5 : Hid _ := hsw5.only
  obtain ⟨V5, N5, X5, hnw5, hdw5⟩ := HD4.out.stepx hsw5
  have HD5 : Hid _ := hdw5
  clear hsw5 hdw5 hcnw5 HD4
  go_wp2_with fail
  refine (pairs_any HD5.out.tx HD5.out.tw HD5.out.ax).mono ?_
  rintro _ w6 ⟨rfl, hbw6⟩
  have HD6 : Hid _ := HD5.out.below hbw6
  have HBLw6 : Hid _ := hbw6
  clear hbw6 HD5
  obtain ⟨was, hwas⟩ : ∃ was, pairsB X5.all = was := ⟨_, rfl⟩
  rw [hwas]
  have HWAS : Hid (pairsB X5.all = was) := hwas
  clear hwas
  go_wp2_with fail
  have hcnw7 := HD6.out.count
  refine (puts_any HD6.out.tz HD6.out.tw HD6.out.nz HD6.out.az HR1.out (by omega) HD6.out.b0 HD6.out.lp HD6.out.lm (by omega) (by omega)).mono ?_
  rintro _ w7 ⟨rfl, hsw7⟩
  have HONw7 : Hid _ := hsw7.only
  obtain ⟨V7, N7, Z7, hnw7, hdw7⟩ := HD6.out.stepz hsw7
  have HD7 : Hid _ := hdw7
  clear hsw7 hdw7 hcnw7 HD6
  go_wp2_with fail
  refine (pairs_any HD7.out.tx HD7.out.tw HD7.out.ax).mono ?_
  rintro _ w8 ⟨rfl, hbw8⟩
  have HD8 : Hid _ := HD7.out.below hbw8
  have HBLw8 : Hid _ := hbw8
  clear hbw8 HD7
  rw [HWAS.out]
  go_wp2_with fail
  refine (pairs_any HD8.out.tz HD8.out.tw HD8.out.az).mono ?_
  rintro _ w9 ⟨rfl, hbw9⟩
  have HD9 : Hid _ := HD8.out.below hbw9
  have HBLw9 : Hid _ := hbw9
  clear hbw9 HD8
  obtain ⟨also, halso⟩ : ∃ also, pairsB Z7.all = also := ⟨_, rfl⟩
  rw [halso]
  have HALSO : Hid (pairsB Z7.all = also) := halso
  clear halso
  have HAX : Hid (TrAt V7 0 X5 ∧ TrAt V7 5 Z7 ∧ (∀ k, V7.used k = true ↔ k ∈ X5.pgL ∨ k ∈ Z7.pgL) ∧ ∀ k ∈ X5.pgL, k ∉ Z7.pgL) := ⟨HD9.out.ax, HD9.out.az, HD9.out.own, HD9.out.dis⟩
  obtain ⟨q, hqP, hqO, hqD, hqU, hqC, hqM⟩ := HD9.out.tw.ex
  have HQP : Hid (PagerIs bp bd bm N7 q w9) := hqP
  have HQO : Hid (q.Ok ∧ q.upper = up ∧ Match q sd0.pg V7) := ⟨hqO, hqU, hqM⟩
  have HQC : Hid (q.commits = 1) := hqC
  clear hqP hqO hqD hqU hqC hqM
  go_wp2_with fail
  refine (mark_any HQP.out).mono ?_
  rintro _ w10 ⟨mk, rfl, hmk, hS10, hb10⟩
  have HDA : Hid _ := HD9.out.below hb10
  have lb1 := HD9.out.tw.lt
  have lb3 := hS10.lt
  have lb4 := hb10.size
  obtain ⟨M, hM⟩ : ∃ M, markL q.used q.rp q.rn mk q.commits = M := ⟨_, rfl⟩
  have lM : M.length = 2018 := by rw [← hM, markL_len]
  have sM : (Try.prog.info? 44).map (·.size) = some M.length := by rw [lM]; exact size48
  have sM2 : (Try.prog.info? 44).map (·.size) = some M.toArray.size := by rw [List.size_toArray]; exact sM
  have oM := all_oneCell_toArray (show ∀ v ∈ M, v.oneCell' = true by rw [← hM]; exact markL_one _ _ _ _ _)
  rw [hM]
  have HML : Hid (markL q.used q.rp q.rn mk 1 = M) := by
    show markL q.used q.rp q.rn mk 1 = M
    rw [← hM, HQC.out]
  have HT : Hid ((w10.alloc (.cells Try.zeroCells44 44)).there w10.heap.size 0 M.toArray.size) := there_fresh w10 _ 44 _ (by rw [List.size_toArray, lM, zsize48]; omega)
  have hb11 : Below w10.heap.size w10 ((w10.alloc (.cells Try.zeroCells44 44)).setCells w10.heap.size 0 M) := Below.setCells' (Nat.le_refl _) _ _ _ ((Below.refl _ w10).alloc (Nat.le_refl _) _)
  have HN11 : Hid (Mks q mk w10.heap.size _ M ((w10.alloc (.cells Try.zeroCells44 44)).setCells w10.heap.size 0 M)) := ⟨hS10.block (hb11.block _ lb3), World.rangeAt_setCells_same _ _ _ _ (by have := HT.out; rw [List.size_toArray] at this; exact this), by rw [size_setCells, World.size_alloc]; omega⟩
  have HD11 : Hid _ := HDA.out.below hb11
  have hz := Try.zeroValue44
  have hne : mk ≠ bp ∧ mk ≠ bm ∧ w10.heap.size ≠ bp ∧ w10.heap.size ≠ bm := by omega
  have HNE : Hid _ := hne
  clear hS10 hb10 hb11 lb1 lb3 lb4 hM lM hne HDA HD9 hmk HQP HQC
  go_wp2_with (refine wpList_store_mid rfl 44 _ _ rfl w10.heap.size 0 M.toArray rfl rfl HT.out sM2 oM ?_)
  obtain ⟨w11, hw11⟩ : ∃ w11, (w10.alloc (.cells Try.zeroCells44 44)).setCells w10.heap.size 0 M = w11 := ⟨_, rfl⟩
  obtain ⟨bv, hbv⟩ : ∃ bv, w10.heap.size = bv := ⟨_, rfl⟩
  rw [hw11] at HN11 HD11
  rw [hbv] at HN11 HNE
  try rw [hw11]
  try rw [hbv]
  clear hw11 hbv HT hz sM2 oM
  have hcnw12 := HD11.out.count
  refine (puts_any HD11.out.tx HD11.out.tw HD11.out.nx HD11.out.ax HR1.out (by omega) HD11.out.b0 HD11.out.lp HD11.out.lm (by omega) (by omega)).mono ?_
  rintro _ w12 ⟨rfl, hsw12⟩
  have HONw12 : Hid _ := hsw12.only
  obtain ⟨V12, N12, X12, hnw12, hdw12⟩ := HD11.out.stepx hsw12
  have HD12 : Hid _ := hdw12
  clear hsw12 hdw12 hcnw12 HD11
  have HN12 : Hid _ := HN11.out.only HONw12.out (fun e => by rcases e with e | e; exact HNE.out.1 e; exact HNE.out.2.1 e) (fun e => by rcases e with e | e; exact HNE.out.2.2.1 e; exact HNE.out.2.2.2 e)
  go_wp2_with fail
  refine (pairs_any HD12.out.tz HD12.out.tw HD12.out.az).mono ?_
  rintro _ w13 ⟨rfl, hbw13⟩
  have HD13 : Hid _ := HD12.out.below hbw13
  have HBLw13 : Hid _ := hbw13
  clear hbw13 HD12
  rw [HALSO.out]
  go_wp2_with fail
  have hcnw14 := HD13.out.count
  refine (puts_any HD13.out.tz HD13.out.tw HD13.out.nz HD13.out.az HR0.out (by omega) HD13.out.b0 HD13.out.lp HD13.out.lm (by omega) (by omega)).mono ?_
  rintro _ w14 ⟨rfl, hsw14⟩
  have HONw14 : Hid _ := hsw14.only
  obtain ⟨V14, N14, Z14, hnw14, hdw14⟩ := HD13.out.stepz hsw14
  have HD14 : Hid _ := hdw14
  clear hsw14 hdw14 hcnw14 HD13
  have HN14 : Hid _ := (HN12.out.only (below_only HBLw13.out (fun _ => False)) (fun e => e) (fun e => e)).only HONw14.out (fun e => by rcases e with e | e; exact HNE.out.1 e; exact HNE.out.2.1 e) (fun e => by rcases e with e | e; exact HNE.out.2.2.1 e; exact HNE.out.2.2.2 e)
  have hcn15 := HD14.out.count
  go_wp2_with fail
  refine (clear_any HD14.out.tx HD14.out.tw HD14.out.nx HD14.out.ax (by omega) (by omega)).mono ?_
  rintro _ w15 ⟨rfl, V15, N15, X15, hX15, hl15, hW15, hn15, ho15⟩
  have hs15 : StepTo bp bd bm N14 40 0 sd0 up 1 V14 X12 w14 w15 := ⟨V15, N15, X15, hl15, hW15, hn15, ho15⟩
  have HN15 : Hid _ := HN14.out.only ho15 (fun e => by rcases e with e | e; exact HNE.out.1 e; exact HNE.out.2.1 e) (fun e => by rcases e with e | e; exact HNE.out.2.2.1 e; exact HNE.out.2.2.2 e)
  have HX15 : Hid (pairsB X15.all = ⟨#[]⟩) := by show _ = _; unfold Tr.all; rw [hX15]; rfl
  have HD15 : Hid (Duo bx bz bp bd bm N15 up V15 X15 Z14 w w15) := HD14.out.layx hl15 hW15 ho15
  clear hX15 hl15 hW15 ho15 hs15 hcn15 HD14
  go_wp2_with fail
  refine (pairs_any HD15.out.tx HD15.out.tw HD15.out.ax).mono ?_
  rintro _ w16 ⟨rfl, hbw16⟩
  have HD16 : Hid _ := HD15.out.below hbw16
  have HBLw16 : Hid _ := hbw16
  clear hbw16 HD15
  rw [HX15.out]
  have HN16 : Hid _ := HN15.out.only (below_only HBLw16.out (fun _ => False)) (fun e => e) (fun e => e)
  obtain ⟨p3, hpP, hpO, hpD, hpU, hpC, hpM⟩ := HD16.out.tw.ex
  have hbk := back_yes hpP hpD q mk N7 HN16.out.own HNE.out.1
  rw [hpC, HML.out] at hbk
  have HBK : Hid (Calls Try.prog 12 #[.pointer (some ⟨bp, 0, none⟩), .agg M.toArray] w16 fun e w' => e = .returned .nilIface ∧ (∃ bm', w16.heap.size ≤ bm' ∧ PagerIs bp bd bm' N7 (p3.back q) w') ∧ Sheets mk N7 q.chg w' ∧ Only (fun b => b = bp) w16 w') := hbk
  have HPP : Hid (PagerIs bp bd bm N15 p3 w16 ∧ p3.down = false ∧ p3.upper = up ∧ p3.commits = 1) := ⟨hpP, hpD, hpU, hpC⟩
  clear hpP hpD hpU hpC hpO hpM hbk
  go_wp2_with (refine wpList_load_mid rfl 44 _ rfl bv 0 rfl M _ HN16.out.row Try.underlying44 rfl sM ?_)
  refine (show Calls _ _ _ _ _ from HBK.out).mono ?_
  rintro _ w17 ⟨rfl, ⟨bm2, hm2, hP17⟩, _, ho17⟩
  have HD17 : Hid (Duo bx bz bp bd bm2 N7 up V7 X5 Z7 w w17) := by
    have hlp := HD16.out.lp
    have hlt := HD16.out.tx.lt
    have hltz := HD16.out.tz.lt
    have hb := HD16.out.b0.size
    refine ⟨HD16.out.tx.only ho17 HD16.out.nx.1, HD16.out.tz.only ho17 HD16.out.nz.1, Tw.taken HPP.out.1 HD16.out.tw.prg HPP.out.2.1 HPP.out.2.2.1 HPP.out.2.2.2 HQO.out.1 HQO.out.2.1 HQO.out.2.2 hP17 ho17, HAX.out.1, HAX.out.2.1, HAX.out.2.2.1, HAX.out.2.2.2, Only.below HD16.out.b0 ho17 hb (fun i hi => by rw [hi]; exact hlp), hlp, by omega, ⟨HD16.out.nx.1, by omega⟩, ⟨HD16.out.nz.1, by omega⟩⟩
  clear hm2 hP17 ho17 HBK HPP HD16 HN16 HN15 HN14 HN12 HN11
  go_wp2_with fail
  refine (pairs_any HD17.out.tx HD17.out.tw HD17.out.ax).mono ?_
  rintro _ w18 ⟨rfl, hbw18⟩
  have HD18 : Hid _ := HD17.out.below hbw18
  have HBLw18 : Hid _ := hbw18
  clear hbw18 HD17
  rw [HWAS.out]
  go_wp2_with fail
  refine (pairs_any HD18.out.tz HD18.out.tw HD18.out.az).mono ?_
  rintro _ w19 ⟨rfl, hbw19⟩
  have HD19 : Hid _ := HD18.out.below hbw19
  have HBLw19 : Hid _ := hbw19
  clear hbw19 HD18
  rw [HALSO.out]
  go_wp2
  go_ret
  exact ⟨rfl, HD19.out.b0⟩
end Go.Proofs.Ytjcddeoihjppaaa
namespace Go.Proofs.Ytjcddeoihjppaaa
open Go.ChangeShapes Go.WideShapes Go.ChangeAt Go.RowKit

theorem cells57 : Try.prog.cellsOf 57 = 3 := by kernel_rfl
set_option maxRecDepth 100000 in
theorem oneq_of {H : Type} {enc : TypeId × Value → H} {W : World} {spare : Nat → Bool} {held : Bool} {n : Nat} {cs : List Value} {y : DataW H × List MemPlace}
    (hl : cs.length = 3) (h : DataW.trod enc Try.prog W 0 spare held n 57 cs = some y) :
    ∃ x : Pu, cs = [.int .i64 x.q, .string x.k, .string x.i] := by
  obtain ⟨y0, y1, y2, m, _, _, t0, t1, t2⟩ := Deep.trod_struct3 Try.underlying57 h
  match cs, hl with
  | [c0, c1, c2], _ =>
    have e3 : Try.prog.cellsOf 3 = 1 := by kernel_rfl
    have e9 : Try.prog.cellsOf 9 = 1 := by kernel_rfl
    simp only [e3, e9] at t0 t1 t2
    obtain ⟨k, e0, _, w0⟩ := DataW.trod_int Try.underlying3 t0
    obtain ⟨i, e1, _, w1⟩ := DataW.trod_string Try.underlying9 t1
    obtain ⟨s, e2, _, w2⟩ := DataW.trod_string Try.underlying9 t2
    simp at e0 e1 e2
    subst e0 e1 e2
    exact ⟨⟨k, i, s⟩, rfl⟩

set_option maxRecDepth 100000 in
theorem rowq_of {H : Type} {enc : TypeId × Value → H} {W : World} {held : Bool} {a : Option Addr} {len cap : Nat} {d : DataW H} {p : List MemPlace}
    (h : DataW.Trod enc Try.prog W 0 (fun _ => true) held 48 (.slice a len cap) d p) : ∃ xs, RowQ W a len xs := by
  obtain ⟨fuel, hf⟩ := h
  rcases Deep.open_slice Try.underlying48 hf with ⟨hcs, _⟩ | ⟨ad, l, c, m, n, D, Pl, hcs, _, hl, hm, hmm, _, hx⟩
  · simp [Value.cells] at hcs
    obtain ⟨rfl, rfl, rfl⟩ := hcs
    exact ⟨[], rfl, Nat.zero_le _, .inl rfl⟩
  · simp [Value.cells] at hcs
    obtain ⟨rfl, rfl, rfl⟩ := hcs
    simp at hmm
    subst hmm
    have each : ∀ i, i < len → ∃ x : Pu, W.cell? (ad.add (i * 3)) = some (.int .i64 x.q) ∧ W.cell? (ad.add (i * 3 + 1)) = some (.string x.k) ∧ W.cell? (ad.add (i * 3 + 2)) = some (.string x.i) := by
      intro i hi
      obtain ⟨cs', h1, h2⟩ := hx i (by omega)
      rw [cells57] at h1
      obtain ⟨_, hlen, hcell⟩ := World.cells?_some h1
      obtain ⟨x, rfl⟩ := oneq_of hlen h2
      have c0 := hcell 0 (by omega)
      have c1 := hcell 1 (by omega)
      have c2 := hcell 2 (by omega)
      rw [Deep.add_add] at c0 c1 c2
      exact ⟨x, by simpa using c0, by simpa using c1, by simpa using c2⟩
    by_cases h0 : len = 0
    · subst h0
      exact ⟨[], rfl, Nat.zero_le _, .inl rfl⟩
    obtain ⟨b, off, spot⟩ := ad
    obtain ⟨x0, hx0, _⟩ := each 0 (by omega)
    have hspot : spot = none := by simpa [Addr.add] using World.cell?_spot hx0
    subst hspot
    have hbl : b < W.heap.size := by simpa [add_pl] using World.block_lt_of_cell? W _ hx0
    obtain ⟨X, hX⟩ : ∃ X : Nat → Pu, ∀ i, i < len → W.cell? ((⟨b, off, none⟩ : Addr).add (i * 3)) = some (.int .i64 (X i).q) ∧ W.cell? ((⟨b, off, none⟩ : Addr).add (i * 3 + 1)) = some (.string (X i).k) ∧ W.cell? ((⟨b, off, none⟩ : Addr).add (i * 3 + 2)) = some (.string (X i).i) := by
      refine ⟨fun i => if hi : i < len then Classical.choose (each i hi) else x0, fun i hi => ?_⟩
      simp only [dif_pos hi]
      exact Classical.choose_spec (each i hi)
    refine ⟨(List.range len).map X, by simp, by omega, .inr ⟨b, off, rfl, hbl, fun i hi => ?_⟩⟩
    have hi' : i < len := by simpa using hi
    obtain ⟨g1, g2, g3⟩ := hX i hi'
    rw [add_pl] at g1 g2 g3
    simp only [List.getElem_map, List.getElem_range]
    exact ⟨g1, by rw [Nat.add_assoc]; exact g2, by rw [Nat.add_assoc]; exact g3⟩
end Go.Proofs.Ytjcddeoihjppaaa
namespace Go.Proofs.Ytjcddeoihjppaaa
open Go.ChangeShapes Go.WideShapes Go.ChangeAt Go.RowKit

set_option maxRecDepth 100000 in
theorem apart_lifted (os : Os) (started : os.Started) (H : Type) (enc : TypeId × Value → H) :
    ReturnsInHanded {} Try.checked os 5 .any (Rows.treesApartSpec.pre6 enc Try.prog Try.f5 Rows.treesApartRow.domain false) (Rows.treesApartSpec.post enc Try.prog Try.f5 false true false false) := by
  refine returnsInHanded_of_change (C := Try.checked) Try.own started (by kernel_rfl) Try.func5
    (ChangeSpec.witness6 (enc := enc) (C := Try.checked) false ⟨#[], #[.slice none 0 0, .slice none 0 0], []⟩ 8 (by kernel_rfl) (by kernel_rfl) (by kernel_rfl) (by kernel_rfl)) ?_
  intro W base args ds gs before hval0 hW hcnd _
  have hval : ∀ (j : Nat) t v, Try.f5.params[j]? = some t → args[j]? = some v → Value.okWide Try.prog W .any base t v := hval0
  have hW' := hW
  obtain ⟨p, q, hA0, hV, rfl, hfz, hnd⟩ := hW
  have hA : DataW.TrodAll enc Try.prog W 0 (fun _ => true) true Try.f5.params.toList args.toList ds p := hA0
  rw [Try.params5] at hA hval
  obtain ⟨v0, v1, d0, d1, p0, p1, rfl, rfl, rfl, h0, h1⟩ := trodAll_two hA
  obtain ⟨rfl, rfl⟩ := trodVars_none hV
  obtain ⟨a0, len0, cap0, rfl⟩ := okWide_slice Try.underlying48 (hval 0 48 v0 rfl rfl)
  obtain ⟨a1, len1, cap1, rfl⟩ := okWide_slice Try.underlying48 (hval 1 48 v1 rfl rfl)
  have lt0 : ∀ x ∈ p0, x.block < W.heap.size := by obtain ⟨m, hm⟩ := h0; exact DataW.trod_lt m _ _ _ hm
  have lt1 : ∀ x ∈ p1, x.block < W.heap.size := by obtain ⟨m, hm⟩ := h1; exact DataW.trod_lt m _ _ _ hm
  obtain ⟨xs, r0⟩ := rowq_of h0
  obtain ⟨ys, r1⟩ := rowq_of h1
  clear hA0 hval0
  refine (apart_walk a0 len0 cap0 xs a1 len1 cap1 ys W r0 r1).mono fun e W' ⟨he, bel⟩ => ?_
  subst he
  exact ⟨_, rfl, _, _, _, [], _, [], hW', trodAll_mk1 (shut_bool Try.underlying4 _), (trodAll_mk2 (Below.trod Try.laidOut (by kernel_rfl) (of_decide_eq_true (by kernel_rfl)) h0 bel lt0) (Below.trod Try.laidOut (by kernel_rfl) (of_decide_eq_true (by kernel_rfl)) h1 bel lt1)), rfl, bel.frame _, fun h => by cases h⟩

theorem apart_holds : Rows.TreesApartSaid :=
  OpenClaim.holds_of_wide 5 Try.f5 rfl rfl rfl rfl rfl rfl rfl ⟨rfl, rfl, rfl, rfl, rfl⟩ rfl rfl rfl rfl rfl (by kernel_rfl) Try.func5 (by kernel_rfl)
    (of_decide_eq_true (by kernel_rfl)) (by unfold Func.isWrapper; first | (rw [if_pos (by decide +kernel)]; kernel_rfl) | (rw [if_neg (by decide +kernel)]; exact ⟨rfl, rfl⟩))
    (fun os started H enc _ => apart_lifted os started H enc)
#print axioms apart_holds
end Go.Proofs.Ytjcddeoihjppaaa
