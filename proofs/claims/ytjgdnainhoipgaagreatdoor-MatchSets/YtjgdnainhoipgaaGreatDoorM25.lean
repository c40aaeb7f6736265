/- Texts of the proof of MatchSets: Tpd, Tps, Tla, Dwk, Tlb, Tgr, Tle, Tl0, Fva, Fst, Shc. -/
import Derived.Test.YtjgdnainhoipgaaGreatDoorM24
import Derived.Shelf.Strings.Prefix
import Derived.Deep.LoopGhost
import Derived.Lib.Bytealg
import Derived.Lib.IndexMore
import Derived.Shelf.Strings.Builder1
import Derived.Shelf.LaysM
import Derived.Shelf.Strings.Search1
import Derived.Shelf.Strings.Search2
import Derived.Shelf.Strings.Search3
import Derived.Shelf.Strings.Cut
import Derived.Ground.Names2Prog
import Derived.Shelf.Slices.CompactS
import Derived.Test.YtjgdnainhoipgaaGreatDoorProg
namespace Go.Proofs.YtjgdnainhoipgaaGreatDoor
open Go.RowKit Go.Maps

/-- a pair that may be put -/
theorem bytes_leaf (x : Pr) : x.bytes = leafB [x] := by
  unfold Pr.bytes leafB encL encL
  rw [List.append_nil]
/-- what Put and Drop tell -/
def SetTo (bp bd bm N r : Nat) (s : St) (up : Nat → Bool) (cm : Int) (V : Pst) (T : Tr) (key : ByteArray) (nw : List Pr) (w : World) (e : Ending) (w' : World) : Prop :=
  ∃ A mid C, ChgR T key A mid C ∧ ChgTo bp bd bm N r s up cm V T A nw C w e w'
theorem Var6.six {B : Nat} {a b c d e f : Value} {w : World} (h : Var6 B [a, b, c, d, e, f] w) : w.cell? ⟨B, 0, none⟩ = some a ∧ w.cell? ⟨B, 1, none⟩ = some b ∧ w.cell? ⟨B, 2, none⟩ = some c ∧ w.cell? ⟨B, 3, none⟩ = some d ∧ w.cell? ⟨B, 4, none⟩ = some e ∧ w.cell? ⟨B, 5, none⟩ = some f :=
  ⟨h.cell 0 (by simp), h.cell 1 (by simp), h.cell 2 (by simp), h.cell 3 (by simp), h.cell 4 (by simp), h.cell 5 (by simp)⟩
section
variable {bt bp bd bm N r : Nat} {s : St} {up : Nat → Bool} {cm : Int} {V : Pst} {w : World}
theorem ChgTo.from {T : Tr} {A nw C : List Pr} {w0 w : World} {e : Ending} {w' : World} (h : ChgTo bp bd bm N r s up cm V T A nw C w e w') (hb : Below w0.heap.size w0 w) : ChgTo bp bd bm N r s up cm V T A nw C w0 e w' := by
  rcases h with ⟨h1, h2, h3⟩ | ⟨h1, h2, V', N', T', h3, h4, h5, h6, h7⟩
  · exact .inl ⟨h1, h2, hb.trans (h3.mono hb.size)⟩
  · exact .inr ⟨h1, h2, V', N', T', h3, h4, h5, h6, (below_only hb _).trans h7 (fun _ e => .inl e)⟩
theorem ChgTo.block {T : Tr} {A nw C : List Pr} {w : World} {e : Ending} {w' : World} (h : ChgTo bp bd bm N r s up cm V T A nw C w e w') {B : Nat} (hB : B < w.heap.size) (h1 : B ≠ bp) (h2 : B ≠ bm) : w'.heap[B]? = w.heap[B]? := by
  rcases h with ⟨_, _, h3⟩ | ⟨_, _, V', N', T', _, _, _, _, h7⟩
  · exact h3.block B hB
  · exact h7.block B hB (fun e => by rcases e with e | e; exact h1 e; exact h2 e)
theorem ChgTo.ret {T : Tr} {A nw C : List Pr} {w : World} {e : Ending} {w' : World} (h : ChgTo bp bd bm N r s up cm V T A nw C w e w') : ∃ u, e = .returned u := by
  rcases h with ⟨_, h2, _⟩ | ⟨_, h2, _⟩
  · exact ⟨_, h2⟩
  · exact ⟨_, h2⟩
theorem SpotR.inLs {T : Tr} {key txt : ByteArray} {l a b : Nat} (h : SpotR T key l txt a b) : l < T.Ls.length ∨ (T.Ls = [] ∧ l = 0) := by
  rcases h with ⟨h1, h2, _⟩ | h
  · exact .inr ⟨h1, h2⟩
  · exact .inl h.lt
set_option maxRecDepth 100000 in
set_option maxHeartbeats 1000000 in
theorem put_any (hT : Tt bt bp r w) (h : Tw bp bd bm N s up cm V w) (hne : bt ≠ bp ∧ bt ≠ bm) {T : Tr} (hA : TrAt V r T) (x : Pr) (hx : x.Ok) (hcnt : countU V.used 2000 + 30 < 1999) (hN : N + 60 < 1000000) :
    Calls Tryz.prog 39 #[.pointer (some ⟨bt, 0, none⟩), .string x.k, .string x.i] w fun e w' => SetTo bp bd bm N r s up cm V T x.k [x] w e w' := by
  obtain ⟨key, item⟩ := x
  obtain ⟨hx1, hx2, hx3⟩ := hx
  simp only at hx1 hx2 hx3 ⊢
  have HA : Hid _ := hA
  have HT : Hid _ := hT
  have HW : Hid _ := h
  have hlt := h.lt
  have hltt := hT.lt
  have i1 : ¬ (60 : Int) < (key.size : Int) := by omega
  have i2 : ¬ (100 : Int) < (item.size : Int) := by omega
  have i3 : ¬ key.toList = [] := fun e => by
    rw [ByteArray.toList_eq] at e
    have := congrArg List.length e
    rw [Array.length_toList] at this
    exact absurd this (by show key.size ≠ 0; omega)
  have i4 : key.toList.isEmpty = false := by
    cases e : key.toList with
    | nil => exact absurd e i3
    | cons a b => rfl
  clear hA hT h
  go_enter Tryz.func39, Tryz.ntmps39
  go_wp2_with fail
  refine (seek_any HT.out HW.out HA.out key).mono ?_
  rintro _ w1 ⟨v, l, txt, a, b, rfl, hs, hv1, hb1⟩
  obtain ⟨a9, cap9, hv9, _⟩ := hv1.is
  generalize hn9 : (ints T.ks).length = n9 at hv9
  subst hv9
  have HS : Hid (SpotR T key l txt a b) := hs
  have HV1 : Hid (View w.heap.size (.slice a9 n9 cap9) (ints T.ks) w1) := hv1
  have HB1 : Hid (Below w.heap.size w w1) := hb1
  obtain ⟨W2, hW2⟩ : ∃ W2, w1.alloc (.cells #[.int .i64 (T.top : Nat), .slice a9 n9 cap9, .int .i64 (l : Nat), .string txt, .int .i64 (a : Nat), .int .i64 (b : Nat)] 132) = W2 := ⟨_, rfl⟩
  have hb2 : Below w1.heap.size w1 W2 := by rw [← hW2]; exact (Below.refl _ w1).alloc (Nat.le_refl _) _
  have HV6 : Hid (Var6 w1.heap.size [.int .i64 (T.top : Nat), .slice a9 n9 cap9, .int .i64 (l : Nat), .string txt, .int .i64 (a : Nat), .int .i64 (b : Nat)] W2.drew) := by rw [← hW2]; exact (Var6.new6 w1 _ _ _ _ _ _ 132).below (Below.refl _ _).drew
  have HB2 : Hid (Below w.heap.size w W2.drew) := (hb1.trans (hb2.mono hb1.size)).drew
  have HBX : Hid (Below w1.heap.size w1 W2.drew) := hb2.drew
  clear hs hv1 hb1 hb2 hn9 i3 i4
  go_wp2_with fail
  go_region_held3 (fun wx => wx.cell? ⟨w1.heap.size, 0, none⟩ = some (.int .i64 (T.top : Nat)) ∧ wx.cell? ⟨w1.heap.size, 1, none⟩ = some (.slice a9 n9 cap9) ∧ wx.cell? ⟨w1.heap.size, 2, none⟩ = some (.int .i64 (l : Nat)) ∧ wx.cell? ⟨w1.heap.size, 3, none⟩ = some (.string txt) ∧ wx.cell? ⟨w1.heap.size, 4, none⟩ = some (.int .i64 (a : Nat)) ∧ wx.cell? ⟨w1.heap.size, 5, none⟩ = some (.int .i64 (b : Nat))) (first | exact HV6.out.six | exact HV63.out.six | exact HV64.out.six) (first | (go_at_call 67; refine (writePair_any ⟨key, item⟩ ⟨hx1, hx2, hx3⟩ _).mono ?_; rintro _ w3 ⟨rfl, hb3⟩; rw [bytes_leaf]; have HB3 : Hid (Below W2.drew.heap.size W2.drew w3) := hb3; have HV63 : Hid (Var6 w1.heap.size [.int .i64 (T.top : Nat), .slice a9 n9 cap9, .int .i64 (l : Nat), .string txt, .int .i64 (a : Nat), .int .i64 (b : Nat)] w3) := HV6.out.below hb3; clear hb3) | (go_at_call 66; obtain ⟨A, mid, C, hsa⟩ := SpotR.all HS.out HA.out.ok; have HBW : Hid (Below w.heap.size w w3) := HB2.out.trans (HB3.out.mono HB2.out.size); have HB13 : Hid (Below w1.heap.size w1 w3) := HBX.out.trans (HB3.out.mono HBX.out.size); refine (change_any (HT.out.below HBW.out) (HW.out.below HBW.out) hne HA.out (HV1.out.below HB13.out) ⟨by omega, by omega⟩ hsa (SpotR.inLs HS.out) (.inr ⟨_, rfl, rfl⟩) (fun y hy => by obtain rfl := List.mem_singleton.1 hy; exact ⟨hx1, hx2, hx3⟩) hcnt hN).mono ?_; rintro e4 w4 hc4; have HC4 : Hid (ChgTo bp bd bm N r s up cm V T A [⟨key, item⟩] C w e4 w4) := hc4.from HBW.out; have HV64 : Hid (Var6 w1.heap.size [.int .i64 (T.top : Nat), .slice a9 n9 cap9, .int .i64 (l : Nat), .string txt, .int .i64 (a : Nat), .int .i64 (b : Nat)] w4) := HV63.out.block (hc4.block (by have := HV63.out.lt; omega) (by have := HB1.out.size; omega) (by have := HB1.out.size; omega)); have HCR : Hid _ := hsa.chg; obtain ⟨u4, he4⟩ := hc4.ret; subst he4; clear hc4 hsa))
  go_wp2
  go_ret
  exact ⟨A, mid, C, HCR.out, HC4.out⟩
end
end Go.Proofs.YtjgdnainhoipgaaGreatDoor
namespace Go.Proofs.YtjgdnainhoipgaaGreatDoor
open Go.RowKit Go.Maps

theorem size64 : (sizeOf 142).run Tryz.prog = fun w => .ok 2 w := by funext w; simp [Tryz.sizeOf142]
theorem elem60 : Tryz.prog.elem 138 = 142 := by kernel_rfl
theorem index_two {t e : TypeId} (ht : Tryz.prog.underlying t = some (.slice e)) (he : Tryz.prog.elem t = e) (hs : (sizeOf e).run Tryz.prog = fun w => .ok 2 w) (g n cap i : Nat) (hi : i < n) (wx : World) : (Instr.indexAt t (.slice (some ⟨g, 0, none⟩) n cap) (.int .i64 (i : Nat))).run Tryz.prog wx = .ok (.pointer (some ⟨g, 2 * i, none⟩)) wx := by
  subst he
  rw [run_indexAt_slice (h := ht), if_pos ⟨by omega, by omega⟩, hs]
  simp [Result.andThen, add_pl, Nat.mul_comm]
/-- a pair in a row -/
theorem PRow.at {B : Nat} {v : Value} {ps : List Pr} {w : World} (h : PRow B v ps w) {i : Nat} (hi : i < ps.length) : ∃ g, B ≤ g ∧ w.cell? ⟨g, 2 * i, none⟩ = some (.string ps[i].k) ∧ w.cell? ⟨g, 2 * i + 1, none⟩ = some (.string ps[i].i) ∧
    ∀ wx, (Instr.indexAt 138 v (.int .i64 (i : Nat))).run Tryz.prog wx = .ok (.pointer (some ⟨g, 2 * i, none⟩)) wx := by
  obtain ⟨g, cap, rfl, h1, h2⟩ := World.ownsRow.form h (by omega)
  have hfl : ∀ (l : List Pr) (i : Nat) (hi : i < l.length), (l.flatMap pairC)[2 * i]? = some (.string l[i].k) ∧ (l.flatMap pairC)[2 * i + 1]? = some (.string l[i].i) := by
    intro l
    induction l with
    | nil => intro i hi; simp at hi
    | cons x r ih =>
      intro i hi
      cases i with
      | zero => exact ⟨rfl, rfl⟩
      | succ i =>
        have := ih i (by simpa using hi)
        rw [List.flatMap_cons]
        show ([_, _] ++ _)[2 * (i + 1)]? = _ ∧ ([_, _] ++ _)[2 * (i + 1) + 1]? = _
        rw [show 2 * (i + 1) = (2 * i) + 1 + 1 by omega]
        exact this
  have h3 := hfl ps i hi
  refine ⟨g, h1, ?_, ?_, fun wx => ?_⟩
  · have := h.cells (g := g) rfl (2 * i) _ h3.1
    rwa [add_pl, Nat.zero_add] at this
  · have := h.cells (g := g) rfl (2 * i + 1) _ h3.2
    rwa [add_pl, Nat.zero_add] at this
  · exact index_two Tryz.underlying138 elem60 size64 g ps.length cap i hi wx
section
variable {bt bp bd bm N r : Nat} {s : St} {up : Nat → Bool} {cm : Int} {V : Pst} {w : World}
end
end Go.Proofs.YtjgdnainhoipgaaGreatDoor
namespace Go.Proofs.YtjgdnainhoipgaaGreatDoor
open Go.RowKit Go.Maps

section
variable {V V' V'' : Pst} {r : Nat} {T T' T'' : Tr}
theorem TrAt.used_pg (h : TrAt V r T) : ∀ k ∈ T.pgL, V.used k = true ∧ 0 < k ∧ k < 2000 := fun k hk => by
  unfold Tr.pgL at hk
  rcases List.mem_append.1 hk with hk | hk
  · by_cases h0 : T.top = 0
    · rw [if_pos h0] at hk; simp at hk
    · rw [if_neg h0] at hk
      obtain rfl := List.mem_singleton.1 hk
      have := h.ltop h0
      exact ⟨this.2.1, by omega, this.1⟩
  · have := h.low k hk
    exact ⟨this.2.2, this.1, this.2.1⟩
theorem TrAt.pg_nodup (h : TrAt V r T) : T.pgL.Nodup := by
  unfold Tr.pgL
  by_cases h0 : T.top = 0
  · rw [if_pos h0]; exact h.nodup
  · rw [if_neg h0, List.singleton_append, List.nodup_cons]
    exact ⟨(h.ltop h0).2.2.2, h.nodup⟩
theorem TrAt.pg_len (h : TrAt V r T) : T.pgL.length = T.pages := by
  unfold Tr.pgL Tr.pages
  rw [List.length_append, h.len]
  by_cases h0 : T.top = 0
  · rw [if_pos h0, if_pos (h.top0.1 h0)]; simp
  · rw [if_neg h0, if_neg (fun e => h0 (h.top0.2 e))]
    show 1 + _ = _
    omega
theorem TrAt.pages_le (h : TrAt V r T) : T.pages ≤ 60 := by
  have := h.ok.len
  unfold Tr.pages
  split <;> omega
/-- what does not touch a tree's pages leaves it as it is -/
theorem TrAt.keep (h : TrAt V r T) (hu : ∀ k ∈ T.pgL, V'.used k = true ∧ V'.tx k = V.tx k) (hrp : V'.rp r = V.rp r) (hrn : V'.rn r = V.rn r) : TrAt V' r T := by
  have hk : ∀ k ∈ T.ks, k ∈ T.pgL := fun k hk => List.mem_append.2 (.inr hk)
  refine ⟨h.len, h.ok, by rw [hrn]; exact h.rn, by rw [hrp]; exact h.rp, h.top0, fun h0 => ?_, fun k hkk => ?_, fun i hi hl => ?_, h.nodup⟩
  · have hm : T.top ∈ T.pgL := List.mem_append.2 (.inl (by rw [if_neg h0]; simp))
    obtain ⟨h1, h2, h3, h4⟩ := h.ltop h0
    exact ⟨h1, (hu _ hm).1, by rw [(hu _ hm).2]; exact h3, h4⟩
  · have := h.low k hkk
    exact ⟨this.1, this.2.1, (hu k (hk k hkk)).1⟩
  · rw [(hu _ (hk _ (List.getElem_mem hi))).2]
    exact h.page i hi hl
theorem LayR.refl (h : TrAt V r T) : LayR V V r T T := by
  refine ⟨h, fun k => ?_, fun k hk => .inl hk, fun _ _ _ => rfl, fun _ _ => rfl, fun _ _ => rfl⟩
  by_cases e : k ∈ T.pgL
  · simp [e, (h.used_pg k e).1]
  · simp [e]
theorem LayR.trans (h : LayR V V' r T T') (k : LayR V' V'' r T' T'') : LayR V V'' r T T'' := by
  have hn : ∀ i, V.used i = true → i ∉ T.pgL → i ∉ T'.pgL := fun i hu hi e => by
    rcases h.new i e with h1 | h1
    · exact hi h1
    · rw [hu] at h1; cases h1
  refine ⟨k.at_, fun i => ?_, fun i hi => ?_, fun i hu hi => ?_, fun i hi => (k.rp i hi).trans (h.rp i hi), fun i hi => (k.rn i hi).trans (h.rn i hi)⟩
  · rw [k.used i, h.used i]
    constructor
    · rintro (⟨h1 | h1, h2⟩ | h1)
      · exact .inl h1
      · exact absurd h1 h2
      · exact .inr h1
    · rintro (h1 | h1)
      · exact .inl ⟨.inl h1, hn i h1.1 h1.2⟩
      · exact .inr h1
  · rcases k.new i hi with h1 | h1
    · exact h.new i h1
    · by_cases e : i ∈ T.pgL
      · exact .inl e
      · refine .inr ?_
        cases hq : V.used i
        · rfl
        · have := (h.used i).2 (.inl ⟨hq, e⟩)
          rw [h1] at this; cases this
  · have h1 := hn i hu hi
    rw [k.tx i ((h.used i).2 (.inl ⟨hu, hi⟩)) h1, h.tx i hu hi]
/-- how many pages are in use at most -/
theorem countU_union {f g : Nat → Bool} {n : Nat} : ∀ (L : List Nat), (∀ k, f k = true → g k = true ∨ k ∈ L) → countU f n ≤ countU g n + L.length := by
  intro L
  induction L generalizing g with
  | nil =>
    intro h
    have : ∀ n, countU f n ≤ countU g n := by
      intro n
      induction n with
      | zero => exact Nat.le_refl _
      | succ n ih =>
        rw [countU, countU]
        cases e : f n
        · simp only [Bool.false_eq_true, if_false]; omega
        · rcases h n e with h1 | h1
          · rw [h1]; omega
          · simp at h1
    exact this n
  | cons x L ih =>
    intro h
    have h1 := ih (g := fun i => if i = x then true else g i) (fun k hk => by
      show (if k = x then true else g k) = true ∨ _
      by_cases e : k = x
      · rw [if_pos e]; exact .inl rfl
      · rw [if_neg e]
        rcases h k hk with h2 | h2
        · exact .inl h2
        · rcases List.mem_cons.1 h2 with h3 | h3
          · exact absurd h3 e
          · exact .inr h3)
    have h2 := countU_put g x n
    rw [List.length_cons]
    omega
theorem LayR.count (h : LayR V V' r T T') : countU V'.used 2000 ≤ countU V.used 2000 + 60 := by
  have h1 := countU_union (f := V'.used) (g := V.used) (n := 2000) T'.pgL (fun k hk => by
    rcases (h.used k).1 hk with h1 | h1
    · exact .inl h1.1
    · exact .inr h1)
  have h2 := h.at_.pg_len
  have h3 := h.at_.pages_le
  omega
end
/-- a pager's pages as the tree sees them -/
def Pg.pst (p : Pg) (pg : Nat → ByteArray) : Pst := ⟨p.used, p.text pg, p.rp, p.rn⟩
theorem Match.self (p : Pg) (pg : Nat → ByteArray) : Match p pg (p.pst pg) := ⟨rfl, fun _ _ _ => rfl, fun _ _ => rfl, fun _ _ => rfl⟩
def sd0 : St := ⟨fun _ => zeros, false, 0, 0⟩
theorem zeros_at (k : Nat) : zeros.data.toList.getD k 0 = 0 := by
  have h : zeros.data.toList = List.replicate 1024 0 := by
    unfold zeros
    simp
  rw [h, List.getD_eq_getElem?_getD, List.getElem?_replicate]
  split <;> rfl
theorem sd0_head : headOf sd0.pg = zeros := rfl
theorem sd0_used (c : Int) (d : Bool) (k : Nat) : (loaded sd0.pg c d).used k = false := by
  show usedOf (headOf sd0.pg) k = false
  rw [sd0_head]
  unfold usedOf bitOf
  rw [zeros_at]
  simp
theorem num_zeros (i : Nat) : numOf zeros i = 0 := by
  unfold numOf
  rw [zeros_at, zeros_at]
  rfl
/-- an empty tree -/
def Tr.none : Tr := ⟨0, [], []⟩
theorem empty_at {V : Pst} {r : Nat} (h1 : V.rp r = 0) (h2 : V.rn r = 0) : TrAt V r Tr.none :=
  ⟨rfl, ⟨by simp [Tr.none], by simp [Tr.none], by simp [Tr.none], fun i hi => absurd hi (by simp [Tr.none]), Nat.zero_le _, List.Pairwise.nil⟩, h2, h1, ⟨fun _ => by simp [Tr.none], fun _ => rfl⟩, fun h => absurd rfl h, by simp [Tr.none], fun i hi => absurd hi (by simp [Tr.none]), List.nodup_nil⟩
section
variable {bp bd bm N : Nat} {s : St} {up : Nat → Bool} {cm : Int} {V : Pst} {w : World}
/-- a new disk's pager -/
theorem open_new (w : World) : Calls Tryz.prog 10 #[.pointer (some ⟨w.heap.size, 0, none⟩)] (w.alloc (.cells Tryz.zeroCells45 45)) fun e w' => ∃ bp bm up V, e = .returned (.tuple #[.pointer (some ⟨bp, 0, none⟩), .nilIface]) ∧ w.heap.size < bp ∧ w.heap.size < bm ∧ bp ≠ bm ∧ Tw bp w.heap.size bm 0 sd0 up 1 V w' ∧ (∀ k, V.used k = false) ∧ (∀ i, i < 8 → TrAt V i Tr.none) ∧ Below w.heap.size w w' := by
  refine (open_any (disk_new w)).mono ?_
  rintro _ w1 ⟨bp, bm, rfl, h1, h2, h3, h4, h5⟩
  rw [World.size_alloc] at h1 h2
  refine ⟨bp, bm, _, (loaded sd0.pg 1 false).pst sd0.pg, rfl, h1, h2, fun e => h3.ne e.symm, ⟨⟨_, h3, loaded_ok _ _ _, rfl, rfl, rfl, Match.self _ _⟩, h4⟩, fun k => sd0_used 1 false k, fun i hi => empty_at ?_ ?_, ((Below.refl _ w).alloc (Nat.le_refl _) _).trans (h5.mono (by simp))⟩
  · exact num_zeros _
  · exact num_zeros _
end
end Go.Proofs.YtjgdnainhoipgaaGreatDoor
namespace Go.Proofs.YtjgdnainhoipgaaGreatDoor
open Go.RowKit Go.Maps

section
variable {bt bp bd bm N r : Nat} {s : St} {up : Nat → Bool} {cm : Int} {V : Pst}
/-- a key begins so -/
def pfx (s : ByteArray) (_ : Nat) (key : ByteArray) : Bool := Lib.hasPrefix key.data.toList s.data.toList
theorem hasPrefix_any (a b : ByteArray) (w : World) : Calls Tryz.prog 99 #[.string a, .string b] w fun e w' => e = .returned (.bool (Lib.hasPrefix a.data.toList b.data.toList)) ∧ w' = w := Go.Proofs.Any.strings_HasPrefix Tryz.lays99 a b w
set_option maxRecDepth 100000 in
theorem prefix_cl {B : Nat} {s : ByteArray} (w : World) (h : Own1 B (.string s) w) (key : ByteArray) (k : Nat) :
    Calls Tryz.prog 98 #[.string key, .pointer (some ⟨B, 0, none⟩)] w fun e w' => e = .returned (.bool (pfx s k key)) ∧ w' = w := by
  have c0 := h.cell
  clear h
  go_enter Tryz.func98, Tryz.ntmps98
  go_wp2_with fail
  refine (hasPrefix_any key s w).mono ?_
  rintro _ w9 ⟨rfl, h9⟩
  obtain rfl := h9.symm
  clear h9
  go_wp2
  go_ret
  exact ⟨rfl, rfl⟩
set_option maxRecDepth 100000 in
theorem prefix_any (w : World) (hT : Tt bt bp r w) (h : Tw bp bd bm N s up cm V w) {T : Tr} (hA : TrAt V r T) (from_ : ByteArray) :
    Calls Tryz.prog 61 #[.pointer (some ⟨bt, 0, none⟩), .string from_] w fun e w' => ∃ v, e = .returned (.tuple #[v, .nilIface]) ∧ PRow w.heap.size v (walkL (pfx from_) from_ 0 T.all) w' ∧ Below w.heap.size w w' := by
  have HA : Hid _ := hA
  have hB0 : Below w.heap.size w (w.alloc (.cells #[.string from_] 9)) := (Below.refl _ w).alloc (Nat.le_refl _) _
  have HT0 : Hid _ := hT.below hB0
  have HW0 : Hid _ := h.below hB0
  have HB0 : Hid (Below w.heap.size w (w.alloc (.cells #[.string from_] 9))) := hB0
  have hmf : ∀ (fn : Fn) (first cap : Array Value) (w : World), (Instr.makeFunc fn first cap).run Tryz.prog w = .ok (.func fn first cap) w := fun _ _ _ _ => rfl
  have HO1 : Hid (Own1 w.heap.size (.string from_) (w.alloc (.cells #[.string from_] 9))) := Own1.new w (.string from_) 9
  have hltt := hT.lt
  have hltw := h.lt
  have q0 := (Own1.new w (.string from_) 9).cell
  clear hA hT h hB0
  go_enter Tryz.func61, Tryz.ntmps61
  go_wp2_with fail
  refine (collect_any (wnt := pfx from_) (I := fun _ wx => Own1 w.heap.size (.string from_) wx) (W := fun _ => False) _ HT0.out HW0.out HA.out from_ (fun b hb => hb.elim) (enters_of Tryz.func98 (by kernel_rfl) rfl)
    HO1.out (fun k wx wy hh ho => hh.only ho (by simp only [World.size_alloc]; omega)) (fun k key wx hk hh => ?_)).mono ?_
  · refine (prefix_cl wx hh key k).mono ?_
    rintro _ w' ⟨rfl, rfl⟩
    exact ⟨rfl, hh, Only.refl _ _⟩
  rintro _ w2 ⟨v, rfl, hR, hO⟩
  have HR2 : Hid (PRow w.heap.size v (walkL (pfx from_) from_ 0 T.all) w2) := row_base hR (by simp)
  have HB2 : Hid (Below w.heap.size w w2) := Only.below HB0.out hO (by simp) (fun i hi => hi.elim)
  clear hR hO
  go_wp2
  go_ret2
  exact ⟨_, rfl, HR2.out, HB2.out⟩
end
end Go.Proofs.YtjgdnainhoipgaaGreatDoor
namespace Go.Proofs.YtjgdnainhoipgaaGreatDoor
open Go.RowKit Go.Maps

/-- a put, or a drop -/
structure Pu where
  q : Int
  k : ByteArray
  i : ByteArray
/-- what a put or a drop comes to -/
def StepTo (bp bd bm N D r : Nat) (s : St) (up : Nat → Bool) (cm : Int) (V : Pst) (T : Tr) (w w' : World) : Prop :=
  ∃ V' N' T', LayR V V' r T T' ∧ Tw bp bd bm N' s up cm V' w' ∧ N' ≤ N + D ∧ Only (fun b => b = bp ∨ b = bm) w w'
section
variable {bt bp bd bm N D r : Nat} {s : St} {up : Nat → Bool} {cm : Int} {V : Pst} {w : World} {T : Tr}
theorem StepTo.same {w' : World} (h : Tw bp bd bm N s up cm V w) (hA : TrAt V r T) (hb : Below w.heap.size w w') : StepTo bp bd bm N D r s up cm V T w w' := ⟨V, N, T, LayR.refl hA, h.below hb, by omega, below_only hb _⟩
theorem ChgTo.step {A nw C : List Pr} {e : Ending} {w' : World} (hc : ChgTo bp bd bm N r s up cm V T A nw C w e w') (h : Tw bp bd bm N s up cm V w) (hA : TrAt V r T) : StepTo bp bd bm N 40 r s up cm V T w w' := by
  rcases hc with ⟨_, _, h3⟩ | ⟨_, _, V', N', T', _, h4, h5, h6, h7⟩
  · exact StepTo.same h hA h3
  · exact ⟨V', N', T', h4, h5, h6, h7⟩
end
end Go.Proofs.YtjgdnainhoipgaaGreatDoor
namespace Go.Proofs.YtjgdnainhoipgaaGreatDoor
open Go.RowKit Go.Maps

/-- no pages but a tree's are in use -/
def Sole (V : Pst) (T : Tr) : Prop := ∀ k, V.used k = true ↔ k ∈ T.pgL
section
variable {V V' : Pst} {r : Nat} {T T' : Tr}
theorem Sole.lay (h : Sole V T) (hl : LayR V V' r T T') : Sole V' T' := fun k => by
  rw [hl.used k]
  constructor
  · rintro (⟨h1, h2⟩ | h1)
    · exact absurd ((h k).1 h1) h2
    · exact h1
  · exact fun h1 => .inr h1
theorem Sole.count (h : Sole V T) (hA : TrAt V r T) : countU V.used 2000 = T.pages := by
  rw [countU_list hA.pg_nodup (fun k hk => (hA.used_pg k hk).2.2) (fun k _ => h k), hA.pg_len]
theorem Sole.none (h : ∀ k, V.used k = false) : Sole V Tr.none := fun k => by
  rw [h k]
  simp [Tr.none, Tr.pgL]
theorem TrAt.none_of (h : TrAt V r T) (ha : T.all = []) : T.Ls = [] := by
  cases e : T.Ls with
  | nil => rfl
  | cons L R =>
    exfalso
    have hne := h.ok.ne L (by rw [e]; simp)
    unfold Tr.all at ha
    rw [e, List.flatten_cons] at ha
    exact hne (List.append_eq_nil_iff.1 ha).1
end
end Go.Proofs.YtjgdnainhoipgaaGreatDoor
namespace Go.Proofs.YtjgdnainhoipgaaGreatDoor
open Go.RowKit Go.Maps

section
variable {bt bp bd bm N D r : Nat} {s : St} {up : Nat → Bool} {cm : Int} {V : Pst} {w : World} {T : Tr}
end
end Go.Proofs.YtjgdnainhoipgaaGreatDoor
namespace Go.Proofs.YtjgdnainhoipgaaGreatDoor
open Go.RowKit Go.Maps

structure Sol (bt bp bd bm N : Nat) (up : Nat → Bool) (V : Pst) (T : Tr) (w0 w : World) : Prop where
  t : Tt bt bp 1 w
  tw : Tw bp bd bm N sd0 up 1 V w
  a : TrAt V 1 T
  so : Sole V T
  b0 : Below w0.heap.size w0 w
  lp : w0.heap.size ≤ bp
  lm : w0.heap.size ≤ bm
  ne : bt ≠ bp ∧ bt ≠ bm
section
variable {bt bp bd bm N D : Nat} {up : Nat → Bool} {V : Pst} {T : Tr} {w0 w w' : World}
theorem Sol.count (h : Sol bt bp bd bm N up V T w0 w) : countU V.used 2000 ≤ 60 := by
  rw [h.so.count h.a]; exact h.a.pages_le
theorem Sol.below (h : Sol bt bp bd bm N up V T w0 w) (hb : Below w.heap.size w w') : Sol bt bp bd bm N up V T w0 w' :=
  ⟨h.t.below hb, h.tw.below hb, h.a, h.so, h.b0.trans (hb.mono h.b0.size), h.lp, h.lm, h.ne⟩
theorem Sol.lay {V' : Pst} {N' : Nat} {T' : Tr} (h : Sol bt bp bd bm N up V T w0 w) (h1 : LayR V V' 1 T T') (h2 : Tw bp bd bm N' sd0 up 1 V' w') (h4 : Only (fun b => b = bp ∨ b = bm) w w') : Sol bt bp bd bm N' up V' T' w0 w' :=
  ⟨h.t.only h4 (fun e => by rcases e with e | e; exact h.ne.1 e; exact h.ne.2 e), h2, h1.at_, h.so.lay h1, Only.below h.b0 h4 h.b0.size (fun i hi => by rcases hi with hi | hi; rw [hi]; exact h.lp; rw [hi]; exact h.lm), h.lp, h.lm, h.ne⟩
end
end Go.Proofs.YtjgdnainhoipgaaGreatDoor
namespace Go.Proofs.YtjgdnainhoipgaaGreatDoor
open Go.RowKit Go.Maps

theorem str_long (x y : ByteArray) (h : x.size + y.size ≤ 140737488360000) : Op.stringOp .add x y = pure (.string (x ++ y)) := by
  have hn : ¬ (((x.size + y.size : Nat) : Int) > IntKind.i64.max) := by
    have : IntKind.i64.max = 9223372036854775807 := by decide
    omega
  simp only [Op.stringOp, if_neg hn]
theorem size_zero {s : ByteArray} (h : s.size = 0) : s = ⟨#[]⟩ := by
  cases s with
  | mk d => congr; exact Array.eq_empty_of_size_eq_zero h
theorem indexByte_none : ∀ (l : List UInt8) (c : UInt8), (0 ≤ Lib.indexByte l c ↔ c ∈ l) ∧ -1 ≤ Lib.indexByte l c
  | [], c => by simp [Lib.indexByte]
  | b :: l, c => by
    have ih := indexByte_none l c
    unfold Lib.indexByte
    by_cases h : b = c
    · subst h; simp
    · have hb : (b == c) = false := by simpa using h
      rw [hb]
      simp only [Bool.false_eq_true, if_false, beq_iff_eq, List.mem_cons]
      by_cases h1 : Lib.indexByte l c = -1
      · rw [if_pos h1]
        refine ⟨⟨fun h => absurd h (by decide), fun hm => ?_⟩, by decide⟩
        rcases hm with hm | hm
        · exact absurd hm.symm h
        · have := ih.1.2 hm; omega
      · rw [if_neg h1]
        have h2 := ih.2
        refine ⟨⟨fun _ => .inr (ih.1.1 (by omega)), fun _ => by omega⟩, by omega⟩
/-- names in order: so are the keys -/
theorem lt_zero : ∀ (a b : List UInt8), a < b → (0 : UInt8) ∉ b → ∀ x y, a ++ 0 :: x < b ++ 0 :: y
  | [], [], h, _, _, _ => absurd h (List.lt_irrefl _)
  | [], c :: b, _, h0, x, y => by
    simp only [List.nil_append, List.cons_append]
    rw [List.cons_lt_cons_iff]
    refine .inl ?_
    have : c ≠ 0 := fun e => h0 (by rw [e]; simp)
    rw [UInt8.lt_iff_toNat_lt]
    have h2 : c.toNat ≠ 0 := fun e => this (UInt8.toNat_inj.1 (by rw [e]; rfl))
    show (0 : UInt8).toNat < _
    have : (0 : UInt8).toNat = 0 := rfl
    omega
  | a :: al, [], h, _, _, _ => absurd h (List.not_lt_nil _)
  | a :: al, b :: bs, h, h0, x, y => by
    simp only [List.cons_append]
    rw [List.cons_lt_cons_iff] at h ⊢
    rcases h with h | ⟨rfl, h⟩
    · exact .inl h
    · exact .inr ⟨rfl, lt_zero al bs h (fun e => h0 (by simp [e])) x y⟩
theorem append_lt : ∀ (a x y : List UInt8), x < y → a ++ x < a ++ y
  | [], _, _, h => h
  | c :: a, x, y, h => by
    simp only [List.cons_append]
    rw [List.cons_lt_cons_iff]
    exact .inr ⟨rfl, append_lt a x y h⟩
theorem bl_asymm {x y : ByteArray} (h : bl x y = true) : bl y x = false := by
  cases h2 : bl y x
  · rfl
  · have := bl_trans h h2
    rw [bl_irrefl] at this; cases this
/-- two rows in order that have the same -/
theorem sorted_ext : ∀ (a b : List Pr), a.Pairwise (fun a b => bl a.k b.k = true) → b.Pairwise (fun a b => bl a.k b.k = true) → (∀ x, x ∈ a ↔ x ∈ b) → a = b
  | [], [], _, _, _ => rfl
  | [], y :: b, _, _, h => absurd ((h y).2 (by simp)) (by simp)
  | x :: a, [], _, _, h => absurd ((h x).1 (by simp)) (by simp)
  | x :: a, y :: b, ha, hb, h => by
    rw [List.pairwise_cons] at ha hb
    have hxy : x = y := by
      rcases List.mem_cons.1 ((h x).1 (by simp)) with e | h1
      · exact e
      · rcases List.mem_cons.1 ((h y).2 (by simp)) with e | h2
        · exact e.symm
        · have e1 := hb.1 x h1
          have e2 := ha.1 y h2
          rw [bl_asymm e1] at e2; cases e2
    subst hxy
    rw [sorted_ext a b ha.2 hb.2 (fun z => ?_)]
    constructor
    · intro hz
      rcases List.mem_cons.1 ((h z).1 (by simp [hz])) with e | h1
      · have := ha.1 z hz
        rw [e, bl_irrefl] at this; cases this
      · exact h1
    · intro hz
      rcases List.mem_cons.1 ((h z).2 (by simp [hz])) with e | h1
      · have := hb.1 z hz
        rw [e, bl_irrefl] at this; cases this
      · exact h1
theorem prefix_run : ∀ (p a b : List UInt8), ¬ a < p → a < b → p.isPrefixOf b = true → p.isPrefixOf a = true
  | [], a, b, _, _, _ => rfl
  | x :: p, [], b, h1, _, _ => absurd (List.nil_lt_cons x p) h1
  | x :: p, y :: a, [], _, h2, _ => absurd h2 (List.not_lt_nil _)
  | x :: p, y :: a, z :: b, h1, h2, h3 => by
    simp only [List.isPrefixOf, Bool.and_eq_true, beq_iff_eq] at h3 ⊢
    obtain ⟨rfl, h3⟩ := h3
    rw [List.cons_lt_cons_iff] at h1 h2
    rcases h2 with h2 | ⟨rfl, h2⟩
    · exact absurd (.inl h2) h1
    · exact ⟨rfl, prefix_run p a b (fun h => h1 (.inr ⟨rfl, h⟩)) h2 h3⟩
theorem prefix_not_lt : ∀ (p a : List UInt8), p.isPrefixOf a = true → ¬ a < p
  | [], a, _ => List.not_lt_nil _
  | x :: p, [], h => by simp [List.isPrefixOf] at h
  | x :: p, y :: a, h => by
    simp only [List.isPrefixOf, Bool.and_eq_true, beq_iff_eq] at h
    obtain ⟨rfl, h⟩ := h
    rw [List.cons_lt_cons_iff]
    rintro (h1 | ⟨_, h1⟩)
    · exact UInt8.lt_irrefl _ h1
    · exact prefix_not_lt p a h h1
theorem walkP (s : ByteArray) : ∀ (l : List Pr) (k : Nat), l.Pairwise (fun a b => bl a.k b.k = true) → walkL (pfx s) s k l = l.filter (fun x => pfx s 0 x.k)
  | [], k, _ => rfl
  | x :: r, k, h => by
    rw [List.pairwise_cons] at h
    unfold walkL
    rw [List.filter_cons]
    cases hb : bl x.k s
    · cases hp : pfx s k x.k
      · have hp0 : pfx s 0 x.k = false := hp
        rw [hp0]
        have e : List.filter (fun x => pfx s 0 x.k) r = [] := by
          refine List.filter_eq_nil_iff.2 fun y hy hpy => ?_
          have h2 := h.1 y hy
          rw [bl_iff] at h2
          have h1 : ¬ x.k.data.toList < s.data.toList := fun e => by rw [← bl_iff, hb] at e; cases e
          have := prefix_run s.data.toList x.k.data.toList y.k.data.toList h1 h2 hpy
          unfold pfx Lib.hasPrefix at hp
          rw [this] at hp; cases hp
        rw [e]
        simp
      · have hp0 : pfx s 0 x.k = true := hp
        rw [hp0, walkP s r (k + 1) h.2]
        simp
    · have hp0 : pfx s 0 x.k = false := by
        cases hp : pfx s 0 x.k
        · rfl
        · exact absurd ((bl_iff _ _).1 hb) (prefix_not_lt _ _ hp)
      rw [hp0, walkP s r k h.2]
      simp
/-- Cut, at a key -/
theorem index_zero (x : List UInt8) : ∀ m : List UInt8, (0 : UInt8) ∉ m → Lib.index (m ++ 0 :: x) [0] = (m.length : Int)
  | [], _ => by simp [Lib.index, List.isPrefixOf]
  | b :: m, h => by
    have hb : (0 == b) = false := by
      cases e : ((0 : UInt8) == b)
      · rfl
      · exact absurd (show (0 : UInt8) ∈ b :: m by rw [eq_of_beq e]; simp) h
    have ih := index_zero x m (fun e => h (by simp [e]))
    have h3 : ((m.length : Int) == -1) = false := by
      cases e : ((m.length : Int) == -1)
      · rfl
      · have := eq_of_beq e; omega
    rw [List.cons_append, Lib.index, ih, h3]
    simp [List.isPrefixOf, hb]
theorem cut_zero (m x : List UInt8) (h : (0 : UInt8) ∉ m) : Lib.cut (m ++ 0 :: x) [0] = (m, x, true) := by
  unfold Lib.cut
  rw [index_zero x m h, if_pos (by omega)]
  simp
theorem index_many {t e : TypeId} {k : Nat} (ht : Tryz.prog.underlying t = some (.slice e)) (he : Tryz.prog.elem t = e) (hs : (sizeOf e).run Tryz.prog = fun w => .ok k w) (g n cap i : Nat) (hi : i < n) (wx : World) : (Instr.indexAt t (.slice (some ⟨g, 0, none⟩) n cap) (.int .i64 (i : Nat))).run Tryz.prog wx = .ok (.pointer (some ⟨g, k * i, none⟩)) wx := by
  subst he
  rw [run_indexAt_slice (h := ht), if_pos ⟨by omega, by omega⟩, hs]
  simp [Result.andThen, add_pl, Nat.mul_comm]
section
variable {B : Nat} {v : Value} {w w' : World}
theorem row_slice {e : TypeId} {size n : Nat} {xs : List Value} (h : w.ownsRow B e size v n xs) : ∃ a c, v = .slice a n c := by
  rcases h.2 with ⟨e1, e2⟩ | ⟨g, cap, cur, e1, _⟩
  · exact ⟨none, 0, by rw [e1, e2]⟩
  · exact ⟨_, cap, e1⟩
theorem row_max {e : TypeId} {size n : Nat} {xs : List Value} (h : w.ownsRow B e size v n xs) : n ≤ 9223372036854775807 := by
  rcases h.2 with ⟨_, e2⟩ | ⟨g, cap, cur, _, _, _, h4, h5, _⟩
  · omega
  · simp only [maxLen] at h5; omega
theorem row_below {e : TypeId} {size n : Nat} {xs : List Value} (h : w.ownsRow B e size v n xs) (hb : Below w.heap.size w w') : w'.ownsRow B e size v n xs := row_only h (below_only hb (fun _ => False)) (fun _ e => e.elim)
end
structure VarN (B : Nat) (l : List Value) (w : World) : Prop where
  cell : ∀ i (hi : i < l.length), w.cell? ⟨B, i, none⟩ = some l[i]
  free : ∀ i, w.frozen? ⟨B, i, none⟩ = false
  pos : 0 < l.length
section
variable {B C o : Nat} {l : List Value} {u : Value} {w w' : World}
theorem VarN.lt (h : VarN B l w) : B < w.heap.size := World.block_lt_of_cell? w _ (h.cell 0 h.pos)
theorem VarN.block (h : VarN B l w) (hb : w'.heap[B]? = w.heap[B]?) : VarN B l w' :=
  ⟨fun i hi => by have := h.cell i hi; simp only [World.cell?] at this ⊢; rw [hb]; exact this, fun i => by have := h.free i; simp only [World.frozen?] at this ⊢; rw [hb]; exact this, h.pos⟩
theorem VarN.below (h : VarN B l w) (hb : Below w.heap.size w w') : VarN B l w' := h.block (hb.block _ h.lt)
theorem VarN.only {S : Nat → Prop} (h : VarN B l w) (ho : Only S w w') (hS : ¬ S B) : VarN B l w' := h.block (ho.block B h.lt hS)
theorem VarN.drew (h : VarN B l w) : VarN B l w.drew := h.block rfl
theorem VarN.set (h : VarN B l w) (i : Nat) (v : Value) : VarN B (l.set i v) (w.setCell ⟨B, i, none⟩ v) := by
  refine ⟨fun j hj => ?_, fun j => by rw [World.frozen?_setCell]; exact h.free j, by rw [List.length_set]; exact h.pos⟩
  rw [List.length_set] at hj
  by_cases e : i = j
  · subst e
    rw [World.cell?_setCell_same _ _ _ (h.cell i hj)]; simp
  · rw [World.cell?_setCell_other _ _ _ _ (fun e' => e (by cases e'; rfl)), h.cell j hj]; simp [e]
theorem VarN.far (h : VarN B l w) (hne : B ≠ C) : VarN B l (w.setCell ⟨C, o, none⟩ u) :=
  ⟨fun i hi => by rw [World.cell?_setCell_other _ _ _ _ (fun e => hne (by cases e; rfl))]; exact h.cell i hi, fun i => by rw [World.frozen?_setCell]; exact h.free i, h.pos⟩
theorem VarN.new (w : World) (a : Array Value) (t : TypeId) (h : 0 < a.size) : VarN w.heap.size a.toList (w.alloc (.cells a t)) := by
  have hn : (w.alloc (.cells a t)).heap[w.heap.size]? = Option.some (.cells a t) := heap_alloc_new w _
  refine ⟨fun i hi => ?_, fun i => by simp only [World.frozen?, hn]; simp, by rw [Array.length_toList]; exact h⟩
  simp only [World.cell?, hn]
  rw [Array.length_toList] at hi
  simp [hi]
theorem VarN.c3 {a b c : Value} (h : VarN B [a, b, c] w) : w.cell? ⟨B, 0, none⟩ = some a ∧ w.cell? ⟨B, 1, none⟩ = some b ∧ w.cell? ⟨B, 2, none⟩ = some c := ⟨h.cell 0 (by simp), h.cell 1 (by simp), h.cell 2 (by simp)⟩
theorem VarN.c4 {a b c d : Value} (h : VarN B [a, b, c, d] w) : w.cell? ⟨B, 0, none⟩ = some a ∧ w.cell? ⟨B, 1, none⟩ = some b ∧ w.cell? ⟨B, 2, none⟩ = some c ∧ w.cell? ⟨B, 3, none⟩ = some d := ⟨h.cell 0 (by simp), h.cell 1 (by simp), h.cell 2 (by simp), h.cell 3 (by simp)⟩
theorem VarN.get {j : Nat} {v : Value} (h : VarN B l w) (hv : l[j]? = some v) : w.cell? ⟨B, 0 + j, none⟩ = some v := by
  have hj : j < l.length := (List.getElem?_eq_some_iff.1 hv).1
  rw [Nat.zero_add, h.cell j hj]
  rw [List.getElem?_eq_getElem hj] at hv
  exact hv
end
end Go.Proofs.YtjgdnainhoipgaaGreatDoor
namespace Go.Proofs.YtjgdnainhoipgaaGreatDoor
open Go.RowKit Go.Maps

/-- a finder, its tree, its pager -/
structure Fs (bf bt bp bd bm N : Nat) (up : Nat → Bool) (V : Pst) (T : Tr) (w : World) : Prop where
  c : Own1 bf (.pointer (some ⟨bt, 0, none⟩)) w
  t : Tt bt bp 3 w
  tw : Tw bp bd bm N sd0 up 1 V w
  a : TrAt V 3 T
  so : Sole V T
  ne : bt ≠ bp ∧ bt ≠ bm
  nc : bf ≠ bp ∧ bf ≠ bm
section
variable {bf bt bp bd bm N Z : Nat} {up : Nat → Bool} {V : Pst} {T : Tr} {M M' : Pr → Prop} {w w' : World}
theorem Fs.count (h : Fs bf bt bp bd bm N up V T w) : countU V.used 2000 ≤ 60 := by
  rw [h.so.count h.a]; exact h.a.pages_le
theorem Fs.below (h : Fs bf bt bp bd bm N up V T w) (hb : Below w.heap.size w w') : Fs bf bt bp bd bm N up V T w' :=
  ⟨h.c.below hb, h.t.below hb, h.tw.below hb, h.a, h.so, h.ne, h.nc⟩
theorem Fs.lay {V' : Pst} {N' : Nat} {T' : Tr} (h : Fs bf bt bp bd bm N up V T w) (h1 : LayR V V' 3 T T') (h2 : Tw bp bd bm N' sd0 up 1 V' w') (h4 : Only (fun b => b = bp ∨ b = bm) w w') : Fs bf bt bp bd bm N' up V' T' w' :=
  ⟨h.c.only h4 (fun e => by rcases e with e | e; exact h.nc.1 e; exact h.nc.2 e), h.t.only h4 (fun e => by rcases e with e | e; exact h.ne.1 e; exact h.ne.2 e), h2, h1.at_, h.so.lay h1, h.ne, h.nc⟩
theorem Fs.sorted (h : Fs bf bt bp bd bm N up V T w) : T.all.Pairwise (fun a b => bl a.k b.k = true) := h.a.ok.sorted
/-- the pairs, as a set -/
def PrS (bf bt bp bd bm N Z : Nat) (M : Pr → Prop) (w : World) : Prop := ∃ N1 up V T, N1 ≤ N ∧ Fs bf bt bp bd bm N1 up V T w ∧ szL T.all ≤ Z ∧ ∀ x, x ∈ T.all ↔ M x
theorem PrS.below (h : PrS bf bt bp bd bm N Z M w) (hb : Below w.heap.size w w') : PrS bf bt bp bd bm N Z M w' := by
  obtain ⟨N1, up, V, T, h1, h2, h3⟩ := h
  exact ⟨N1, up, V, T, h1, h2.below hb, h3⟩
theorem PrS.iff (h : PrS bf bt bp bd bm N Z M w) (hM : ∀ x, M x ↔ M' x) : PrS bf bt bp bd bm N Z M' w := by
  obtain ⟨N1, up, V, T, h1, h2, h3, h4⟩ := h
  exact ⟨N1, up, V, T, h1, h2, h3, fun x => (h4 x).trans (hM x)⟩
theorem PrS.mono {N' Z' : Nat} (h : PrS bf bt bp bd bm N Z M w) (hN : N ≤ N') (hZ : Z ≤ Z') : PrS bf bt bp bd bm N' Z' M w := by
  obtain ⟨N1, up, V, T, h1, h2, h3, h4⟩ := h
  exact ⟨N1, up, V, T, by omega, h2, by omega, h4⟩
theorem PrS.own (h : PrS bf bt bp bd bm N Z M w) : Own1 bf (.pointer (some ⟨bt, 0, none⟩)) w := by
  obtain ⟨N1, up, V, T, h1, h2, h3, h4⟩ := h
  exact h2.c
theorem put1 (h : PrS bf bt bp bd bm N Z M w) (x : Pr) (hx : x.Ok) (hZ : Z + x.sz ≤ 30000) (hN : N + 60 < 1000000) :
    Calls Tryz.prog 39 #[.pointer (some ⟨bt, 0, none⟩), .string x.k, .string x.i] w fun e w' => e = .returned .nilIface ∧ PrS bf bt bp bd bm (N + 40) (Z + x.sz) (fun y => y = x ∨ (M y ∧ y.k ≠ x.k)) w' ∧ Only (fun b => b = bp ∨ b = bm) w w' := by
  obtain ⟨N1, up, V, T, h1, h2, h3, h4⟩ := h
  have hc := h2.count
  refine (put_any h2.t h2.tw h2.ne h2.a x hx (by omega) (by omega)).mono ?_
  rintro e w' ⟨A, mid, C, hr, hg⟩
  have hsz : szL T.all = szL A + szL mid + szL C := by rw [hr.all, szL_append, szL_append]
  have hs1 : szL [x] = x.sz := rfl
  rcases hg with ⟨hbig, _⟩ | ⟨_, rfl, V', N', T', g3, g4, g5, g6, g7⟩
  · rw [szL_append, szL_append, hs1] at hbig
    omega
  · refine ⟨rfl, ⟨N', up, V', T', by omega, h2.lay g4 g5 g7, ?_, fun y => ?_⟩, g7⟩
    · rw [g3, szL_append, szL_append, hs1]; omega
    · show _ ↔ y = x ∨ M y ∧ y.k ≠ x.k
      rw [g3, ← h4 y, hr.all]
      constructor
      · intro hy
        simp only [List.mem_append, List.mem_singleton] at hy
        rcases hy with (hy | hy) | hy
        · exact .inr ⟨by simp [hy], bl_ne (hr.less y hy)⟩
        · exact .inl hy
        · exact .inr ⟨by simp [hy], fun e => bl_ne (hr.more y hy) e.symm⟩
      · rintro (rfl | ⟨hy, hk⟩)
        · simp
        · simp only [List.mem_append] at hy
          rcases hy with (hy | hy) | hy
          · simp [hy]
          · rcases hr.mid_ with e | ⟨z, e, hz⟩
            · rw [e] at hy; cases hy
            · rw [e] at hy
              obtain rfl := List.mem_singleton.1 hy
              exact absurd hz hk
          · simp [hy]
end
end Go.Proofs.YtjgdnainhoipgaaGreatDoor
namespace Go.Proofs
open Go.Shelf
def Tryz.lays144_ren : Go.Shelf.Ren := ⟨fun | 144 => 27 | 143 => 54 | 219 => 83 | 217 => 46 | 225 => 120 | 224 => 121 | 267 => 122 | 266 => 77 | 314 => 164 | n => n, fun | 9 => 9 | 4 => 4 | 3 => 3 | 5 => 5 | 46 => 135 | 146 => 249 | 51 => 248 | n => n, fun | 1 => 2 | n => n⟩
theorem Tryz.lays144 : Go.Proofs.Lays.n144 Tryz.prog Tryz.lays144_ren := {
  mixed := by kernel_rfl
  f143 := Tryz.func54.trans (congrArg some (by kernel_rfl))
  f144 := Tryz.func27.trans (congrArg some (by kernel_rfl))
  f217 := Tryz.func46.trans (congrArg some (by kernel_rfl))
  f219 := Tryz.func83.trans (congrArg some (by kernel_rfl))
  f224 := Tryz.func121.trans (congrArg some (by kernel_rfl))
  f225 := Tryz.func120.trans (congrArg some (by kernel_rfl))
  f266 := Tryz.func77.trans (congrArg some (by kernel_rfl))
  f267 := Tryz.func122.trans (congrArg some (by kernel_rfl))
  f314 := Tryz.func164.trans (congrArg some (by kernel_rfl))
  t3 := Tryz.underlying3
  a3 := Tryz.isAgg3
  z3 := Tryz.sizeOf3
  v3 := Tryz.zeroValue3
  t4 := Tryz.underlying4
  a4 := Tryz.isAgg4
  z4 := Tryz.sizeOf4
  v4 := Tryz.zeroValue4
  t5 := Tryz.underlying5
  a5 := Tryz.isAgg5
  z5 := Tryz.sizeOf5
  v5 := Tryz.zeroValue5
  t9 := Tryz.underlying9
  a9 := Tryz.isAgg9
  z9 := Tryz.sizeOf9
  v9 := Tryz.zeroValue9
  t46 := Tryz.underlying135
  a46 := Tryz.isAgg135
  z46 := Tryz.sizeOf135
  v46 := Tryz.zeroValue135
  t51 := Tryz.underlying248
  a51 := Tryz.isAgg248
  z51 := Tryz.sizeOf248
  v51 := Tryz.zeroValue248
  t146 := Tryz.underlying249
  a146 := Tryz.isAgg249
  z146 := Tryz.sizeOf249
  v146 := Tryz.zeroValue249
  g1 := by kernel_rfl }
open Go.RowKit Go.Lib in
/-- strings.Contains: "Contains reports whether substr is within s.": AT A substr OF ONE BYTE c: IT RETURNS 'decide (0 ≤ Lib.indexByte s c)'; the world is as it was. (LAID: no walk: one application.) -/
theorem Tryz.strings_Contains_one (s : ByteArray) (c : UInt8) (w : World) :
    Calls Tryz.prog 27 #[.string s, .string ⟨#[c]⟩] w fun e w' => e = .returned (.bool (decide (0 ≤ Lib.indexByte s.data.toList c))) ∧ w' = w := Any.strings_Contains_one Tryz.lays144 s c w
def Tryz.lays145_ren : Go.Shelf.Ren := ⟨fun | 145 => 62 | 220 => 100 | 219 => 83 | 217 => 46 | 225 => 120 | 224 => 121 | 267 => 122 | 266 => 77 | 314 => 164 | n => n, fun | 9 => 9 | 4 => 4 | 59 => 143 | 3 => 3 | 5 => 5 | 46 => 135 | 146 => 249 | 51 => 248 | n => n, fun | 1 => 2 | n => n⟩
theorem Tryz.lays145 : Go.Proofs.Lays.n145 Tryz.prog Tryz.lays145_ren := {
  mixed := by kernel_rfl
  f145 := Tryz.func62.trans (congrArg some (by kernel_rfl))
  f217 := Tryz.func46.trans (congrArg some (by kernel_rfl))
  f219 := Tryz.func83.trans (congrArg some (by kernel_rfl))
  f220 := Tryz.func100.trans (congrArg some (by kernel_rfl))
  f224 := Tryz.func121.trans (congrArg some (by kernel_rfl))
  f225 := Tryz.func120.trans (congrArg some (by kernel_rfl))
  f266 := Tryz.func77.trans (congrArg some (by kernel_rfl))
  f267 := Tryz.func122.trans (congrArg some (by kernel_rfl))
  f314 := Tryz.func164.trans (congrArg some (by kernel_rfl))
  t3 := Tryz.underlying3
  a3 := Tryz.isAgg3
  z3 := Tryz.sizeOf3
  v3 := Tryz.zeroValue3
  t4 := Tryz.underlying4
  a4 := Tryz.isAgg4
  z4 := Tryz.sizeOf4
  v4 := Tryz.zeroValue4
  t5 := Tryz.underlying5
  a5 := Tryz.isAgg5
  z5 := Tryz.sizeOf5
  v5 := Tryz.zeroValue5
  t9 := Tryz.underlying9
  a9 := Tryz.isAgg9
  z9 := Tryz.sizeOf9
  v9 := Tryz.zeroValue9
  t46 := Tryz.underlying135
  a46 := Tryz.isAgg135
  z46 := Tryz.sizeOf135
  v46 := Tryz.zeroValue135
  t51 := Tryz.underlying248
  a51 := Tryz.isAgg248
  z51 := Tryz.sizeOf248
  v51 := Tryz.zeroValue248
  t59 := Tryz.underlying143
  a59 := Tryz.isAgg143
  z59 := Tryz.sizeOf143
  v59 := Tryz.zeroValue143
  t146 := Tryz.underlying249
  a146 := Tryz.isAgg249
  z146 := Tryz.sizeOf249
  v146 := Tryz.zeroValue249
  g1 := by kernel_rfl }
open Go.RowKit Go.Lib in
/-- strings.Cut: "Cut slices s around the first instance of sep, returning the text before and after sep. The found result reports whether sep appears in s. If sep does not appear in s, cut returns s, "", false.": IT RETURNS 'Lib.cut s sep'; the world is as it was but for the count of draws. (LAID: no walk: one application.) -/
theorem Tryz.strings_Cut (s sep : ByteArray) (m : Int) (w : World) (hs : s.size < 4294967281) (hm : w.cell? ⟨2, 0, none⟩ = some (.int .i64 m)) :
    Calls Tryz.prog 62 #[.string s, .string sep] w fun e w' => e = .returned (.tuple #[.string ⟨(Lib.cut s.data.toList sep.data.toList).1.toArray⟩, .string ⟨(Lib.cut s.data.toList sep.data.toList).2.1.toArray⟩, .bool (Lib.cut s.data.toList sep.data.toList).2.2]) ∧ ∃ n, w' = w.drewN n := Any.strings_Cut Tryz.lays145 s sep m w hs hm
open Go.RowKit Go.Lib in
def Tryz.lays194_ren : Go.Shelf.Ren := ⟨fun | 194 => 176 | n => n, fun | 31 => 22 | 9 => 9 | 3 => 3 | 4 => 4 | 0 => 0 | n => n, fun | n => n⟩
theorem Tryz.lays194 : Go.Proofs.Lays.n194 Tryz.prog Tryz.lays194_ren := {
  mixed := by kernel_rfl
  f194 := Tryz.func176.trans (congrArg some (by kernel_rfl))
  t0 := Tryz.underlying0
  a0 := Tryz.isAgg0
  z0 := Tryz.sizeOf0
  v0 := Tryz.zeroValue0
  t3 := Tryz.underlying3
  a3 := Tryz.isAgg3
  z3 := Tryz.sizeOf3
  v3 := Tryz.zeroValue3
  t4 := Tryz.underlying4
  a4 := Tryz.isAgg4
  z4 := Tryz.sizeOf4
  v4 := Tryz.zeroValue4
  t9 := Tryz.underlying9
  a9 := Tryz.isAgg9
  z9 := Tryz.sizeOf9
  v9 := Tryz.zeroValue9
  t31 := Tryz.underlying22
  a31 := Tryz.isAgg22
  z31 := Tryz.sizeOf22
  v31 := Tryz.zeroValue22 }
open Go.RowKit Go.Lib Go.Sort in
open Go.RowKit Go.Lib Go.Sort in
/-- slices.Compact at []string: "Compact replaces consecutive runs of equal elements with a single copy. This is like the uniq command found on Unix. Compact modifies the contents of the slice s and returns the modified slice, which may have a smaller length. Compact zeroes the elements between the new length and the original length. The result preserves the nilness of s.": IT RETURNS THE SLICE CUT TO 'Lib.compact zs'; ITS CELLS HOLD 'Lib.compact zs', THEN ZERO VALUES up to the old length; all else is as it was, but for the count of draws. IN THE WORDS OF slices.Sort's CONTRACT ('Holds', 'putRow'): so the everyday 'slices.Sort(xs); xs = slices.Compact(xs)' goes from the one contract to the other. It asks 'zs.length ≤ cap' (every slice's: the reslicing 's[:k]' looks at it). Length 0, nil: '.._empty'. (LAID: no walk: one application.) -/
theorem Tryz.slices_Compact_string (blk off cap : Nat) (zs : List (List UInt8)) (w : World) (hH : Holds encStr w blk off zs.toArray) (hsz : zs.length ≤ 9223372036854775807) (hcap : zs.length ≤ cap) :
    Calls Tryz.prog 176 #[.slice (some ⟨blk, off, none⟩) zs.length cap] w fun e w' => e = .returned (.slice (some ⟨blk, off, none⟩) (Lib.compact zs).length cap) ∧ ∃ q, w' = putRow encStr (Sort.ahead w q) blk off (Lib.compact zs ++ List.replicate (zs.length - (Lib.compact zs).length) []).toArray := Any.slices_Compact_string Tryz.lays194 blk off cap zs w hH hsz hcap
open Go.RowKit Go.Lib Go.Sort in
/-- The same at a slice of length 0, a nil one too: it comes back as it is. (LAID: no walk: one application.) -/
theorem Tryz.slices_Compact_string_empty (a : Option Addr) (cap : Nat) (w : World) :
    Calls Tryz.prog 176 #[.slice a 0 cap] w fun e w' => e = .returned (.slice a 0 cap) ∧ w' = w := Any.slices_Compact_string_empty Tryz.lays194 a cap w
end Go.Proofs
