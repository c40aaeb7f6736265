/- Texts of the proof of FinderPlays: Tpd, Tps, Tla, Dwk, Tlb, Tgr, Tle, Tl0. -/
import Derived.Test.YtabcficlnhajeaaGreatDoorF17
import Derived.Shelf.Strings.Prefix
import Derived.Deep.LoopGhost
namespace Go.Proofs.YtabcficlnhajeaaGreatDoor
open Go.RowKit Go.Maps

/-- a pair that may be put -/
theorem bytes_leaf (x : Pr) : x.bytes = leafB [x] := by
  unfold Pr.bytes leafB encL encL
  rw [List.append_nil]
theorem leafB_nil : leafB [] = ⟨#[]⟩ := rfl
/-- what Put and Drop tell -/
def SetTo (bp bd bm N r : Nat) (s : St) (up : Nat → Bool) (cm : Int) (V : Pst) (T : Tr) (key : ByteArray) (nw : List Pr) (w : World) (e : Ending) (w' : World) : Prop :=
  ∃ A mid C, ChgR T key A mid C ∧ ChgTo bp bd bm N r s up cm V T A nw C w e w'
theorem Var6.six {B : Nat} {a b c d e f : Value} {w : World} (h : Var6 B [a, b, c, d, e, f] w) : w.cell? ⟨B, 0, none⟩ = some a ∧ w.cell? ⟨B, 1, none⟩ = some b ∧ w.cell? ⟨B, 2, none⟩ = some c ∧ w.cell? ⟨B, 3, none⟩ = some d ∧ w.cell? ⟨B, 4, none⟩ = some e ∧ w.cell? ⟨B, 5, none⟩ = some f :=
  ⟨h.cell 0 (by simp), h.cell 1 (by simp), h.cell 2 (by simp), h.cell 3 (by simp), h.cell 4 (by simp), h.cell 5 (by simp)⟩
section
variable {bt bp bd bm N r : Nat} {s : St} {up : Nat → Bool} {cm : Int} {V : Pst} {w : World}
theorem ChgTo.from {T : Tr} {A nw C : List Pr} {w0 w : World} {e : Ending} {w' : World} (h : ChgTo bp bd bm N r s up cm V T A nw C w e w') (hb : Below w0.heap.size w0 w) : ChgTo bp bd bm N r s up cm V T A nw C w0 e w' := by
  rcases h with ⟨h1, h2, h3⟩ | ⟨h1, h2, V', N', T', h3, h4, h5, h6, h7⟩
  · exact .inl ⟨h1, h2, hb.trans (h3.mono hb.size)⟩
  · exact .inr ⟨h1, h2, V', N', T', h3, h4, h5, h6, (below_only hb _).trans h7 (fun _ e => .inl e)⟩
theorem ChgTo.block {T : Tr} {A nw C : List Pr} {w : World} {e : Ending} {w' : World} (h : ChgTo bp bd bm N r s up cm V T A nw C w e w') {B : Nat} (hB : B < w.heap.size) (h1 : B ≠ bp) (h2 : B ≠ bm) : w'.heap[B]? = w.heap[B]? := by
  rcases h with ⟨_, _, h3⟩ | ⟨_, _, V', N', T', _, _, _, _, h7⟩
  · exact h3.block B hB
  · exact h7.block B hB (fun e => by rcases e with e | e; exact h1 e; exact h2 e)
theorem ChgTo.ret {T : Tr} {A nw C : List Pr} {w : World} {e : Ending} {w' : World} (h : ChgTo bp bd bm N r s up cm V T A nw C w e w') : ∃ u, e = .returned u := by
  rcases h with ⟨_, h2, _⟩ | ⟨_, h2, _⟩
  · exact ⟨_, h2⟩
  · exact ⟨_, h2⟩
theorem SpotR.inLs {T : Tr} {key txt : ByteArray} {l a b : Nat} (h : SpotR T key l txt a b) : l < T.Ls.length ∨ (T.Ls = [] ∧ l = 0) := by
  rcases h with ⟨h1, h2, _⟩ | h
  · exact .inr ⟨h1, h2⟩
  · exact .inl h.lt
set_option maxRecDepth 100000 in
set_option maxHeartbeats 1000000 in
theorem put_any (hT : Tt bt bp r w) (h : Tw bp bd bm N s up cm V w) (hne : bt ≠ bp ∧ bt ≠ bm) {T : Tr} (hA : TrAt V r T) (x : Pr) (hx : x.Ok) (hcnt : countU V.used 2000 + 30 < 1999) (hN : N + 60 < 1000000) :
    Calls Tryz.prog 48 #[.pointer (some ⟨bt, 0, none⟩), .string x.k, .string x.i] w fun e w' => SetTo bp bd bm N r s up cm V T x.k [x] w e w' := by
  obtain ⟨key, item⟩ := x
  obtain ⟨hx1, hx2, hx3⟩ := hx
  simp only at hx1 hx2 hx3 ⊢
  have HA : Hid _ := hA
  have HT : Hid _ := hT
  have HW : Hid _ := h
  have hlt := h.lt
  have hltt := hT.lt
  have i1 : ¬ (60 : Int) < (key.size : Int) := by omega
  have i2 : ¬ (100 : Int) < (item.size : Int) := by omega
  have i3 : ¬ key.toList = [] := fun e => by
    rw [ByteArray.toList_eq] at e
    have := congrArg List.length e
    rw [Array.length_toList] at this
    exact absurd this (by show key.size ≠ 0; omega)
  have i4 : key.toList.isEmpty = false := by
    cases e : key.toList with
    | nil => exact absurd e i3
    | cons a b => rfl
  clear hA hT h
  go_enter Tryz.func48, Tryz.ntmps48
  go_wp2_with fail
  refine (seek_any HT.out HW.out HA.out key).mono ?_
  rintro _ w1 ⟨v, l, txt, a, b, rfl, hs, hv1, hb1⟩
  obtain ⟨a9, cap9, hv9, _⟩ := hv1.is
  generalize hn9 : (ints T.ks).length = n9 at hv9
  subst hv9
  have HS : Hid (SpotR T key l txt a b) := hs
  have HV1 : Hid (View w.heap.size (.slice a9 n9 cap9) (ints T.ks) w1) := hv1
  have HB1 : Hid (Below w.heap.size w w1) := hb1
  obtain ⟨W2, hW2⟩ : ∃ W2, w1.alloc (.cells #[.int .i64 (T.top : Nat), .slice a9 n9 cap9, .int .i64 (l : Nat), .string txt, .int .i64 (a : Nat), .int .i64 (b : Nat)] 141) = W2 := ⟨_, rfl⟩
  have hb2 : Below w1.heap.size w1 W2 := by rw [← hW2]; exact (Below.refl _ w1).alloc (Nat.le_refl _) _
  have HV6 : Hid (Var6 w1.heap.size [.int .i64 (T.top : Nat), .slice a9 n9 cap9, .int .i64 (l : Nat), .string txt, .int .i64 (a : Nat), .int .i64 (b : Nat)] W2.drew) := by rw [← hW2]; exact (Var6.new6 w1 _ _ _ _ _ _ 141).below (Below.refl _ _).drew
  have HB2 : Hid (Below w.heap.size w W2.drew) := (hb1.trans (hb2.mono hb1.size)).drew
  have HBX : Hid (Below w1.heap.size w1 W2.drew) := hb2.drew
  clear hs hv1 hb1 hb2 hn9 i3 i4
  go_wp2_with fail
  go_region_held3 (fun wx => wx.cell? ⟨w1.heap.size, 0, none⟩ = some (.int .i64 (T.top : Nat)) ∧ wx.cell? ⟨w1.heap.size, 1, none⟩ = some (.slice a9 n9 cap9) ∧ wx.cell? ⟨w1.heap.size, 2, none⟩ = some (.int .i64 (l : Nat)) ∧ wx.cell? ⟨w1.heap.size, 3, none⟩ = some (.string txt) ∧ wx.cell? ⟨w1.heap.size, 4, none⟩ = some (.int .i64 (a : Nat)) ∧ wx.cell? ⟨w1.heap.size, 5, none⟩ = some (.int .i64 (b : Nat))) (first | exact HV6.out.six | exact HV63.out.six | exact HV64.out.six) (first | (go_at_call 80; refine (writePair_any ⟨key, item⟩ ⟨hx1, hx2, hx3⟩ _).mono ?_; rintro _ w3 ⟨rfl, hb3⟩; rw [bytes_leaf]; have HB3 : Hid (Below W2.drew.heap.size W2.drew w3) := hb3; have HV63 : Hid (Var6 w1.heap.size [.int .i64 (T.top : Nat), .slice a9 n9 cap9, .int .i64 (l : Nat), .string txt, .int .i64 (a : Nat), .int .i64 (b : Nat)] w3) := HV6.out.below hb3; clear hb3) | (go_at_call 79; obtain ⟨A, mid, C, hsa⟩ := SpotR.all HS.out HA.out.ok; have HBW : Hid (Below w.heap.size w w3) := HB2.out.trans (HB3.out.mono HB2.out.size); have HB13 : Hid (Below w1.heap.size w1 w3) := HBX.out.trans (HB3.out.mono HBX.out.size); refine (change_any (HT.out.below HBW.out) (HW.out.below HBW.out) hne HA.out (HV1.out.below HB13.out) ⟨by omega, by omega⟩ hsa (SpotR.inLs HS.out) (.inr ⟨_, rfl, rfl⟩) (fun y hy => by obtain rfl := List.mem_singleton.1 hy; exact ⟨hx1, hx2, hx3⟩) hcnt hN).mono ?_; rintro e4 w4 hc4; have HC4 : Hid (ChgTo bp bd bm N r s up cm V T A [⟨key, item⟩] C w e4 w4) := hc4.from HBW.out; have HV64 : Hid (Var6 w1.heap.size [.int .i64 (T.top : Nat), .slice a9 n9 cap9, .int .i64 (l : Nat), .string txt, .int .i64 (a : Nat), .int .i64 (b : Nat)] w4) := HV63.out.block (hc4.block (by have := HV63.out.lt; omega) (by have := HB1.out.size; omega) (by have := HB1.out.size; omega)); have HCR : Hid _ := hsa.chg; obtain ⟨u4, he4⟩ := hc4.ret; subst he4; clear hc4 hsa))
  go_wp2
  go_ret
  exact ⟨A, mid, C, HCR.out, HC4.out⟩
set_option maxRecDepth 100000 in
theorem put_bad (key item : ByteArray) (hx : ¬ (1 ≤ key.size ∧ key.size ≤ 60 ∧ item.size ≤ 100)) (v : Value) :
    Calls Tryz.prog 48 #[v, .string key, .string item] w fun e w' => e = .returned (.iface 30 (.int .i64 1)) ∧ w' = w := by
  by_cases h0 : key.size = 0
  · have i3 : key.toList = [] := by
      rw [ByteArray.toList_eq]
      exact List.length_eq_zero_iff.1 (by rw [Array.length_toList]; exact h0)
    have i4 : key.toList.isEmpty = true := by rw [i3]; rfl
    clear h0 hx
    go_enter Tryz.func48, Tryz.ntmps48
    go_wp2
    go_ret
    exact ⟨rfl, rfl⟩
  · have i3 : ¬ key.toList = [] := fun e => by
      rw [ByteArray.toList_eq] at e
      have := congrArg List.length e
      rw [Array.length_toList] at this
      exact h0 this
    have i4 : key.toList.isEmpty = false := by
      cases e : key.toList with
      | nil => exact absurd e i3
      | cons a b => rfl
    by_cases h1 : key.size ≤ 60
    · have i1 : ¬ (60 : Int) < (key.size : Int) := by omega
      have i2 : (100 : Int) < (item.size : Int) := by omega
      clear h0 hx h1
      go_enter Tryz.func48, Tryz.ntmps48
      go_wp2
      go_ret
      exact ⟨rfl, rfl⟩
    · have i1 : (60 : Int) < (key.size : Int) := by omega
      clear h0 hx h1
      go_enter Tryz.func48, Tryz.ntmps48
      go_wp2
      go_ret
      exact ⟨rfl, rfl⟩
/-- what Drop tells -/
def DropTo (bp bd bm N r : Nat) (s : St) (up : Nat → Bool) (cm : Int) (V : Pst) (T : Tr) (key : ByteArray) (w : World) (e : Ending) (w' : World) : Prop :=
  ((∀ x ∈ T.all, x.k ≠ key) ∧ e = .returned (.iface 30 (.int .i64 7)) ∧ Below w.heap.size w w') ∨
  ∃ A y C, T.all = A ++ [y] ++ C ∧ y.k = key ∧ ChgTo bp bd bm N r s up cm V T A [] C w e w'
set_option maxRecDepth 100000 in
set_option maxHeartbeats 1000000 in
theorem drop_any (hT : Tt bt bp r w) (h : Tw bp bd bm N s up cm V w) (hne : bt ≠ bp ∧ bt ≠ bm) {T : Tr} (hA : TrAt V r T) (key : ByteArray) (hcnt : countU V.used 2000 + 30 < 1999) (hN : N + 60 < 1000000) :
    Calls Tryz.prog 54 #[.pointer (some ⟨bt, 0, none⟩), .string key] w fun e w' => DropTo bp bd bm N r s up cm V T key w e w' := by
  have HA : Hid _ := hA
  have HT : Hid _ := hT
  have HW : Hid _ := h
  have hlt := h.lt
  have hltt := hT.lt
  clear hA hT h
  go_enter Tryz.func54, Tryz.ntmps54
  go_wp2_with fail
  refine (seek_any HT.out HW.out HA.out key).mono ?_
  rintro _ w1 ⟨v, l, txt, a, b, rfl, hs, hv1, hb1⟩
  obtain ⟨a9, cap9, hv9, _⟩ := hv1.is
  generalize hn9 : (ints T.ks).length = n9 at hv9
  subst hv9
  obtain ⟨A, mid, C, hsa⟩ := SpotR.all hs HA.out.ok
  have HSA : Hid _ := hsa
  have HS : Hid (SpotR T key l txt a b) := hs
  have HV1 : Hid (View w.heap.size (.slice a9 n9 cap9) (ints T.ks) w1) := hv1
  have HB1 : Hid (Below w.heap.size w w1) := hb1
  obtain ⟨W2, hW2⟩ : ∃ W2, w1.alloc (.cells #[.int .i64 (T.top : Nat), .slice a9 n9 cap9, .int .i64 (l : Nat), .string txt, .int .i64 (a : Nat), .int .i64 (b : Nat)] 141) = W2 := ⟨_, rfl⟩
  have hb2 : Below w1.heap.size w1 W2 := by rw [← hW2]; exact (Below.refl _ w1).alloc (Nat.le_refl _) _
  have HV6 : Hid (Var6 w1.heap.size [.int .i64 (T.top : Nat), .slice a9 n9 cap9, .int .i64 (l : Nat), .string txt, .int .i64 (a : Nat), .int .i64 (b : Nat)] W2) := by rw [← hW2]; exact Var6.new6 w1 _ _ _ _ _ _ 141
  have HBX : Hid (Below w1.heap.size w1 W2) := hb2
  clear hs hv1 hb1 hb2 hn9 hsa
  have q6 := HV6.out.six
  obtain ⟨q0, q1, q2, q3, q4, q5⟩ := q6
  go_wp2_with fail
  refine (taken_any _ _ _ _ _ _ _).mono ?_
  rintro _ w3 ⟨rfl, hb3⟩
  have HV63 : Hid (Var6 w1.heap.size [.int .i64 (T.top : Nat), .slice a9 n9 cap9, .int .i64 (l : Nat), .string txt, .int .i64 (a : Nat), .int .i64 (b : Nat)] w3) := HV6.out.below hb3
  have HB13 : Hid (Below w1.heap.size w1 w3) := HBX.out.trans (hb3.mono HBX.out.size)
  have HBW : Hid (Below w.heap.size w w3) := HB1.out.trans (HB13.out.mono HB1.out.size)
  clear hb3 hW2 q0 q1 q2 q3 q4 q5
  by_cases hab : a < b
  · have e1 : (decide ((a : Int) < (b : Int))) = true := decide_eq_true (by omega)
    rw [e1]
    have q6 := HV63.out.six
    obtain ⟨q0, q1, q2, q3, q4, q5⟩ := q6
    have HMID : Hid (∃ y, mid = [y] ∧ y.k = key) := by
      rcases HSA.out.chg.mid_ with e | e
      · have := HSA.out.ab
        rw [e] at this
        simp [szL] at this
        omega
      · exact e
    clear e1 hab
    go_wp2_with fail
    refine (change_any (nw := []) (HT.out.below HBW.out) (HW.out.below HBW.out) hne HA.out (HV1.out.below HB13.out) ⟨by omega, by omega⟩ HSA.out (SpotR.inLs HS.out) (.inl rfl) (fun y hy => by simp at hy) hcnt hN).mono ?_
    rintro e4 w4 hc4
    have HC4 : Hid (ChgTo bp bd bm N r s up cm V T A [] C w e4 w4) := hc4.from HBW.out
    obtain ⟨u4, he4⟩ := hc4.ret
    subst he4
    clear hc4 q0 q1 q2 q3 q4 q5
    go_wp2
    go_ret
    obtain ⟨y, hy1, hy2⟩ := HMID.out
    exact .inr ⟨A, y, C, by rw [← hy1]; exact HSA.out.chg.all, hy2, HC4.out⟩
  · have e1 : (decide ((a : Int) < (b : Int))) = false := decide_eq_false (by omega)
    rw [e1]
    have HNO : Hid (∀ x ∈ T.all, x.k ≠ key) := by
      intro x hx
      rw [HSA.out.chg.all] at hx
      have hm : mid = [] := by
        have := HSA.out.ab
        exact szL_zero (by omega)
      rw [hm, List.append_nil] at hx
      rcases List.mem_append.1 hx with hx | hx
      · exact bl_ne (HSA.out.chg.less x hx)
      · exact fun e => bl_ne (HSA.out.chg.more x hx) e.symm
    clear e1 hab
    go_wp2
    go_ret
    exact .inl ⟨HNO.out, rfl, HBW.out⟩
end
end Go.Proofs.YtabcficlnhajeaaGreatDoor
namespace Go.Proofs.YtabcficlnhajeaaGreatDoor
open Go.RowKit Go.Maps

def pairB (x : Pr) : ByteArray := ⟨#[byteI (x.k.size : Int)]⟩ ++ x.k ++ ⟨#[byteI (x.i.size : Int)]⟩ ++ x.i
def pairsB (l : List Pr) : ByteArray := l.foldl (fun s x => s ++ pairB x) ⟨#[]⟩
theorem pairsB_succ {l : List Pr} {k : Nat} (hk : k < l.length) : pairsB (l.take (k + 1)) = pairsB (l.take k) ++ pairB l[k] := by
  unfold pairsB
  rw [List.take_succ_eq_append_getElem hk, List.foldl_append]
  rfl
theorem pairB_size (x : Pr) : (pairB x).size = x.sz := by
  unfold pairB Pr.sz
  simp only [ByteArray.size_append]
  show 1 + x.k.size + 1 + x.i.size = _
  omega
theorem pairsB_size : ∀ (l : List Pr) (k : Nat), k ≤ l.length → (pairsB (l.take k)).size = szL (l.take k)
  | l, 0, _ => rfl
  | l, k + 1, h => by
    rw [pairsB_succ (by omega), ByteArray.size_append, pairB_size, pairsB_size l k (by omega), szL_take_succ (by omega)]
theorem size64 : (sizeOf 151).run Tryz.prog = fun w => .ok 2 w := by funext w; simp [Tryz.sizeOf151]
theorem elem60 : Tryz.prog.elem 147 = 151 := by kernel_rfl
theorem index_two {t e : TypeId} (ht : Tryz.prog.underlying t = some (.slice e)) (he : Tryz.prog.elem t = e) (hs : (sizeOf e).run Tryz.prog = fun w => .ok 2 w) (g n cap i : Nat) (hi : i < n) (wx : World) : (Instr.indexAt t (.slice (some ⟨g, 0, none⟩) n cap) (.int .i64 (i : Nat))).run Tryz.prog wx = .ok (.pointer (some ⟨g, 2 * i, none⟩)) wx := by
  subst he
  rw [run_indexAt_slice (h := ht), if_pos ⟨by omega, by omega⟩, hs]
  simp [Result.andThen, add_pl, Nat.mul_comm]
/-- a pair in a row -/
theorem PRow.at {B : Nat} {v : Value} {ps : List Pr} {w : World} (h : PRow B v ps w) {i : Nat} (hi : i < ps.length) : ∃ g, B ≤ g ∧ w.cell? ⟨g, 2 * i, none⟩ = some (.string ps[i].k) ∧ w.cell? ⟨g, 2 * i + 1, none⟩ = some (.string ps[i].i) ∧
    ∀ wx, (Instr.indexAt 147 v (.int .i64 (i : Nat))).run Tryz.prog wx = .ok (.pointer (some ⟨g, 2 * i, none⟩)) wx := by
  obtain ⟨g, cap, rfl, h1, h2⟩ := World.ownsRow.form h (by omega)
  have hfl : ∀ (l : List Pr) (i : Nat) (hi : i < l.length), (l.flatMap pairC)[2 * i]? = some (.string l[i].k) ∧ (l.flatMap pairC)[2 * i + 1]? = some (.string l[i].i) := by
    intro l
    induction l with
    | nil => intro i hi; simp at hi
    | cons x r ih =>
      intro i hi
      cases i with
      | zero => exact ⟨rfl, rfl⟩
      | succ i =>
        have := ih i (by simpa using hi)
        rw [List.flatMap_cons]
        show ([_, _] ++ _)[2 * (i + 1)]? = _ ∧ ([_, _] ++ _)[2 * (i + 1) + 1]? = _
        rw [show 2 * (i + 1) = (2 * i) + 1 + 1 by omega]
        exact this
  have h3 := hfl ps i hi
  refine ⟨g, h1, ?_, ?_, fun wx => ?_⟩
  · have := h.cells (g := g) rfl (2 * i) _ h3.1
    rwa [add_pl, Nat.zero_add] at this
  · have := h.cells (g := g) rfl (2 * i + 1) _ h3.2
    rwa [add_pl, Nat.zero_add] at this
  · exact index_two Tryz.underlying147 elem60 size64 g ps.length cap i hi wx
theorem two_alloc {wx : World} {o : Obj} {a b : Addr} {x y : Value} (h : wx.cell? a = some x ∧ wx.cell? b = some y) : (wx.alloc o).cell? a = some x ∧ (wx.alloc o).cell? b = some y :=
  ⟨by rw [World.cell?_alloc_some _ _ _ (by rw [h.1]; rfl)]; exact h.1, by rw [World.cell?_alloc_some _ _ _ (by rw [h.2]; rfl)]; exact h.2⟩
theorem wpAnyH_strong {P : Program} {md : Region.Mode} {ops : Array Oper} {Q : Exit → Act → World → Prop} {S S' : World → Prop} (hS : ∀ w, S' w → S w) : ∀ (fuel : Nat) (listed : Array Bool) (a : Act) (w : World), wpAnyH P md ops Q S' fuel listed a w → wpAnyH P md ops Q S fuel listed a w
  | 0, _, _, _, h => h
  | fuel + 1, _, _, _, h => ⟨h.1, fun i hi => wpOp_mono (fun a' w' h' => ⟨hS w' h'.1, wpAnyH_strong hS fuel _ a' w' h'.2⟩) (h.2 i hi)⟩
section
variable {bt bp bd bm N r : Nat} {s : St} {up : Nat → Bool} {cm : Int} {V : Pst} {w : World}
end
end Go.Proofs.YtabcficlnhajeaaGreatDoor
namespace Go.Proofs.YtabcficlnhajeaaGreatDoor
open Go.RowKit Go.Maps

section
variable {V V' V'' : Pst} {r : Nat} {T T' T'' : Tr}
theorem TrAt.used_pg (h : TrAt V r T) : ∀ k ∈ T.pgL, V.used k = true ∧ 0 < k ∧ k < 2000 := fun k hk => by
  unfold Tr.pgL at hk
  rcases List.mem_append.1 hk with hk | hk
  · by_cases h0 : T.top = 0
    · rw [if_pos h0] at hk; simp at hk
    · rw [if_neg h0] at hk
      obtain rfl := List.mem_singleton.1 hk
      have := h.ltop h0
      exact ⟨this.2.1, by omega, this.1⟩
  · have := h.low k hk
    exact ⟨this.2.2, this.1, this.2.1⟩
theorem TrAt.pg_nodup (h : TrAt V r T) : T.pgL.Nodup := by
  unfold Tr.pgL
  by_cases h0 : T.top = 0
  · rw [if_pos h0]; exact h.nodup
  · rw [if_neg h0, List.singleton_append, List.nodup_cons]
    exact ⟨(h.ltop h0).2.2.2, h.nodup⟩
theorem TrAt.pg_len (h : TrAt V r T) : T.pgL.length = T.pages := by
  unfold Tr.pgL Tr.pages
  rw [List.length_append, h.len]
  by_cases h0 : T.top = 0
  · rw [if_pos h0, if_pos (h.top0.1 h0)]; simp
  · rw [if_neg h0, if_neg (fun e => h0 (h.top0.2 e))]
    show 1 + _ = _
    omega
theorem TrAt.pages_le (h : TrAt V r T) : T.pages ≤ 60 := by
  have := h.ok.len
  unfold Tr.pages
  split <;> omega
/-- what does not touch a tree's pages leaves it as it is -/
theorem TrAt.keep (h : TrAt V r T) (hu : ∀ k ∈ T.pgL, V'.used k = true ∧ V'.tx k = V.tx k) (hrp : V'.rp r = V.rp r) (hrn : V'.rn r = V.rn r) : TrAt V' r T := by
  have hk : ∀ k ∈ T.ks, k ∈ T.pgL := fun k hk => List.mem_append.2 (.inr hk)
  refine ⟨h.len, h.ok, by rw [hrn]; exact h.rn, by rw [hrp]; exact h.rp, h.top0, fun h0 => ?_, fun k hkk => ?_, fun i hi hl => ?_, h.nodup⟩
  · have hm : T.top ∈ T.pgL := List.mem_append.2 (.inl (by rw [if_neg h0]; simp))
    obtain ⟨h1, h2, h3, h4⟩ := h.ltop h0
    exact ⟨h1, (hu _ hm).1, by rw [(hu _ hm).2]; exact h3, h4⟩
  · have := h.low k hkk
    exact ⟨this.1, this.2.1, (hu k (hk k hkk)).1⟩
  · rw [(hu _ (hk _ (List.getElem_mem hi))).2]
    exact h.page i hi hl
theorem LayR.refl (h : TrAt V r T) : LayR V V r T T := by
  refine ⟨h, fun k => ?_, fun k hk => .inl hk, fun _ _ _ => rfl, fun _ _ => rfl, fun _ _ => rfl⟩
  by_cases e : k ∈ T.pgL
  · simp [e, (h.used_pg k e).1]
  · simp [e]
theorem LayR.trans (h : LayR V V' r T T') (k : LayR V' V'' r T' T'') : LayR V V'' r T T'' := by
  have hn : ∀ i, V.used i = true → i ∉ T.pgL → i ∉ T'.pgL := fun i hu hi e => by
    rcases h.new i e with h1 | h1
    · exact hi h1
    · rw [hu] at h1; cases h1
  refine ⟨k.at_, fun i => ?_, fun i hi => ?_, fun i hu hi => ?_, fun i hi => (k.rp i hi).trans (h.rp i hi), fun i hi => (k.rn i hi).trans (h.rn i hi)⟩
  · rw [k.used i, h.used i]
    constructor
    · rintro (⟨h1 | h1, h2⟩ | h1)
      · exact .inl h1
      · exact absurd h1 h2
      · exact .inr h1
    · rintro (h1 | h1)
      · exact .inl ⟨.inl h1, hn i h1.1 h1.2⟩
      · exact .inr h1
  · rcases k.new i hi with h1 | h1
    · exact h.new i h1
    · by_cases e : i ∈ T.pgL
      · exact .inl e
      · refine .inr ?_
        cases hq : V.used i
        · rfl
        · have := (h.used i).2 (.inl ⟨hq, e⟩)
          rw [h1] at this; cases this
  · have h1 := hn i hu hi
    rw [k.tx i ((h.used i).2 (.inl ⟨hu, hi⟩)) h1, h.tx i hu hi]
/-- how many pages are in use at most -/
theorem countU_union {f g : Nat → Bool} {n : Nat} : ∀ (L : List Nat), (∀ k, f k = true → g k = true ∨ k ∈ L) → countU f n ≤ countU g n + L.length := by
  intro L
  induction L generalizing g with
  | nil =>
    intro h
    have : ∀ n, countU f n ≤ countU g n := by
      intro n
      induction n with
      | zero => exact Nat.le_refl _
      | succ n ih =>
        rw [countU, countU]
        cases e : f n
        · simp only [Bool.false_eq_true, if_false]; omega
        · rcases h n e with h1 | h1
          · rw [h1]; omega
          · simp at h1
    exact this n
  | cons x L ih =>
    intro h
    have h1 := ih (g := fun i => if i = x then true else g i) (fun k hk => by
      show (if k = x then true else g k) = true ∨ _
      by_cases e : k = x
      · rw [if_pos e]; exact .inl rfl
      · rw [if_neg e]
        rcases h k hk with h2 | h2
        · exact .inl h2
        · rcases List.mem_cons.1 h2 with h3 | h3
          · exact absurd h3 e
          · exact .inr h3)
    have h2 := countU_put g x n
    rw [List.length_cons]
    omega
theorem LayR.count (h : LayR V V' r T T') : countU V'.used 2000 ≤ countU V.used 2000 + 60 := by
  have h1 := countU_union (f := V'.used) (g := V.used) (n := 2000) T'.pgL (fun k hk => by
    rcases (h.used k).1 hk with h1 | h1
    · exact .inl h1.1
    · exact .inr h1)
  have h2 := h.at_.pg_len
  have h3 := h.at_.pages_le
  omega
end
/-- a pager's pages as the tree sees them -/
def Pg.pst (p : Pg) (pg : Nat → ByteArray) : Pst := ⟨p.used, p.text pg, p.rp, p.rn⟩
theorem Match.self (p : Pg) (pg : Nat → ByteArray) : Match p pg (p.pst pg) := ⟨rfl, fun _ _ _ => rfl, fun _ _ => rfl, fun _ _ => rfl⟩
def sd0 : St := ⟨fun _ => zeros, false, 0, 0⟩
theorem zeros_at (k : Nat) : zeros.data.toList.getD k 0 = 0 := by
  have h : zeros.data.toList = List.replicate 1024 0 := by
    unfold zeros
    simp
  rw [h, List.getD_eq_getElem?_getD, List.getElem?_replicate]
  split <;> rfl
theorem sd0_head : headOf sd0.pg = zeros := rfl
theorem sd0_used (c : Int) (d : Bool) (k : Nat) : (loaded sd0.pg c d).used k = false := by
  show usedOf (headOf sd0.pg) k = false
  rw [sd0_head]
  unfold usedOf bitOf
  rw [zeros_at]
  simp
theorem num_zeros (i : Nat) : numOf zeros i = 0 := by
  unfold numOf
  rw [zeros_at, zeros_at]
  rfl
/-- an empty tree -/
def Tr.none : Tr := ⟨0, [], []⟩
theorem empty_at {V : Pst} {r : Nat} (h1 : V.rp r = 0) (h2 : V.rn r = 0) : TrAt V r Tr.none :=
  ⟨rfl, ⟨by simp [Tr.none], by simp [Tr.none], by simp [Tr.none], fun i hi => absurd hi (by simp [Tr.none]), Nat.zero_le _, List.Pairwise.nil⟩, h2, h1, ⟨fun _ => by simp [Tr.none], fun _ => rfl⟩, fun h => absurd rfl h, by simp [Tr.none], fun i hi => absurd hi (by simp [Tr.none]), List.nodup_nil⟩
section
variable {bp bd bm N : Nat} {s : St} {up : Nat → Bool} {cm : Int} {V : Pst} {w : World}
/-- a new disk's pager -/
theorem open_new (w : World) : Calls Tryz.prog 12 #[.pointer (some ⟨w.heap.size, 0, none⟩)] (w.alloc (.cells Tryz.zeroCells48 48)) fun e w' => ∃ bp bm up V, e = .returned (.tuple #[.pointer (some ⟨bp, 0, none⟩), .nilIface]) ∧ w.heap.size < bp ∧ w.heap.size < bm ∧ bp ≠ bm ∧ Tw bp w.heap.size bm 0 sd0 up 1 V w' ∧ (∀ k, V.used k = false) ∧ (∀ i, i < 8 → TrAt V i Tr.none) ∧ Below w.heap.size w w' := by
  refine (open_any (disk_new w)).mono ?_
  rintro _ w1 ⟨bp, bm, rfl, h1, h2, h3, h4, h5⟩
  rw [World.size_alloc] at h1 h2
  refine ⟨bp, bm, _, (loaded sd0.pg 1 false).pst sd0.pg, rfl, h1, h2, fun e => h3.ne e.symm, ⟨⟨_, h3, loaded_ok _ _ _, rfl, rfl, rfl, Match.self _ _⟩, h4⟩, fun k => sd0_used 1 false k, fun i hi => empty_at ?_ ?_, ((Below.refl _ w).alloc (Nat.le_refl _) _).trans (h5.mono (by simp))⟩
  · exact num_zeros _
  · exact num_zeros _
end
end Go.Proofs.YtabcficlnhajeaaGreatDoor
namespace Go.Proofs.YtabcficlnhajeaaGreatDoor
open Go.RowKit Go.Maps

theorem at_nil (i : Int) (w : World) : Calls Tryz.prog 13 #[.pointer none, .int .i64 i] w fun e w' => e = .returned (.tuple #[.pointer none,  .iface 30 (.int .i64 7)]) ∧ w' = w := by
  go_enter Tryz.func13, Tryz.ntmps13
  go_wp2
  go_ret2
  exact ⟨rfl, rfl⟩
theorem at_no (bp : Nat) (i : Int) (hi : ¬ (0 ≤ i ∧ i < 8)) (w : World) : Calls Tryz.prog 13 #[.pointer (some ⟨bp, 0, none⟩), .int .i64 i] w fun e w' => e = .returned (.tuple #[.pointer none,  .iface 30 (.int .i64 2)]) ∧ w' = w := by
  have HI : Hid _ := hi
  clear hi
  go_enter Tryz.func13, Tryz.ntmps13
  go_wp2_with fail
  refine (root_no i HI.out w).mono ?_
  rintro _ w9 ⟨rfl, h9⟩
  obtain rfl := h9.symm
  go_wp2
  go_ret2
  exact ⟨rfl, rfl⟩
section
variable {bt bp bd bm N r : Nat} {s : St} {up : Nat → Bool} {cm : Int} {V : Pst}
/-- a key begins so -/
def pfx (s : ByteArray) (_ : Nat) (key : ByteArray) : Bool := Lib.hasPrefix key.data.toList s.data.toList
theorem hasPrefix_any (a b : ByteArray) (w : World) : Calls Tryz.prog 60 #[.string a, .string b] w fun e w' => e = .returned (.bool (Lib.hasPrefix a.data.toList b.data.toList)) ∧ w' = w := Go.Proofs.Any.strings_HasPrefix Tryz.lays99 a b w
set_option maxRecDepth 100000 in
theorem prefix_cl {B : Nat} {s : ByteArray} (w : World) (h : Own1 B (.string s) w) (key : ByteArray) (k : Nat) :
    Calls Tryz.prog 108 #[.string key, .pointer (some ⟨B, 0, none⟩)] w fun e w' => e = .returned (.bool (pfx s k key)) ∧ w' = w := by
  have c0 := h.cell
  clear h
  go_enter Tryz.func108, Tryz.ntmps108
  go_wp2_with fail
  refine (hasPrefix_any key s w).mono ?_
  rintro _ w9 ⟨rfl, h9⟩
  obtain rfl := h9.symm
  clear h9
  go_wp2
  go_ret
  exact ⟨rfl, rfl⟩
set_option maxRecDepth 100000 in
theorem prefix_any (w : World) (hT : Tt bt bp r w) (h : Tw bp bd bm N s up cm V w) {T : Tr} (hA : TrAt V r T) (from_ : ByteArray) :
    Calls Tryz.prog 74 #[.pointer (some ⟨bt, 0, none⟩), .string from_] w fun e w' => ∃ v, e = .returned (.tuple #[v, .nilIface]) ∧ PRow w.heap.size v (walkL (pfx from_) from_ 0 T.all) w' ∧ Below w.heap.size w w' := by
  have HA : Hid _ := hA
  have hB0 : Below w.heap.size w (w.alloc (.cells #[.string from_] 9)) := (Below.refl _ w).alloc (Nat.le_refl _) _
  have HT0 : Hid _ := hT.below hB0
  have HW0 : Hid _ := h.below hB0
  have HB0 : Hid (Below w.heap.size w (w.alloc (.cells #[.string from_] 9))) := hB0
  have hmf : ∀ (fn : Fn) (first cap : Array Value) (w : World), (Instr.makeFunc fn first cap).run Tryz.prog w = .ok (.func fn first cap) w := fun _ _ _ _ => rfl
  have HO1 : Hid (Own1 w.heap.size (.string from_) (w.alloc (.cells #[.string from_] 9))) := Own1.new w (.string from_) 9
  have hltt := hT.lt
  have hltw := h.lt
  have q0 := (Own1.new w (.string from_) 9).cell
  clear hA hT h hB0
  go_enter Tryz.func74, Tryz.ntmps74
  go_wp2_with fail
  refine (collect_any (wnt := pfx from_) (I := fun _ wx => Own1 w.heap.size (.string from_) wx) (W := fun _ => False) _ HT0.out HW0.out HA.out from_ (fun b hb => hb.elim) (enters_of Tryz.func108 (by kernel_rfl) rfl)
    HO1.out (fun k wx wy hh ho => hh.only ho (by simp only [World.size_alloc]; omega)) (fun k key wx hk hh => ?_)).mono ?_
  · refine (prefix_cl wx hh key k).mono ?_
    rintro _ w' ⟨rfl, rfl⟩
    exact ⟨rfl, hh, Only.refl _ _⟩
  rintro _ w2 ⟨v, rfl, hR, hO⟩
  have HR2 : Hid (PRow w.heap.size v (walkL (pfx from_) from_ 0 T.all) w2) := row_base hR (by simp)
  have HB2 : Hid (Below w.heap.size w w2) := Only.below HB0.out hO (by simp) (fun i hi => hi.elim)
  clear hR hO
  go_wp2
  go_ret2
  exact ⟨_, rfl, HR2.out, HB2.out⟩
end
end Go.Proofs.YtabcficlnhajeaaGreatDoor
namespace Go.Proofs.YtabcficlnhajeaaGreatDoor
open Go.RowKit Go.Maps

/-- a put, or a drop -/
structure Pu where
  q : Int
  k : ByteArray
  i : ByteArray
def RowQ (w : World) (a : Option Addr) (len : Nat) (xs : List Pu) : Prop :=
  len = xs.length ∧ len ≤ maxLen ∧ (xs = [] ∨ ∃ b off, a = some ⟨b, off, none⟩ ∧ b < w.heap.size ∧ ∀ i (h : i < xs.length),
    w.cell? ⟨b, off + i * 3, none⟩ = some (.int .i64 xs[i].q) ∧ w.cell? ⟨b, off + i * 3 + 1, none⟩ = some (.string xs[i].k) ∧ w.cell? ⟨b, off + i * 3 + 2, none⟩ = some (.string xs[i].i))
theorem index_three {t e : TypeId} (ht : Tryz.prog.underlying t = some (.slice e)) (he : Tryz.prog.elem t = e) (hs : (sizeOf e).run Tryz.prog = fun w => .ok 3 w) (g off n cap i : Nat) (hi : i < n) (wx : World) : (Instr.indexAt t (.slice (some ⟨g, off, none⟩) n cap) (.int .i64 (i : Nat))).run Tryz.prog wx = .ok (.pointer (some ⟨g, off + i * 3, none⟩)) wx := by
  subst he
  rw [run_indexAt_slice (h := ht), if_pos ⟨by omega, by omega⟩, hs]
  simp [Result.andThen, add_pl]
/-- what a put or a drop comes to -/
def StepTo (bp bd bm N D r : Nat) (s : St) (up : Nat → Bool) (cm : Int) (V : Pst) (T : Tr) (w w' : World) : Prop :=
  ∃ V' N' T', LayR V V' r T T' ∧ Tw bp bd bm N' s up cm V' w' ∧ N' ≤ N + D ∧ Only (fun b => b = bp ∨ b = bm) w w'
section
variable {bt bp bd bm N D r : Nat} {s : St} {up : Nat → Bool} {cm : Int} {V : Pst} {w : World} {T : Tr}
theorem StepTo.same {w' : World} (h : Tw bp bd bm N s up cm V w) (hA : TrAt V r T) (hb : Below w.heap.size w w') : StepTo bp bd bm N D r s up cm V T w w' := ⟨V, N, T, LayR.refl hA, h.below hb, by omega, below_only hb _⟩
theorem ChgTo.step {A nw C : List Pr} {e : Ending} {w' : World} (hc : ChgTo bp bd bm N r s up cm V T A nw C w e w') (h : Tw bp bd bm N s up cm V w) (hA : TrAt V r T) : StepTo bp bd bm N 40 r s up cm V T w w' := by
  rcases hc with ⟨_, _, h3⟩ | ⟨_, _, V', N', T', _, h4, h5, h6, h7⟩
  · exact StepTo.same h hA h3
  · exact ⟨V', N', T', h4, h5, h6, h7⟩
theorem putx_any (hT : Tt bt bp r w) (h : Tw bp bd bm N s up cm V w) (hne : bt ≠ bp ∧ bt ≠ bm) (hA : TrAt V r T) (key item : ByteArray) (hcnt : countU V.used 2000 + 30 < 1999) (hN : N + 60 < 1000000) :
    Calls Tryz.prog 48 #[.pointer (some ⟨bt, 0, none⟩), .string key, .string item] w fun e w' => ∃ u, e = .returned u ∧ StepTo bp bd bm N 40 r s up cm V T w w' := by
  by_cases hx : 1 ≤ key.size ∧ key.size ≤ 60 ∧ item.size ≤ 100
  · refine (put_any hT h hne hA ⟨key, item⟩ hx hcnt hN).mono ?_
    rintro e w' ⟨A, mid, C, _, h2⟩
    obtain ⟨u, hu⟩ := h2.ret
    exact ⟨u, hu, h2.step h hA⟩
  · refine (put_bad key item hx _).mono ?_
    rintro e w' ⟨rfl, rfl⟩
    exact ⟨_, rfl, StepTo.same h hA (Below.refl _ _)⟩
theorem dropx_any (hT : Tt bt bp r w) (h : Tw bp bd bm N s up cm V w) (hne : bt ≠ bp ∧ bt ≠ bm) (hA : TrAt V r T) (key : ByteArray) (hcnt : countU V.used 2000 + 30 < 1999) (hN : N + 60 < 1000000) :
    Calls Tryz.prog 54 #[.pointer (some ⟨bt, 0, none⟩), .string key] w fun e w' => ∃ u, e = .returned u ∧ StepTo bp bd bm N 40 r s up cm V T w w' := by
  refine (drop_any hT h hne hA key hcnt hN).mono ?_
  rintro e w' (⟨_, rfl, h3⟩ | ⟨A, y, C, _, _, h2⟩)
  · exact ⟨_, rfl, StepTo.same h hA h3⟩
  · obtain ⟨u, hu⟩ := h2.ret
    exact ⟨u, hu, h2.step h hA⟩
end
end Go.Proofs.YtabcficlnhajeaaGreatDoor
namespace Go.Proofs.YtabcficlnhajeaaGreatDoor
open Go.RowKit Go.Maps

/-- no pages but a tree's are in use -/
def Sole (V : Pst) (T : Tr) : Prop := ∀ k, V.used k = true ↔ k ∈ T.pgL
section
variable {V V' : Pst} {r : Nat} {T T' : Tr}
theorem Sole.lay (h : Sole V T) (hl : LayR V V' r T T') : Sole V' T' := fun k => by
  rw [hl.used k]
  constructor
  · rintro (⟨h1, h2⟩ | h1)
    · exact absurd ((h k).1 h1) h2
    · exact h1
  · exact fun h1 => .inr h1
theorem Sole.count (h : Sole V T) (hA : TrAt V r T) : countU V.used 2000 = T.pages := by
  rw [countU_list hA.pg_nodup (fun k hk => (hA.used_pg k hk).2.2) (fun k _ => h k), hA.pg_len]
theorem Sole.none (h : ∀ k, V.used k = false) : Sole V Tr.none := fun k => by
  rw [h k]
  simp [Tr.none, Tr.pgL]
theorem TrAt.none_of (h : TrAt V r T) (ha : T.all = []) : T.Ls = [] := by
  cases e : T.Ls with
  | nil => rfl
  | cons L R =>
    exfalso
    have hne := h.ok.ne L (by rw [e]; simp)
    unfold Tr.all at ha
    rw [e, List.flatten_cons] at ha
    exact hne (List.append_eq_nil_iff.1 ha).1
end
def bk : ByteArray := ⟨#[107]⟩
def bitem : ByteArray := ⟨#[105, 116, 101, 109]⟩
theorem kitem_ok : Pr.Ok ⟨bk, bitem⟩ := by unfold Pr.Ok; decide
end Go.Proofs.YtabcficlnhajeaaGreatDoor
namespace Go.Proofs.YtabcficlnhajeaaGreatDoor
open Go.RowKit Go.Maps

section
variable {bt bp bd bm N D r : Nat} {s : St} {up : Nat → Bool} {cm : Int} {V : Pst} {w : World} {T : Tr}
theorem Tr.deep_le (T : Tr) : T.deep ≤ 2 := by
  unfold Tr.deep
  split <;> omega
end
/-- where a key stands in a sorted list -/
theorem sorted_at {A A' C C' : List Pr} {y y' : Pr} (h : A ++ [y] ++ C = A' ++ [y'] ++ C') (hs : (A ++ [y] ++ C).Pairwise (fun a b => bl a.k b.k = true)) (hk : y.k = y'.k) : A = A' ∧ y = y' ∧ C = C' := by
  have g1 : (A ++ [y] ++ C)[A.length]? = some y := by simp
  have g2 : (A ++ [y] ++ C)[A'.length]? = some y' := by rw [h]; simp
  obtain ⟨l1, e1⟩ := List.getElem?_eq_some_iff.1 g1
  obtain ⟨l2, e2⟩ := List.getElem?_eq_some_iff.1 g2
  have hl : A.length = A'.length := by
    rcases Nat.lt_trichotomy A.length A'.length with e | e | e
    · have := List.pairwise_iff_getElem.1 hs _ _ l1 l2 e
      rw [e1, e2, hk, bl_irrefl] at this; cases this
    · exact e
    · have := List.pairwise_iff_getElem.1 hs _ _ l2 l1 e
      rw [e1, e2, hk, bl_irrefl] at this; cases this
  rw [List.append_assoc, List.append_assoc] at h
  obtain ⟨h1, h2⟩ := List.append_inj h hl
  simp only [List.singleton_append, List.cons.injEq] at h2
  exact ⟨h1, h2.1, h2.2⟩
end Go.Proofs.YtabcficlnhajeaaGreatDoor
namespace Go.Proofs.YtabcficlnhajeaaGreatDoor
open Go.RowKit Go.Maps

structure Sol (bt bp bd bm N : Nat) (up : Nat → Bool) (V : Pst) (T : Tr) (w0 w : World) : Prop where
  t : Tt bt bp 1 w
  tw : Tw bp bd bm N sd0 up 1 V w
  a : TrAt V 1 T
  so : Sole V T
  b0 : Below w0.heap.size w0 w
  lp : w0.heap.size ≤ bp
  lm : w0.heap.size ≤ bm
  ne : bt ≠ bp ∧ bt ≠ bm
section
variable {bt bp bd bm N D : Nat} {up : Nat → Bool} {V : Pst} {T : Tr} {w0 w w' : World}
theorem Sol.count (h : Sol bt bp bd bm N up V T w0 w) : countU V.used 2000 ≤ 60 := by
  rw [h.so.count h.a]; exact h.a.pages_le
theorem Sol.below (h : Sol bt bp bd bm N up V T w0 w) (hb : Below w.heap.size w w') : Sol bt bp bd bm N up V T w0 w' :=
  ⟨h.t.below hb, h.tw.below hb, h.a, h.so, h.b0.trans (hb.mono h.b0.size), h.lp, h.lm, h.ne⟩
theorem Sol.lay {V' : Pst} {N' : Nat} {T' : Tr} (h : Sol bt bp bd bm N up V T w0 w) (h1 : LayR V V' 1 T T') (h2 : Tw bp bd bm N' sd0 up 1 V' w') (h4 : Only (fun b => b = bp ∨ b = bm) w w') : Sol bt bp bd bm N' up V' T' w0 w' :=
  ⟨h.t.only h4 (fun e => by rcases e with e | e; exact h.ne.1 e; exact h.ne.2 e), h2, h1.at_, h.so.lay h1, Only.below h.b0 h4 h.b0.size (fun i hi => by rcases hi with hi | hi; rw [hi]; exact h.lp; rw [hi]; exact h.lm), h.lp, h.lm, h.ne⟩
/-- behind a put or a drop -/
def SolTo (bt bp bd bm N D : Nat) (up : Nat → Bool) (P : Tr → Prop) (w0 w w' : World) : Prop := ∃ V' N' T', N' ≤ N + D ∧ P T' ∧ Sol bt bp bd bm N' up V' T' w0 w' ∧ Only (fun b => b = bp ∨ b = bm) w w'
theorem sol_put (h : Sol bt bp bd bm N up V T w0 w) (x : Pr) (hx : x.Ok) (hs : szL T.all + x.sz ≤ 30000) (hN : N + 60 < 1000000) :
    Calls Tryz.prog 48 #[.pointer (some ⟨bt, 0, none⟩), .string x.k, .string x.i] w fun e w' => e = .returned .nilIface ∧ SolTo bt bp bd bm N 40 up (fun T' => szL T'.all ≤ szL T.all + x.sz) w0 w w' := by
  have hc := h.count
  refine (put_any h.t h.tw h.ne h.a x hx (by omega) hN).mono ?_
  rintro e w' ⟨A, mid, C, hr, hg⟩
  have hsz : szL T.all = szL A + szL mid + szL C := by rw [hr.all, szL_append, szL_append]
  have hs1 : szL [x] = x.sz := rfl
  rcases hg with ⟨hbig, _⟩ | ⟨_, rfl, V', N', T', h3, h4, h5, h6, h7⟩
  · rw [szL_append, szL_append, hs1] at hbig
    omega
  · refine ⟨rfl, V', N', T', h6, ?_, h.lay h4 h5 h7, h7⟩
    show szL T'.all ≤ _
    rw [h3, szL_append, szL_append, hs1]
    omega
theorem sol_any (h : Sol bt bp bd bm N up V T w0 w) (hs : StepTo bp bd bm N D 1 sd0 up 1 V T w w') : SolTo bt bp bd bm N D up (fun _ => True) w0 w w' := by
  obtain ⟨V', N', T', h1, h2, h3, h4⟩ := hs
  exact ⟨V', N', T', h3, trivial, h.lay h1 h2 h4, h4⟩
theorem sol_drop (h : Sol bt bp bd bm N up V T w0 w) {A C : List Pr} {y : Pr} (hall : T.all = A ++ [y] ++ C) (hN : N + 60 < 1000000) :
    Calls Tryz.prog 54 #[.pointer (some ⟨bt, 0, none⟩), .string y.k] w fun e w' => e = .returned .nilIface ∧ SolTo bt bp bd bm N 40 up (fun T' => T'.all = A ++ C) w0 w w' := by
  have hc := h.count
  refine (drop_any h.t h.tw h.ne h.a y.k (by omega) hN).mono ?_
  rintro e w' (⟨hno, _⟩ | ⟨A', y', C', ha', hk', hg⟩)
  · exact absurd rfl (hno y (by rw [hall]; simp))
  · have hs : (A ++ [y] ++ C).Pairwise (fun a b => bl a.k b.k = true) := by rw [← hall]; exact h.a.ok.sorted
    obtain ⟨rfl, _, rfl⟩ := sorted_at (hall.symm.trans ha') hs hk'.symm
    rcases hg with ⟨hbig, _⟩ | ⟨_, rfl, V', N', T', h3, h4, h5, h6, h7⟩
    · have hsm : szL T.all ≤ 30000 := h.a.ok.sum
      rw [hall] at hsm
      rw [szL_append, szL_append] at hsm hbig
      simp only [szL] at hbig
      omega
    · exact ⟨rfl, V', N', T', h6, by show T'.all = _; rw [h3]; simp, h.lay h4 h5 h7, h7⟩
end
theorem three_bytes (x0 x1 x2 : Int) (h00 : 0 ≤ x0) (h01 : x0 < 256) (h10 : 0 ≤ x1) (h11 : x1 < 256) (h20 : 0 ≤ x2) (h21 : x2 < 256) (W : World) (B : Nat) (h0 : W.cell? ⟨B, 0, none⟩ = some (.int .u8 x0)) (h1 : W.cell? ⟨B, 1, none⟩ = some (.int .u8 x1)) (h2 : W.cell? ⟨B, 2, none⟩ = some (.int .u8 x2)) :
    (convert 139 9 (.slice (some ⟨B, 0, none⟩) 3 3)).run Tryz.prog W = .ok (.string ⟨#[byteI x0, byteI x1, byteI x2]⟩) W := by
  have e0 : x0 = ((byteI x0).toNat : Int) := by rw [← byteI_toNat, wrap_u8, Int.emod_eq_of_lt h00 h01]
  have e1 : x1 = ((byteI x1).toNat : Int) := by rw [← byteI_toNat, wrap_u8, Int.emod_eq_of_lt h10 h11]
  have e2 : x2 = ((byteI x2).toNat : Int) := by rw [← byteI_toNat, wrap_u8, Int.emod_eq_of_lt h20 h21]
  exact run_convert_bytes_back (P := Tryz.prog) W 139 9 5 ⟨B, 0, none⟩ 3 [byteI x0, byteI x1, byteI x2] Tryz.underlying139 Tryz.underlying5 Tryz.underlying9 (fun j hj => by
    have : j < 3 := by simpa using hj
    have e : j = 0 ∨ j = 1 ∨ j = 2 := by omega
    rcases e with rfl | rfl | rfl
    · rw [Addr.add_zero', h0]; exact congrArg (fun z => some (Value.int .u8 z)) e0
    · rw [show (⟨B, 0, none⟩ : Addr).add 1 = ⟨B, 1, none⟩ from rfl, h1]; exact congrArg (fun z => some (Value.int .u8 z)) e1
    · rw [show (⟨B, 0, none⟩ : Addr).add 2 = ⟨B, 2, none⟩ from rfl, h2]; exact congrArg (fun z => some (Value.int .u8 z)) e2)
theorem cells_new3 (w : World) (a b c : Value) (t : TypeId) : (w.alloc (.cells #[a, b, c] t)).cell? ⟨w.heap.size, 0, none⟩ = some a ∧ (w.alloc (.cells #[a, b, c] t)).cell? ⟨w.heap.size, 1, none⟩ = some b ∧ (w.alloc (.cells #[a, b, c] t)).cell? ⟨w.heap.size, 2, none⟩ = some c := by
  have hn : (w.alloc (.cells #[a, b, c] t)).heap[w.heap.size]? = some (.cells #[a, b, c] t) := heap_alloc_new w _
  exact ⟨by simp only [World.cell?, hn]; rfl, by simp only [World.cell?, hn]; rfl, by simp only [World.cell?, hn]; rfl⟩
end Go.Proofs.YtabcficlnhajeaaGreatDoor
