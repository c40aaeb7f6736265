/- Texts of the proof of TreePlays: Tpd, Tps, Tla, Dwk, Dbk, Dsm, Shs, Dky, Dkz. -/
import Derived.Test.YtndoigopjlkimaaGreatDoorP14
import Derived.Shelf.Strings.Prefix
import Derived.Maps.StringElems
import Derived.Maps.RangeWalk
import Derived.Maps.Ext
import Derived.StringKeys
import Derived.Shelf.SortM.Plain
import Derived.Shelf.SortM.SortNone
import Derived.Ground.SlgmProg
import Derived.Test.YtndoigopjlkimaaGreatDoorProg
import Derived.Sort.OwnSorted
namespace Go.Proofs.YtndoigopjlkimaaGreatDoor
open Go.RowKit Go.Maps

/-- a pair that may be put -/
theorem bytes_leaf (x : Pr) : x.bytes = leafB [x] := by
  unfold Pr.bytes leafB encL encL
  rw [List.append_nil]
theorem leafB_nil : leafB [] = ⟨#[]⟩ := rfl
/-- what Put and Drop tell -/
def SetTo (bp bd bm N r : Nat) (s : St) (up : Nat → Bool) (cm : Int) (V : Pst) (T : Tr) (key : ByteArray) (nw : List Pr) (w : World) (e : Ending) (w' : World) : Prop :=
  ∃ A mid C, ChgR T key A mid C ∧ ChgTo bp bd bm N r s up cm V T A nw C w e w'
theorem Var6.six {B : Nat} {a b c d e f : Value} {w : World} (h : Var6 B [a, b, c, d, e, f] w) : w.cell? ⟨B, 0, none⟩ = some a ∧ w.cell? ⟨B, 1, none⟩ = some b ∧ w.cell? ⟨B, 2, none⟩ = some c ∧ w.cell? ⟨B, 3, none⟩ = some d ∧ w.cell? ⟨B, 4, none⟩ = some e ∧ w.cell? ⟨B, 5, none⟩ = some f :=
  ⟨h.cell 0 (by simp), h.cell 1 (by simp), h.cell 2 (by simp), h.cell 3 (by simp), h.cell 4 (by simp), h.cell 5 (by simp)⟩
section
variable {bt bp bd bm N r : Nat} {s : St} {up : Nat → Bool} {cm : Int} {V : Pst} {w : World}
theorem ChgTo.from {T : Tr} {A nw C : List Pr} {w0 w : World} {e : Ending} {w' : World} (h : ChgTo bp bd bm N r s up cm V T A nw C w e w') (hb : Below w0.heap.size w0 w) : ChgTo bp bd bm N r s up cm V T A nw C w0 e w' := by
  rcases h with ⟨h1, h2, h3⟩ | ⟨h1, h2, V', N', T', h3, h4, h5, h6, h7⟩
  · exact .inl ⟨h1, h2, hb.trans (h3.mono hb.size)⟩
  · exact .inr ⟨h1, h2, V', N', T', h3, h4, h5, h6, (below_only hb _).trans h7 (fun _ e => .inl e)⟩
theorem ChgTo.block {T : Tr} {A nw C : List Pr} {w : World} {e : Ending} {w' : World} (h : ChgTo bp bd bm N r s up cm V T A nw C w e w') {B : Nat} (hB : B < w.heap.size) (h1 : B ≠ bp) (h2 : B ≠ bm) : w'.heap[B]? = w.heap[B]? := by
  rcases h with ⟨_, _, h3⟩ | ⟨_, _, V', N', T', _, _, _, _, h7⟩
  · exact h3.block B hB
  · exact h7.block B hB (fun e => by rcases e with e | e; exact h1 e; exact h2 e)
theorem ChgTo.ret {T : Tr} {A nw C : List Pr} {w : World} {e : Ending} {w' : World} (h : ChgTo bp bd bm N r s up cm V T A nw C w e w') : ∃ u, e = .returned u := by
  rcases h with ⟨_, h2, _⟩ | ⟨_, h2, _⟩
  · exact ⟨_, h2⟩
  · exact ⟨_, h2⟩
theorem SpotR.inLs {T : Tr} {key txt : ByteArray} {l a b : Nat} (h : SpotR T key l txt a b) : l < T.Ls.length ∨ (T.Ls = [] ∧ l = 0) := by
  rcases h with ⟨h1, h2, _⟩ | h
  · exact .inr ⟨h1, h2⟩
  · exact .inl h.lt
set_option maxRecDepth 100000 in
set_option maxHeartbeats 1000000 in
theorem put_any (hT : Tt bt bp r w) (h : Tw bp bd bm N s up cm V w) (hne : bt ≠ bp ∧ bt ≠ bm) {T : Tr} (hA : TrAt V r T) (x : Pr) (hx : x.Ok) (hcnt : countU V.used 2000 + 30 < 1999) (hN : N + 60 < 1000000) :
    Calls Tryz.prog 9 #[.pointer (some ⟨bt, 0, none⟩), .string x.k, .string x.i] w fun e w' => SetTo bp bd bm N r s up cm V T x.k [x] w e w' := by
  obtain ⟨key, item⟩ := x
  obtain ⟨hx1, hx2, hx3⟩ := hx
  simp only at hx1 hx2 hx3 ⊢
  have HA : Hid _ := hA
  have HT : Hid _ := hT
  have HW : Hid _ := h
  have hlt := h.lt
  have hltt := hT.lt
  have i1 : ¬ (60 : Int) < (key.size : Int) := by omega
  have i2 : ¬ (100 : Int) < (item.size : Int) := by omega
  have i3 : ¬ key.toList = [] := fun e => by
    rw [ByteArray.toList_eq] at e
    have := congrArg List.length e
    rw [Array.length_toList] at this
    exact absurd this (by show key.size ≠ 0; omega)
  have i4 : key.toList.isEmpty = false := by
    cases e : key.toList with
    | nil => exact absurd e i3
    | cons a b => rfl
  clear hA hT h
  go_enter Tryz.func9, Tryz.ntmps9
  go_wp2_with fail
  refine (seek_any HT.out HW.out HA.out key).mono ?_
  rintro _ w1 ⟨v, l, txt, a, b, rfl, hs, hv1, hb1⟩
  obtain ⟨a9, cap9, hv9, _⟩ := hv1.is
  generalize hn9 : (ints T.ks).length = n9 at hv9
  subst hv9
  have HS : Hid (SpotR T key l txt a b) := hs
  have HV1 : Hid (View w.heap.size (.slice a9 n9 cap9) (ints T.ks) w1) := hv1
  have HB1 : Hid (Below w.heap.size w w1) := hb1
  obtain ⟨W2, hW2⟩ : ∃ W2, w1.alloc (.cells #[.int .i64 (T.top : Nat), .slice a9 n9 cap9, .int .i64 (l : Nat), .string txt, .int .i64 (a : Nat), .int .i64 (b : Nat)] 94) = W2 := ⟨_, rfl⟩
  have hb2 : Below w1.heap.size w1 W2 := by rw [← hW2]; exact (Below.refl _ w1).alloc (Nat.le_refl _) _
  have HV6 : Hid (Var6 w1.heap.size [.int .i64 (T.top : Nat), .slice a9 n9 cap9, .int .i64 (l : Nat), .string txt, .int .i64 (a : Nat), .int .i64 (b : Nat)] W2.drew) := by rw [← hW2]; exact (Var6.new6 w1 _ _ _ _ _ _ 94).below (Below.refl _ _).drew
  have HB2 : Hid (Below w.heap.size w W2.drew) := (hb1.trans (hb2.mono hb1.size)).drew
  have HBX : Hid (Below w1.heap.size w1 W2.drew) := hb2.drew
  clear hs hv1 hb1 hb2 hn9 i3 i4
  go_wp2_with fail
  go_region_held3 (fun wx => wx.cell? ⟨w1.heap.size, 0, none⟩ = some (.int .i64 (T.top : Nat)) ∧ wx.cell? ⟨w1.heap.size, 1, none⟩ = some (.slice a9 n9 cap9) ∧ wx.cell? ⟨w1.heap.size, 2, none⟩ = some (.int .i64 (l : Nat)) ∧ wx.cell? ⟨w1.heap.size, 3, none⟩ = some (.string txt) ∧ wx.cell? ⟨w1.heap.size, 4, none⟩ = some (.int .i64 (a : Nat)) ∧ wx.cell? ⟨w1.heap.size, 5, none⟩ = some (.int .i64 (b : Nat))) (first | exact HV6.out.six | exact HV63.out.six | exact HV64.out.six) (first | (go_at_call 32; refine (writePair_any ⟨key, item⟩ ⟨hx1, hx2, hx3⟩ _).mono ?_; rintro _ w3 ⟨rfl, hb3⟩; rw [bytes_leaf]; have HB3 : Hid (Below W2.drew.heap.size W2.drew w3) := hb3; have HV63 : Hid (Var6 w1.heap.size [.int .i64 (T.top : Nat), .slice a9 n9 cap9, .int .i64 (l : Nat), .string txt, .int .i64 (a : Nat), .int .i64 (b : Nat)] w3) := HV6.out.below hb3; clear hb3) | (go_at_call 31; obtain ⟨A, mid, C, hsa⟩ := SpotR.all HS.out HA.out.ok; have HBW : Hid (Below w.heap.size w w3) := HB2.out.trans (HB3.out.mono HB2.out.size); have HB13 : Hid (Below w1.heap.size w1 w3) := HBX.out.trans (HB3.out.mono HBX.out.size); refine (change_any (HT.out.below HBW.out) (HW.out.below HBW.out) hne HA.out (HV1.out.below HB13.out) ⟨by omega, by omega⟩ hsa (SpotR.inLs HS.out) (.inr ⟨_, rfl, rfl⟩) (fun y hy => by obtain rfl := List.mem_singleton.1 hy; exact ⟨hx1, hx2, hx3⟩) hcnt hN).mono ?_; rintro e4 w4 hc4; have HC4 : Hid (ChgTo bp bd bm N r s up cm V T A [⟨key, item⟩] C w e4 w4) := hc4.from HBW.out; have HV64 : Hid (Var6 w1.heap.size [.int .i64 (T.top : Nat), .slice a9 n9 cap9, .int .i64 (l : Nat), .string txt, .int .i64 (a : Nat), .int .i64 (b : Nat)] w4) := HV63.out.block (hc4.block (by have := HV63.out.lt; omega) (by have := HB1.out.size; omega) (by have := HB1.out.size; omega)); have HCR : Hid _ := hsa.chg; obtain ⟨u4, he4⟩ := hc4.ret; subst he4; clear hc4 hsa))
  go_wp2
  go_ret
  exact ⟨A, mid, C, HCR.out, HC4.out⟩
set_option maxRecDepth 100000 in
theorem put_bad (key item : ByteArray) (hx : ¬ (1 ≤ key.size ∧ key.size ≤ 60 ∧ item.size ≤ 100)) (v : Value) :
    Calls Tryz.prog 9 #[v, .string key, .string item] w fun e w' => e = .returned (.iface 36 (.int .i64 1)) ∧ w' = w := by
  by_cases h0 : key.size = 0
  · have i3 : key.toList = [] := by
      rw [ByteArray.toList_eq]
      exact List.length_eq_zero_iff.1 (by rw [Array.length_toList]; exact h0)
    have i4 : key.toList.isEmpty = true := by rw [i3]; rfl
    clear h0 hx
    go_enter Tryz.func9, Tryz.ntmps9
    go_wp2
    go_ret
    exact ⟨rfl, rfl⟩
  · have i3 : ¬ key.toList = [] := fun e => by
      rw [ByteArray.toList_eq] at e
      have := congrArg List.length e
      rw [Array.length_toList] at this
      exact h0 this
    have i4 : key.toList.isEmpty = false := by
      cases e : key.toList with
      | nil => exact absurd e i3
      | cons a b => rfl
    by_cases h1 : key.size ≤ 60
    · have i1 : ¬ (60 : Int) < (key.size : Int) := by omega
      have i2 : (100 : Int) < (item.size : Int) := by omega
      clear h0 hx h1
      go_enter Tryz.func9, Tryz.ntmps9
      go_wp2
      go_ret
      exact ⟨rfl, rfl⟩
    · have i1 : (60 : Int) < (key.size : Int) := by omega
      clear h0 hx h1
      go_enter Tryz.func9, Tryz.ntmps9
      go_wp2
      go_ret
      exact ⟨rfl, rfl⟩
/-- what Drop tells -/
def DropTo (bp bd bm N r : Nat) (s : St) (up : Nat → Bool) (cm : Int) (V : Pst) (T : Tr) (key : ByteArray) (w : World) (e : Ending) (w' : World) : Prop :=
  ((∀ x ∈ T.all, x.k ≠ key) ∧ e = .returned (.iface 36 (.int .i64 7)) ∧ Below w.heap.size w w') ∨
  ∃ A y C, T.all = A ++ [y] ++ C ∧ y.k = key ∧ ChgTo bp bd bm N r s up cm V T A [] C w e w'
set_option maxRecDepth 100000 in
set_option maxHeartbeats 1000000 in
theorem drop_any (hT : Tt bt bp r w) (h : Tw bp bd bm N s up cm V w) (hne : bt ≠ bp ∧ bt ≠ bm) {T : Tr} (hA : TrAt V r T) (key : ByteArray) (hcnt : countU V.used 2000 + 30 < 1999) (hN : N + 60 < 1000000) :
    Calls Tryz.prog 11 #[.pointer (some ⟨bt, 0, none⟩), .string key] w fun e w' => DropTo bp bd bm N r s up cm V T key w e w' := by
  have HA : Hid _ := hA
  have HT : Hid _ := hT
  have HW : Hid _ := h
  have hlt := h.lt
  have hltt := hT.lt
  clear hA hT h
  go_enter Tryz.func11, Tryz.ntmps11
  go_wp2_with fail
  refine (seek_any HT.out HW.out HA.out key).mono ?_
  rintro _ w1 ⟨v, l, txt, a, b, rfl, hs, hv1, hb1⟩
  obtain ⟨a9, cap9, hv9, _⟩ := hv1.is
  generalize hn9 : (ints T.ks).length = n9 at hv9
  subst hv9
  obtain ⟨A, mid, C, hsa⟩ := SpotR.all hs HA.out.ok
  have HSA : Hid _ := hsa
  have HS : Hid (SpotR T key l txt a b) := hs
  have HV1 : Hid (View w.heap.size (.slice a9 n9 cap9) (ints T.ks) w1) := hv1
  have HB1 : Hid (Below w.heap.size w w1) := hb1
  obtain ⟨W2, hW2⟩ : ∃ W2, w1.alloc (.cells #[.int .i64 (T.top : Nat), .slice a9 n9 cap9, .int .i64 (l : Nat), .string txt, .int .i64 (a : Nat), .int .i64 (b : Nat)] 94) = W2 := ⟨_, rfl⟩
  have hb2 : Below w1.heap.size w1 W2 := by rw [← hW2]; exact (Below.refl _ w1).alloc (Nat.le_refl _) _
  have HV6 : Hid (Var6 w1.heap.size [.int .i64 (T.top : Nat), .slice a9 n9 cap9, .int .i64 (l : Nat), .string txt, .int .i64 (a : Nat), .int .i64 (b : Nat)] W2) := by rw [← hW2]; exact Var6.new6 w1 _ _ _ _ _ _ 94
  have HBX : Hid (Below w1.heap.size w1 W2) := hb2
  clear hs hv1 hb1 hb2 hn9 hsa
  have q6 := HV6.out.six
  obtain ⟨q0, q1, q2, q3, q4, q5⟩ := q6
  go_wp2_with fail
  refine (taken_any _ _ _ _ _ _ _).mono ?_
  rintro _ w3 ⟨rfl, hb3⟩
  have HV63 : Hid (Var6 w1.heap.size [.int .i64 (T.top : Nat), .slice a9 n9 cap9, .int .i64 (l : Nat), .string txt, .int .i64 (a : Nat), .int .i64 (b : Nat)] w3) := HV6.out.below hb3
  have HB13 : Hid (Below w1.heap.size w1 w3) := HBX.out.trans (hb3.mono HBX.out.size)
  have HBW : Hid (Below w.heap.size w w3) := HB1.out.trans (HB13.out.mono HB1.out.size)
  clear hb3 hW2 q0 q1 q2 q3 q4 q5
  by_cases hab : a < b
  · have e1 : (decide ((a : Int) < (b : Int))) = true := decide_eq_true (by omega)
    rw [e1]
    have q6 := HV63.out.six
    obtain ⟨q0, q1, q2, q3, q4, q5⟩ := q6
    have HMID : Hid (∃ y, mid = [y] ∧ y.k = key) := by
      rcases HSA.out.chg.mid_ with e | e
      · have := HSA.out.ab
        rw [e] at this
        simp [szL] at this
        omega
      · exact e
    clear e1 hab
    go_wp2_with fail
    refine (change_any (nw := []) (HT.out.below HBW.out) (HW.out.below HBW.out) hne HA.out (HV1.out.below HB13.out) ⟨by omega, by omega⟩ HSA.out (SpotR.inLs HS.out) (.inl rfl) (fun y hy => by simp at hy) hcnt hN).mono ?_
    rintro e4 w4 hc4
    have HC4 : Hid (ChgTo bp bd bm N r s up cm V T A [] C w e4 w4) := hc4.from HBW.out
    obtain ⟨u4, he4⟩ := hc4.ret
    subst he4
    clear hc4 q0 q1 q2 q3 q4 q5
    go_wp2
    go_ret
    obtain ⟨y, hy1, hy2⟩ := HMID.out
    exact .inr ⟨A, y, C, by rw [← hy1]; exact HSA.out.chg.all, hy2, HC4.out⟩
  · have e1 : (decide ((a : Int) < (b : Int))) = false := decide_eq_false (by omega)
    rw [e1]
    have HNO : Hid (∀ x ∈ T.all, x.k ≠ key) := by
      intro x hx
      rw [HSA.out.chg.all] at hx
      have hm : mid = [] := by
        have := HSA.out.ab
        exact szL_zero (by omega)
      rw [hm, List.append_nil] at hx
      rcases List.mem_append.1 hx with hx | hx
      · exact bl_ne (HSA.out.chg.less x hx)
      · exact fun e => bl_ne (HSA.out.chg.more x hx) e.symm
    clear e1 hab
    go_wp2
    go_ret
    exact .inl ⟨HNO.out, rfl, HBW.out⟩
end
end Go.Proofs.YtndoigopjlkimaaGreatDoor
namespace Go.Proofs.YtndoigopjlkimaaGreatDoor
open Go.RowKit Go.Maps

def pairB (x : Pr) : ByteArray := ⟨#[byteI (x.k.size : Int)]⟩ ++ x.k ++ ⟨#[byteI (x.i.size : Int)]⟩ ++ x.i
def pairsB (l : List Pr) : ByteArray := l.foldl (fun s x => s ++ pairB x) ⟨#[]⟩
theorem pairsB_succ {l : List Pr} {k : Nat} (hk : k < l.length) : pairsB (l.take (k + 1)) = pairsB (l.take k) ++ pairB l[k] := by
  unfold pairsB
  rw [List.take_succ_eq_append_getElem hk, List.foldl_append]
  rfl
theorem pairB_size (x : Pr) : (pairB x).size = x.sz := by
  unfold pairB Pr.sz
  simp only [ByteArray.size_append]
  show 1 + x.k.size + 1 + x.i.size = _
  omega
theorem pairsB_size : ∀ (l : List Pr) (k : Nat), k ≤ l.length → (pairsB (l.take k)).size = szL (l.take k)
  | l, 0, _ => rfl
  | l, k + 1, h => by
    rw [pairsB_succ (by omega), ByteArray.size_append, pairB_size, pairsB_size l k (by omega), szL_take_succ (by omega)]
theorem size64 : (sizeOf 100).run Tryz.prog = fun w => .ok 2 w := by funext w; simp [Tryz.sizeOf100]
theorem elem60 : Tryz.prog.elem 54 = 100 := by kernel_rfl
theorem index_two {t e : TypeId} (ht : Tryz.prog.underlying t = some (.slice e)) (he : Tryz.prog.elem t = e) (hs : (sizeOf e).run Tryz.prog = fun w => .ok 2 w) (g n cap i : Nat) (hi : i < n) (wx : World) : (Instr.indexAt t (.slice (some ⟨g, 0, none⟩) n cap) (.int .i64 (i : Nat))).run Tryz.prog wx = .ok (.pointer (some ⟨g, 2 * i, none⟩)) wx := by
  subst he
  rw [run_indexAt_slice (h := ht), if_pos ⟨by omega, by omega⟩, hs]
  simp [Result.andThen, add_pl, Nat.mul_comm]
/-- a pair in a row -/
theorem PRow.at {B : Nat} {v : Value} {ps : List Pr} {w : World} (h : PRow B v ps w) {i : Nat} (hi : i < ps.length) : ∃ g, B ≤ g ∧ w.cell? ⟨g, 2 * i, none⟩ = some (.string ps[i].k) ∧ w.cell? ⟨g, 2 * i + 1, none⟩ = some (.string ps[i].i) ∧
    ∀ wx, (Instr.indexAt 54 v (.int .i64 (i : Nat))).run Tryz.prog wx = .ok (.pointer (some ⟨g, 2 * i, none⟩)) wx := by
  obtain ⟨g, cap, rfl, h1, h2⟩ := World.ownsRow.form h (by omega)
  have hfl : ∀ (l : List Pr) (i : Nat) (hi : i < l.length), (l.flatMap pairC)[2 * i]? = some (.string l[i].k) ∧ (l.flatMap pairC)[2 * i + 1]? = some (.string l[i].i) := by
    intro l
    induction l with
    | nil => intro i hi; simp at hi
    | cons x r ih =>
      intro i hi
      cases i with
      | zero => exact ⟨rfl, rfl⟩
      | succ i =>
        have := ih i (by simpa using hi)
        rw [List.flatMap_cons]
        show ([_, _] ++ _)[2 * (i + 1)]? = _ ∧ ([_, _] ++ _)[2 * (i + 1) + 1]? = _
        rw [show 2 * (i + 1) = (2 * i) + 1 + 1 by omega]
        exact this
  have h3 := hfl ps i hi
  refine ⟨g, h1, ?_, ?_, fun wx => ?_⟩
  · have := h.cells (g := g) rfl (2 * i) _ h3.1
    rwa [add_pl, Nat.zero_add] at this
  · have := h.cells (g := g) rfl (2 * i + 1) _ h3.2
    rwa [add_pl, Nat.zero_add] at this
  · exact index_two Tryz.underlying54 elem60 size64 g ps.length cap i hi wx
theorem two_alloc {wx : World} {o : Obj} {a b : Addr} {x y : Value} (h : wx.cell? a = some x ∧ wx.cell? b = some y) : (wx.alloc o).cell? a = some x ∧ (wx.alloc o).cell? b = some y :=
  ⟨by rw [World.cell?_alloc_some _ _ _ (by rw [h.1]; rfl)]; exact h.1, by rw [World.cell?_alloc_some _ _ _ (by rw [h.2]; rfl)]; exact h.2⟩
theorem wpAnyH_strong {P : Program} {md : Region.Mode} {ops : Array Oper} {Q : Exit → Act → World → Prop} {S S' : World → Prop} (hS : ∀ w, S' w → S w) : ∀ (fuel : Nat) (listed : Array Bool) (a : Act) (w : World), wpAnyH P md ops Q S' fuel listed a w → wpAnyH P md ops Q S fuel listed a w
  | 0, _, _, _, h => h
  | fuel + 1, _, _, _, h => ⟨h.1, fun i hi => wpOp_mono (fun a' w' h' => ⟨hS w' h'.1, wpAnyH_strong hS fuel _ a' w' h'.2⟩) (h.2 i hi)⟩
section
variable {bt bp bd bm N r : Nat} {s : St} {up : Nat → Bool} {cm : Int} {V : Pst} {w : World}
end
end Go.Proofs.YtndoigopjlkimaaGreatDoor
namespace Go.Proofs.YtndoigopjlkimaaGreatDoor
open Go.RowKit Go.Maps

section
variable {V V' V'' : Pst} {r : Nat} {T T' T'' : Tr}
theorem TrAt.used_pg (h : TrAt V r T) : ∀ k ∈ T.pgL, V.used k = true ∧ 0 < k ∧ k < 2000 := fun k hk => by
  unfold Tr.pgL at hk
  rcases List.mem_append.1 hk with hk | hk
  · by_cases h0 : T.top = 0
    · rw [if_pos h0] at hk; simp at hk
    · rw [if_neg h0] at hk
      obtain rfl := List.mem_singleton.1 hk
      have := h.ltop h0
      exact ⟨this.2.1, by omega, this.1⟩
  · have := h.low k hk
    exact ⟨this.2.2, this.1, this.2.1⟩
theorem TrAt.pg_nodup (h : TrAt V r T) : T.pgL.Nodup := by
  unfold Tr.pgL
  by_cases h0 : T.top = 0
  · rw [if_pos h0]; exact h.nodup
  · rw [if_neg h0, List.singleton_append, List.nodup_cons]
    exact ⟨(h.ltop h0).2.2.2, h.nodup⟩
theorem TrAt.pg_len (h : TrAt V r T) : T.pgL.length = T.pages := by
  unfold Tr.pgL Tr.pages
  rw [List.length_append, h.len]
  by_cases h0 : T.top = 0
  · rw [if_pos h0, if_pos (h.top0.1 h0)]; simp
  · rw [if_neg h0, if_neg (fun e => h0 (h.top0.2 e))]
    show 1 + _ = _
    omega
theorem TrAt.pages_le (h : TrAt V r T) : T.pages ≤ 60 := by
  have := h.ok.len
  unfold Tr.pages
  split <;> omega
/-- what does not touch a tree's pages leaves it as it is -/
theorem TrAt.keep (h : TrAt V r T) (hu : ∀ k ∈ T.pgL, V'.used k = true ∧ V'.tx k = V.tx k) (hrp : V'.rp r = V.rp r) (hrn : V'.rn r = V.rn r) : TrAt V' r T := by
  have hk : ∀ k ∈ T.ks, k ∈ T.pgL := fun k hk => List.mem_append.2 (.inr hk)
  refine ⟨h.len, h.ok, by rw [hrn]; exact h.rn, by rw [hrp]; exact h.rp, h.top0, fun h0 => ?_, fun k hkk => ?_, fun i hi hl => ?_, h.nodup⟩
  · have hm : T.top ∈ T.pgL := List.mem_append.2 (.inl (by rw [if_neg h0]; simp))
    obtain ⟨h1, h2, h3, h4⟩ := h.ltop h0
    exact ⟨h1, (hu _ hm).1, by rw [(hu _ hm).2]; exact h3, h4⟩
  · have := h.low k hkk
    exact ⟨this.1, this.2.1, (hu k (hk k hkk)).1⟩
  · rw [(hu _ (hk _ (List.getElem_mem hi))).2]
    exact h.page i hi hl
theorem LayR.refl (h : TrAt V r T) : LayR V V r T T := by
  refine ⟨h, fun k => ?_, fun k hk => .inl hk, fun _ _ _ => rfl, fun _ _ => rfl, fun _ _ => rfl⟩
  by_cases e : k ∈ T.pgL
  · simp [e, (h.used_pg k e).1]
  · simp [e]
theorem LayR.trans (h : LayR V V' r T T') (k : LayR V' V'' r T' T'') : LayR V V'' r T T'' := by
  have hn : ∀ i, V.used i = true → i ∉ T.pgL → i ∉ T'.pgL := fun i hu hi e => by
    rcases h.new i e with h1 | h1
    · exact hi h1
    · rw [hu] at h1; cases h1
  refine ⟨k.at_, fun i => ?_, fun i hi => ?_, fun i hu hi => ?_, fun i hi => (k.rp i hi).trans (h.rp i hi), fun i hi => (k.rn i hi).trans (h.rn i hi)⟩
  · rw [k.used i, h.used i]
    constructor
    · rintro (⟨h1 | h1, h2⟩ | h1)
      · exact .inl h1
      · exact absurd h1 h2
      · exact .inr h1
    · rintro (h1 | h1)
      · exact .inl ⟨.inl h1, hn i h1.1 h1.2⟩
      · exact .inr h1
  · rcases k.new i hi with h1 | h1
    · exact h.new i h1
    · by_cases e : i ∈ T.pgL
      · exact .inl e
      · refine .inr ?_
        cases hq : V.used i
        · rfl
        · have := (h.used i).2 (.inl ⟨hq, e⟩)
          rw [h1] at this; cases this
  · have h1 := hn i hu hi
    rw [k.tx i ((h.used i).2 (.inl ⟨hu, hi⟩)) h1, h.tx i hu hi]
/-- how many pages are in use at most -/
theorem countU_union {f g : Nat → Bool} {n : Nat} : ∀ (L : List Nat), (∀ k, f k = true → g k = true ∨ k ∈ L) → countU f n ≤ countU g n + L.length := by
  intro L
  induction L generalizing g with
  | nil =>
    intro h
    have : ∀ n, countU f n ≤ countU g n := by
      intro n
      induction n with
      | zero => exact Nat.le_refl _
      | succ n ih =>
        rw [countU, countU]
        cases e : f n
        · simp only [Bool.false_eq_true, if_false]; omega
        · rcases h n e with h1 | h1
          · rw [h1]; omega
          · simp at h1
    exact this n
  | cons x L ih =>
    intro h
    have h1 := ih (g := fun i => if i = x then true else g i) (fun k hk => by
      show (if k = x then true else g k) = true ∨ _
      by_cases e : k = x
      · rw [if_pos e]; exact .inl rfl
      · rw [if_neg e]
        rcases h k hk with h2 | h2
        · exact .inl h2
        · rcases List.mem_cons.1 h2 with h3 | h3
          · exact absurd h3 e
          · exact .inr h3)
    have h2 := countU_put g x n
    rw [List.length_cons]
    omega
theorem LayR.count (h : LayR V V' r T T') : countU V'.used 2000 ≤ countU V.used 2000 + 60 := by
  have h1 := countU_union (f := V'.used) (g := V.used) (n := 2000) T'.pgL (fun k hk => by
    rcases (h.used k).1 hk with h1 | h1
    · exact .inl h1.1
    · exact .inr h1)
  have h2 := h.at_.pg_len
  have h3 := h.at_.pages_le
  omega
end
/-- a pager's pages as the tree sees them -/
def Pg.pst (p : Pg) (pg : Nat → ByteArray) : Pst := ⟨p.used, p.text pg, p.rp, p.rn⟩
theorem Match.self (p : Pg) (pg : Nat → ByteArray) : Match p pg (p.pst pg) := ⟨rfl, fun _ _ _ => rfl, fun _ _ => rfl, fun _ _ => rfl⟩
def sd0 : St := ⟨fun _ => zeros, false, 0, 0⟩
theorem zeros_at (k : Nat) : zeros.data.toList.getD k 0 = 0 := by
  have h : zeros.data.toList = List.replicate 1024 0 := by
    unfold zeros
    simp
  rw [h, List.getD_eq_getElem?_getD, List.getElem?_replicate]
  split <;> rfl
theorem sd0_head : headOf sd0.pg = zeros := rfl
theorem sd0_used (c : Int) (d : Bool) (k : Nat) : (loaded sd0.pg c d).used k = false := by
  show usedOf (headOf sd0.pg) k = false
  rw [sd0_head]
  unfold usedOf bitOf
  rw [zeros_at]
  simp
theorem num_zeros (i : Nat) : numOf zeros i = 0 := by
  unfold numOf
  rw [zeros_at, zeros_at]
  rfl
/-- an empty tree -/
def Tr.none : Tr := ⟨0, [], []⟩
theorem empty_at {V : Pst} {r : Nat} (h1 : V.rp r = 0) (h2 : V.rn r = 0) : TrAt V r Tr.none :=
  ⟨rfl, ⟨by simp [Tr.none], by simp [Tr.none], by simp [Tr.none], fun i hi => absurd hi (by simp [Tr.none]), Nat.zero_le _, List.Pairwise.nil⟩, h2, h1, ⟨fun _ => by simp [Tr.none], fun _ => rfl⟩, fun h => absurd rfl h, by simp [Tr.none], fun i hi => absurd hi (by simp [Tr.none]), List.nodup_nil⟩
section
variable {bp bd bm N : Nat} {s : St} {up : Nat → Bool} {cm : Int} {V : Pst} {w : World}
/-- a new disk's pager -/
theorem open_new (w : World) : Calls Tryz.prog 4 #[.pointer (some ⟨w.heap.size, 0, none⟩)] (w.alloc (.cells Tryz.zeroCells31 31)) fun e w' => ∃ bp bm up V, e = .returned (.tuple #[.pointer (some ⟨bp, 0, none⟩), .nilIface]) ∧ w.heap.size < bp ∧ w.heap.size < bm ∧ bp ≠ bm ∧ Tw bp w.heap.size bm 0 sd0 up 1 V w' ∧ (∀ k, V.used k = false) ∧ (∀ i, i < 8 → TrAt V i Tr.none) ∧ Below w.heap.size w w' := by
  refine (open_any (disk_new w)).mono ?_
  rintro _ w1 ⟨bp, bm, rfl, h1, h2, h3, h4, h5⟩
  rw [World.size_alloc] at h1 h2
  refine ⟨bp, bm, _, (loaded sd0.pg 1 false).pst sd0.pg, rfl, h1, h2, fun e => h3.ne e.symm, ⟨⟨_, h3, loaded_ok _ _ _, rfl, rfl, rfl, Match.self _ _⟩, h4⟩, fun k => sd0_used 1 false k, fun i hi => empty_at ?_ ?_, ((Below.refl _ w).alloc (Nat.le_refl _) _).trans (h5.mono (by simp))⟩
  · exact num_zeros _
  · exact num_zeros _
end
end Go.Proofs.YtndoigopjlkimaaGreatDoor
namespace Go.Proofs.YtndoigopjlkimaaGreatDoor
open Go.RowKit Go.Maps

theorem at_nil (i : Int) (w : World) : Calls Tryz.prog 5 #[.pointer none, .int .i64 i] w fun e w' => e = .returned (.tuple #[.pointer none, .iface 36 (.int .i64 7)]) ∧ w' = w := by
  go_enter Tryz.func5, Tryz.ntmps5
  go_wp2
  go_ret2
  exact ⟨rfl, rfl⟩
theorem at_no (bp : Nat) (i : Int) (hi : ¬ (0 ≤ i ∧ i < 8)) (w : World) : Calls Tryz.prog 5 #[.pointer (some ⟨bp, 0, none⟩), .int .i64 i] w fun e w' => e = .returned (.tuple #[.pointer none, .iface 36 (.int .i64 2)]) ∧ w' = w := by
  have HI : Hid _ := hi
  clear hi
  go_enter Tryz.func5, Tryz.ntmps5
  go_wp2_with fail
  refine (root_no i HI.out w).mono ?_
  rintro _ w9 ⟨rfl, h9⟩
  obtain rfl := h9.symm
  go_wp2
  go_ret2
  exact ⟨rfl, rfl⟩
set_option maxRecDepth 100000 in
theorem walk_cl_neg {B C : Nat} {n m : Int} (w : World) (h1 : Own1 B (.int .i64 n) w) (h2 : Own1 C (.int .i64 m) w) (hne : C ≠ B) (hm : m < 0) (t : ByteArray) :
    Calls Tryz.prog 39 #[.string t, .pointer (some ⟨B, 0, none⟩), .pointer (some ⟨C, 0, none⟩)] w fun e w' => e = .returned (.bool true) ∧ (∃ k, Own1 B (.int .i64 k) w') ∧ Own1 C (.int .i64 m) w' ∧ Only (fun b => b = B) w w' := by
  obtain ⟨k, hk⟩ : ∃ k, IntKind.i64.wrap (n - 1) = k := ⟨_, rfl⟩
  have c0 := h1.cell
  have c1 := h1.free
  have H1 : Hid (Own1 B (.int .i64 k) (w.setCell ⟨B, 0, none⟩ (.int .i64 k))) := h1.set _
  have H2 : Hid (Own1 C (.int .i64 m) (w.setCell ⟨B, 0, none⟩ (.int .i64 k))) := h2.far hne
  have c2 := H1.out.cell
  have c3 := H2.out.cell
  have HO : Hid (Only (fun b => b = B) w (w.setCell ⟨B, 0, none⟩ (.int .i64 k))) := Only.set B 0 _ w
  clear h1 h2
  go_enter Tryz.func39, Tryz.ntmps39
  go_wp2
  go_ret
  exact ⟨rfl, ⟨k, H1.out⟩, H2.out, HO.out⟩
section
variable {bt bp bd bm N r : Nat} {s : St} {up : Nat → Bool} {cm : Int} {V : Pst}
set_option maxRecDepth 100000 in
theorem walk_neg (w : World) (hT : Tt bt bp r w) (h : Tw bp bd bm N s up cm V w) {T : Tr} (hA : TrAt V r T) (from_ : ByteArray) (most : Int) (hm : most < 0) :
    Calls Tryz.prog 14 #[.pointer (some ⟨bt, 0, none⟩), .string from_, .int .i64 most] w fun e w' => ∃ v, e = .returned (.tuple #[v, .nilIface]) ∧ PRow w.heap.size v (walkL (wntN most) from_ 0 T.all) w' ∧ Below w.heap.size w w' := by
  have HA : Hid _ := hA
  have hB0 : Below w.heap.size w ((w.alloc (.cells #[.int .i64 most] 3)).alloc (.cells #[.int .i64 most] 3)) := ((Below.refl _ w).alloc (Nat.le_refl _) _).alloc (by simp) _
  have HT0 : Hid _ := hT.below hB0
  have HW0 : Hid _ := h.below hB0
  have HB0 : Hid (Below w.heap.size w ((w.alloc (.cells #[.int .i64 most] 3)).alloc (.cells #[.int .i64 most] 3))) := hB0
  have hmf : ∀ (fn : Fn) (first cap : Array Value) (w : World), (Instr.makeFunc fn first cap).run Tryz.prog w = .ok (.func fn first cap) w := fun _ _ _ _ => rfl
  have HO1 : Hid (Own1 w.heap.size (.int .i64 most) ((w.alloc (.cells #[.int .i64 most] 3)).alloc (.cells #[.int .i64 most] 3))) := (Own1.new w (.int .i64 most) 3).below ((Below.refl _ _).alloc (Nat.le_refl _) _)
  have HO2 : Hid (Own1 (w.heap.size + 1) (.int .i64 most) ((w.alloc (.cells #[.int .i64 most] 3)).alloc (.cells #[.int .i64 most] 3))) := by
    have := Own1.new (w.alloc (.cells #[.int .i64 most] 3)) (.int .i64 most) 3
    rw [World.size_alloc] at this
    exact this
  have hltt := hT.lt
  have hltw := h.lt
  have q0 := (Own1.new w (.int .i64 most) 3).cell
  have HM : Hid (most < 0) := hm
  clear hA hT h hB0 hm
  go_enter Tryz.func14, Tryz.ntmps14
  go_wp2_with fail
  refine (collect_any (wnt := wntN most) (I := fun k wx => (∃ j, Own1 (w.heap.size + 1) (.int .i64 j) wx) ∧ Own1 w.heap.size (.int .i64 most) wx) (W := fun b => b = w.heap.size + 1) _ HT0.out HW0.out HA.out from_ (fun b hb => by subst hb; refine ⟨by simp only [World.size_alloc]; omega, ?_, ?_, ?_, ?_⟩ <;> omega) (enters_of Tryz.func39 (by kernel_rfl) rfl)
    ⟨⟨most, HO2.out⟩, HO1.out⟩ (fun k wx wy hh ho => ⟨hh.1.imp (fun j hj => hj.only ho (by simp only [World.size_alloc]; omega)), hh.2.only ho (by simp only [World.size_alloc]; omega)⟩) (fun k key wx hk hh => ?_)).mono ?_
  · obtain ⟨⟨j, hj⟩, h2⟩ := hh
    refine (walk_cl_neg wx hj h2 (by omega) HM.out key).mono ?_
    rintro _ w' ⟨rfl, g1, g2, g3⟩
    have e : wntN most k key = true := by unfold wntN; simp [HM.out]
    rw [e]
    exact ⟨rfl, ⟨g1, g2⟩, g3⟩
  rintro _ w2 ⟨v, rfl, hR, hO⟩
  have HR2 : Hid (PRow w.heap.size v (walkL (wntN most) from_ 0 T.all) w2) := row_base hR (by simp; omega)
  have HB2 : Hid (Below w.heap.size w w2) := Only.below HB0.out hO (by simp; omega) (fun i hi => by omega)
  clear hR hO
  go_wp2
  go_ret2
  exact ⟨_, rfl, HR2.out, HB2.out⟩
theorem walk_every (w : World) (hT : Tt bt bp r w) (h : Tw bp bd bm N s up cm V w) {T : Tr} (hA : TrAt V r T) (from_ : ByteArray) (most : Int) (hm2 : most ≤ 9223372036854775807) :
    Calls Tryz.prog 14 #[.pointer (some ⟨bt, 0, none⟩), .string from_, .int .i64 most] w fun e w' => ∃ v, e = .returned (.tuple #[v, .nilIface]) ∧ PRow w.heap.size v (walkL (wntN most) from_ 0 T.all) w' ∧ Below w.heap.size w w' := by
  by_cases hm : most < 0
  · exact walk_neg w hT h hA from_ most hm
  · exact walk_any w hT h hA from_ most (by omega) hm2
/-- a key begins so -/
def pfx (s : ByteArray) (_ : Nat) (key : ByteArray) : Bool := Lib.hasPrefix key.data.toList s.data.toList
theorem hasPrefix_any (a b : ByteArray) (w : World) : Calls Tryz.prog 16 #[.string a, .string b] w fun e w' => e = .returned (.bool (Lib.hasPrefix a.data.toList b.data.toList)) ∧ w' = w := Go.Proofs.Any.strings_HasPrefix Tryz.lays99 a b w
set_option maxRecDepth 100000 in
theorem prefix_cl {B : Nat} {s : ByteArray} (w : World) (h : Own1 B (.string s) w) (key : ByteArray) (k : Nat) :
    Calls Tryz.prog 41 #[.string key, .pointer (some ⟨B, 0, none⟩)] w fun e w' => e = .returned (.bool (pfx s k key)) ∧ w' = w := by
  have c0 := h.cell
  clear h
  go_enter Tryz.func41, Tryz.ntmps41
  go_wp2_with fail
  refine (hasPrefix_any key s w).mono ?_
  rintro _ w9 ⟨rfl, h9⟩
  obtain rfl := h9.symm
  clear h9
  go_wp2
  go_ret
  exact ⟨rfl, rfl⟩
set_option maxRecDepth 100000 in
theorem prefix_any (w : World) (hT : Tt bt bp r w) (h : Tw bp bd bm N s up cm V w) {T : Tr} (hA : TrAt V r T) (from_ : ByteArray) :
    Calls Tryz.prog 17 #[.pointer (some ⟨bt, 0, none⟩), .string from_] w fun e w' => ∃ v, e = .returned (.tuple #[v, .nilIface]) ∧ PRow w.heap.size v (walkL (pfx from_) from_ 0 T.all) w' ∧ Below w.heap.size w w' := by
  have HA : Hid _ := hA
  have hB0 : Below w.heap.size w (w.alloc (.cells #[.string from_] 9)) := (Below.refl _ w).alloc (Nat.le_refl _) _
  have HT0 : Hid _ := hT.below hB0
  have HW0 : Hid _ := h.below hB0
  have HB0 : Hid (Below w.heap.size w (w.alloc (.cells #[.string from_] 9))) := hB0
  have hmf : ∀ (fn : Fn) (first cap : Array Value) (w : World), (Instr.makeFunc fn first cap).run Tryz.prog w = .ok (.func fn first cap) w := fun _ _ _ _ => rfl
  have HO1 : Hid (Own1 w.heap.size (.string from_) (w.alloc (.cells #[.string from_] 9))) := Own1.new w (.string from_) 9
  have hltt := hT.lt
  have hltw := h.lt
  have q0 := (Own1.new w (.string from_) 9).cell
  clear hA hT h hB0
  go_enter Tryz.func17, Tryz.ntmps17
  go_wp2_with fail
  refine (collect_any (wnt := pfx from_) (I := fun _ wx => Own1 w.heap.size (.string from_) wx) (W := fun _ => False) _ HT0.out HW0.out HA.out from_ (fun b hb => hb.elim) (enters_of Tryz.func41 (by kernel_rfl) rfl)
    HO1.out (fun k wx wy hh ho => hh.only ho (by simp only [World.size_alloc]; omega)) (fun k key wx hk hh => ?_)).mono ?_
  · refine (prefix_cl wx hh key k).mono ?_
    rintro _ w' ⟨rfl, rfl⟩
    exact ⟨rfl, hh, Only.refl _ _⟩
  rintro _ w2 ⟨v, rfl, hR, hO⟩
  have HR2 : Hid (PRow w.heap.size v (walkL (pfx from_) from_ 0 T.all) w2) := row_base hR (by simp)
  have HB2 : Hid (Below w.heap.size w w2) := Only.below HB0.out hO (by simp) (fun i hi => hi.elim)
  clear hR hO
  go_wp2
  go_ret2
  exact ⟨_, rfl, HR2.out, HB2.out⟩
end
end Go.Proofs.YtndoigopjlkimaaGreatDoor
namespace Go.Proofs.YtndoigopjlkimaaGreatDoor
open Go.RowKit Go.Maps

theorem keyed9 : Keyed Tryz.prog 9 := string_keyed Tryz.underlying9
/-- a key -/
def kl (k : ByteArray) : Lit := .string k.data.toList
theorem kl_inj {a b : ByteArray} (h : kl a = kl b) : a = b := by
  unfold kl at h
  injection h with h
  exact bytes_inj h
theorem kl_ne {a b : ByteArray} (h : a ≠ b) : kl a ≠ kl b := fun e => h (kl_inj e)
theorem kl_key (k : ByteArray) : WideAt.IsKeyLit (kl k) := trivial
theorem kl_of {k : ByteArray} (h : k.size ≤ 1000) : keyOf Tryz.prog 9 (.string k) = some (kl k) := WideMaps.keyOf_string_mk Tryz.underlying9 (Nat.le_trans h (by decide))
theorem kl_inv {v : Value} {l : Lit} (h : keyOf Tryz.prog 9 v = some l) : ∃ s : ByteArray, v = .string s ∧ l = kl s := by
  obtain ⟨s, h1, h2, _⟩ := WideMaps.string_of_keyOf Tryz.underlying9 h
  exact ⟨s, h1, h2⟩
/-- a map has these pairs -/
structure BookIs (D : DataW Unit) (l : List Pr) : Prop where
  isMap : IsMap D
  has : ∀ k : ByteArray, Maps.has D (kl k) = true ↔ ∃ x ∈ l, x.k = k
  elem : ∀ x ∈ l, ∀ z, D.atKey (kl x.k) z = .lit (.string x.i.data.toList)
theorem BookIs.put {D : DataW Unit} {l l' : List Pr} (h : BookIs D l) (x : Pr) (hl : ∀ y, y ∈ l' ↔ y = x ∨ (y ∈ l ∧ y.k ≠ x.k)) : BookIs (D.put (kl x.k) (.lit (.string x.i.data.toList))) l' := by
  refine ⟨h.isMap.put _ _, fun k => ?_, fun y hy z => ?_⟩
  · by_cases e : k = x.k
    · subst e
      rw [has_put_same h.isMap (kl_key _)]
      exact ⟨fun _ => ⟨x, (hl x).2 (.inl rfl), rfl⟩, fun _ => rfl⟩
    · rw [has_put_other (kl_ne e), h.has k]
      constructor
      · rintro ⟨y, hy, hk⟩
        exact ⟨y, (hl y).2 (.inr ⟨hy, by rw [hk]; exact e⟩), hk⟩
      · rintro ⟨y, hy, hk⟩
        rcases (hl y).1 hy with rfl | ⟨h1, _⟩
        · exact absurd hk.symm e
        · exact ⟨y, h1, hk⟩
  · rcases (hl y).1 hy with rfl | ⟨h1, h2⟩
    · exact atKey_put_same h.isMap (kl_key _) _ z
    · rw [atKey_put_other (kl_ne h2)]; exact h.elem y h1 z
theorem BookIs.del {D : DataW Unit} {l l' : List Pr} (h : BookIs D l) (k : ByteArray) (hl : ∀ y, y ∈ l' ↔ y ∈ l ∧ y.k ≠ k) : BookIs (D.del (kl k)) l' := by
  refine ⟨h.isMap.del _, fun j => ?_, fun y hy z => ?_⟩
  · by_cases e : j = k
    · subst e
      rw [has_del_same]
      constructor
      · intro h; cases h
      · rintro ⟨y, hy, hk⟩
        exact absurd hk ((hl y).1 hy).2
    · rw [has_del_other (kl_ne e), h.has j]
      constructor
      · rintro ⟨y, hy, hk⟩
        exact ⟨y, (hl y).2 ⟨hy, by rw [hk]; exact e⟩, hk⟩
      · rintro ⟨y, hy, hk⟩
        exact ⟨y, ((hl y).1 hy).1, hk⟩
  · obtain ⟨h1, h2⟩ := (hl y).1 hy
    rw [atKey_del_other (kl_ne h2)]; exact h.elem y h1 z
theorem BookIs.not {D : DataW Unit} {l : List Pr} (h : BookIs D l) {k : ByteArray} (hn : ∀ x ∈ l, x.k ≠ k) : Maps.has D (kl k) = false := by
  cases e : Maps.has D (kl k) with
  | false => rfl
  | true => obtain ⟨x, hx, hk⟩ := (h.has k).1 e; exact absurd hk (hn x hx)
/-- in memory -/
def Book (m n : Nat) (l : List Pr) (w : World) : Prop := ∃ D : DataW Unit, w.ownsMap Tryz.prog 9 (plainElem Tryz.prog 9) m n D ∧ BookIs D l
section
variable {m n : Nat} {l : List Pr} {w w' : World}
theorem Book.lt (h : Book m n l w) : m < w.heap.size := by obtain ⟨D, hD, _⟩ := h; exact hD.lt
theorem Book.block (h : Book m n l w) (hb : w'.heap[m]? = w.heap[m]?) : Book m n l w' := by
  obtain ⟨D, ⟨es, clock, hm, F, hs, hD⟩, hM⟩ := h
  exact ⟨D, ⟨es, clock, hb.trans hm, F, hs, hD⟩, hM⟩
theorem Book.only {S : Nat → Prop} (h : Book m n l w) (ho : Only S w w') (hs : ¬ S m) : Book m n l w' := h.block (ho.block m h.lt hs)
theorem Book.below (h : Book m n l w) (hb : Below w.heap.size w w') : Book m n l w' := h.block (hb.block m h.lt)
theorem Book.mono {n' : Nat} (h : Book m n l w) (hn : n ≤ n') : Book m n' l w := by
  obtain ⟨D, hD, hM⟩ := h
  exact ⟨D, hD.mono hn, hM⟩
theorem Book.ne_cell (h : Book m n l w) {b o : Nat} {v : Value} (hc : w.cell? ⟨b, o, none⟩ = some v) : m ≠ b := by
  obtain ⟨D, ⟨es, clock, hm, _⟩, _⟩ := h
  intro e; subst e
  simp [World.cell?, hm] at hc
theorem Book.new (w : World) : Book w.heap.size 0 [] (w.alloc (.map #[] 0)) :=
  ⟨.map [], World.ownsMap_made _ _ _ _, ⟨⟨[], rfl⟩, fun k => ⟨fun h => by simp [has_eq] at h, fun h => by obtain ⟨x, hx, _⟩ := h; cases hx⟩, fun x hx => by cases hx⟩⟩
/-- one lookup: what stands there, and whether -/
def found (l : List Pr) (k : ByteArray) (v : ByteArray) (b : Bool) : Prop := (b = true ∧ ∃ x ∈ l, x.k = k ∧ x.i = v) ∨ (b = false ∧ v = ⟨#[]⟩ ∧ ∀ x ∈ l, x.k ≠ k)
end
section
variable {ops : Array Oper} {rest : List Oper} {o : Oper} {a : Act} {Q : Exit → Act → World → Prop} {m n : Nat} {l : List Pr}
theorem book_val {D : DataW Unit} (hM : BookIs D l) (k : ByteArray) {v : Value} {ps : List MemPlace} (hv : plainElem Tryz.prog 9 v = some (D.atKey (kl k) (.lit (.string [])), ps)) : ∃ s, v = .string s ∧ found l k s (Maps.has D (kl k)) := by
  obtain ⟨s, rfl, hz, _⟩ := plainElem_string_inv Tryz.underlying9 hv
  have h1 := congrArg Prod.fst hz
  simp only at h1
  refine ⟨s, rfl, ?_⟩
  cases e : Maps.has D (kl k) with
  | false =>
    rw [atKey_of_not_has e] at h1
    injection h1 with h2
    injection h2 with h3
    refine .inr ⟨rfl, bytes_inj (by rw [← h3]), fun x hx hk => ?_⟩
    have := (hM.has k).2 ⟨x, hx, hk⟩
    rw [e] at this; cases this
  | true =>
    obtain ⟨x, hx, rfl⟩ := (hM.has k).1 e
    rw [hM.elem x hx] at h1
    injection h1 with h2
    injection h2 with h3
    exact .inl ⟨rfl, x, hx, rfl, bytes_inj h3⟩
theorem look_book (w : World) (hg : o.guard = none) (mo x : Operand) (hop : o.op = Op.lookup 47 mo x true) (hS : Book m n l w) (k : ByteArray) (hk : k.size ≤ 1000) (hm : a.eval mo = .map (some m)) (hx : a.eval x = .string k)
    (hK : ∀ v b, found l k v b → wpList Tryz.prog ops Q rest (a.put o.dst (.tuple #[.string v, .bool b])) w) : wpList Tryz.prog ops Q (o :: rest) a w := by
  obtain ⟨D, hD, hM⟩ := hS
  refine wpList_lookup_own_ok w hg mo x 47 hop 9 9 keyed9 Tryz.underlying47 (plainElem Tryz.prog 9) (zero9 w) (.lit (.string [])) [] (plainElem_string (s := ⟨#[]⟩) Tryz.underlying9 (Nat.zero_le _)) m n D hm hD _ _ hx (kl_of hk) ?_
  intro v ps hv
  obtain ⟨s, rfl, hf⟩ := book_val hM k hv
  exact hK s _ hf
theorem put_book (w : World) (hg : o.guard = none) (mo x v : Operand) (hop : o.op = Op.mapUpdate 47 mo x v) (hS : Book m n l w) (hn : n < 1000000) (p : Pr) (hp : p.k.size ≤ 1000) (hi : p.i.size ≤ 1000) (l' : List Pr) (hl : ∀ y, y ∈ l' ↔ y = p ∨ (y ∈ l ∧ y.k ≠ p.k)) (hm : a.eval mo = .map (some m)) (hx : a.eval x = .string p.k) (hv : a.eval v = .string p.i)
    (hK : ∀ w', Book m (n + 1) l' w' → Only (fun b => b = m) w w' → wpList Tryz.prog ops Q rest (a.put o.dst undef) w') : wpList Tryz.prog ops Q (o :: rest) a w := by
  obtain ⟨D, hD, hM⟩ := hS
  refine wpList_mapUpdate_own w hg mo x v 47 hop 9 9 keyed9 Tryz.underlying47 (plainElem Tryz.prog 9) m n D hm hD (Nat.lt_trans hn (by decide)) _ _ _ hx hv (kl_of hp) _ [] (plainElem_string Tryz.underlying9 (by unfold maxLen; omega)) ?_
  intro w' h1 h2
  exact hK w' ⟨_, h1, hM.put p hl⟩ (Only.of_grown h2 rfl)
theorem del_book (w : World) (hg : o.guard = none) (mo x : Operand) (hop : o.op = Op.call { callee := Callee.builtin Builtin.delete, args := #[mo, x], argTypes := #[47, 9] }) (hS : Book m n l w) (k : ByteArray) (hk : k.size ≤ 1000) (l' : List Pr) (hl : ∀ y, y ∈ l' ↔ y ∈ l ∧ y.k ≠ k) (hm : a.eval mo = .map (some m)) (hx : a.eval x = .string k)
    (hK : ∀ w', Book m n l' w' → Only (fun b => b = m) w w' → wpList Tryz.prog ops Q rest (a.put o.dst (.tuple #[])) w') : wpList Tryz.prog ops Q (o :: rest) a w := by
  obtain ⟨D, hD, hM⟩ := hS
  refine wpList_delete_own w hg mo x 47 9 hop 9 keyed9 Tryz.underlying47 (plainElem Tryz.prog 9) m n D hm hD _ _ hx (kl_of hk) ?_
  intro w' h1 h2
  exact hK w' ⟨_, h1, hM.del k hl⟩ (Only.of_grown h2.grown rfl)
theorem next_book (w : World) (hg : o.guard = none) (it : Operand) (hop : o.op = Op.next it false) (b r n : Nat) (D : DataW Unit) (left : Lit → Bool) (cnt : Nat) (hit : a.eval it = .pointer (some ⟨r, 0, none⟩)) (h : w.ranges Tryz.prog 9 (plainElem Tryz.prog 9) b r n D left cnt)
    (hDone : cnt = 0 → (∀ kl, left kl = false) → wpList Tryz.prog ops Q rest (a.put o.dst (.tuple #[.bool false])) w)
    (hMore : ∀ (x c : ByteArray) (w' : World) (cnt' : Nat), left (kl x) = true → (∀ zd, D.atKey (kl x) zd = .lit (.string c.data.toList)) → w'.ranges Tryz.prog 9 (plainElem Tryz.prog 9) b r n D (fun z => left z && !z.sameKey (kl x)) cnt' → cnt' < cnt →
      w.grownBy w' (some r) → w'.heap.size = w.heap.size → (Instr.entry (.pointer (some ⟨r, 0, none⟩))).run Tryz.prog w' = .ok (.tuple #[.string x, .string c]) w' → wpList Tryz.prog ops Q rest (a.put o.dst (.tuple #[.bool true, .string x, .string c])) w') :
    wpList Tryz.prog ops Q (o :: rest) a w :=
  wpList_next_ranges w hg it hop 9 keyed9 (plainElem Tryz.prog 9) Value.string Value.string (fun key kl' hkey => by obtain ⟨x, rfl, _⟩ := kl_inv hkey; exact ⟨x, rfl⟩) (fun v y hv => by obtain ⟨c, rfl, _⟩ := plainElem_string_inv Tryz.underlying9 hv; exact ⟨c, rfl⟩)
    b r n D left cnt hit h hDone (fun x c kl' y w' cnt' hkey hlk hv hat hrg hlt hgr hsz hen => by
      obtain ⟨x', ex, rfl⟩ := kl_inv hkey
      cases ex
      obtain ⟨c', ec, rfl, hwc⟩ := plainElem_string_inv Tryz.underlying9 hv
      cases ec
      exact hMore x c w' cnt' hlk hat hrg hlt hgr hsz hen)
end
/-- what is still to come -/
structure Rng (l done r : List Pr) (left : Lit → Bool) : Prop where
  perm : l.Perm (done ++ r)
  left : ∀ k : ByteArray, left (kl k) = true ↔ ∃ x ∈ r, x.k = k
theorem Rng.start {D : DataW Unit} {l : List Pr} (h : BookIs D l) : Rng l [] l (Maps.has D) := ⟨List.Perm.refl _, h.has⟩
/-- no two keys alike -/
def Apart (l : List Pr) : Prop := l.Pairwise (fun a b => a.k ≠ b.k)
theorem Apart.perm {l l' : List Pr} (h : Apart l) (p : l.Perm l') : Apart l' := (p.pairwise_iff (fun e => fun e' => e e'.symm)).1 h
theorem Rng.step {D : DataW Unit} {l done r : List Pr} {left : Lit → Bool} (h : Rng l done r left) (hB : BookIs D l) (ha : Apart l) {x c : ByteArray} (hx : left (kl x) = true) (hat : ∀ zd, D.atKey (kl x) zd = .lit (.string c.data.toList)) :
    ∃ r', Rng l (done ++ [⟨x, c⟩]) r' (fun z => left z && !z.sameKey (kl x)) ∧ (⟨x, c⟩ : Pr) ∈ l := by
  obtain ⟨y, hy, hk⟩ := (h.left x).1 hx
  have hyl : y ∈ l := h.perm.mem_iff.2 (by simp [hy])
  have hyi : y = ⟨x, c⟩ := by
    have := hB.elem y hyl (.lit (.string []))
    rw [hk, hat] at this
    injection this with h2
    injection h2 with h3
    cases y
    simp only at hk h3
    rw [hk, bytes_inj h3]
  subst hyi
  obtain ⟨a, b, rfl⟩ := List.append_of_mem hy
  have hp := (ha.perm h.perm)
  refine ⟨a ++ b, ⟨h.perm.trans ?_, fun k => ?_⟩, hyl⟩
  · rw [List.append_assoc]
    exact List.Perm.append_left _ (by simp [List.perm_middle])
  · have hab : ∀ z ∈ a ++ b, z.k ≠ x := by
      unfold Apart at hp
      rw [List.pairwise_append] at hp
      obtain ⟨_, hp, _⟩ := hp
      rw [List.pairwise_append, List.pairwise_cons] at hp
      obtain ⟨_, ⟨h1, _⟩, h2⟩ := hp
      intro z hz
      rcases List.mem_append.1 hz with hz | hz
      · exact h2 z hz ⟨x, c⟩ (by simp)
      · exact fun e => h1 z hz e.symm
    rw [Bool.and_eq_true, h.left k]
    constructor
    · rintro ⟨⟨z, hz, rfl⟩, hne⟩
      have hzx : z.k ≠ x := fun e => by
        rw [e] at hne
        have : (kl x).sameKey (kl x) = true := by unfold kl; simp [Lit.sameKey]
        rw [this] at hne; cases hne
      rcases List.mem_append.1 hz with hz | hz
      · exact ⟨z, by simp [hz], rfl⟩
      · rcases List.mem_cons.1 hz with rfl | hz
        · exact absurd rfl hzx
        · exact ⟨z, by simp [hz], rfl⟩
    · rintro ⟨z, hz, rfl⟩
      refine ⟨⟨z, ?_, rfl⟩, ?_⟩
      · rcases List.mem_append.1 hz with hz | hz <;> simp [hz]
      · rw [sameKey_ne (kl_ne (hab z hz))]; rfl
theorem Rng.done {l done r : List Pr} {left : Lit → Bool} (h : Rng l done r left) (hl : ∀ k, left k = false) : l.Perm done := by
  cases r with
  | nil => simpa using h.perm
  | cons x r =>
    have := (h.left x.k).2 ⟨x, by simp, rfl⟩
    rw [hl] at this; cases this
theorem szL_perm {l l' : List Pr} (h : l.Perm l') : szL l = szL l' := by
  induction h with
  | nil => rfl
  | cons x _ ih => simp only [szL]; omega
  | swap x y l => simp only [szL]; omega
  | trans _ _ a b => exact a.trans b
theorem szL_part {l a b : List Pr} (h : l.Perm (a ++ b)) : szL a ≤ szL l := by rw [szL_perm h, szL_append]; omega
end Go.Proofs.YtndoigopjlkimaaGreatDoor
namespace Go.Proofs.YtndoigopjlkimaaGreatDoor
open Go.RowKit Go.Maps

/-- the document's tree in memory -/
structure Doc (bw m n : Nat) (l : List Pr) (w : World) : Prop where
  cell : w.cell? ⟨bw, 0, none⟩ = some (.map (some m))
  book : Book m n l w
section
variable {bw m n : Nat} {l : List Pr} {w w' : World}
theorem Doc.lt (h : Doc bw m n l w) : bw < w.heap.size ∧ m < w.heap.size := ⟨World.block_lt_of_cell? w _ h.cell, h.book.lt⟩
theorem Doc.ne (h : Doc bw m n l w) : m ≠ bw := h.book.ne_cell h.cell
theorem Doc.only {S : Nat → Prop} (h : Doc bw m n l w) (ho : Only S w w') (h1 : ¬ S bw) (h2 : ¬ S m) : Doc bw m n l w' :=
  ⟨(World.cell?_of_block (a := ⟨bw, 0, none⟩) (ho.block bw h.lt.1 h1)).trans h.cell, h.book.only ho h2⟩
theorem Doc.below (h : Doc bw m n l w) (hb : Below w.heap.size w w') : Doc bw m n l w' := h.only (below_only hb (fun _ => False)) (fun e => e) (fun e => e)
theorem Doc.mono {n' : Nat} (h : Doc bw m n l w) (hn : n ≤ n') : Doc bw m n' l w := ⟨h.cell, h.book.mono hn⟩
end
theorem range_below {w w1 w2 : World} {r : Nat} (hb : Below w.heap.size w w1) (hg : w1.grownBy w2 (some r)) (hr : w.heap.size ≤ r) : Below w.heap.size w w2 :=
  Only.below hb (Only.of_grown (S := fun b => b = r) hg rfl) hb.size (fun i e => by rw [e]; exact hr)
/-- while it is summed -/
structure Smg (w : World) (m n : Nat) (D : DataW Unit) (l done r : List Pr) (left : Lit → Bool) (cnt : Nat) (wr : World) : Prop where
  rg : wr.ranges Tryz.prog 9 (plainElem Tryz.prog 9) m w.heap.size n D left cnt
  rn : Rng l done r left
  below : Below w.heap.size w wr
set_option maxRecDepth 100000 in
set_option maxHeartbeats 1000000 in
theorem sum_doc {bw m n : Nat} {l : List Pr} {w : World} (h : Doc bw m n l w) (ha : Apart l) (hs : szL l ≤ 1000000) :
    Calls Tryz.prog 20 #[.pointer (some ⟨bw, 0, none⟩)] w fun e w' => e = .returned (.int .i64 (szL l : Nat)) ∧ Below w.heap.size w w' := by
  have q0 := h.cell
  have hlt := h.lt
  obtain ⟨D, hown, hB⟩ := h.book
  have HN : Hid (w.ownsMap Tryz.prog 9 (plainElem Tryz.prog 9) m n D) := hown
  have HB : Hid (BookIs D l) := hB
  clear hown hB h
  go_enter Tryz.func20, Tryz.ntmps20
  go_wp2_with (refine wpList_range_own _ rfl _ 47 rfl 9 9 keyed9 Tryz.underlying47 (plainElem Tryz.prog 9) m n D rfl HN.out ?_; intro w1 hrg hg1 hs1)
  go_frame
  have HC : Hid (Smg w m n D l [] l (Maps.has D) (Maps.size D) w1) := ⟨hrg, Rng.start HB.out, ⟨hg1.os, hg1.tape, hg1.output, hg1.size, fun k hk => hg1.block k hk (by simp)⟩⟩
  clear hrg hg1 hs1 q0 HN
  go_loopw [3] (fun acc wr => ∃ (left : Lit → Bool) (cnt : Nat) (done r : List Pr), acc = .int .i64 (szL done : Nat) ∧ Hid (Smg w m n D l done r left cnt wr)) (fun _ wr => wr.rangeLeft m w.heap.size)
  case atStart => exact ⟨_, _, _, _, rfl, HC⟩
  case round =>
    clear HC
    obtain ⟨left, cnt, done, r, rfl, HC⟩ := hrel
    have hrg := HC.out.rg
    go_wp2_with (at_next; refine next_book _ rfl _ rfl m _ n D left cnt rfl hrg ?_ ?_)
    · intro _ hl
      have hE := szL_perm (HC.out.rn.done hl)
      have HF : Hid _ := HC.out.below
      clear hrg HC hl
      go_wp2
      go_ret
      exact ⟨by rw [hE]; rfl, HF.out⟩
    · intro x c w7 cnt7 hlx hat hrg7 hlt7 hg7 hs7 hen
      obtain ⟨r', hr', hmem⟩ := HC.out.rn.step HB.out ha hlx hat
      have hp := szL_part hr'.perm
      rw [szL_append] at hp
      have hsz : szL [(⟨x, c⟩ : Pr)] = 2 + x.size + c.size := rfl
      rw [hsz] at hp
      have HC7 : Hid (Smg w m n D l (done ++ [⟨x, c⟩]) r' (fun z => left z && !z.sameKey (kl x)) cnt7 w7) := ⟨hrg7, hr', range_below HC.out.below hg7 (Nat.le_refl _)⟩
      have HL7 : Hid (cnt7 < cnt) := hlt7
      have HSZ : Hid (szL (done ++ [(⟨x, c⟩ : Pr)]) = szL done + (2 + x.size + c.size)) := by rw [Hid, szL_append, hsz]
      have a1 : IntKind.i64.wrap ((x.size : Int) + (c.size : Int)) = (x.size : Int) + (c.size : Int) := by simp [IntKind.wrap, IntKind.signed, IntKind.bits]; omega
      have a2 : IntKind.i64.wrap ((x.size : Int) + (c.size : Int) + 2) = (x.size : Int) + (c.size : Int) + 2 := by simp [IntKind.wrap, IntKind.signed, IntKind.bits]; omega
      have a3 : IntKind.i64.wrap ((szL done : Int) + ((x.size : Int) + (c.size : Int) + 2)) = (szL done : Int) + ((x.size : Int) + (c.size : Int) + 2) := by simp [IntKind.wrap, IntKind.signed, IntKind.bits]; omega
      clear hlx hat hrg7 hlt7 hg7 hr' hs7 hmem hsz
      go_wp2
      go_roundw
      case rel => exact ⟨_, _, _, _, by rw [HSZ.out]; congr 1; omega, HC7⟩
      case measure => rw [HC7.out.rg.left_eq, hrg.left_eq]; exact HL7.out
end Go.Proofs.YtndoigopjlkimaaGreatDoor
namespace Go.Proofs
open Go.Shelf
def Tryz.laysSlM6_f71_ren : Go.Shelf.Ren := ⟨fun | 6 => 71 | 8 => 97 | 9 => 96 | 19 => 111 | 20 => 112 | 21 => 102 | 22 => 103 | 23 => 104 | 24 => 105 | 25 => 106 | 26 => 107 | 27 => 108 | 28 => 109 | 29 => 110 | 36 => 118 | 31 => 119 | 32 => 120 | 37 => 121 | 38 => 122 | 39 => 123 | 41 => 127 | n => n, fun | 27 => 52 | 29 => 9 | 3 => 3 | 32 => 40 | 26 => 52 | 0 => 0 | 44 => 117 | 46 => 120 | 4 => 4 | 36 => 173 | 35 => 172 | 41 => 177 | 5 => 5 | 9 => 9 | 53 => 192 | 57 => 196 | 63 => 210 | 64 => 126 | n => n, fun | n => n⟩
theorem Tryz.laysSlM6_f71 : Go.Proofs.SlLaysM.n6 Tryz.prog Tryz.laysSlM6_f71_ren := {
  mixed := by kernel_rfl
  f6 := ⟨Tryz.f71.name, by decide, Tryz.func71.trans (congrArg some (by kernel_rfl))⟩
  f8 := Tryz.func97.trans (congrArg some (by kernel_rfl))
  f9 := ⟨Tryz.f96.name, by decide, Tryz.func96.trans (congrArg some (by kernel_rfl))⟩
  f19 := Tryz.func111.trans (congrArg some (by kernel_rfl))
  f20 := Tryz.func112.trans (congrArg some (by kernel_rfl))
  f21 := ⟨Tryz.f102.name, by decide, Tryz.func102.trans (congrArg some (by kernel_rfl))⟩
  f22 := ⟨Tryz.f103.name, by decide, Tryz.func103.trans (congrArg some (by kernel_rfl))⟩
  f23 := ⟨Tryz.f104.name, by decide, Tryz.func104.trans (congrArg some (by kernel_rfl))⟩
  f24 := ⟨Tryz.f105.name, by decide, Tryz.func105.trans (congrArg some (by kernel_rfl))⟩
  f25 := ⟨Tryz.f106.name, by decide, Tryz.func106.trans (congrArg some (by kernel_rfl))⟩
  f26 := ⟨Tryz.f107.name, by decide, Tryz.func107.trans (congrArg some (by kernel_rfl))⟩
  f27 := ⟨Tryz.f108.name, by decide, Tryz.func108.trans (congrArg some (by kernel_rfl))⟩
  f28 := ⟨Tryz.f109.name, by decide, Tryz.func109.trans (congrArg some (by kernel_rfl))⟩
  f29 := ⟨Tryz.f110.name, by decide, Tryz.func110.trans (congrArg some (by kernel_rfl))⟩
  f31 := Tryz.func119.trans (congrArg some (by kernel_rfl))
  f32 := Tryz.func120.trans (congrArg some (by kernel_rfl))
  f36 := ⟨Tryz.f118.name, by decide, Tryz.func118.trans (congrArg some (by kernel_rfl))⟩
  f37 := ⟨Tryz.f121.name, by decide, Tryz.func121.trans (congrArg some (by kernel_rfl))⟩
  f38 := ⟨Tryz.f122.name, by decide, Tryz.func122.trans (congrArg some (by kernel_rfl))⟩
  f39 := ⟨Tryz.f123.name, by decide, Tryz.func123.trans (congrArg some (by kernel_rfl))⟩
  f41 := ⟨Tryz.f127.name, by decide, Tryz.func127.trans (congrArg some (by kernel_rfl))⟩
  t0 := Tryz.underlying0
  a0 := Tryz.isAgg0
  z0 := Tryz.sizeOf0
  v0 := Tryz.zeroValue0
  t3 := Tryz.underlying3
  a3 := Tryz.isAgg3
  z3 := Tryz.sizeOf3
  v3 := Tryz.zeroValue3
  t4 := Tryz.underlying4
  a4 := Tryz.isAgg4
  z4 := Tryz.sizeOf4
  v4 := Tryz.zeroValue4
  t5 := Tryz.underlying5
  a5 := Tryz.isAgg5
  z5 := Tryz.sizeOf5
  v5 := Tryz.zeroValue5
  t9 := Tryz.underlying9
  a9 := Tryz.isAgg9
  z9 := Tryz.sizeOf9
  v9 := Tryz.zeroValue9
  t26 := Tryz.underlying52
  a26 := Tryz.isAgg52
  z26 := Tryz.sizeOf52
  v26 := Tryz.zeroValue52
  t27 := Tryz.underlying52
  a27 := Tryz.isAgg52
  z27 := Tryz.sizeOf52
  v27 := Tryz.zeroValue52
  t29 := Tryz.underlying9
  a29 := Tryz.isAgg9
  z29 := Tryz.sizeOf9
  v29 := Tryz.zeroValue9
  t32 := Tryz.underlying40
  a32 := Tryz.isAgg40
  z32 := Tryz.sizeOf40
  v32 := Tryz.zeroValue40
  t35 := Tryz.underlying172
  a35 := Tryz.isAgg172
  z35 := Tryz.sizeOf172
  v35 := Tryz.zeroValue172
  t36 := Tryz.underlying173
  a36 := Tryz.isAgg173
  z36 := Tryz.sizeOf173
  v36 := Tryz.zeroValue173
  t41 := Tryz.underlying177
  a41 := Tryz.isAgg177
  z41 := Tryz.sizeOf177
  v41 := Tryz.zeroValue177
  t44 := Tryz.underlying117
  a44 := Tryz.isAgg117
  z44 := Tryz.sizeOf117
  v44 := Tryz.zeroValue117
  t46 := Tryz.underlying120
  a46 := Tryz.isAgg120
  z46 := Tryz.sizeOf120
  v46 := Tryz.zeroValue120
  t53 := Tryz.underlying192
  a53 := Tryz.isAgg192
  z53 := Tryz.sizeOf192
  v53 := Tryz.zeroValue192
  t57 := Tryz.underlying196
  a57 := Tryz.isAgg196
  z57 := Tryz.sizeOf196
  v57 := Tryz.zeroValue196
  t63 := Tryz.underlying210
  a63 := Tryz.isAgg210
  z63 := Tryz.sizeOf210
  v63 := Tryz.zeroValue210
  t64 := Tryz.underlying126
  a64 := Tryz.isAgg126
  z64 := Tryz.sizeOf126
  v64 := Tryz.zeroValue126 }
open Go.Sort Go.RowKit in
theorem Tryz.slices_Sort_string (blk off cap : Nat) (ss : List (List UInt8)) (w : World) (hH : Holds encStr w blk off ss.toArray) (hblk : blk < w.heap.size) (hsz : ss.length < 4611686018427387904) :
    Calls Tryz.prog 71 #[.slice (some ⟨blk, off, none⟩) ss.length cap] w fun e w' =>
      e = .returned (.tuple #[]) ∧ ∃ n os, w' = grow (putRow encStr (Sort.ahead w n) blk off (ss.mergeSort fun x y => decide (x ≤ y)).toArray) os := AnyM.slices_Sort_string Tryz.laysSlM6_f71 blk off cap ss w hH hblk hsz
open Go.RowKit Go.Sort in
/-- .. and plain. (LAID AT THE INSTANCE 'slices.Sort[[]string,string]': no walk: one application.) -/
theorem Tryz.slices_Sort_string_none (p : Option Addr) (cap : Nat) (w : World) :
    Calls Tryz.prog 71 #[.slice p 0 cap] w fun e w' => e = .returned (.tuple #[]) ∧ w' = w := AnyM.slices_Sort_string_none Tryz.laysSlM6_f71 p cap w
end Go.Proofs
namespace Go.Proofs.YtndoigopjlkimaaGreatDoor
open Go.RowKit Go.Maps

/-- the keys that are not ahead of one -/
def keysF (from_ : ByteArray) (l : List Pr) : List ByteArray := (l.filter (fun x => !bl x.k from_)).map (·.k)
theorem keysF_perm {from_ : ByteArray} {l l' : List Pr} (h : l.Perm l') : (keysF from_ l).Perm (keysF from_ l') := (h.filter _).map _
theorem keysF_append (from_ : ByteArray) (a b : List Pr) : keysF from_ (a ++ b) = keysF from_ a ++ keysF from_ b := by unfold keysF; rw [List.filter_append, List.map_append]
theorem str_encs (ts : List ByteArray) : (ts.map (fun x => x.data.toList)).map encStr = ts.map Value.string := by
  rw [List.map_map]
  exact List.map_congr_left fun x _ => rfl
theorem sorted_keys {ss ts : List ByteArray} (hp : ss.Perm ts) (hs : ts.Pairwise (fun a b => bl a b = true)) :
    (ss.map (fun x => x.data.toList)).mergeSort (fun x y => decide (x ≤ y)) = ts.map (fun x => x.data.toList) := by
  refine List.Perm.eq_of_pairwise (le := fun a b : List UInt8 => a ≤ b) (fun a b _ _ h1 h2 => List.le_antisymm h1 h2) ?_ ?_ ((List.mergeSort_perm _ _).trans (hp.map _))
  · have := List.pairwise_mergeSort (le := fun x y : List UInt8 => decide (x ≤ y)) (fun a b c h1 h2 => by simp at h1 h2 ⊢; exact List.le_trans h1 h2) (fun a b => by simp; exact List.le_total a b) (ss.map (fun x => x.data.toList))
    exact this.imp (fun h => by simpa using h)
  · rw [List.pairwise_map]
    exact hs.imp (fun h => by rw [bl_iff] at h; exact List.le_of_lt h)
set_option maxRecDepth 100000 in
theorem sortS_any {ss ts : List ByteArray} {B : Nat} {v : Value} {w : World} (h : SRow B v ss w) (hp : ss.Perm ts) (hs : ts.Pairwise (fun a b => bl a b = true)) (hl : ss.length ≤ 1000000) :
    Calls Tryz.prog 37 #[v] w fun e w' => e = .returned (.tuple #[]) ∧ SRow B v ts w' ∧ (∀ A, A ≤ B → A ≤ w.heap.size → Below A w w') := by
  have hlen := hp.length_eq
  rcases h.2 with ⟨rfl, h0⟩ | ⟨g, cap, cur, rfl, hB, hb, h1, h2, h3, h4⟩
  · go_enter Tryz.func37, Tryz.ntmps37
    go_wp2_with fail
    refine (Tryz.slices_Sort_string_none none 0 w).mono ?_
    rintro _ _ ⟨rfl, rfl⟩
    go_wp2
    go_end0
    refine ⟨rfl, ?_, fun A _ _ => Below.refl _ _⟩
    have e0 : ts = [] := List.length_eq_zero_iff.1 (by omega)
    subst e0
    exact ⟨rfl, .inl ⟨rfl, rfl⟩⟩
  · obtain ⟨zs, hz⟩ : ∃ zs, ss.map (fun x => x.data.toList) = zs := ⟨_, rfl⟩
    have hzl : zs.length = ss.length := by rw [← hz, List.length_map]
    have hH : Go.Sort.Holds encStr w g 0 zs.toArray := holds_of_block hb (by rw [hzl, ← hz, str_encs]; simpa using h4)
    have hms := sorted_keys hp hs
    rw [hz] at hms
    have HC0 := Tryz.slices_Sort_string g 0 cap zs w hH (Array.getElem?_eq_some_iff.1 hb).1 (by omega)
    rw [hms, hzl] at HC0
    have HC : Hid (Calls Tryz.prog 71 #[.slice (some ⟨g, 0, none⟩) ss.length cap] w fun e w' => e = .returned (.tuple #[]) ∧ ∃ n os, w' = Go.Sort.grow (Go.Sort.putRow encStr (Go.Sort.ahead w n) g 0 (ts.map (fun x => x.data.toList)).toArray) os) := HC0
    have HBK : Hid _ := hb
    have HZL : Hid (zs.length = ss.length) := hzl
    have HLE : Hid (ss.length = ts.length) := hlen
    clear HC0 hms hH hz h4 h hp hzl hlen
    clear hb
    go_enter Tryz.func37, Tryz.ntmps37
    go_wp2_with fail
    refine (show Calls Tryz.prog 71 _ w _ from HC.out).mono ?_
    rintro _ w' ⟨rfl, n, os, rfl⟩
    have hzl := HZL.out
    have hlen := HLE.out
    have ho := ownsRow_sorted (w := w) (n := n) (os := os) (ss := zs) (ts := ts.map (fun x => x.data.toList)) (by rw [List.length_map, hzl, hlen]) hB HBK.out (by rw [hzl]; exact h1) h2 h3
    rw [str_encs, hzl] at ho
    have hg := grownBy_sorted (w := w) (g := g) (n := n) (os := os) (ts.map (fun x => x.data.toList)).toArray
    have HO : Hid _ := ho
    have HG : Hid _ := hg
    clear ho hg hzl hlen
    go_wp2
    go_end0
    have hlen := HLE.out
    refine ⟨rfl, ?_, fun A hA hA2 => ?_⟩
    · show World.ownsRow _ _ _ _ _ _ _
      rw [← hlen]
      exact HO.out
    · have hg := HG.out
      exact Only.below (Below.refl A w) (Only.of_grown (S := fun b => b = g) hg rfl) hA2 (fun i e => by rw [e]; omega)
end Go.Proofs.YtndoigopjlkimaaGreatDoor
namespace Go.Proofs.YtndoigopjlkimaaGreatDoor
open Go.RowKit Go.Maps

/-- while keys are gathered -/
structure Gat (w : World) (m n : Nat) (D : DataW Unit) (from_ : ByteArray) (l done r : List Pr) (v : Value) (left : Lit → Bool) (cnt : Nat) (wr : World) : Prop where
  rg : wr.ranges Tryz.prog 9 (plainElem Tryz.prog 9) m w.heap.size n D left cnt
  rn : Rng l done r left
  row : SRow (w.heap.size + 1) v (keysF from_ done) wr
  below : Below w.heap.size w wr
theorem filter_sorted {from_ : ByteArray} {l : List Pr} (h : l.Pairwise (fun a b => bl a.k b.k = true)) : (keysF from_ l).Pairwise (fun a b => bl a b = true) := by
  unfold keysF
  rw [List.pairwise_map]
  exact h.filter _
theorem apart_sorted {l : List Pr} (h : l.Pairwise (fun a b => bl a.k b.k = true)) : Apart l := h.imp (fun h => bl_ne h)
theorem keysF_len (from_ : ByteArray) (l : List Pr) : (keysF from_ l).length ≤ l.length := by unfold keysF; rw [List.length_map]; exact List.length_filter_le _ _
set_option maxRecDepth 100000 in
set_option maxHeartbeats 1000000 in
theorem keys_doc {bw m n : Nat} {l : List Pr} {w : World} (h : Doc bw m n l w) (hs : l.Pairwise (fun a b => bl a.k b.k = true)) (hl : l.length ≤ 100000) (from_ : ByteArray) :
    Calls Tryz.prog 13 #[.pointer (some ⟨bw, 0, none⟩), .string from_] w fun e w' => ∃ v, e = .returned v ∧ SRow (w.heap.size + 1) v (keysF from_ l) w' ∧ Below w.heap.size w w' := by
  have q0 := h.cell
  have hlt := h.lt
  have ha := apart_sorted hs
  obtain ⟨D, hown, hB⟩ := h.book
  have HN : Hid (w.ownsMap Tryz.prog 9 (plainElem Tryz.prog 9) m n D) := hown
  have HB : Hid (BookIs D l) := hB
  have HS : Hid (l.Pairwise (fun a b => bl a.k b.k = true)) := hs
  have HA : Hid (Apart l) := ha
  clear hown hB h hs ha
  go_enter Tryz.func13, Tryz.ntmps13
  go_wp2_with (refine wpList_range_own _ rfl _ 47 rfl 9 9 keyed9 Tryz.underlying47 (plainElem Tryz.prog 9) m n D rfl HN.out ?_; intro w1 hrg hg1 hs1)
  go_frame
  have HC : Hid (Gat w m n D from_ l [] l (.slice none 0 0) (Maps.has D) (Maps.size D) w1) := ⟨hrg, Rng.start HB.out, ⟨rfl, .inl ⟨rfl, rfl⟩⟩, ⟨hg1.os, hg1.tape, hg1.output, hg1.size, fun k hk => hg1.block k hk (by simp)⟩⟩
  clear hrg hg1 hs1 q0 HN
  go_loopw [5] (fun v wr => ∃ (left : Lit → Bool) (cnt : Nat) (done r : List Pr), Hid (Gat w m n D from_ l done r v left cnt wr)) (fun _ wr => wr.rangeLeft m w.heap.size)
  case atStart => exact ⟨_, _, _, _, HC⟩
  case round =>
    clear HC
    obtain ⟨left, cnt, done, r, HC⟩ := hrel
    have hrg := HC.out.rg
    go_wp2_with (at_next; refine next_book _ rfl _ rfl m _ n D left cnt rfl hrg ?_ ?_)
    · intro _ hl2
      have hpm := HC.out.rn.done hl2
      have HF : Hid (Below w.heap.size w wr) := HC.out.below
      have HR : Hid _ := HC.out.row
      have hkl := keysF_len from_ done
      have hdl := hpm.length_eq
      have HPM : Hid _ := hpm
      clear hrg HC hl2 hpm
      go_wp2_with fail
      refine (sortS_any HR.out (keysF_perm HPM.out).symm (filter_sorted HS.out) (by omega)).mono ?_
      rintro _ w3 ⟨rfl, hr3, hb3⟩
      have HB3 : Hid (Below w.heap.size w w3) := HF.out.trans (hb3 _ (by omega) HF.out.size)
      have HR3 : Hid _ := hr3
      clear hr3 hb3
      go_wp2
      go_ret
      exact ⟨_, rfl, HR3.out, HB3.out⟩
    · intro x c w7 cnt7 hlx hat hrg7 hlt7 hg7 hs7 hen
      obtain ⟨r', hr', hmem⟩ := HC.out.rn.step HB.out HA.out hlx hat
      have hr0 := HC.out.row
      have hsz0 : w.heap.size < wr.heap.size := HC.out.rg.lt
      have HR7 : Hid (SRow (w.heap.size + 1) u5 (keysF from_ done) w7) := row_only hr0 (Only.of_grown (S := fun b => b = w.heap.size) hg7 rfl) (fun b e => by rw [e]; omega)
      have HB7 : Hid (Below w.heap.size w w7) := range_below HC.out.below hg7 (Nat.le_refl _)
      have HG7 : Hid (w7.ranges Tryz.prog 9 (plainElem Tryz.prog 9) m w.heap.size n D (fun z => left z && !z.sameKey (kl x)) cnt7) := hrg7
      have HN7 : Hid (Rng l (done ++ [⟨x, c⟩]) r' (fun z => left z && !z.sameKey (kl x))) := hr'
      have HL7 : Hid (cnt7 < cnt) := hlt7
      have hkl := keysF_len from_ done
      have hdl : done.length ≤ l.length := by rw [HC.out.rn.perm.length_eq, List.length_append]; omega
      clear hlx hat hrg7 hlt7 hg7 hr' hmem hr0 HC
      have hkx : keysF from_ [(⟨x, c⟩ : Pr)] = if Op.bytesLess x.toList from_.toList then [] else [x] := by
        unfold keysF
        show (List.filter (fun y : Pr => !bl y.k from_) [⟨x, c⟩]).map (·.k) = _
        unfold bl
        cases hb : Op.bytesLess x.toList from_.toList <;> simp [hb]
      have HKX : Hid (keysF from_ (done ++ [⟨x, c⟩]) = keysF from_ done ++ (if Op.bytesLess x.toList from_.toList then [] else [x])) := by rw [Hid, keysF_append, hkx]
      clear hkx
      cases hbl : Op.bytesLess x.toList from_.toList
      · have HK2 : Hid (keysF from_ (done ++ [⟨x, c⟩]) = keysF from_ done ++ [x]) := by
          have := HKX.out
          rw [hbl] at this
          exact this
        obtain ⟨i0, hi, hz0, hz1, hz2⟩ := info9
        have HO2 : Hid _ := HR7.out.alloc (.cells #[.string x] 9)
        have HS7 : Hid (w7.heap.size = wr.heap.size) := hs7
        have hs8 : w.heap.size < w7.heap.size := by omega
        clear hs7 hsz0
        go_wp2_with (at_builtin; refine wpList_append_own _ rfl _ _ 52 rfl (w.heap.size + 1) 9 i0 (.string ⟨#[]⟩) 1 16 Tryz.underlying52 hi hz0 hz1 hz2 rfl (by decide) _ _ _ rfl HO2.out ⟨w7.heap.size, 0, none⟩ 1 1 [.string x] rfl rfl (news_str w7 x 9) (by intro u hu; simp at hu; subst hu; rfl) (by simp only [maxLen]; omega) (by omega) (by simp; omega) ?_; intro v' w' hO hG hN)
        have HC8 : Hid (Gat w m n D from_ l (done ++ [⟨x, c⟩]) r' v' (fun z => left z && !z.sameKey (kl x)) cnt7 w') := by
          have hal : Below (w.heap.size) w (w7.alloc (.cells #[.string x] 9)) := HB7.out.alloc HB7.out.size _
          refine ⟨?_, HN7.out, ?_, ?_⟩
          · exact (HG7.out.alloc _).kept hG (row_ne_low HO2.out (by omega)) (row_ne_low HO2.out (by omega))
          · show World.ownsRow _ _ _ _ _ _ _
            rw [HK2.out, List.map_append, List.length_append]
            exact hO
          · exact hal.grown hG (by simp; omega) (fun k e => by have := (World.ownsRow.lt HO2.out k e).1; omega)
        go_roundw
        case rel => exact ⟨_, _, _, _, HC8⟩
        case measure => rw [HC8.out.rg.left_eq, hrg.left_eq]; exact HL7.out
      · have HC8 : Hid (Gat w m n D from_ l (done ++ [⟨x, c⟩]) r' u5 (fun z => left z && !z.sameKey (kl x)) cnt7 w7) := by
          have := HKX.out
          rw [hbl] at this
          simp at this
          exact ⟨HG7.out, HN7.out, by rw [this]; exact HR7.out, HB7.out⟩
        go_wp2
        go_roundw
        case rel => exact ⟨_, _, _, _, HC8⟩
        case measure => rw [HC8.out.rg.left_eq, hrg.left_eq]; exact HL7.out
end Go.Proofs.YtndoigopjlkimaaGreatDoor
