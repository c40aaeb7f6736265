/- Texts of the proof of TreeLean: Tpd, Tps, Tla, Tlb. -/
import Derived.Test.YtjcddeoihjppaaaL15
namespace Go.Proofs.Ytjcddeoihjppaaa
open Go.RowKit Go.Maps

/-- a pair that may be put -/
theorem bytes_leaf (x : Pr) : x.bytes = leafB [x] := by
  unfold Pr.bytes leafB encL encL
  rw [List.append_nil]
theorem leafB_nil : leafB [] = ⟨#[]⟩ := rfl
/-- what Put and Drop tell -/
def SetTo (bp bd bm N r : Nat) (s : St) (up : Nat → Bool) (cm : Int) (V : Pst) (T : Tr) (key : ByteArray) (nw : List Pr) (w : World) (e : Ending) (w' : World) : Prop :=
  ∃ A mid C, ChgR T key A mid C ∧ ChgTo bp bd bm N r s up cm V T A nw C w e w'
theorem Var6.six {B : Nat} {a b c d e f : Value} {w : World} (h : Var6 B [a, b, c, d, e, f] w) : w.cell? ⟨B, 0, none⟩ = some a ∧ w.cell? ⟨B, 1, none⟩ = some b ∧ w.cell? ⟨B, 2, none⟩ = some c ∧ w.cell? ⟨B, 3, none⟩ = some d ∧ w.cell? ⟨B, 4, none⟩ = some e ∧ w.cell? ⟨B, 5, none⟩ = some f :=
  ⟨h.cell 0 (by simp), h.cell 1 (by simp), h.cell 2 (by simp), h.cell 3 (by simp), h.cell 4 (by simp), h.cell 5 (by simp)⟩
section
variable {bt bp bd bm N r : Nat} {s : St} {up : Nat → Bool} {cm : Int} {V : Pst} {w : World}
theorem ChgTo.from {T : Tr} {A nw C : List Pr} {w0 w : World} {e : Ending} {w' : World} (h : ChgTo bp bd bm N r s up cm V T A nw C w e w') (hb : Below w0.heap.size w0 w) : ChgTo bp bd bm N r s up cm V T A nw C w0 e w' := by
  rcases h with ⟨h1, h2, h3⟩ | ⟨h1, h2, V', N', T', h3, h4, h5, h6, h7⟩
  · exact .inl ⟨h1, h2, hb.trans (h3.mono hb.size)⟩
  · exact .inr ⟨h1, h2, V', N', T', h3, h4, h5, h6, (below_only hb _).trans h7 (fun _ e => .inl e)⟩
theorem ChgTo.block {T : Tr} {A nw C : List Pr} {w : World} {e : Ending} {w' : World} (h : ChgTo bp bd bm N r s up cm V T A nw C w e w') {B : Nat} (hB : B < w.heap.size) (h1 : B ≠ bp) (h2 : B ≠ bm) : w'.heap[B]? = w.heap[B]? := by
  rcases h with ⟨_, _, h3⟩ | ⟨_, _, V', N', T', _, _, _, _, h7⟩
  · exact h3.block B hB
  · exact h7.block B hB (fun e => by rcases e with e | e; exact h1 e; exact h2 e)
theorem ChgTo.ret {T : Tr} {A nw C : List Pr} {w : World} {e : Ending} {w' : World} (h : ChgTo bp bd bm N r s up cm V T A nw C w e w') : ∃ u, e = .returned u := by
  rcases h with ⟨_, h2, _⟩ | ⟨_, h2, _⟩
  · exact ⟨_, h2⟩
  · exact ⟨_, h2⟩
theorem SpotR.inLs {T : Tr} {key txt : ByteArray} {l a b : Nat} (h : SpotR T key l txt a b) : l < T.Ls.length ∨ (T.Ls = [] ∧ l = 0) := by
  rcases h with ⟨h1, h2, _⟩ | h
  · exact .inr ⟨h1, h2⟩
  · exact .inl h.lt
set_option maxRecDepth 100000 in
set_option maxHeartbeats 1000000 in
theorem put_any (hT : Tt bt bp r w) (h : Tw bp bd bm N s up cm V w) (hne : bt ≠ bp ∧ bt ≠ bm) {T : Tr} (hA : TrAt V r T) (x : Pr) (hx : x.Ok) (hcnt : countU V.used 2000 + 30 < 1999) (hN : N + 60 < 1000000) :
    Calls Try.prog 17 #[.pointer (some ⟨bt, 0, none⟩), .string x.k, .string x.i] w fun e w' => SetTo bp bd bm N r s up cm V T x.k [x] w e w' := by
  obtain ⟨key, item⟩ := x
  obtain ⟨hx1, hx2, hx3⟩ := hx
  simp only at hx1 hx2 hx3 ⊢
  have HA : Hid _ := hA
  have HT : Hid _ := hT
  have HW : Hid _ := h
  have hlt := h.lt
  have hltt := hT.lt
  have i1 : ¬ (60 : Int) < (key.size : Int) := by omega
  have i2 : ¬ (100 : Int) < (item.size : Int) := by omega
  have i3 : ¬ key.toList = [] := fun e => by
    rw [ByteArray.toList_eq] at e
    have := congrArg List.length e
    rw [Array.length_toList] at this
    exact absurd this (by show key.size ≠ 0; omega)
  have i4 : key.toList.isEmpty = false := by
    cases e : key.toList with
    | nil => exact absurd e i3
    | cons a b => rfl
  clear hA hT h
  go_enter Try.func17, Try.ntmps17
  go_wp2_with fail
  refine (seek_any HT.out HW.out HA.out key).mono ?_
  rintro _ w1 ⟨v, l, txt, a, b, rfl, hs, hv1, hb1⟩
  obtain ⟨a9, cap9, hv9, _⟩ := hv1.is
  generalize hn9 : (ints T.ks).length = n9 at hv9
  subst hv9
  have HS : Hid (SpotR T key l txt a b) := hs
  have HV1 : Hid (View w.heap.size (.slice a9 n9 cap9) (ints T.ks) w1) := hv1
  have HB1 : Hid (Below w.heap.size w w1) := hb1
  obtain ⟨W2, hW2⟩ : ∃ W2, w1.alloc (.cells #[.int .i64 (T.top : Nat), .slice a9 n9 cap9, .int .i64 (l : Nat), .string txt, .int .i64 (a : Nat), .int .i64 (b : Nat)] 97) = W2 := ⟨_, rfl⟩
  have hb2 : Below w1.heap.size w1 W2 := by rw [← hW2]; exact (Below.refl _ w1).alloc (Nat.le_refl _) _
  have HV6 : Hid (Var6 w1.heap.size [.int .i64 (T.top : Nat), .slice a9 n9 cap9, .int .i64 (l : Nat), .string txt, .int .i64 (a : Nat), .int .i64 (b : Nat)] W2.drew) := by rw [← hW2]; exact (Var6.new6 w1 _ _ _ _ _ _ 97).below (Below.refl _ _).drew
  have HB2 : Hid (Below w.heap.size w W2.drew) := (hb1.trans (hb2.mono hb1.size)).drew
  have HBX : Hid (Below w1.heap.size w1 W2.drew) := hb2.drew
  clear hs hv1 hb1 hb2 hn9 i3 i4
  go_wp2_with fail
  go_region_held3 (fun wx => wx.cell? ⟨w1.heap.size, 0, none⟩ = some (.int .i64 (T.top : Nat)) ∧ wx.cell? ⟨w1.heap.size, 1, none⟩ = some (.slice a9 n9 cap9) ∧ wx.cell? ⟨w1.heap.size, 2, none⟩ = some (.int .i64 (l : Nat)) ∧ wx.cell? ⟨w1.heap.size, 3, none⟩ = some (.string txt) ∧ wx.cell? ⟨w1.heap.size, 4, none⟩ = some (.int .i64 (a : Nat)) ∧ wx.cell? ⟨w1.heap.size, 5, none⟩ = some (.int .i64 (b : Nat))) (first | exact HV6.out.six | exact HV63.out.six | exact HV64.out.six) (first | (go_at_call 41; refine (writePair_any ⟨key, item⟩ ⟨hx1, hx2, hx3⟩ _).mono ?_; rintro _ w3 ⟨rfl, hb3⟩; rw [bytes_leaf]; have HB3 : Hid (Below W2.drew.heap.size W2.drew w3) := hb3; have HV63 : Hid (Var6 w1.heap.size [.int .i64 (T.top : Nat), .slice a9 n9 cap9, .int .i64 (l : Nat), .string txt, .int .i64 (a : Nat), .int .i64 (b : Nat)] w3) := HV6.out.below hb3; clear hb3) | (go_at_call 40; obtain ⟨A, mid, C, hsa⟩ := SpotR.all HS.out HA.out.ok; have HBW : Hid (Below w.heap.size w w3) := HB2.out.trans (HB3.out.mono HB2.out.size); have HB13 : Hid (Below w1.heap.size w1 w3) := HBX.out.trans (HB3.out.mono HBX.out.size); refine (change_any (HT.out.below HBW.out) (HW.out.below HBW.out) hne HA.out (HV1.out.below HB13.out) ⟨by omega, by omega⟩ hsa (SpotR.inLs HS.out) (.inr ⟨_, rfl, rfl⟩) (fun y hy => by obtain rfl := List.mem_singleton.1 hy; exact ⟨hx1, hx2, hx3⟩) hcnt hN).mono ?_; rintro e4 w4 hc4; have HC4 : Hid (ChgTo bp bd bm N r s up cm V T A [⟨key, item⟩] C w e4 w4) := hc4.from HBW.out; have HV64 : Hid (Var6 w1.heap.size [.int .i64 (T.top : Nat), .slice a9 n9 cap9, .int .i64 (l : Nat), .string txt, .int .i64 (a : Nat), .int .i64 (b : Nat)] w4) := HV63.out.block (hc4.block (by have := HV63.out.lt; omega) (by have := HB1.out.size; omega) (by have := HB1.out.size; omega)); have HCR : Hid _ := hsa.chg; obtain ⟨u4, he4⟩ := hc4.ret; subst he4; clear hc4 hsa))
  go_wp2
  go_ret
  exact ⟨A, mid, C, HCR.out, HC4.out⟩
set_option maxRecDepth 100000 in
theorem put_bad (key item : ByteArray) (hx : ¬ (1 ≤ key.size ∧ key.size ≤ 60 ∧ item.size ≤ 100)) (v : Value) :
    Calls Try.prog 17 #[v, .string key, .string item] w fun e w' => e = .returned (.iface 80 (.int .i64 1)) ∧ w' = w := by
  by_cases h0 : key.size = 0
  · have i3 : key.toList = [] := by
      rw [ByteArray.toList_eq]
      exact List.length_eq_zero_iff.1 (by rw [Array.length_toList]; exact h0)
    have i4 : key.toList.isEmpty = true := by rw [i3]; rfl
    clear h0 hx
    go_enter Try.func17, Try.ntmps17
    go_wp2
    go_ret
    exact ⟨rfl, rfl⟩
  · have i3 : ¬ key.toList = [] := fun e => by
      rw [ByteArray.toList_eq] at e
      have := congrArg List.length e
      rw [Array.length_toList] at this
      exact h0 this
    have i4 : key.toList.isEmpty = false := by
      cases e : key.toList with
      | nil => exact absurd e i3
      | cons a b => rfl
    by_cases h1 : key.size ≤ 60
    · have i1 : ¬ (60 : Int) < (key.size : Int) := by omega
      have i2 : (100 : Int) < (item.size : Int) := by omega
      clear h0 hx h1
      go_enter Try.func17, Try.ntmps17
      go_wp2
      go_ret
      exact ⟨rfl, rfl⟩
    · have i1 : (60 : Int) < (key.size : Int) := by omega
      clear h0 hx h1
      go_enter Try.func17, Try.ntmps17
      go_wp2
      go_ret
      exact ⟨rfl, rfl⟩
/-- what Drop tells -/
def DropTo (bp bd bm N r : Nat) (s : St) (up : Nat → Bool) (cm : Int) (V : Pst) (T : Tr) (key : ByteArray) (w : World) (e : Ending) (w' : World) : Prop :=
  ((∀ x ∈ T.all, x.k ≠ key) ∧ e = .returned (.iface 80 (.int .i64 7)) ∧ Below w.heap.size w w') ∨
  ∃ A y C, T.all = A ++ [y] ++ C ∧ y.k = key ∧ ChgTo bp bd bm N r s up cm V T A [] C w e w'
set_option maxRecDepth 100000 in
set_option maxHeartbeats 1000000 in
theorem drop_any (hT : Tt bt bp r w) (h : Tw bp bd bm N s up cm V w) (hne : bt ≠ bp ∧ bt ≠ bm) {T : Tr} (hA : TrAt V r T) (key : ByteArray) (hcnt : countU V.used 2000 + 30 < 1999) (hN : N + 60 < 1000000) :
    Calls Try.prog 19 #[.pointer (some ⟨bt, 0, none⟩), .string key] w fun e w' => DropTo bp bd bm N r s up cm V T key w e w' := by
  have HA : Hid _ := hA
  have HT : Hid _ := hT
  have HW : Hid _ := h
  have hlt := h.lt
  have hltt := hT.lt
  clear hA hT h
  go_enter Try.func19, Try.ntmps19
  go_wp2_with fail
  refine (seek_any HT.out HW.out HA.out key).mono ?_
  rintro _ w1 ⟨v, l, txt, a, b, rfl, hs, hv1, hb1⟩
  obtain ⟨a9, cap9, hv9, _⟩ := hv1.is
  generalize hn9 : (ints T.ks).length = n9 at hv9
  subst hv9
  obtain ⟨A, mid, C, hsa⟩ := SpotR.all hs HA.out.ok
  have HSA : Hid _ := hsa
  have HS : Hid (SpotR T key l txt a b) := hs
  have HV1 : Hid (View w.heap.size (.slice a9 n9 cap9) (ints T.ks) w1) := hv1
  have HB1 : Hid (Below w.heap.size w w1) := hb1
  obtain ⟨W2, hW2⟩ : ∃ W2, w1.alloc (.cells #[.int .i64 (T.top : Nat), .slice a9 n9 cap9, .int .i64 (l : Nat), .string txt, .int .i64 (a : Nat), .int .i64 (b : Nat)] 97) = W2 := ⟨_, rfl⟩
  have hb2 : Below w1.heap.size w1 W2 := by rw [← hW2]; exact (Below.refl _ w1).alloc (Nat.le_refl _) _
  have HV6 : Hid (Var6 w1.heap.size [.int .i64 (T.top : Nat), .slice a9 n9 cap9, .int .i64 (l : Nat), .string txt, .int .i64 (a : Nat), .int .i64 (b : Nat)] W2) := by rw [← hW2]; exact Var6.new6 w1 _ _ _ _ _ _ 97
  have HBX : Hid (Below w1.heap.size w1 W2) := hb2
  clear hs hv1 hb1 hb2 hn9 hsa
  have q6 := HV6.out.six
  obtain ⟨q0, q1, q2, q3, q4, q5⟩ := q6
  go_wp2_with fail
  refine (taken_any _ _ _ _ _ _ _).mono ?_
  rintro _ w3 ⟨rfl, hb3⟩
  have HV63 : Hid (Var6 w1.heap.size [.int .i64 (T.top : Nat), .slice a9 n9 cap9, .int .i64 (l : Nat), .string txt, .int .i64 (a : Nat), .int .i64 (b : Nat)] w3) := HV6.out.below hb3
  have HB13 : Hid (Below w1.heap.size w1 w3) := HBX.out.trans (hb3.mono HBX.out.size)
  have HBW : Hid (Below w.heap.size w w3) := HB1.out.trans (HB13.out.mono HB1.out.size)
  clear hb3 hW2 q0 q1 q2 q3 q4 q5
  by_cases hab : a < b
  · have e1 : (decide ((a : Int) < (b : Int))) = true := decide_eq_true (by omega)
    rw [e1]
    have q6 := HV63.out.six
    obtain ⟨q0, q1, q2, q3, q4, q5⟩ := q6
    have HMID : Hid (∃ y, mid = [y] ∧ y.k = key) := by
      rcases HSA.out.chg.mid_ with e | e
      · have := HSA.out.ab
        rw [e] at this
        simp [szL] at this
        omega
      · exact e
    clear e1 hab
    go_wp2_with fail
    refine (change_any (nw := []) (HT.out.below HBW.out) (HW.out.below HBW.out) hne HA.out (HV1.out.below HB13.out) ⟨by omega, by omega⟩ HSA.out (SpotR.inLs HS.out) (.inl rfl) (fun y hy => by simp at hy) hcnt hN).mono ?_
    rintro e4 w4 hc4
    have HC4 : Hid (ChgTo bp bd bm N r s up cm V T A [] C w e4 w4) := hc4.from HBW.out
    obtain ⟨u4, he4⟩ := hc4.ret
    subst he4
    clear hc4 q0 q1 q2 q3 q4 q5
    go_wp2
    go_ret
    obtain ⟨y, hy1, hy2⟩ := HMID.out
    exact .inr ⟨A, y, C, by rw [← hy1]; exact HSA.out.chg.all, hy2, HC4.out⟩
  · have e1 : (decide ((a : Int) < (b : Int))) = false := decide_eq_false (by omega)
    rw [e1]
    have HNO : Hid (∀ x ∈ T.all, x.k ≠ key) := by
      intro x hx
      rw [HSA.out.chg.all] at hx
      have hm : mid = [] := by
        have := HSA.out.ab
        exact szL_zero (by omega)
      rw [hm, List.append_nil] at hx
      rcases List.mem_append.1 hx with hx | hx
      · exact bl_ne (HSA.out.chg.less x hx)
      · exact fun e => bl_ne (HSA.out.chg.more x hx) e.symm
    clear e1 hab
    go_wp2
    go_ret
    exact .inl ⟨HNO.out, rfl, HBW.out⟩
end
end Go.Proofs.Ytjcddeoihjppaaa
namespace Go.Proofs.Ytjcddeoihjppaaa
open Go.RowKit Go.Maps

def pairB (x : Pr) : ByteArray := ⟨#[byteI (x.k.size : Int)]⟩ ++ x.k ++ ⟨#[byteI (x.i.size : Int)]⟩ ++ x.i
def pairsB (l : List Pr) : ByteArray := l.foldl (fun s x => s ++ pairB x) ⟨#[]⟩
theorem pairsB_succ {l : List Pr} {k : Nat} (hk : k < l.length) : pairsB (l.take (k + 1)) = pairsB (l.take k) ++ pairB l[k] := by
  unfold pairsB
  rw [List.take_succ_eq_append_getElem hk, List.foldl_append]
  rfl
theorem pairB_size (x : Pr) : (pairB x).size = x.sz := by
  unfold pairB Pr.sz
  simp only [ByteArray.size_append]
  show 1 + x.k.size + 1 + x.i.size = _
  omega
theorem pairsB_size : ∀ (l : List Pr) (k : Nat), k ≤ l.length → (pairsB (l.take k)).size = szL (l.take k)
  | l, 0, _ => rfl
  | l, k + 1, h => by
    rw [pairsB_succ (by omega), ByteArray.size_append, pairB_size, pairsB_size l k (by omega), szL_take_succ (by omega)]
theorem size64 : (sizeOf 64).run Try.prog = fun w => .ok 2 w := by funext w; simp [Try.sizeOf64]
theorem elem60 : Try.prog.elem 60 = 64 := by kernel_rfl
theorem index_two {t e : TypeId} (ht : Try.prog.underlying t = some (.slice e)) (he : Try.prog.elem t = e) (hs : (sizeOf e).run Try.prog = fun w => .ok 2 w) (g n cap i : Nat) (hi : i < n) (wx : World) : (Instr.indexAt t (.slice (some ⟨g, 0, none⟩) n cap) (.int .i64 (i : Nat))).run Try.prog wx = .ok (.pointer (some ⟨g, 2 * i, none⟩)) wx := by
  subst he
  rw [run_indexAt_slice (h := ht), if_pos ⟨by omega, by omega⟩, hs]
  simp [Result.andThen, add_pl, Nat.mul_comm]
/-- a pair in a row -/
theorem PRow.at {B : Nat} {v : Value} {ps : List Pr} {w : World} (h : PRow B v ps w) {i : Nat} (hi : i < ps.length) : ∃ g, B ≤ g ∧ w.cell? ⟨g, 2 * i, none⟩ = some (.string ps[i].k) ∧ w.cell? ⟨g, 2 * i + 1, none⟩ = some (.string ps[i].i) ∧
    ∀ wx, (Instr.indexAt 60 v (.int .i64 (i : Nat))).run Try.prog wx = .ok (.pointer (some ⟨g, 2 * i, none⟩)) wx := by
  obtain ⟨g, cap, rfl, h1, h2⟩ := World.ownsRow.form h (by omega)
  have hfl : ∀ (l : List Pr) (i : Nat) (hi : i < l.length), (l.flatMap pairC)[2 * i]? = some (.string l[i].k) ∧ (l.flatMap pairC)[2 * i + 1]? = some (.string l[i].i) := by
    intro l
    induction l with
    | nil => intro i hi; simp at hi
    | cons x r ih =>
      intro i hi
      cases i with
      | zero => exact ⟨rfl, rfl⟩
      | succ i =>
        have := ih i (by simpa using hi)
        rw [List.flatMap_cons]
        show ([_, _] ++ _)[2 * (i + 1)]? = _ ∧ ([_, _] ++ _)[2 * (i + 1) + 1]? = _
        rw [show 2 * (i + 1) = (2 * i) + 1 + 1 by omega]
        exact this
  have h3 := hfl ps i hi
  refine ⟨g, h1, ?_, ?_, fun wx => ?_⟩
  · have := h.cells (g := g) rfl (2 * i) _ h3.1
    rwa [add_pl, Nat.zero_add] at this
  · have := h.cells (g := g) rfl (2 * i + 1) _ h3.2
    rwa [add_pl, Nat.zero_add] at this
  · exact index_two Try.underlying60 elem60 size64 g ps.length cap i hi wx
theorem two_alloc {wx : World} {o : Obj} {a b : Addr} {x y : Value} (h : wx.cell? a = some x ∧ wx.cell? b = some y) : (wx.alloc o).cell? a = some x ∧ (wx.alloc o).cell? b = some y :=
  ⟨by rw [World.cell?_alloc_some _ _ _ (by rw [h.1]; rfl)]; exact h.1, by rw [World.cell?_alloc_some _ _ _ (by rw [h.2]; rfl)]; exact h.2⟩
theorem wpAnyH_strong {P : Program} {md : Region.Mode} {ops : Array Oper} {Q : Exit → Act → World → Prop} {S S' : World → Prop} (hS : ∀ w, S' w → S w) : ∀ (fuel : Nat) (listed : Array Bool) (a : Act) (w : World), wpAnyH P md ops Q S' fuel listed a w → wpAnyH P md ops Q S fuel listed a w
  | 0, _, _, _, h => h
  | fuel + 1, _, _, _, h => ⟨h.1, fun i hi => wpOp_mono (fun a' w' h' => ⟨hS w' h'.1, wpAnyH_strong hS fuel _ a' w' h'.2⟩) (h.2 i hi)⟩
section
variable {bt bp bd bm N r : Nat} {s : St} {up : Nat → Bool} {cm : Int} {V : Pst} {w : World}
set_option maxRecDepth 100000 in
set_option maxHeartbeats 4000000 in
theorem pairs_any (hT : Tt bt bp r w) (h : Tw bp bd bm N s up cm V w) {T : Tr} (hA : TrAt V r T) :
    Calls Try.prog 26 #[.pointer (some ⟨bt, 0, none⟩)] w fun e w' => e = .returned (.string (pairsB T.all)) ∧ Below w.heap.size w w' := by
  have HT : Hid _ := hT
  have HW : Hid _ := h
  have HA : Hid _ := hA
  obtain ⟨n, hn⟩ : ∃ n, T.all.length = n := ⟨_, rfl⟩
  have HN : Hid (T.all.length = n) := hn
  have hn3 : n ≤ 30000 := by have := len_szL T.all; have := hA.ok.sum; unfold Tr.all at *; omega
  clear hT h hA hn
  go_enter Try.func26, Try.ntmps26
  go_wp2_with fail
  refine (walk_all _ HT.out HW.out HA.out).mono ?_
  rintro _ w1 ⟨v, rfl, hR, hb⟩
  have hfv : ∃ a c, v = .slice a n c := by
    rcases hR.2 with ⟨e, e2⟩ | ⟨g, cap, cur, e, _⟩
    · exact ⟨none, 0, by rw [e, ← HN.out, e2]⟩
    · exact ⟨_, cap, by rw [e, HN.out]⟩
  obtain ⟨a9, c9, hv9⟩ := hfv
  subst hv9
  have HR : Hid (PRow w.heap.size (.slice a9 n c9) T.all w1) := hR
  have HB : Hid (Below w.heap.size w w1) := hb
  clear hR hb
  go_wp2_with fail
  go_loopw [5, 6] (fun t i wr => ∃ k : Nat, k ≤ n ∧ i = .int .i64 (k : Nat) ∧ t = .string (pairsB (T.all.take k)) ∧ Hid (PRow w.heap.size (.slice a9 n c9) T.all wr) ∧ Hid (Below w.heap.size w wr)) (fun _ i _ => n + 1 - (intOf i).toNat)
  case atStart => exact ⟨0, Nat.zero_le _, rfl, rfl, HR, HB⟩
  case round =>
    clear HR HB
    obtain ⟨k, hk, rfl, rfl, HR, HB⟩ := hrel
    by_cases hlt : k < n
    · have h1 : (k : Int) < (n : Int) := by omega
      have hkl : k < T.all.length := by rw [HN.out]; exact hlt
      obtain ⟨g, hg, k1, k2, hix⟩ := HR.out.at hkl
      have HS : Hid (pairsB (T.all.take (k + 1)) = pairsB (T.all.take k) ++ pairB T.all[k]) := pairsB_succ hkl
      have hps := pairsB_size T.all k (by omega)
      have hpl : szL (T.all.take k) ≤ 30000 := Nat.le_trans (szL_take_le _ _) HA.out.ok.sum
      have hok : T.all[k].Ok := by
        obtain ⟨L, hL, hx⟩ := List.mem_flatten.1 (List.getElem_mem hkl)
        exact HA.out.ok.ok L hL _ hx
      obtain ⟨S, hS⟩ : ∃ S, pairsB (T.all.take k) = S := ⟨_, rfl⟩
      rw [hS] at HS hps
      rw [hS]
      have hSs : S.size ≤ 30000 := by omega
      unfold Pr.Ok at hok
      unfold pairB at HS
      generalize T.all[k].k = xk at *
      generalize T.all[k].i = xi at *
      obtain ⟨o1, o2, o3⟩ := hok
      have hcA := one_byteN (xk.size : Int) (by omega) (by omega)
      have hcB := one_byteN (xi.size : Int) (by omega) (by omega)
      have hwk : IntKind.u8.wrap (xk.size : Int) = (xk.size : Int) := by rw [wrap_u8]; omega
      have hwi : IntKind.u8.wrap (xi.size : Int) = (xi.size : Int) := by rw [wrap_u8]; omega
      clear hps hpl hS
      go_wp2_with fail
      have C0 : Hid (wr.drew.cell? ⟨g, 2 * k, none⟩ = some (.string xk) ∧ wr.drew.cell? ⟨g, 2 * k + 1, none⟩ = some (.string xi)) := ⟨k1, k2⟩
      -- REGION
      have e1 := str_add ⟨#[byteI (xk.size : Int)]⟩ xk (by have : (⟨#[byteI (xk.size : Int)]⟩ : ByteArray).size = 1 := rfl; omega)
      have e2 := str_add (⟨#[byteI (xk.size : Int)]⟩ ++ xk) ⟨#[byteI (xi.size : Int)]⟩ (by rw [ByteArray.size_append]; have : (⟨#[byteI (xk.size : Int)]⟩ : ByteArray).size = 1 := rfl; have : (⟨#[byteI (xi.size : Int)]⟩ : ByteArray).size = 1 := rfl; omega)
      have e3 := str_add (⟨#[byteI (xk.size : Int)]⟩ ++ xk ++ ⟨#[byteI (xi.size : Int)]⟩) xi (by rw [ByteArray.size_append, ByteArray.size_append]; have : (⟨#[byteI (xk.size : Int)]⟩ : ByteArray).size = 1 := rfl; have : (⟨#[byteI (xi.size : Int)]⟩ : ByteArray).size = 1 := rfl; omega)
      have e4 := str_add S (⟨#[byteI (xk.size : Int)]⟩ ++ xk ++ ⟨#[byteI (xi.size : Int)]⟩ ++ xi) (by rw [ByteArray.size_append, ByteArray.size_append, ByteArray.size_append]; have : (⟨#[byteI (xk.size : Int)]⟩ : ByteArray).size = 1 := rfl; have : (⟨#[byteI (xi.size : Int)]⟩ : ByteArray).size = 1 := rfl; omega)
      refine wp_region_held_drew (S := fun wx => wx.cell? ⟨g, 2 * k, none⟩ = some (.string xk) ∧ wx.cell? ⟨g, 2 * k + 1, none⟩ = some (.string xi)) (by kernel_rfl) C0.out ?_
      intro _
      refine wpAnyH_take (i := 0) (oi := { dst := some 20, op := Op.move (Operand.tmp 5), type := 9, pos := "keep.go:430", after := #[], guard := none }) (v := .string S) rfl (by kernel_rfl) (by kernel_rfl) (by kernel_rfl) (fun _ _ _ h => h) (Or.inl ⟨by rfl, fun wx _ => by go_simp⟩) C0.out ?_
      simp only [Act.put, List.setIfInBounds_toArray, List.set_cons_zero, List.set_cons_succ]
      refine wpAnyH_take (i := 1) (oi := { dst := some 21, op := Op.move (Operand.tmp 3), type := 60, pos := "keep.go:430", after := #[], guard := none }) (v := .slice a9 n c9) rfl (by kernel_rfl) (by kernel_rfl) (by kernel_rfl) (fun _ _ _ h => h) (Or.inl ⟨by rfl, fun wx _ => by go_simp⟩) C0.out ?_
      simp only [Act.put, List.setIfInBounds_toArray, List.set_cons_zero, List.set_cons_succ]
      refine wpAnyH_take (i := 2) (oi := { dst := some 22, op := Op.move (Operand.tmp 6), type := 3, pos := "keep.go:430", after := #[], guard := none }) (v := .int .i64 (k : Nat)) rfl (by kernel_rfl) (by kernel_rfl) (by kernel_rfl) (fun _ _ _ h => h) (Or.inl ⟨by rfl, fun wx _ => by go_simp⟩) C0.out ?_
      simp only [Act.put, List.setIfInBounds_toArray, List.set_cons_zero, List.set_cons_succ]
      refine wpAnyH_take (i := 3) (oi := { dst := some 23, op := Op.indexAddr 60 (Operand.tmp 21) (Operand.tmp 22), type := 0, pos := "keep.go:430", after := #[{ on := 1, ground := Ground.data }, { on := 2, ground := Ground.data }], guard := none }) (v := .pointer (some ⟨g, 2 * k, none⟩)) rfl (by kernel_rfl) (by kernel_rfl) (by kernel_rfl) (fun _ _ _ h => h) (Or.inl ⟨by rfl, fun wx _ => by go_simp⟩) C0.out ?_
      simp only [Act.put, List.setIfInBounds_toArray, List.set_cons_zero, List.set_cons_succ]
      refine wpAnyH_take (i := 4) (oi := { dst := some 24, op := Op.fieldAddr 64 (Operand.tmp 23) 0, type := 0, pos := "keep.go:430", after := #[{ on := 3, ground := Ground.data }], guard := none }) (v := .pointer (some ⟨g, 2 * k, none⟩)) rfl (by kernel_rfl) (by kernel_rfl) (by kernel_rfl) (fun _ _ _ h => h) (Or.inl ⟨by rfl, fun wx _ => by go_simp⟩) C0.out ?_
      simp only [Act.put, List.setIfInBounds_toArray, List.set_cons_zero, List.set_cons_succ]
      refine wpAnyH_take (i := 5) (oi := { dst := some 25, op := Op.load 9 (Operand.tmp 24), type := 9, pos := "keep.go:430", after := #[{ on := 4, ground := Ground.data }], guard := none }) (v := .string xk) rfl (by kernel_rfl) (by kernel_rfl) (by kernel_rfl) (fun _ _ _ h => h) (Or.inl ⟨by rfl, fun wx h => by have h8 := h.1; go_simp⟩) C0.out ?_
      simp only [Act.put, List.setIfInBounds_toArray, List.set_cons_zero, List.set_cons_succ]
      refine wpAnyH_take (i := 6) (oi := { dst := some 26, op := Op.call { callee := Callee.builtin Builtin.len, args := #[Operand.tmp 25], argTypes := #[9] }, type := 3, pos := "keep.go:430", after := #[{ on := 5, ground := Ground.data }], guard := none }) (v := .int .i64 (xk.size : Nat)) rfl (by kernel_rfl) (by kernel_rfl) (by kernel_rfl) (fun _ _ _ h => h) (Or.inl ⟨by rfl, fun wx _ => by go_simp⟩) C0.out ?_
      simp only [Act.put, List.setIfInBounds_toArray, List.set_cons_zero, List.set_cons_succ]
      refine wpAnyH_take (i := 7) (oi := { dst := some 27, op := Op.convert 3 5 (Operand.tmp 26), type := 5, pos := "keep.go:430", after := #[{ on := 6, ground := Ground.data }], guard := none }) (v := .int .u8 (xk.size : Nat)) rfl (by kernel_rfl) (by kernel_rfl) (by kernel_rfl) (fun _ _ _ h => h) (Or.inl ⟨by rfl, fun wx _ => by go_simp⟩) C0.out ?_
      simp only [Act.put, List.setIfInBounds_toArray, List.set_cons_zero, List.set_cons_succ]
      refine wpAnyH_take (i := 10) (oi := { dst := some 30, op := Op.move (Operand.tmp 3), type := 60, pos := "keep.go:430", after := #[], guard := none }) (v := .slice a9 n c9) rfl (by kernel_rfl) (by kernel_rfl) (by kernel_rfl) (fun _ _ _ h => h) (Or.inl ⟨by rfl, fun wx _ => by go_simp⟩) C0.out ?_
      simp only [Act.put, List.setIfInBounds_toArray, List.set_cons_zero, List.set_cons_succ]
      refine wpAnyH_take (i := 11) (oi := { dst := some 31, op := Op.move (Operand.tmp 6), type := 3, pos := "keep.go:430", after := #[], guard := none }) (v := .int .i64 (k : Nat)) rfl (by kernel_rfl) (by kernel_rfl) (by kernel_rfl) (fun _ _ _ h => h) (Or.inl ⟨by rfl, fun wx _ => by go_simp⟩) C0.out ?_
      simp only [Act.put, List.setIfInBounds_toArray, List.set_cons_zero, List.set_cons_succ]
      refine wpAnyH_take (i := 12) (oi := { dst := some 32, op := Op.indexAddr 60 (Operand.tmp 30) (Operand.tmp 31), type := 0, pos := "keep.go:430", after := #[{ on := 10, ground := Ground.data }, { on := 11, ground := Ground.data }], guard := none }) (v := .pointer (some ⟨g, 2 * k, none⟩)) rfl (by kernel_rfl) (by kernel_rfl) (by kernel_rfl) (fun _ _ _ h => h) (Or.inl ⟨by rfl, fun wx _ => by go_simp⟩) C0.out ?_
      simp only [Act.put, List.setIfInBounds_toArray, List.set_cons_zero, List.set_cons_succ]
      refine wpAnyH_take (i := 13) (oi := { dst := some 33, op := Op.fieldAddr 64 (Operand.tmp 32) 0, type := 0, pos := "keep.go:430", after := #[{ on := 12, ground := Ground.data }], guard := none }) (v := .pointer (some ⟨g, 2 * k, none⟩)) rfl (by kernel_rfl) (by kernel_rfl) (by kernel_rfl) (fun _ _ _ h => h) (Or.inl ⟨by rfl, fun wx _ => by go_simp⟩) C0.out ?_
      simp only [Act.put, List.setIfInBounds_toArray, List.set_cons_zero, List.set_cons_succ]
      refine wpAnyH_take (i := 14) (oi := { dst := some 34, op := Op.load 9 (Operand.tmp 33), type := 9, pos := "keep.go:430", after := #[{ on := 13, ground := Ground.data }], guard := none }) (v := .string xk) rfl (by kernel_rfl) (by kernel_rfl) (by kernel_rfl) (fun _ _ _ h => h) (Or.inl ⟨by rfl, fun wx h => by have h8 := h.1; go_simp⟩) C0.out ?_
      simp only [Act.put, List.setIfInBounds_toArray, List.set_cons_zero, List.set_cons_succ]
      refine wpAnyH_take (i := 16) (oi := { dst := some 36, op := Op.move (Operand.tmp 3), type := 60, pos := "keep.go:430", after := #[], guard := none }) (v := .slice a9 n c9) rfl (by kernel_rfl) (by kernel_rfl) (by kernel_rfl) (fun _ _ _ h => h) (Or.inl ⟨by rfl, fun wx _ => by go_simp⟩) C0.out ?_
      simp only [Act.put, List.setIfInBounds_toArray, List.set_cons_zero, List.set_cons_succ]
      refine wpAnyH_take (i := 17) (oi := { dst := some 37, op := Op.move (Operand.tmp 6), type := 3, pos := "keep.go:430", after := #[], guard := none }) (v := .int .i64 (k : Nat)) rfl (by kernel_rfl) (by kernel_rfl) (by kernel_rfl) (fun _ _ _ h => h) (Or.inl ⟨by rfl, fun wx _ => by go_simp⟩) C0.out ?_
      simp only [Act.put, List.setIfInBounds_toArray, List.set_cons_zero, List.set_cons_succ]
      refine wpAnyH_take (i := 18) (oi := { dst := some 38, op := Op.indexAddr 60 (Operand.tmp 36) (Operand.tmp 37), type := 0, pos := "keep.go:430", after := #[{ on := 16, ground := Ground.data }, { on := 17, ground := Ground.data }], guard := none }) (v := .pointer (some ⟨g, 2 * k, none⟩)) rfl (by kernel_rfl) (by kernel_rfl) (by kernel_rfl) (fun _ _ _ h => h) (Or.inl ⟨by rfl, fun wx _ => by go_simp⟩) C0.out ?_
      simp only [Act.put, List.setIfInBounds_toArray, List.set_cons_zero, List.set_cons_succ]
      refine wpAnyH_take (i := 19) (oi := { dst := some 39, op := Op.fieldAddr 64 (Operand.tmp 38) 1, type := 0, pos := "keep.go:430", after := #[{ on := 18, ground := Ground.data }], guard := none }) (v := .pointer (some ⟨g, 2 * k + 1, none⟩)) rfl (by kernel_rfl) (by kernel_rfl) (by kernel_rfl) (fun _ _ _ h => h) (Or.inl ⟨by rfl, fun wx _ => by go_simp⟩) C0.out ?_
      simp only [Act.put, List.setIfInBounds_toArray, List.set_cons_zero, List.set_cons_succ]
      refine wpAnyH_take (i := 20) (oi := { dst := some 40, op := Op.load 9 (Operand.tmp 39), type := 9, pos := "keep.go:430", after := #[{ on := 19, ground := Ground.data }], guard := none }) (v := .string xi) rfl (by kernel_rfl) (by kernel_rfl) (by kernel_rfl) (fun _ _ _ h => h) (Or.inl ⟨by rfl, fun wx h => by have h8 := h.2; go_simp⟩) C0.out ?_
      simp only [Act.put, List.setIfInBounds_toArray, List.set_cons_zero, List.set_cons_succ]
      refine wpAnyH_take (i := 21) (oi := { dst := some 41, op := Op.call { callee := Callee.builtin Builtin.len, args := #[Operand.tmp 40], argTypes := #[9] }, type := 3, pos := "keep.go:430", after := #[{ on := 20, ground := Ground.data }], guard := none }) (v := .int .i64 (xi.size : Nat)) rfl (by kernel_rfl) (by kernel_rfl) (by kernel_rfl) (fun _ _ _ h => h) (Or.inl ⟨by rfl, fun wx _ => by go_simp⟩) C0.out ?_
      simp only [Act.put, List.setIfInBounds_toArray, List.set_cons_zero, List.set_cons_succ]
      refine wpAnyH_take (i := 22) (oi := { dst := some 42, op := Op.convert 3 5 (Operand.tmp 41), type := 5, pos := "keep.go:430", after := #[{ on := 21, ground := Ground.data }], guard := none }) (v := .int .u8 (xi.size : Nat)) rfl (by kernel_rfl) (by kernel_rfl) (by kernel_rfl) (fun _ _ _ h => h) (Or.inl ⟨by rfl, fun wx _ => by go_simp⟩) C0.out ?_
      simp only [Act.put, List.setIfInBounds_toArray, List.set_cons_zero, List.set_cons_succ]
      refine wpAnyH_take (i := 26) (oi := { dst := some 46, op := Op.move (Operand.tmp 3), type := 60, pos := "keep.go:430", after := #[], guard := none }) (v := .slice a9 n c9) rfl (by kernel_rfl) (by kernel_rfl) (by kernel_rfl) (fun _ _ _ h => h) (Or.inl ⟨by rfl, fun wx _ => by go_simp⟩) C0.out ?_
      simp only [Act.put, List.setIfInBounds_toArray, List.set_cons_zero, List.set_cons_succ]
      refine wpAnyH_take (i := 27) (oi := { dst := some 47, op := Op.move (Operand.tmp 6), type := 3, pos := "keep.go:430", after := #[], guard := none }) (v := .int .i64 (k : Nat)) rfl (by kernel_rfl) (by kernel_rfl) (by kernel_rfl) (fun _ _ _ h => h) (Or.inl ⟨by rfl, fun wx _ => by go_simp⟩) C0.out ?_
      simp only [Act.put, List.setIfInBounds_toArray, List.set_cons_zero, List.set_cons_succ]
      refine wpAnyH_take (i := 28) (oi := { dst := some 48, op := Op.indexAddr 60 (Operand.tmp 46) (Operand.tmp 47), type := 0, pos := "keep.go:430", after := #[{ on := 26, ground := Ground.data }, { on := 27, ground := Ground.data }], guard := none }) (v := .pointer (some ⟨g, 2 * k, none⟩)) rfl (by kernel_rfl) (by kernel_rfl) (by kernel_rfl) (fun _ _ _ h => h) (Or.inl ⟨by rfl, fun wx _ => by go_simp⟩) C0.out ?_
      simp only [Act.put, List.setIfInBounds_toArray, List.set_cons_zero, List.set_cons_succ]
      refine wpAnyH_take (i := 29) (oi := { dst := some 49, op := Op.fieldAddr 64 (Operand.tmp 48) 1, type := 0, pos := "keep.go:430", after := #[{ on := 28, ground := Ground.data }], guard := none }) (v := .pointer (some ⟨g, 2 * k + 1, none⟩)) rfl (by kernel_rfl) (by kernel_rfl) (by kernel_rfl) (fun _ _ _ h => h) (Or.inl ⟨by rfl, fun wx _ => by go_simp⟩) C0.out ?_
      simp only [Act.put, List.setIfInBounds_toArray, List.set_cons_zero, List.set_cons_succ]
      refine wpAnyH_take (i := 30) (oi := { dst := some 50, op := Op.load 9 (Operand.tmp 49), type := 9, pos := "keep.go:430", after := #[{ on := 29, ground := Ground.data }], guard := none }) (v := .string xi) rfl (by kernel_rfl) (by kernel_rfl) (by kernel_rfl) (fun _ _ _ h => h) (Or.inl ⟨by rfl, fun wx h => by have h8 := h.2; go_simp⟩) C0.out ?_
      simp only [Act.put, List.setIfInBounds_toArray, List.set_cons_zero, List.set_cons_succ]
      refine wpAnyH_ready (rs := [8, 23]) (by kernel_rfl) (by decide) (AllReadyH.cons (o := { dst := some 28, op := Op.buildSlice 54 1 #[(0, Operand.tmp 27)], type := 54, pos := "keep.go:430", after := #[{ on := 7, ground := Ground.data }], guard := none }) rfl (fun K hK => ?_) (AllReadyH.cons (o := { dst := some 43, op := Op.buildSlice 54 1 #[(0, Operand.tmp 42)], type := 54, pos := "keep.go:430", after := #[{ on := 22, ground := Ground.data }], guard := none }) rfl (fun K hK => ?_) AllReadyH.nil))
      · rw [if_pos (by rfl)]
        go_simp
        obtain ⟨W1, hW1⟩ : ∃ W1, (wr.alloc (.cells #[.int .u8 (xk.size : Int)] 5)).drew = W1 := ⟨_, rfl⟩
        rw [hW1]
        have n1 : W1.cell? ⟨wr.heap.size, 0, none⟩ = some (.int .u8 (xk.size : Int)) := by rw [← hW1]; exact (Own1.new wr _ _).drew.cell
        have kk : W1.cell? ⟨g, 2 * k, none⟩ = some (.string xk) ∧ W1.cell? ⟨g, 2 * k + 1, none⟩ = some (.string xi) := by rw [← hW1]; exact two_alloc (wx := wr) ⟨k1, k2⟩
        have hb1 : Below wr.heap.size wr W1 := by rw [← hW1]; exact ((Below.refl _ wr).alloc (Nat.le_refl _) _).drew
        refine hK.out _ _ kk (fun _ => ?_)
        clear hK K
        try simp only [Act.put, List.setIfInBounds_toArray, List.set_cons_zero, List.set_cons_succ]
        refine wpAnyH_strong (S' := fun wx => (wx.cell? ⟨g, 2 * k, none⟩ = some (.string xk) ∧ wx.cell? ⟨g, 2 * k + 1, none⟩ = some (.string xi)) ∧ wx.cell? ⟨wr.heap.size, 0, none⟩ = some (.int .u8 (xk.size : Int))) (fun _ h => h.1) _ _ _ _ ?_
        have g1 := And.intro kk n1
        refine wpAnyH_take (i := 9) (oi := { dst := some 29, op := Op.convert 54 9 (Operand.tmp 28), type := 9, pos := "keep.go:430", after := #[{ on := 8, ground := Ground.data }], guard := none }) (v := .string ⟨#[byteI (xk.size : Int)]⟩) rfl (by kernel_rfl) (by kernel_rfl) (by kernel_rfl) (fun _ _ _ h => h) (Or.inl ⟨by rfl, fun wx h => by have h8 := h.2; go_simp⟩) g1 ?_
        simp only [Act.put, List.setIfInBounds_toArray, List.set_cons_zero, List.set_cons_succ]
        refine wpAnyH_take (i := 15) (oi := { dst := some 35, op := Op.binOp BinOp.add 9 (Operand.tmp 29) (Operand.tmp 34) 9, type := 9, pos := "keep.go:430", after := #[{ on := 9, ground := Ground.data }, { on := 14, ground := Ground.data }], guard := none }) (v := .string (⟨#[byteI (xk.size : Int)]⟩ ++ xk)) rfl (by kernel_rfl) (by kernel_rfl) (by kernel_rfl) (fun _ _ _ h => h) (Or.inl ⟨by rfl, fun wx _ => by go_simp⟩) g1 ?_
        simp only [Act.put, List.setIfInBounds_toArray, List.set_cons_zero, List.set_cons_succ]
        refine wpAnyH_ready (rs := [23]) (by kernel_rfl) (by decide) (AllReadyH.cons (o := { dst := some 43, op := Op.buildSlice 54 1 #[(0, Operand.tmp 42)], type := 54, pos := "keep.go:430", after := #[{ on := 22, ground := Ground.data }], guard := none }) rfl (fun K hK => ?_) AllReadyH.nil)
        rw [if_pos (by rfl)]
        go_simp
        obtain ⟨W2, hW2⟩ : ∃ W2, W1.alloc (.cells #[.int .u8 (xi.size : Int)] 5) = W2 := ⟨_, rfl⟩
        try rw [hW2]
        have n2 : W2.cell? ⟨W1.heap.size, 0, none⟩ = some (.int .u8 (xi.size : Int)) := by rw [← hW2]; exact (Own1.new W1 _ _).cell
        have hb2 : Below W1.heap.size W1 W2 := by rw [← hW2]; exact (Below.refl _ W1).alloc (Nat.le_refl _) _
        refine hK.out _ _ ⟨⟨keepc hb2 kk.1, keepc hb2 kk.2⟩, keepc hb2 n1⟩ (fun _ => ?_)
        clear hK K
        try simp only [Act.put, List.setIfInBounds_toArray, List.set_cons_zero, List.set_cons_succ]
        refine wpAnyH_strong (S' := fun wx => ((wx.cell? ⟨g, 2 * k, none⟩ = some (.string xk) ∧ wx.cell? ⟨g, 2 * k + 1, none⟩ = some (.string xi)) ∧ wx.cell? ⟨wr.heap.size, 0, none⟩ = some (.int .u8 (xk.size : Int))) ∧ wx.cell? ⟨W1.heap.size, 0, none⟩ = some (.int .u8 (xi.size : Int))) (fun _ h => h.1) _ _ _ _ ?_
        have g2 : (fun wx => ((wx.cell? ⟨g, 2 * k, none⟩ = some (.string xk) ∧ wx.cell? ⟨g, 2 * k + 1, none⟩ = some (.string xi)) ∧ wx.cell? ⟨wr.heap.size, 0, none⟩ = some (.int .u8 (xk.size : Int))) ∧ wx.cell? ⟨W1.heap.size, 0, none⟩ = some (.int .u8 (xi.size : Int))) W2 := ⟨⟨⟨keepc hb2 kk.1, keepc hb2 kk.2⟩, keepc hb2 n1⟩, n2⟩
        refine wpAnyH_take (i := 24) (oi := { dst := some 44, op := Op.convert 54 9 (Operand.tmp 43), type := 9, pos := "keep.go:430", after := #[{ on := 23, ground := Ground.data }], guard := none }) (v := .string ⟨#[byteI (xi.size : Int)]⟩) rfl (by kernel_rfl) (by kernel_rfl) (by kernel_rfl) (fun _ _ _ h => h) (Or.inl ⟨by rfl, fun wx h => by have h8 := h.2; go_simp⟩) g2 ?_
        simp only [Act.put, List.setIfInBounds_toArray, List.set_cons_zero, List.set_cons_succ]
        refine wpAnyH_take (i := 25) (oi := { dst := some 45, op := Op.binOp BinOp.add 9 (Operand.tmp 35) (Operand.tmp 44) 9, type := 9, pos := "keep.go:430", after := #[{ on := 15, ground := Ground.data }, { on := 24, ground := Ground.data }], guard := none }) (v := .string (⟨#[byteI (xk.size : Int)]⟩ ++ xk ++ ⟨#[byteI (xi.size : Int)]⟩)) rfl (by kernel_rfl) (by kernel_rfl) (by kernel_rfl) (fun _ _ _ h => h) (Or.inl ⟨by rfl, fun wx _ => by go_simp⟩) g2 ?_
        simp only [Act.put, List.setIfInBounds_toArray, List.set_cons_zero, List.set_cons_succ]
        refine wpAnyH_take (i := 31) (oi := { dst := some 51, op := Op.binOp BinOp.add 9 (Operand.tmp 45) (Operand.tmp 50) 9, type := 9, pos := "keep.go:430", after := #[{ on := 25, ground := Ground.data }, { on := 30, ground := Ground.data }], guard := none }) (v := .string (⟨#[byteI (xk.size : Int)]⟩ ++ xk ++ ⟨#[byteI (xi.size : Int)]⟩ ++ xi)) rfl (by kernel_rfl) (by kernel_rfl) (by kernel_rfl) (fun _ _ _ h => h) (Or.inl ⟨by rfl, fun wx _ => by go_simp⟩) g2 ?_
        simp only [Act.put, List.setIfInBounds_toArray, List.set_cons_zero, List.set_cons_succ]
        refine wpAnyH_take (i := 32) (oi := { dst := some 52, op := Op.binOp BinOp.add 9 (Operand.tmp 20) (Operand.tmp 51) 9, type := 9, pos := "keep.go:430", after := #[{ on := 0, ground := Ground.data }, { on := 31, ground := Ground.data }], guard := none }) (v := .string (S ++ (⟨#[byteI (xk.size : Int)]⟩ ++ xk ++ ⟨#[byteI (xi.size : Int)]⟩ ++ xi))) rfl (by kernel_rfl) (by kernel_rfl) (by kernel_rfl) (fun _ _ _ h => h) (Or.inl ⟨by rfl, fun wx _ => by go_simp⟩) g2 ?_
        simp only [Act.put, List.setIfInBounds_toArray, List.set_cons_zero, List.set_cons_succ]
        refine wpAnyH_take (i := 33) (oi := { dst := some 5, op := Op.assign (Operand.tmp 52), type := 9, pos := "keep.go:430", after := #[{ on := 32, ground := Ground.data }, { on := 0, ground := Ground.phase }, { on := 1, ground := Ground.phase }, { on := 2, ground := Ground.phase }, { on := 3, ground := Ground.phase }, { on := 4, ground := Ground.phase }, { on := 5, ground := Ground.phase }, { on := 6, ground := Ground.phase }, { on := 7, ground := Ground.phase }, { on := 8, ground := Ground.phase }, { on := 9, ground := Ground.phase }, { on := 10, ground := Ground.phase }, { on := 11, ground := Ground.phase }, { on := 12, ground := Ground.phase }, { on := 13, ground := Ground.phase }, { on := 14, ground := Ground.phase }, { on := 15, ground := Ground.phase }, { on := 16, ground := Ground.phase }, { on := 17, ground := Ground.phase }, { on := 18, ground := Ground.phase }, { on := 19, ground := Ground.phase }, { on := 20, ground := Ground.phase }, { on := 21, ground := Ground.phase }, { on := 22, ground := Ground.phase }, { on := 23, ground := Ground.phase }, { on := 24, ground := Ground.phase }, { on := 25, ground := Ground.phase }, { on := 26, ground := Ground.phase }, { on := 27, ground := Ground.phase }, { on := 28, ground := Ground.phase }, { on := 29, ground := Ground.phase }, { on := 30, ground := Ground.phase }, { on := 31, ground := Ground.phase }, { on := 32, ground := Ground.phase }], guard := none }) (v := .string (S ++ (⟨#[byteI (xk.size : Int)]⟩ ++ xk ++ ⟨#[byteI (xi.size : Int)]⟩ ++ xi))) rfl (by kernel_rfl) (by kernel_rfl) (by kernel_rfl) (fun _ _ _ h => h) (Or.inl ⟨by rfl, fun wx _ => by go_simp⟩) g2 ?_
        simp only [Act.put, List.setIfInBounds_toArray, List.set_cons_zero, List.set_cons_succ]
        refine wpAnyH_done (by kernel_rfl) ?_ _
        have HB2 : Hid (Below wr.heap.size wr W2) := hb1.trans (hb2.mono hb1.size)
        clear g1 g2 n1 n2 kk hb1 hb2 hW1 hW2
        go_wp2_with fail
        go_roundw
        case rel => exact ⟨k + 1, by omega, by go_num, by rw [HS.out], row_only HR.out (below_only HB2.out (fun _ => False)) (fun _ e => e.elim), HB.out.trans (HB2.out.mono HB.out.size)⟩
        case measure => simp [intOf]; omega
      · rw [if_pos (by rfl)]
        go_simp
        obtain ⟨W1, hW1⟩ : ∃ W1, (wr.alloc (.cells #[.int .u8 (xi.size : Int)] 5)).drew = W1 := ⟨_, rfl⟩
        rw [hW1]
        have n1 : W1.cell? ⟨wr.heap.size, 0, none⟩ = some (.int .u8 (xi.size : Int)) := by rw [← hW1]; exact (Own1.new wr _ _).drew.cell
        have kk : W1.cell? ⟨g, 2 * k, none⟩ = some (.string xk) ∧ W1.cell? ⟨g, 2 * k + 1, none⟩ = some (.string xi) := by rw [← hW1]; exact two_alloc (wx := wr) ⟨k1, k2⟩
        have hb1 : Below wr.heap.size wr W1 := by rw [← hW1]; exact ((Below.refl _ wr).alloc (Nat.le_refl _) _).drew
        refine hK.out _ _ kk (fun _ => ?_)
        clear hK K
        try simp only [Act.put, List.setIfInBounds_toArray, List.set_cons_zero, List.set_cons_succ]
        refine wpAnyH_strong (S' := fun wx => (wx.cell? ⟨g, 2 * k, none⟩ = some (.string xk) ∧ wx.cell? ⟨g, 2 * k + 1, none⟩ = some (.string xi)) ∧ wx.cell? ⟨wr.heap.size, 0, none⟩ = some (.int .u8 (xi.size : Int))) (fun _ h => h.1) _ _ _ _ ?_
        have g1 := And.intro kk n1
        refine wpAnyH_take (i := 24) (oi := { dst := some 44, op := Op.convert 54 9 (Operand.tmp 43), type := 9, pos := "keep.go:430", after := #[{ on := 23, ground := Ground.data }], guard := none }) (v := .string ⟨#[byteI (xi.size : Int)]⟩) rfl (by kernel_rfl) (by kernel_rfl) (by kernel_rfl) (fun _ _ _ h => h) (Or.inl ⟨by rfl, fun wx h => by have h8 := h.2; go_simp⟩) g1 ?_
        simp only [Act.put, List.setIfInBounds_toArray, List.set_cons_zero, List.set_cons_succ]
        refine wpAnyH_ready (rs := [8]) (by kernel_rfl) (by decide) (AllReadyH.cons (o := { dst := some 28, op := Op.buildSlice 54 1 #[(0, Operand.tmp 27)], type := 54, pos := "keep.go:430", after := #[{ on := 7, ground := Ground.data }], guard := none }) rfl (fun K hK => ?_) AllReadyH.nil)
        rw [if_pos (by rfl)]
        go_simp
        obtain ⟨W2, hW2⟩ : ∃ W2, W1.alloc (.cells #[.int .u8 (xk.size : Int)] 5) = W2 := ⟨_, rfl⟩
        try rw [hW2]
        have n2 : W2.cell? ⟨W1.heap.size, 0, none⟩ = some (.int .u8 (xk.size : Int)) := by rw [← hW2]; exact (Own1.new W1 _ _).cell
        have hb2 : Below W1.heap.size W1 W2 := by rw [← hW2]; exact (Below.refl _ W1).alloc (Nat.le_refl _) _
        refine hK.out _ _ ⟨⟨keepc hb2 kk.1, keepc hb2 kk.2⟩, keepc hb2 n1⟩ (fun _ => ?_)
        clear hK K
        try simp only [Act.put, List.setIfInBounds_toArray, List.set_cons_zero, List.set_cons_succ]
        refine wpAnyH_strong (S' := fun wx => ((wx.cell? ⟨g, 2 * k, none⟩ = some (.string xk) ∧ wx.cell? ⟨g, 2 * k + 1, none⟩ = some (.string xi)) ∧ wx.cell? ⟨wr.heap.size, 0, none⟩ = some (.int .u8 (xi.size : Int))) ∧ wx.cell? ⟨W1.heap.size, 0, none⟩ = some (.int .u8 (xk.size : Int))) (fun _ h => h.1) _ _ _ _ ?_
        have g2 : (fun wx => ((wx.cell? ⟨g, 2 * k, none⟩ = some (.string xk) ∧ wx.cell? ⟨g, 2 * k + 1, none⟩ = some (.string xi)) ∧ wx.cell? ⟨wr.heap.size, 0, none⟩ = some (.int .u8 (xi.size : Int))) ∧ wx.cell? ⟨W1.heap.size, 0, none⟩ = some (.int .u8 (xk.size : Int))) W2 := ⟨⟨⟨keepc hb2 kk.1, keepc hb2 kk.2⟩, keepc hb2 n1⟩, n2⟩
        refine wpAnyH_take (i := 9) (oi := { dst := some 29, op := Op.convert 54 9 (Operand.tmp 28), type := 9, pos := "keep.go:430", after := #[{ on := 8, ground := Ground.data }], guard := none }) (v := .string ⟨#[byteI (xk.size : Int)]⟩) rfl (by kernel_rfl) (by kernel_rfl) (by kernel_rfl) (fun _ _ _ h => h) (Or.inl ⟨by rfl, fun wx h => by have h8 := h.2; go_simp⟩) g2 ?_
        simp only [Act.put, List.setIfInBounds_toArray, List.set_cons_zero, List.set_cons_succ]
        refine wpAnyH_take (i := 15) (oi := { dst := some 35, op := Op.binOp BinOp.add 9 (Operand.tmp 29) (Operand.tmp 34) 9, type := 9, pos := "keep.go:430", after := #[{ on := 9, ground := Ground.data }, { on := 14, ground := Ground.data }], guard := none }) (v := .string (⟨#[byteI (xk.size : Int)]⟩ ++ xk)) rfl (by kernel_rfl) (by kernel_rfl) (by kernel_rfl) (fun _ _ _ h => h) (Or.inl ⟨by rfl, fun wx _ => by go_simp⟩) g2 ?_
        simp only [Act.put, List.setIfInBounds_toArray, List.set_cons_zero, List.set_cons_succ]
        refine wpAnyH_take (i := 25) (oi := { dst := some 45, op := Op.binOp BinOp.add 9 (Operand.tmp 35) (Operand.tmp 44) 9, type := 9, pos := "keep.go:430", after := #[{ on := 15, ground := Ground.data }, { on := 24, ground := Ground.data }], guard := none }) (v := .string (⟨#[byteI (xk.size : Int)]⟩ ++ xk ++ ⟨#[byteI (xi.size : Int)]⟩)) rfl (by kernel_rfl) (by kernel_rfl) (by kernel_rfl) (fun _ _ _ h => h) (Or.inl ⟨by rfl, fun wx _ => by go_simp⟩) g2 ?_
        simp only [Act.put, List.setIfInBounds_toArray, List.set_cons_zero, List.set_cons_succ]
        refine wpAnyH_take (i := 31) (oi := { dst := some 51, op := Op.binOp BinOp.add 9 (Operand.tmp 45) (Operand.tmp 50) 9, type := 9, pos := "keep.go:430", after := #[{ on := 25, ground := Ground.data }, { on := 30, ground := Ground.data }], guard := none }) (v := .string (⟨#[byteI (xk.size : Int)]⟩ ++ xk ++ ⟨#[byteI (xi.size : Int)]⟩ ++ xi)) rfl (by kernel_rfl) (by kernel_rfl) (by kernel_rfl) (fun _ _ _ h => h) (Or.inl ⟨by rfl, fun wx _ => by go_simp⟩) g2 ?_
        simp only [Act.put, List.setIfInBounds_toArray, List.set_cons_zero, List.set_cons_succ]
        refine wpAnyH_take (i := 32) (oi := { dst := some 52, op := Op.binOp BinOp.add 9 (Operand.tmp 20) (Operand.tmp 51) 9, type := 9, pos := "keep.go:430", after := #[{ on := 0, ground := Ground.data }, { on := 31, ground := Ground.data }], guard := none }) (v := .string (S ++ (⟨#[byteI (xk.size : Int)]⟩ ++ xk ++ ⟨#[byteI (xi.size : Int)]⟩ ++ xi))) rfl (by kernel_rfl) (by kernel_rfl) (by kernel_rfl) (fun _ _ _ h => h) (Or.inl ⟨by rfl, fun wx _ => by go_simp⟩) g2 ?_
        simp only [Act.put, List.setIfInBounds_toArray, List.set_cons_zero, List.set_cons_succ]
        refine wpAnyH_take (i := 33) (oi := { dst := some 5, op := Op.assign (Operand.tmp 52), type := 9, pos := "keep.go:430", after := #[{ on := 32, ground := Ground.data }, { on := 0, ground := Ground.phase }, { on := 1, ground := Ground.phase }, { on := 2, ground := Ground.phase }, { on := 3, ground := Ground.phase }, { on := 4, ground := Ground.phase }, { on := 5, ground := Ground.phase }, { on := 6, ground := Ground.phase }, { on := 7, ground := Ground.phase }, { on := 8, ground := Ground.phase }, { on := 9, ground := Ground.phase }, { on := 10, ground := Ground.phase }, { on := 11, ground := Ground.phase }, { on := 12, ground := Ground.phase }, { on := 13, ground := Ground.phase }, { on := 14, ground := Ground.phase }, { on := 15, ground := Ground.phase }, { on := 16, ground := Ground.phase }, { on := 17, ground := Ground.phase }, { on := 18, ground := Ground.phase }, { on := 19, ground := Ground.phase }, { on := 20, ground := Ground.phase }, { on := 21, ground := Ground.phase }, { on := 22, ground := Ground.phase }, { on := 23, ground := Ground.phase }, { on := 24, ground := Ground.phase }, { on := 25, ground := Ground.phase }, { on := 26, ground := Ground.phase }, { on := 27, ground := Ground.phase }, { on := 28, ground := Ground.phase }, { on := 29, ground := Ground.phase }, { on := 30, ground := Ground.phase }, { on := 31, ground := Ground.phase }, { on := 32, ground := Ground.phase }], guard := none }) (v := .string (S ++ (⟨#[byteI (xk.size : Int)]⟩ ++ xk ++ ⟨#[byteI (xi.size : Int)]⟩ ++ xi))) rfl (by kernel_rfl) (by kernel_rfl) (by kernel_rfl) (fun _ _ _ h => h) (Or.inl ⟨by rfl, fun wx _ => by go_simp⟩) g2 ?_
        simp only [Act.put, List.setIfInBounds_toArray, List.set_cons_zero, List.set_cons_succ]
        refine wpAnyH_done (by kernel_rfl) ?_ _
        have HB2 : Hid (Below wr.heap.size wr W2) := hb1.trans (hb2.mono hb1.size)
        clear g1 g2 n1 n2 kk hb1 hb2 hW1 hW2
        go_wp2_with fail
        go_roundw
        case rel => exact ⟨k + 1, by omega, by go_num, by rw [HS.out], row_only HR.out (below_only HB2.out (fun _ => False)) (fun _ e => e.elim), HB.out.trans (HB2.out.mono HB.out.size)⟩
        case measure => simp [intOf]; omega
    · have h1 : ¬ (k : Int) < (n : Int) := by omega
      obtain rfl : n = k := by omega
      have e : T.all.take n = T.all := List.take_of_length_le (by rw [HN.out]; exact Nat.le_refl _)
      rw [e]
      go_wp2
      go_ret
      exact ⟨rfl, HB.out⟩
end
end Go.Proofs.Ytjcddeoihjppaaa
namespace Go.Proofs.Ytjcddeoihjppaaa
open Go.RowKit Go.Maps

section
variable {V V' V'' : Pst} {r : Nat} {T T' T'' : Tr}
theorem TrAt.used_pg (h : TrAt V r T) : ∀ k ∈ T.pgL, V.used k = true ∧ 0 < k ∧ k < 2000 := fun k hk => by
  unfold Tr.pgL at hk
  rcases List.mem_append.1 hk with hk | hk
  · by_cases h0 : T.top = 0
    · rw [if_pos h0] at hk; simp at hk
    · rw [if_neg h0] at hk
      obtain rfl := List.mem_singleton.1 hk
      have := h.ltop h0
      exact ⟨this.2.1, by omega, this.1⟩
  · have := h.low k hk
    exact ⟨this.2.2, this.1, this.2.1⟩
theorem TrAt.pg_nodup (h : TrAt V r T) : T.pgL.Nodup := by
  unfold Tr.pgL
  by_cases h0 : T.top = 0
  · rw [if_pos h0]; exact h.nodup
  · rw [if_neg h0, List.singleton_append, List.nodup_cons]
    exact ⟨(h.ltop h0).2.2.2, h.nodup⟩
theorem TrAt.pg_len (h : TrAt V r T) : T.pgL.length = T.pages := by
  unfold Tr.pgL Tr.pages
  rw [List.length_append, h.len]
  by_cases h0 : T.top = 0
  · rw [if_pos h0, if_pos (h.top0.1 h0)]; simp
  · rw [if_neg h0, if_neg (fun e => h0 (h.top0.2 e))]
    show 1 + _ = _
    omega
theorem TrAt.pages_le (h : TrAt V r T) : T.pages ≤ 60 := by
  have := h.ok.len
  unfold Tr.pages
  split <;> omega
/-- what does not touch a tree's pages leaves it as it is -/
theorem TrAt.keep (h : TrAt V r T) (hu : ∀ k ∈ T.pgL, V'.used k = true ∧ V'.tx k = V.tx k) (hrp : V'.rp r = V.rp r) (hrn : V'.rn r = V.rn r) : TrAt V' r T := by
  have hk : ∀ k ∈ T.ks, k ∈ T.pgL := fun k hk => List.mem_append.2 (.inr hk)
  refine ⟨h.len, h.ok, by rw [hrn]; exact h.rn, by rw [hrp]; exact h.rp, h.top0, fun h0 => ?_, fun k hkk => ?_, fun i hi hl => ?_, h.nodup⟩
  · have hm : T.top ∈ T.pgL := List.mem_append.2 (.inl (by rw [if_neg h0]; simp))
    obtain ⟨h1, h2, h3, h4⟩ := h.ltop h0
    exact ⟨h1, (hu _ hm).1, by rw [(hu _ hm).2]; exact h3, h4⟩
  · have := h.low k hkk
    exact ⟨this.1, this.2.1, (hu k (hk k hkk)).1⟩
  · rw [(hu _ (hk _ (List.getElem_mem hi))).2]
    exact h.page i hi hl
theorem LayR.refl (h : TrAt V r T) : LayR V V r T T := by
  refine ⟨h, fun k => ?_, fun k hk => .inl hk, fun _ _ _ => rfl, fun _ _ => rfl, fun _ _ => rfl⟩
  by_cases e : k ∈ T.pgL
  · simp [e, (h.used_pg k e).1]
  · simp [e]
theorem LayR.trans (h : LayR V V' r T T') (k : LayR V' V'' r T' T'') : LayR V V'' r T T'' := by
  have hn : ∀ i, V.used i = true → i ∉ T.pgL → i ∉ T'.pgL := fun i hu hi e => by
    rcases h.new i e with h1 | h1
    · exact hi h1
    · rw [hu] at h1; cases h1
  refine ⟨k.at_, fun i => ?_, fun i hi => ?_, fun i hu hi => ?_, fun i hi => (k.rp i hi).trans (h.rp i hi), fun i hi => (k.rn i hi).trans (h.rn i hi)⟩
  · rw [k.used i, h.used i]
    constructor
    · rintro (⟨h1 | h1, h2⟩ | h1)
      · exact .inl h1
      · exact absurd h1 h2
      · exact .inr h1
    · rintro (h1 | h1)
      · exact .inl ⟨.inl h1, hn i h1.1 h1.2⟩
      · exact .inr h1
  · rcases k.new i hi with h1 | h1
    · exact h.new i h1
    · by_cases e : i ∈ T.pgL
      · exact .inl e
      · refine .inr ?_
        cases hq : V.used i
        · rfl
        · have := (h.used i).2 (.inl ⟨hq, e⟩)
          rw [h1] at this; cases this
  · have h1 := hn i hu hi
    rw [k.tx i ((h.used i).2 (.inl ⟨hu, hi⟩)) h1, h.tx i hu hi]
/-- how many pages are in use at most -/
theorem countU_union {f g : Nat → Bool} {n : Nat} : ∀ (L : List Nat), (∀ k, f k = true → g k = true ∨ k ∈ L) → countU f n ≤ countU g n + L.length := by
  intro L
  induction L generalizing g with
  | nil =>
    intro h
    have : ∀ n, countU f n ≤ countU g n := by
      intro n
      induction n with
      | zero => exact Nat.le_refl _
      | succ n ih =>
        rw [countU, countU]
        cases e : f n
        · simp only [Bool.false_eq_true, if_false]; omega
        · rcases h n e with h1 | h1
          · rw [h1]; omega
          · simp at h1
    exact this n
  | cons x L ih =>
    intro h
    have h1 := ih (g := fun i => if i = x then true else g i) (fun k hk => by
      show (if k = x then true else g k) = true ∨ _
      by_cases e : k = x
      · rw [if_pos e]; exact .inl rfl
      · rw [if_neg e]
        rcases h k hk with h2 | h2
        · exact .inl h2
        · rcases List.mem_cons.1 h2 with h3 | h3
          · exact absurd h3 e
          · exact .inr h3)
    have h2 := countU_put g x n
    rw [List.length_cons]
    omega
theorem LayR.count (h : LayR V V' r T T') : countU V'.used 2000 ≤ countU V.used 2000 + 60 := by
  have h1 := countU_union (f := V'.used) (g := V.used) (n := 2000) T'.pgL (fun k hk => by
    rcases (h.used k).1 hk with h1 | h1
    · exact .inl h1.1
    · exact .inr h1)
  have h2 := h.at_.pg_len
  have h3 := h.at_.pages_le
  omega
end
/-- a pager's pages as the tree sees them -/
def Pg.pst (p : Pg) (pg : Nat → ByteArray) : Pst := ⟨p.used, p.text pg, p.rp, p.rn⟩
theorem Match.self (p : Pg) (pg : Nat → ByteArray) : Match p pg (p.pst pg) := ⟨rfl, fun _ _ _ => rfl, fun _ _ => rfl, fun _ _ => rfl⟩
def sd0 : St := ⟨fun _ => zeros, false, 0, 0⟩
theorem zeros_at (k : Nat) : zeros.data.toList.getD k 0 = 0 := by
  have h : zeros.data.toList = List.replicate 1024 0 := by
    unfold zeros
    simp
  rw [h, List.getD_eq_getElem?_getD, List.getElem?_replicate]
  split <;> rfl
theorem sd0_head : headOf sd0.pg = zeros := rfl
theorem sd0_used (c : Int) (d : Bool) (k : Nat) : (loaded sd0.pg c d).used k = false := by
  show usedOf (headOf sd0.pg) k = false
  rw [sd0_head]
  unfold usedOf bitOf
  rw [zeros_at]
  simp
theorem num_zeros (i : Nat) : numOf zeros i = 0 := by
  unfold numOf
  rw [zeros_at, zeros_at]
  rfl
/-- an empty tree -/
def Tr.none : Tr := ⟨0, [], []⟩
theorem empty_at {V : Pst} {r : Nat} (h1 : V.rp r = 0) (h2 : V.rn r = 0) : TrAt V r Tr.none :=
  ⟨rfl, ⟨by simp [Tr.none], by simp [Tr.none], by simp [Tr.none], fun i hi => absurd hi (by simp [Tr.none]), Nat.zero_le _, List.Pairwise.nil⟩, h2, h1, ⟨fun _ => by simp [Tr.none], fun _ => rfl⟩, fun h => absurd rfl h, by simp [Tr.none], fun i hi => absurd hi (by simp [Tr.none]), List.nodup_nil⟩
section
variable {bp bd bm N : Nat} {s : St} {up : Nat → Bool} {cm : Int} {V : Pst} {w : World}
/-- a new disk's pager -/
theorem open_new (w : World) : Calls Try.prog 7 #[.pointer (some ⟨w.heap.size, 0, none⟩)] (w.alloc (.cells Try.zeroCells32 32)) fun e w' => ∃ bp bm up V, e = .returned (.tuple #[.pointer (some ⟨bp, 0, none⟩), .nilIface]) ∧ w.heap.size < bp ∧ w.heap.size < bm ∧ bp ≠ bm ∧ Tw bp w.heap.size bm 0 sd0 up 1 V w' ∧ (∀ k, V.used k = false) ∧ (∀ i, i < 8 → TrAt V i Tr.none) ∧ Below w.heap.size w w' := by
  refine (open_any (disk_new w)).mono ?_
  rintro _ w1 ⟨bp, bm, rfl, h1, h2, h3, h4, h5⟩
  rw [World.size_alloc] at h1 h2
  refine ⟨bp, bm, _, (loaded sd0.pg 1 false).pst sd0.pg, rfl, h1, h2, fun e => h3.ne e.symm, ⟨⟨_, h3, loaded_ok _ _ _, rfl, rfl, rfl, Match.self _ _⟩, h4⟩, fun k => sd0_used 1 false k, fun i hi => empty_at ?_ ?_, ((Below.refl _ w).alloc (Nat.le_refl _) _).trans (h5.mono (by simp))⟩
  · exact num_zeros _
  · exact num_zeros _
end
end Go.Proofs.Ytjcddeoihjppaaa
namespace Go.Proofs.Ytjcddeoihjppaaa
open Go.RowKit Go.Maps

/-- a put, or a drop -/
structure Pu where
  q : Int
  k : ByteArray
  i : ByteArray
def RowQ (w : World) (a : Option Addr) (len : Nat) (xs : List Pu) : Prop :=
  len = xs.length ∧ len ≤ maxLen ∧ (xs = [] ∨ ∃ b off, a = some ⟨b, off, none⟩ ∧ b < w.heap.size ∧ ∀ i (h : i < xs.length),
    w.cell? ⟨b, off + i * 3, none⟩ = some (.int .i64 xs[i].q) ∧ w.cell? ⟨b, off + i * 3 + 1, none⟩ = some (.string xs[i].k) ∧ w.cell? ⟨b, off + i * 3 + 2, none⟩ = some (.string xs[i].i))
theorem index_three {t e : TypeId} (ht : Try.prog.underlying t = some (.slice e)) (he : Try.prog.elem t = e) (hs : (sizeOf e).run Try.prog = fun w => .ok 3 w) (g off n cap i : Nat) (hi : i < n) (wx : World) : (Instr.indexAt t (.slice (some ⟨g, off, none⟩) n cap) (.int .i64 (i : Nat))).run Try.prog wx = .ok (.pointer (some ⟨g, off + i * 3, none⟩)) wx := by
  subst he
  rw [run_indexAt_slice (h := ht), if_pos ⟨by omega, by omega⟩, hs]
  simp [Result.andThen, add_pl]
theorem size57 : (sizeOf 57).run Try.prog = fun w => .ok 3 w := by funext w; simp [Try.sizeOf57]
theorem elem48 : Try.prog.elem 48 = 57 := by kernel_rfl
/-- what a put or a drop comes to -/
def StepTo (bp bd bm N D r : Nat) (s : St) (up : Nat → Bool) (cm : Int) (V : Pst) (T : Tr) (w w' : World) : Prop :=
  ∃ V' N' T', LayR V V' r T T' ∧ Tw bp bd bm N' s up cm V' w' ∧ N' ≤ N + D ∧ Only (fun b => b = bp ∨ b = bm) w w'
section
variable {bt bp bd bm N D r : Nat} {s : St} {up : Nat → Bool} {cm : Int} {V : Pst} {w : World} {T : Tr}
theorem StepTo.same {w' : World} (h : Tw bp bd bm N s up cm V w) (hA : TrAt V r T) (hb : Below w.heap.size w w') : StepTo bp bd bm N D r s up cm V T w w' := ⟨V, N, T, LayR.refl hA, h.below hb, by omega, below_only hb _⟩
theorem ChgTo.step {A nw C : List Pr} {e : Ending} {w' : World} (hc : ChgTo bp bd bm N r s up cm V T A nw C w e w') (h : Tw bp bd bm N s up cm V w) (hA : TrAt V r T) : StepTo bp bd bm N 40 r s up cm V T w w' := by
  rcases hc with ⟨_, _, h3⟩ | ⟨_, _, V', N', T', _, h4, h5, h6, h7⟩
  · exact StepTo.same h hA h3
  · exact ⟨V', N', T', h4, h5, h6, h7⟩
theorem putx_any (hT : Tt bt bp r w) (h : Tw bp bd bm N s up cm V w) (hne : bt ≠ bp ∧ bt ≠ bm) (hA : TrAt V r T) (key item : ByteArray) (hcnt : countU V.used 2000 + 30 < 1999) (hN : N + 60 < 1000000) :
    Calls Try.prog 17 #[.pointer (some ⟨bt, 0, none⟩), .string key, .string item] w fun e w' => ∃ u, e = .returned u ∧ StepTo bp bd bm N 40 r s up cm V T w w' := by
  by_cases hx : 1 ≤ key.size ∧ key.size ≤ 60 ∧ item.size ≤ 100
  · refine (put_any hT h hne hA ⟨key, item⟩ hx hcnt hN).mono ?_
    rintro e w' ⟨A, mid, C, _, h2⟩
    obtain ⟨u, hu⟩ := h2.ret
    exact ⟨u, hu, h2.step h hA⟩
  · refine (put_bad key item hx _).mono ?_
    rintro e w' ⟨rfl, rfl⟩
    exact ⟨_, rfl, StepTo.same h hA (Below.refl _ _)⟩
theorem dropx_any (hT : Tt bt bp r w) (h : Tw bp bd bm N s up cm V w) (hne : bt ≠ bp ∧ bt ≠ bm) (hA : TrAt V r T) (key : ByteArray) (hcnt : countU V.used 2000 + 30 < 1999) (hN : N + 60 < 1000000) :
    Calls Try.prog 19 #[.pointer (some ⟨bt, 0, none⟩), .string key] w fun e w' => ∃ u, e = .returned u ∧ StepTo bp bd bm N 40 r s up cm V T w w' := by
  refine (drop_any hT h hne hA key hcnt hN).mono ?_
  rintro e w' (⟨_, rfl, h3⟩ | ⟨A, y, C, _, _, h2⟩)
  · exact ⟨_, rfl, StepTo.same h hA h3⟩
  · obtain ⟨u, hu⟩ := h2.ret
    exact ⟨u, hu, h2.step h hA⟩
set_option maxRecDepth 100000 in
set_option maxHeartbeats 1000000 in
theorem puts_any {w0 : World} (hT : Tt bt bp r w) (h : Tw bp bd bm N s up cm V w) (hne : bt ≠ bp ∧ bt ≠ bm) (hA : TrAt V r T) {ad : Option Addr} {len cap : Nat} {xs : List Pu} (hr : RowQ w0 ad len xs) (hl : len ≤ 100) (hb0 : Below w0.heap.size w0 w) (hp0 : w0.heap.size ≤ bp) (hm0 : w0.heap.size ≤ bm) (hcnt : countU V.used 2000 + 100 < 1999) (hN : N + 6000 < 1000000) :
    Calls Try.prog 25 #[.pointer (some ⟨bt, 0, none⟩), .slice ad len cap] w fun e w' => e = .returned (.tuple #[]) ∧ StepTo bp bd bm N (40 * len) r s up cm V T w w' := by
  have HT : Hid _ := hT
  have HW : Hid _ := h
  have HL : Hid (LayR V V r T T) := LayR.refl hA
  have HB : Hid (Below w0.heap.size w0 w) := hb0
  have HCN : Hid _ := hcnt
  obtain ⟨e0, _, hrow⟩ := hr
  have HRW : Hid _ := hrow
  have HE0 : Hid _ := e0
  clear hT h hA hb0 hcnt hrow e0
  go_enter Try.func25, Try.ntmps25
  go_wp2_with fail
  go_loopw [4] (fun i wr => ∃ (j N1 : Nat) (V1 : Pst) (T1 : Tr), j ≤ len ∧ i = .int .i64 (j : Nat) ∧ N1 ≤ N + 40 * j ∧ Hid (LayR V V1 r T T1) ∧ Hid (Tw bp bd bm N1 s up cm V1 wr) ∧ Hid (Tt bt bp r wr) ∧ Hid (Only (fun b => b = bp ∨ b = bm) w wr) ∧ Hid (Below w0.heap.size w0 wr)) (fun i _ => len + 1 - (intOf i).toNat)
  case atStart => exact ⟨0, N, V, T, Nat.zero_le _, rfl, by omega, HL, HW, HT, Only.refl _ _, HB⟩
  case round =>
    clear HL HW HT HB
    obtain ⟨j, N1, V1, T1, hj, rfl, hN1, HL, HW, HT, HO, HB⟩ := hrel
    by_cases hlt : j < len
    · have h1 : (j : Int) < (len : Int) := by omega
      have hjx : j < xs.length := by have := HE0.out; omega
      rcases HRW.out with hn | ⟨b, off, had, hbl, hc⟩
      · rw [hn] at hjx; simp at hjx
      subst had
      obtain ⟨c0, c1, c2⟩ := hc j hjx
      have q0 := (HB.out.cell (p := ⟨b, off + j * 3, none⟩) hbl).trans c0
      have q1 := (HB.out.cell (p := ⟨b, off + j * 3 + 1, none⟩) hbl).trans c1
      have q2 := (HB.out.cell (p := ⟨b, off + j * 3 + 2, none⟩) hbl).trans c2
      have hix := index_three Try.underlying48 elem48 size57 b off len cap j hlt
      have hc1 := HL.out.count
      have hcn := HCN.out
      clear c0 c1 c2 hc
      generalize xs[j].q = xq at *
      generalize xs[j].k = xk at *
      generalize xs[j].i = xi at *
      by_cases hq : xq = 0
      · subst hq
        have C0 : Hid (wr.drew.cell? ⟨b, off + j * 3 + 1, none⟩ = some (.string xk) ∧ wr.drew.cell? ⟨b, off + j * 3 + 2, none⟩ = some (.string xi)) := ⟨q1, q2⟩
        clear q1 q2
        go_wp2_with fail
        go_region_held3 (fun wx => wx.cell? ⟨b, off + j * 3 + 1, none⟩ = some (.string xk) ∧ wx.cell? ⟨b, off + j * 3 + 2, none⟩ = some (.string xi)) (first | exact C0.out | exact C1.out) (first | (go_at_call 17; refine (putx_any HT.out.drew HW.out.drew hne HL.out.at_ xk xi (by omega) (by omega)).mono ?_; rintro _ w2 ⟨u2, rfl, V2, N2, T2, g1, g2, g3, g4⟩; have HL2 : Hid (LayR V V2 r T T2) := HL.out.trans g1; have HW2 : Hid _ := g2; have HT2 : Hid (Tt bt bp r w2) := HT.out.drew.only g4 (fun e => by rcases e with e | e; exact hne.1 e; exact hne.2 e); have HO2 : Hid (Only (fun b => b = bp ∨ b = bm) w w2) := HO.out.drew.trans g4 (fun i hi => .inl hi); have HB2 : Hid (Below w0.heap.size w0 w2) := Only.below HB.out.drew g4 HB.out.size (fun i hi => by rcases hi with hi | hi <;> omega); have C1 : Hid (w2.cell? ⟨b, off + j * 3 + 1, none⟩ = some (.string xk) ∧ w2.cell? ⟨b, off + j * 3 + 2, none⟩ = some (.string xi)) := ⟨(g4.cell (World.block_lt_of_cell? _ _ C0.out.1) (fun e => by rcases e with e | e; (have e' : b = bp := e; omega); (have e' : b = bm := e; omega)) _).trans C0.out.1, (g4.cell (World.block_lt_of_cell? _ _ C0.out.2) (fun e => by rcases e with e | e; (have e' : b = bp := e; omega); (have e' : b = bm := e; omega)) _).trans C0.out.2⟩; clear g1 g2 g4))
        go_wp2_with fail
        go_roundw
        case rel => exact ⟨j + 1, N2, V2, T2, by omega, by go_num, by omega, HL2, HW2, HT2, HO2, HB2⟩
        case measure => simp [intOf]; omega
      · have hqb : (xq == 0) = false := by simpa using hq
        go_wp2_with fail
        refine (dropx_any HT.out HW.out hne HL.out.at_ xk (by omega) (by omega)).mono ?_
        rintro _ w2 ⟨u2, rfl, V2, N2, T2, g1, g2, g3, g4⟩
        have HL2 : Hid (LayR V V2 r T T2) := HL.out.trans g1
        have HW2 : Hid _ := g2
        have HT2 : Hid (Tt bt bp r w2) := HT.out.only g4 (fun e => by rcases e with e | e; exact hne.1 e; exact hne.2 e)
        have HO2 : Hid (Only (fun b => b = bp ∨ b = bm) w w2) := HO.out.trans g4 (fun i hi => .inl hi)
        have HB2 : Hid (Below w0.heap.size w0 w2) := Only.below HB.out g4 HB.out.size (fun i hi => by rcases hi with hi | hi <;> omega)
        clear g1 g2 g4 q0 q1 q2
        go_wp2_with fail
        go_roundw
        case rel => exact ⟨j + 1, N2, V2, T2, by omega, by go_num, by omega, HL2, HW2, HT2, HO2, HB2⟩
        case measure => simp [intOf]; omega
    · have h1 : ¬ (j : Int) < (len : Int) := by omega
      obtain rfl : len = j := by omega
      go_wp2
      go_end0
      exact ⟨rfl, V1, N1, T1, HL.out, HW.out, hN1, HO.out⟩
end
end Go.Proofs.Ytjcddeoihjppaaa
