/- Part 26 of 30. -/
import Derived.Test.YtmabfbffpedfnaaGreatDoorK25
namespace Go.Proofs.YtmabfbffpedfnaaGreatDoor
open Go.RowKit

theorem s38 : (Tryz.prog.info? 38).map (·.size) = some 5 := by kernel_rfl
theorem load38 {b : Nat} {x0 x1 x2 x3 x4 : Value} {w : World} (h : Blk b #[x0, x1, x2, x3, x4] 38 w) : (loadVar 38 ⟨b, 0, none⟩).run Tryz.prog w = .ok (.agg #[x0, x1, x2, x3, x4]) w := by
  have := run_loadVar_mid (P := Tryz.prog) w b 0 38 [x0, x1, x2, x3, x4] _ h.range Tryz.underlying38 rfl s38
  simpa using this
def put38 (w : World) (b : Nat) (x0 x1 x2 x3 x4 : Value) : World := ((((w.setCell ⟨b, 0, none⟩ x0).setCell ⟨b, 1, none⟩ x1).setCell ⟨b, 2, none⟩ x2).setCell ⟨b, 3, none⟩ x3).setCell ⟨b, 4, none⟩ x4
theorem put38_blk {w : World} {b : Nat} {y0 y1 y2 y3 y4 : Value} (x0 x1 x2 x3 x4 : Value) (h : Blk b #[y0, y1, y2, y3, y4] 38 w) : Blk b #[x0, x1, x2, x3, x4] 38 (put38 w b x0 x1 x2 x3 x4) := by
  have := ((((h.set 0 x0).set 1 x1).set 2 x2).set 3 x3).set 4 x4
  unfold put38
  simpa using this
theorem put38_below {w w' : World} {n b : Nat} (x0 x1 x2 x3 x4 : Value) (h : Below n w w') (hb : n ≤ b) : Below n w (put38 w' b x0 x1 x2 x3 x4) := ((((h.setCell hb _).setCell hb _).setCell hb _).setCell hb _).setCell hb _
theorem Blk.pc {b : Nat} {x0 x1 x2 x3 x4 : Value} {w : World} (h : Blk b #[x0, x1, x2, x3, x4] 38 w) : w.cell? ⟨b, 0, none⟩ = some x0 ∧ w.cell? ⟨b, 1, none⟩ = some x1 ∧ w.cell? ⟨b, 2, none⟩ = some x2 ∧ w.cell? ⟨b, 3, none⟩ = some x3 ∧ w.cell? ⟨b, 4, none⟩ = some x4 ∧ ∀ i, w.frozen? ⟨b, i, none⟩ = false :=
  ⟨by rw [h.cell 0]; rfl, by rw [h.cell 1]; rfl, by rw [h.cell 2]; rfl, by rw [h.cell 3]; rfl, by rw [h.cell 4]; rfl, fun i => h.free i⟩
/-- a pointer to a value, or none -/
def PtV (w : World) (q : Option Addr) : Option Vl → Prop
  | none => q = none
  | some v => ∃ b, q = some ⟨b, 0, none⟩ ∧ Blk b v.cells 23 w
theorem PtV.below {w w' : World} {q : Option Addr} {o : Option Vl} (h : PtV w q o) (hb : Below w.heap.size w w') : PtV w' q o := by
  cases o with
  | none => exact h
  | some v => obtain ⟨b, h1, h2⟩ := h; exact ⟨b, h1, h2.below hb⟩
theorem PtV.set {w : World} {q : Option Addr} {o : Option Vl} {b i : Nat} {cs : Array Value} {T : Nat} (h : PtV w q o) (hk : Blk b cs T w) (hT : T ≠ 23) (u : Value) : PtV (w.setCell ⟨b, i, none⟩ u) q o := by
  cases o with
  | none => exact h
  | some v =>
    obtain ⟨g, h1, h2⟩ := h
    have hne : g ≠ b := fun e => by
      subst e
      have := h2.symm.trans hk
      injection this with this
      injection this with _ this
      exact hT this.symm
    exact ⟨g, h1, h2.other hne.symm i u⟩
/-- a plan in memory -/
def PlnV (p : Pln) (v : Value) (w : World) : Prop := ∃ ql qh, v = .agg #[.int .i64 p.kd, .string p.cl, .pointer ql, .pointer qh, .string p.tx] ∧ PtV w ql p.lo ∧ PtV w qh p.hi
theorem PlnV.below {p : Pln} {v : Value} {w w' : World} (h : PlnV p v w) (hb : Below w.heap.size w w') : PlnV p v w' := by
  obtain ⟨ql, qh, h1, h2, h3⟩ := h
  exact ⟨ql, qh, h1, h2.below hb, h3.below hb⟩
theorem akc_at : ∀ (L : List Ak) (j : Nat) (hj : j < L.length) (i : Nat), i < 5 → (akc L)[j * 5 + i]? = (L[j].cells)[i]?
  | [], j, hj, _, _ => by simp at hj
  | a :: L, 0, _, i, hi => by
    show (a.cells ++ akc L)[0 * 5 + i]? = _
    rw [Nat.zero_mul, Nat.zero_add, List.getElem?_append_left (by show i < 5; exact hi)]
    rfl
  | a :: L, j + 1, hj, i, hi => by
    show (a.cells ++ akc L)[(j + 1) * 5 + i]? = _
    rw [List.getElem?_append_right (by show 5 ≤ _; omega)]
    have e : (j + 1) * 5 + i - a.cells.length = j * 5 + i := by show (j + 1) * 5 + i - 5 = _; omega
    rw [e]
    exact akc_at L j (by simpa using hj) i hi
/-- a row of what is asked -/
def AkRow (w : World) (v : Value) (L : List Ak) : Prop := ∃ a c, v = .slice a L.length c ∧ (L = [] ∨ ∃ b, a = some ⟨b, 0, none⟩ ∧ b < w.heap.size ∧ ∀ j (h : j < L.length), w.cell? ⟨b, j * 5, none⟩ = some (.int .i64 L[j].cd) ∧ w.cell? ⟨b, j * 5 + 1, none⟩ = some (.string L[j].cl) ∧ w.cell? ⟨b, j * 5 + 2, none⟩ = some (.int .i64 L[j].vl.k) ∧ w.cell? ⟨b, j * 5 + 3, none⟩ = some (.int .i64 L[j].vl.n) ∧ w.cell? ⟨b, j * 5 + 4, none⟩ = some (.string L[j].vl.t))
theorem AkRow.below {w w' : World} {v : Value} {L : List Ak} (h : AkRow w v L) (hb : Below w.heap.size w w') : AkRow w' v L := by
  obtain ⟨a, c, h1, h2⟩ := h
  refine ⟨a, c, h1, ?_⟩
  rcases h2 with h2 | ⟨b, h3, h4, h5⟩
  · exact Or.inl h2
  · have e1 : ∀ o, w'.cell? ⟨b, o, none⟩ = w.cell? ⟨b, o, none⟩ := fun o => hb.cell (p := ⟨b, o, none⟩) h4
    exact Or.inr ⟨b, h3, Nat.lt_of_lt_of_le h4 hb.size, fun j hj => by simp only [e1]; exact h5 j hj⟩
theorem AkRow.of {w : World} {B : Nat} {v : Value} {L : List Ak} (h : w.ownsRow B 71 5 v L.length (akc L)) : AkRow w v L := by
  obtain ⟨a, c, rfl⟩ := own_slice h
  refine ⟨a, c, rfl, ?_⟩
  by_cases hn : L.length = 0
  · exact Or.inl (List.length_eq_zero_iff.1 hn)
  · obtain ⟨g, cap, e1, _, hgs⟩ := h.form (by omega)
    obtain rfl : a = some ⟨g, 0, none⟩ := by injection e1
    have key : ∀ j (hj : j < L.length) i, i < 5 → w.cell? ⟨g, j * 5 + i, none⟩ = (L[j].cells)[i]? := fun j hj i hi => by
      rw [h.cellAt (j * 5 + i) (by omega)]
      exact akc_at L j hj i hi
    exact Or.inr ⟨g, rfl, hgs, fun j hj => ⟨key j hj 0 (by decide), key j hj 1 (by decide), key j hj 2 (by decide), key j hj 3 (by decide), key j hj 4 (by decide)⟩⟩
/-- what was asked so far: the plan stands in block bp -/
structure BetW (br bp : Nat) (cl : ByteArray) (L : List Ak) (v : Value) (w0 : World) (s : Option Vl × Option Vl) (wr : World) : Prop where
  kr : Blk br #[.int .i64 0, .string ⟨#[]⟩, .pointer none, .pointer none, .string ⟨#[]⟩] 38 wr
  pl : ∃ ql qh, Blk bp #[.int .i64 1, .string cl, .pointer ql, .pointer qh, .string ⟨#[]⟩] 38 wr ∧ PtV wr ql s.1 ∧ PtV wr qh s.2
  ro : AkRow wr v L
  be : Below w0.heap.size w0 wr
theorem BetW.below {br bp : Nat} {cl : ByteArray} {L : List Ak} {v : Value} {w0 : World} {s : Option Vl × Option Vl} {wr w' : World} (h : BetW br bp cl L v w0 s wr) (hb : Below wr.heap.size wr w') : BetW br bp cl L v w0 s w' := by
  obtain ⟨ql, qh, h1, h2, h3⟩ := h.pl
  exact ⟨h.kr.below hb, ⟨ql, qh, h1.below hb, h2.below hb, h3.below hb⟩, h.ro.below hb, h.be.trans (hb.mono h.be.size)⟩
theorem BetW.put {br bp : Nat} {cl : ByteArray} {L : List Ak} {v : Value} {w0 : World} {s : Option Vl × Option Vl} {wr : World} (h : BetW br bp cl L v w0 s wr) (hr : AkRow w0 v L) (h1 : w0.heap.size ≤ bp) (h2 : br ≠ bp) {b : Nat} {x : Vl} (hk : Blk b x.cells 23 wr) : BetW br bp cl L v w0 (some x, s.2) (wr.setCell ⟨bp, 2, none⟩ (.pointer (some ⟨b, 0, none⟩))) ∧ BetW br bp cl L v w0 (s.1, some x) (wr.setCell ⟨bp, 3, none⟩ (.pointer (some ⟨b, 0, none⟩))) := by
  obtain ⟨ql, qh, k1, k2, k3⟩ := h.pl
  have hT : 38 ≠ 23 := by decide
  have hx : PtV wr (some ⟨b, 0, none⟩) (some x) := ⟨b, rfl, hk⟩
  refine ⟨⟨h.kr.other h2.symm _ _, ⟨some ⟨b, 0, none⟩, qh, ?_, hx.set k1 hT _, k3.set k1 hT _⟩, ?_, h.be.setCell h1 _⟩, ⟨h.kr.other h2.symm _ _, ⟨ql, some ⟨b, 0, none⟩, ?_, k2.set k1 hT _, hx.set k1 hT _⟩, ?_, h.be.setCell h1 _⟩⟩
  · have := k1.set 2 (.pointer (some ⟨b, 0, none⟩)); simpa using this
  · exact hr.below (h.be.setCell h1 _)
  · have := k1.set 3 (.pointer (some ⟨b, 0, none⟩)); simpa using this
  · exact hr.below (h.be.setCell h1 _)
def takeS (cl : ByteArray) (L : List Ak) (k : Nat) : Option Vl × Option Vl := (L.take k).foldl (betStep cl) (none, none)
theorem takeS_succ (cl : ByteArray) (L : List Ak) (k : Nat) (h : k < L.length) : takeS cl L (k + 1) = betStep cl (takeS cl L k) L[k] := by
  unfold takeS
  rw [List.take_succ_eq_append_getElem h, List.foldl_append]
  rfl
def put71 (w : World) (b : Nat) (x : Ak) : World := ((((w.setCell ⟨b, 0, none⟩ (.int .i64 x.cd)).setCell ⟨b, 1, none⟩ (.string x.cl)).setCell ⟨b, 2, none⟩ (.int .i64 x.vl.k)).setCell ⟨b, 3, none⟩ (.int .i64 x.vl.n)).setCell ⟨b, 4, none⟩ (.string x.vl.t)
theorem put71_blk {w : World} {b : Nat} {y0 y1 y2 y3 y4 : Value} (x : Ak) (h : Blk b #[y0, y1, y2, y3, y4] 71 w) : Blk b #[.int .i64 x.cd, .string x.cl, .int .i64 x.vl.k, .int .i64 x.vl.n, .string x.vl.t] 71 (put71 w b x) := by
  have := ((((h.set 0 (.int .i64 x.cd)).set 1 (.string x.cl)).set 2 (.int .i64 x.vl.k)).set 3 (.int .i64 x.vl.n)).set 4 (.string x.vl.t)
  unfold put71
  simpa using this
theorem put71_below {w w' : World} {n b : Nat} (x : Ak) (h : Below n w w') (hb : n ≤ b) : Below n w (put71 w' b x) := ((((h.setCell hb _).setCell hb _).setCell hb _).setCell hb _).setCell hb _
theorem Blk.ac {b : Nat} {x0 x1 x2 x3 x4 : Value} {w : World} (h : Blk b #[x0, x1, x2, x3, x4] 71 w) : w.cell? ⟨b, 0, none⟩ = some x0 ∧ w.cell? ⟨b, 1, none⟩ = some x1 ∧ w.cell? ⟨b, 2, none⟩ = some x2 ∧ w.cell? ⟨b, 3, none⟩ = some x3 ∧ w.cell? ⟨b, 4, none⟩ = some x4 ∧ ∀ i, w.frozen? ⟨b, i, none⟩ = false :=
  ⟨by rw [h.cell 0]; rfl, by rw [h.cell 1]; rfl, by rw [h.cell 2]; rfl, by rw [h.cell 3]; rfl, by rw [h.cell 4]; rfl, fun i => h.free i⟩
theorem ptv_put {w : World} {q : Option Addr} {o : Option Vl} {b : Nat} {y0 y1 y2 y3 y4 : Value} (h : PtV w q o) (hk : Blk b #[y0, y1, y2, y3, y4] 38 w) (x0 x1 x2 x3 x4 : Value) : PtV (put38 w b x0 x1 x2 x3 x4) q o := by
  have hT : 38 ≠ 23 := by decide
  have k1 := hk.set 0 x0
  have k2 := k1.set 1 x1
  have k3 := k2.set 2 x2
  have k4 := k3.set 3 x3
  exact ((((h.set hk hT x0).set k1 hT x1).set k2 hT x2).set k3 hT x3).set k4 hT x4
theorem betw_nil (c : Nat) (a : Option Addr) (w : World) : Calls Tryz.prog 25 #[.slice a 0 c] w fun e w' => ∃ v, e = .returned v ∧ PlnV planZ v w' ∧ Below w.heap.size w w' := by
  obtain ⟨W, hW⟩ : ∃ W, w.alloc (.cells #[.int .i64 0, .string ⟨#[]⟩, .pointer none, .pointer none, .string ⟨#[]⟩] 38) = W := ⟨_, rfl⟩
  have hk : Blk w.heap.size #[.int .i64 0, .string ⟨#[]⟩, .pointer none, .pointer none, .string ⟨#[]⟩] 38 W := by rw [← hW]; exact Blk.new _ _ _
  have H : Hid (Blk w.heap.size #[.int .i64 0, .string ⟨#[]⟩, .pointer none, .pointer none, .string ⟨#[]⟩] 38 W ∧ Below w.heap.size w W) := ⟨hk, by rw [← hW]; exact (Below.refl _ _).alloc (Nat.le_refl _) _⟩
  obtain ⟨z0, z1, z2, z3, z4, zf⟩ := hk.pc
  clear hk
  go_enter Tryz.func25, Tryz.ntmps25
  go_wp2
  refine bodyPost_ret (v := .agg #[.int .i64 0, .string ⟨#[]⟩, .pointer none, .pointer none, .string ⟨#[]⟩]) (results_c Tryz.results25 _ _ ⟨w.heap.size, 0, none⟩ rfl (load38 (put38_blk (.int .i64 0) (.string ⟨#[]⟩) (.pointer none) (.pointer none) (.string ⟨#[]⟩) H.out.1))) rfl ?_
  exact ⟨_, rfl, ⟨none, none, rfl, rfl, rfl⟩, put38_below _ _ _ _ _ H.out.2 (Nat.le_refl _)⟩
end Go.Proofs.YtmabfbffpedfnaaGreatDoor
namespace Go.Proofs.YtmabfbffpedfnaaGreatDoor
open Go.RowKit

set_option maxRecDepth 100000 in
set_option maxHeartbeats 40000000 in
theorem betw_cons (x0 : Ak) (L0 : List Ak) (v : Value) (w0 : World) (hro : AkRow w0 v (x0 :: L0)) (hsm : ∀ k ∈ (x0 :: L0), k.Sm) (hlen : (x0 :: L0).length ≤ 1000) : Calls Tryz.prog 25 #[v] w0 fun e w' => ∃ v, e = .returned v ∧ PlnV (betF (x0 :: L0)) v w' ∧ Below w0.heap.size w0 w' := by
  obtain ⟨W, hW⟩ : ∃ W, w0.alloc (.cells #[.int .i64 0, .string ⟨#[]⟩, .pointer none, .pointer none, .string ⟨#[]⟩] 38) = W := ⟨_, rfl⟩
  have hk : Blk w0.heap.size #[.int .i64 0, .string ⟨#[]⟩, .pointer none, .pointer none, .string ⟨#[]⟩] 38 W := by rw [← hW]; exact Blk.new _ _ _
  have hbW : Below w0.heap.size w0 W := by rw [← hW]; exact (Below.refl _ _).alloc (Nat.le_refl _) _
  obtain ⟨a0, c0, rfl, hrow⟩ := hro
  have hro : AkRow w0 (.slice a0 (x0 :: L0).length c0) (x0 :: L0) := ⟨a0, c0, rfl, hrow⟩
  obtain ⟨b0, rfl⟩ : ∃ b0, a0 = some ⟨b0, 0, none⟩ := by
    rcases hrow with h | ⟨b0, h, _⟩
    · cases h
    · exact ⟨b0, h⟩
  have HC : Hid (∀ wx, AkRow wx (.slice (some ⟨b0, 0, none⟩) (x0 :: L0).length c0) (x0 :: L0) → ∀ j (h : j < (x0 :: L0).length), wx.cell? ⟨b0, j * 5, none⟩ = some (.int .i64 (x0 :: L0)[j].cd) ∧ wx.cell? ⟨b0, j * 5 + 1, none⟩ = some (.string (x0 :: L0)[j].cl) ∧ wx.cell? ⟨b0, j * 5 + 2, none⟩ = some (.int .i64 (x0 :: L0)[j].vl.k) ∧ wx.cell? ⟨b0, j * 5 + 3, none⟩ = some (.int .i64 (x0 :: L0)[j].vl.n) ∧ wx.cell? ⟨b0, j * 5 + 4, none⟩ = some (.string (x0 :: L0)[j].vl.t)) := fun wx h j hj => by
    obtain ⟨a1, c1, e1, h1⟩ := h
    rcases h1 with h1 | ⟨b1, h2, _, h3⟩
    · cases h1
    · injection e1 with e1 _ _
      rw [h2] at e1
      injection e1 with e1
      injection e1 with e1
      subst e1
      exact h3 j hj
  have HR : Hid (AkRow w0 (.slice (some ⟨b0, 0, none⟩) (x0 :: L0).length c0) (x0 :: L0) ∧ (∀ k ∈ (x0 :: L0), k.Sm) ∧ AkRow W (.slice (some ⟨b0, 0, none⟩) (x0 :: L0).length c0) (x0 :: L0) ∧ Blk w0.heap.size #[.int .i64 0, .string ⟨#[]⟩, .pointer none, .pointer none, .string ⟨#[]⟩] 38 W ∧ Below w0.heap.size w0 W) := ⟨hro, hsm, hro.below hbW, hk, hbW⟩
  obtain ⟨f0, f1, f2, f3, f4⟩ := HC.out W HR.out.2.2.1 0 (by simp)
  rw [Nat.zero_mul] at f0 f1 f2 f3 f4
  have HS0 : Hid (x0.Sm) := hsm x0 List.mem_cons_self
  have hzW : W.heap.size = w0.heap.size + 1 := by rw [← hW]; simp only [World.size_alloc]
  obtain ⟨L, hL⟩ : ∃ L, x0 :: L0 = L := ⟨_, rfl⟩
  have HL : Hid (x0 :: L0 = L) := hL
  have hpos : 0 < L.length := by rw [← hL]; simp
  replace f0 : W.cell? ⟨b0, 0, none⟩ = some (.int .i64 x0.cd) := f0
  replace f1 : W.cell? ⟨b0, 1, none⟩ = some (.string x0.cl) := f1
  replace f2 : W.cell? ⟨b0, 2, none⟩ = some (.int .i64 x0.vl.k) := f2
  replace f3 : W.cell? ⟨b0, 3, none⟩ = some (.int .i64 x0.vl.n) := f3
  replace f4 : W.cell? ⟨b0, 4, none⟩ = some (.string x0.vl.t) := f4
  rw [hL] at HC HR hlen ⊢
  have hl0 : ((L.length : Int) == 0) = false := beq_f (by omega)
  clear hk hbW hrow hro hsm hL
  go_enter Tryz.func25, Tryz.ntmps25
  go_wp2_with fail
  refine (aname_any x0 HS0.out W).mono ?_
  rintro _ w1 ⟨rfl, hb⟩
  obtain ⟨U, hU⟩ : ∃ U, w1.alloc (.cells #[.int .i64 0, .string ⟨#[]⟩, .pointer none, .pointer none, .string ⟨#[]⟩] 38) = U := ⟨_, rfl⟩
  have hkU : Blk w1.heap.size #[.int .i64 0, .string ⟨#[]⟩, .pointer none, .pointer none, .string ⟨#[]⟩] 38 U := by rw [← hU]; exact Blk.new _ _ _
  have hbU : Below w1.heap.size w1 U := by rw [← hU]; exact (Below.refl _ _).alloc (Nat.le_refl _) _
  obtain ⟨bp, hbp⟩ : ∃ b, w1.heap.size = b := ⟨_, rfl⟩
  have hsz1 := hb.size
  have HQ : Hid (w0.heap.size ≤ bp ∧ w0.heap.size ≠ bp) := ⟨by omega, by omega⟩
  have hb1 : Below w0.heap.size w0 U := (HR.out.2.2.2.2.trans (hb.mono HR.out.2.2.2.2.size)).trans (hbU.mono (by omega))
  have H0 : Hid (BetW w0.heap.size bp x0.cl L (.slice (some ⟨b0, 0, none⟩) L.length c0) w0 (none, none) (put38 U bp (.int .i64 1) (.string x0.cl) (.pointer none) (.pointer none) (.string ⟨#[]⟩))) := by
    have hkr := (HR.out.2.2.2.1.below hb).below hbU
    rw [hbp] at hkU
    have hb2 : Below bp U (put38 U bp (.int .i64 1) (.string x0.cl) (.pointer none) (.pointer none) (.string ⟨#[]⟩)) := put38_below _ _ _ _ _ (Below.refl _ _) (Nat.le_refl _)
    refine ⟨?_, ⟨none, none, put38_blk _ _ _ _ _ hkU, rfl, rfl⟩, ?_, hb1.trans (hb2.mono HQ.out.1)⟩
    · show (put38 U bp _ _ _ _ _).heap[w0.heap.size]? = _
      rw [hb2.block w0.heap.size (by have := HQ.out; omega)]
      exact hkr
    · exact HR.out.1.below (hb1.trans (hb2.mono HQ.out.1))
  rw [hbp] at hkU
  obtain ⟨z0, z1, z2, z3, z4, zf⟩ := hkU.pc
  obtain ⟨W2, hW2⟩ : ∃ V, put38 U bp (.int .i64 1) (.string x0.cl) (.pointer none) (.pointer none) (.string ⟨#[]⟩) = V := ⟨_, rfl⟩
  rw [hW2] at H0
  unfold put38 at hW2
  clear f0 f1 f2 f3 f4
  clear hb hkU hbU hb1 hzW hsz1
  go_wp2
  go_loopw [17] (fun i wr => ∃ k : Nat, k ≤ L.length ∧ i = .int .i64 k ∧ Hid (BetW w0.heap.size bp x0.cl L (.slice (some ⟨b0, 0, none⟩) L.length c0) w0 (takeS x0.cl L k) wr)) (fun i _ => L.length - (intOf i).toNat)
  case atStart => exact ⟨0, Nat.zero_le _, rfl, H0⟩
  case round =>
    obtain ⟨k, hkL, rfl, G0⟩ := hrel
    by_cases hlt : k < L.length
    · have i1 : (k : Int) < (L.length : Int) := by omega
      obtain ⟨n0, n1, n2, n3, n4⟩ := HC.out wr G0.out.ro k hlt
      obtain ⟨s, hs⟩ : ∃ s, takeS x0.cl L k = s := ⟨_, rfl⟩
      obtain ⟨x, hx⟩ : ∃ x, L[k] = x := ⟨_, rfl⟩
      rw [hx] at n0 n1 n2 n3 n4
      have HX : Hid (x.Sm ∧ takeS x0.cl L (k + 1) = betStep x0.cl s x) := ⟨by rw [← hx]; exact HR.out.2.1 _ (List.getElem_mem hlt), by rw [takeS_succ _ _ _ hlt, hs, hx]⟩
      obtain ⟨Y, hY⟩ : ∃ Y, wr.alloc (.cells #[.int .i64 0, .string ⟨#[]⟩, .int .i64 0, .int .i64 0, .string ⟨#[]⟩] 71) = Y := ⟨_, rfl⟩
      have hbY : Below wr.heap.size wr Y := by rw [← hY]; exact (Below.refl _ _).alloc (Nat.le_refl _) _
      have hkY : Blk wr.heap.size #[.int .i64 0, .string ⟨#[]⟩, .int .i64 0, .int .i64 0, .string ⟨#[]⟩] 71 Y := by rw [← hY]; exact Blk.new _ _ _
      obtain ⟨bx, hbx⟩ : ∃ b, wr.heap.size = b := ⟨_, rfl⟩
      have G1 : Hid (BetW w0.heap.size bp x0.cl L (.slice (some ⟨b0, 0, none⟩) L.length c0) w0 s (put71 Y bx x) ∧ Blk bx #[.int .i64 x.cd, .string x.cl, .int .i64 x.vl.k, .int .i64 x.vl.n, .string x.vl.t] 71 (put71 Y bx x)) := by
        rw [hbx] at hkY hbY
        have hb2 : Below bx Y (put71 Y bx x) := put71_below x (Below.refl _ _) (Nat.le_refl _)
        refine ⟨?_, put71_blk x hkY⟩
        rw [← hs]
        exact G0.out.below (by rw [hbx]; exact hbY.trans hb2)
      rw [hbx] at hkY
      obtain ⟨y0, y1, y2, y3, y4, yf⟩ := hkY.ac
      obtain ⟨m0, m1, m2, m3, m4⟩ := HC.out Y (G0.out.below hbY).ro k hlt
      rw [hx] at m0 m1 m2 m3 m4
      obtain ⟨W3, hW3⟩ : ∃ V, put71 Y bx x = V := ⟨_, rfl⟩
      rw [hW3] at G1
      unfold put71 at hW3
      obtain ⟨g0, g1, g2, g3, g4, gf⟩ := G1.out.2.ac
      obtain ⟨ql, qh, kp, kl, kh⟩ := G1.out.1.pl
      obtain ⟨p0, p1, p2, p3, p4, pf⟩ := kp.pc
      have HKP : Hid (Blk bp #[.int .i64 1, .string x0.cl, .pointer ql, .pointer qh, .string ⟨#[]⟩] 38 W3) := kp
      clear hbY hkY G0 hs hx kp
      obtain ⟨q, hq⟩ : ∃ q, (x.cl.toList != x0.cl.toList) = q := ⟨_, rfl⟩
      have hq2 : (x.cl.toList == x0.cl.toList) = !q := by rw [← hq, bne, Bool.not_not]
      cases q
      rotate_left
      · have HN : Hid (betStep x0.cl s x = s) := by show _ = _; rw [betStep, if_pos hq]
        have hq3 : (x.cl.toList == x0.cl.toList) = false := hq2
        clear kl kh
        go_wp2
        go_roundw
        case rel => exact ⟨k + 1, by omega, by go_num, (by show BetW _ _ _ _ _ _ _ _; rw [HX.out.2, HN.out]; exact G1.out.1)⟩
        case measure => simp [intOf]; omega
      have hq3 : (x.cl.toList == x0.cl.toList) = true := hq2
      cases hh1 : s.1 with
      | some vl0 =>
        rw [hh1] at kl
        obtain ⟨bl, rfl, _⟩ := kl
        cases hh : s.2 with
        | some vh =>
          rw [hh] at kh
          obtain ⟨bh, rfl, _⟩ := kh
          have HN : Hid (betStep x0.cl s x = s) := by show _ = _; rw [betStep, if_neg (by rw [hq]; decide), if_neg (by rw [hh1]; intro h; cases h.1), if_neg (by rw [hh]; intro h; cases h.1)]
          go_wp2
          go_roundw
          case rel => exact ⟨k + 1, by omega, by go_num, (by show BetW _ _ _ _ _ _ _ _; rw [HX.out.2, HN.out]; exact G1.out.1)⟩
          case measure => simp [intOf]; omega
        | none =>
          rw [hh] at kh
          obtain rfl : qh = none := kh
          by_cases c11 : x.cd = 11
          · have e11 : (x.cd == 11) = true := by simp [c11]
            have HN : Hid (betStep x0.cl s x = (s.1, some x.vl)) := by show _ = _; rw [betStep, if_neg (by rw [hq]; decide), if_neg (by rw [hh1]; intro h; cases h.1), if_pos ⟨by rw [hh]; rfl, Or.inl c11⟩]
            clear c11
            go_wp2_with fail
            refine (abound_any x HX.out.1 W3).mono ?_
            rintro _ w5 ⟨b5, rfl, hk5, hb⟩
            have G5 : Hid (BetW w0.heap.size bp x0.cl L (.slice (some ⟨b0, 0, none⟩) L.length c0) w0 (s.1, some x.vl) (w5.setCell ⟨bp, 3, none⟩ (.pointer (some ⟨b5, 0, none⟩)))) := ((G1.out.1.below hb).put HR.out.1 HQ.out.1 HQ.out.2 hk5).2
            obtain ⟨t0, t1, t2, t3, t4, tf⟩ := (HKP.out.below hb).pc
            clear hb hk5
            go_wp2
            go_roundw
            case rel => exact ⟨k + 1, by omega, by go_num, (by show BetW _ _ _ _ _ _ _ _; rw [HX.out.2, HN.out]; exact G5.out)⟩
            case measure => simp [intOf]; omega
          have e11 : (x.cd == 11) = false := by simp [c11]
          by_cases c12 : x.cd = 12
          · have e12 : (x.cd == 12) = true := by simp [c12]
            have HN : Hid (betStep x0.cl s x = (s.1, some x.vl)) := by show _ = _; rw [betStep, if_neg (by rw [hq]; decide), if_neg (by rw [hh1]; intro h; cases h.1), if_pos ⟨by rw [hh]; rfl, Or.inr c12⟩]
            clear c12
            go_wp2_with fail
            refine (abound_any x HX.out.1 W3).mono ?_
            rintro _ w5 ⟨b5, rfl, hk5, hb⟩
            have G5 : Hid (BetW w0.heap.size bp x0.cl L (.slice (some ⟨b0, 0, none⟩) L.length c0) w0 (s.1, some x.vl) (w5.setCell ⟨bp, 3, none⟩ (.pointer (some ⟨b5, 0, none⟩)))) := ((G1.out.1.below hb).put HR.out.1 HQ.out.1 HQ.out.2 hk5).2
            obtain ⟨t0, t1, t2, t3, t4, tf⟩ := (HKP.out.below hb).pc
            clear hb hk5
            go_wp2
            go_roundw
            case rel => exact ⟨k + 1, by omega, by go_num, (by show BetW _ _ _ _ _ _ _ _; rw [HX.out.2, HN.out]; exact G5.out)⟩
            case measure => simp [intOf]; omega
          have e12 : (x.cd == 12) = false := by simp [c12]
          have HN : Hid (betStep x0.cl s x = s) := by show _ = _; rw [betStep, if_neg (by rw [hq]; decide), if_neg (by rw [hh1]; intro h; cases h.1), if_neg (by intro h; rcases h.2 with h | h; exact c11 h; exact c12 h)]
          go_wp2
          go_roundw
          case rel => exact ⟨k + 1, by omega, by go_num, (by show BetW _ _ _ _ _ _ _ _; rw [HX.out.2, HN.out]; exact G1.out.1)⟩
          case measure => simp [intOf]; omega
      | none =>
        rw [hh1] at kl
        obtain rfl : ql = none := kl
        by_cases c13 : x.cd = 13
        · have e13 : (x.cd == 13) = true := by simp [c13]
          clear kh
          have HN : Hid (betStep x0.cl s x = (some x.vl, s.2)) := by show _ = _; rw [betStep, if_neg (by rw [hq]; decide), if_pos ⟨by rw [hh1]; rfl, Or.inl c13⟩]
          clear c13
          go_wp2_with fail
          refine (abound_any x HX.out.1 W3).mono ?_
          rintro _ w5 ⟨b5, rfl, hk5, hb⟩
          have G5 : Hid (BetW w0.heap.size bp x0.cl L (.slice (some ⟨b0, 0, none⟩) L.length c0) w0 (some x.vl, s.2) (w5.setCell ⟨bp, 2, none⟩ (.pointer (some ⟨b5, 0, none⟩)))) := ((G1.out.1.below hb).put HR.out.1 HQ.out.1 HQ.out.2 hk5).1
          obtain ⟨t0, t1, t2, t3, t4, tf⟩ := (HKP.out.below hb).pc
          clear hb hk5
          go_wp2
          go_roundw
          case rel => exact ⟨k + 1, by omega, by go_num, (by show BetW _ _ _ _ _ _ _ _; rw [HX.out.2, HN.out]; exact G5.out)⟩
          case measure => simp [intOf]; omega
        have e13 : (x.cd == 13) = false := by simp [c13]
        by_cases c14 : x.cd = 14
        · have e14 : (x.cd == 14) = true := by simp [c14]
          clear kh
          have HN : Hid (betStep x0.cl s x = (some x.vl, s.2)) := by show _ = _; rw [betStep, if_neg (by rw [hq]; decide), if_pos ⟨by rw [hh1]; rfl, Or.inr c14⟩]
          clear c14
          go_wp2_with fail
          refine (abound_any x HX.out.1 W3).mono ?_
          rintro _ w5 ⟨b5, rfl, hk5, hb⟩
          have G5 : Hid (BetW w0.heap.size bp x0.cl L (.slice (some ⟨b0, 0, none⟩) L.length c0) w0 (some x.vl, s.2) (w5.setCell ⟨bp, 2, none⟩ (.pointer (some ⟨b5, 0, none⟩)))) := ((G1.out.1.below hb).put HR.out.1 HQ.out.1 HQ.out.2 hk5).1
          obtain ⟨t0, t1, t2, t3, t4, tf⟩ := (HKP.out.below hb).pc
          clear hb hk5
          go_wp2
          go_roundw
          case rel => exact ⟨k + 1, by omega, by go_num, (by show BetW _ _ _ _ _ _ _ _; rw [HX.out.2, HN.out]; exact G5.out)⟩
          case measure => simp [intOf]; omega
        have e14 : (x.cd == 14) = false := by simp [c14]
        cases hh : s.2 with
        | some vh =>
          rw [hh] at kh
          obtain ⟨bh, rfl, _⟩ := kh
          have HN : Hid (betStep x0.cl s x = s) := by show _ = _; rw [betStep, if_neg (by rw [hq]; decide), if_neg (by intro h; rcases h.2 with h | h; exact c13 h; exact c14 h), if_neg (by rw [hh]; intro h; cases h.1)]
          go_wp2
          go_roundw
          case rel => exact ⟨k + 1, by omega, by go_num, (by show BetW _ _ _ _ _ _ _ _; rw [HX.out.2, HN.out]; exact G1.out.1)⟩
          case measure => simp [intOf]; omega
        | none =>
          rw [hh] at kh
          obtain rfl : qh = none := kh
          by_cases c11 : x.cd = 11
          · have e11 : (x.cd == 11) = true := by simp [c11]
            have HN : Hid (betStep x0.cl s x = (s.1, some x.vl)) := by show _ = _; rw [betStep, if_neg (by rw [hq]; decide), if_neg (by intro h; rcases h.2 with h | h; exact c13 h; exact c14 h), if_pos ⟨by rw [hh]; rfl, Or.inl c11⟩]
            clear c11
            go_wp2_with fail
            refine (abound_any x HX.out.1 W3).mono ?_
            rintro _ w5 ⟨b5, rfl, hk5, hb⟩
            have G5 : Hid (BetW w0.heap.size bp x0.cl L (.slice (some ⟨b0, 0, none⟩) L.length c0) w0 (s.1, some x.vl) (w5.setCell ⟨bp, 3, none⟩ (.pointer (some ⟨b5, 0, none⟩)))) := ((G1.out.1.below hb).put HR.out.1 HQ.out.1 HQ.out.2 hk5).2
            obtain ⟨t0, t1, t2, t3, t4, tf⟩ := (HKP.out.below hb).pc
            clear hb hk5
            go_wp2
            go_roundw
            case rel => exact ⟨k + 1, by omega, by go_num, (by show BetW _ _ _ _ _ _ _ _; rw [HX.out.2, HN.out]; exact G5.out)⟩
            case measure => simp [intOf]; omega
          have e11 : (x.cd == 11) = false := by simp [c11]
          by_cases c12 : x.cd = 12
          · have e12 : (x.cd == 12) = true := by simp [c12]
            have HN : Hid (betStep x0.cl s x = (s.1, some x.vl)) := by show _ = _; rw [betStep, if_neg (by rw [hq]; decide), if_neg (by intro h; rcases h.2 with h | h; exact c13 h; exact c14 h), if_pos ⟨by rw [hh]; rfl, Or.inr c12⟩]
            clear c12
            go_wp2_with fail
            refine (abound_any x HX.out.1 W3).mono ?_
            rintro _ w5 ⟨b5, rfl, hk5, hb⟩
            have G5 : Hid (BetW w0.heap.size bp x0.cl L (.slice (some ⟨b0, 0, none⟩) L.length c0) w0 (s.1, some x.vl) (w5.setCell ⟨bp, 3, none⟩ (.pointer (some ⟨b5, 0, none⟩)))) := ((G1.out.1.below hb).put HR.out.1 HQ.out.1 HQ.out.2 hk5).2
            obtain ⟨t0, t1, t2, t3, t4, tf⟩ := (HKP.out.below hb).pc
            clear hb hk5
            go_wp2
            go_roundw
            case rel => exact ⟨k + 1, by omega, by go_num, (by show BetW _ _ _ _ _ _ _ _; rw [HX.out.2, HN.out]; exact G5.out)⟩
            case measure => simp [intOf]; omega
          have e12 : (x.cd == 12) = false := by simp [c12]
          have HN : Hid (betStep x0.cl s x = s) := by show _ = _; rw [betStep, if_neg (by rw [hq]; decide), if_neg (by intro h; rcases h.2 with h | h; exact c13 h; exact c14 h), if_neg (by intro h; rcases h.2 with h | h; exact c11 h; exact c12 h)]
          go_wp2
          go_roundw
          case rel => exact ⟨k + 1, by omega, by go_num, (by show BetW _ _ _ _ _ _ _ _; rw [HX.out.2, HN.out]; exact G1.out.1)⟩
          case measure => simp [intOf]; omega
    · obtain rfl : k = L.length := by omega
      obtain ⟨ql, qh, kp, kl, kh⟩ := G0.out.pl
      obtain ⟨p0, p1, p2, p3, p4, pf⟩ := kp.pc
      obtain ⟨r0, r1, r2, r3, r4, rf⟩ := G0.out.kr.pc
      have HF : Hid (betF L = ⟨1, x0.cl, (takeS x0.cl L L.length).1, (takeS x0.cl L L.length).2, ⟨#[]⟩⟩) := by
        show _ = _
        unfold takeS
        rw [List.take_length, ← HL.out]
        rfl
      have HP : Hid (PtV wr ql (takeS x0.cl L L.length).1 ∧ PtV wr qh (takeS x0.cl L L.length).2) := ⟨kl, kh⟩
      clear kp kl kh
      go_wp2
      refine bodyPost_ret (v := .agg #[.int .i64 1, .string x0.cl, .pointer ql, .pointer qh, .string ⟨#[]⟩]) (results_c Tryz.results25 _ _ ⟨w0.heap.size, 0, none⟩ rfl (load38 (put38_blk (.int .i64 1) (.string x0.cl) (.pointer ql) (.pointer qh) (.string ⟨#[]⟩) G0.out.kr))) rfl ?_
      refine ⟨_, rfl, ⟨ql, qh, by rw [HF.out], ?_, ?_⟩, put38_below _ _ _ _ _ G0.out.be (Nat.le_refl _)⟩
      · rw [HF.out]; exact ptv_put HP.out.1 G0.out.kr _ _ _ _ _
      · rw [HF.out]; exact ptv_put HP.out.2 G0.out.kr _ _ _ _ _
theorem betw_any (L : List Ak) (v : Value) (w0 : World) (hro : AkRow w0 v L) (hsm : ∀ k ∈ L, k.Sm) (hlen : L.length ≤ 1000) : Calls Tryz.prog 25 #[v] w0 fun e w' => ∃ v, e = .returned v ∧ PlnV (betF L) v w' ∧ Below w0.heap.size w0 w' := by
  cases L with
  | nil =>
    obtain ⟨a, c, rfl, _⟩ := hro
    exact betw_nil c a w0
  | cons x0 L0 => exact betw_cons x0 L0 v w0 hro hsm hlen
end Go.Proofs.YtmabfbffpedfnaaGreatDoor
