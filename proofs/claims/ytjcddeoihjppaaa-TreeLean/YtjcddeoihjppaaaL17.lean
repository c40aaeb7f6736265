/- Texts of the proof of TreeLean: Tgr, Tle, Tl0. -/
import Derived.Test.YtjcddeoihjppaaaL16
import Derived.Deep.LoopGhost
namespace Go.Proofs.Ytjcddeoihjppaaa
open Go.RowKit Go.Maps

/-- no pages but a tree's are in use -/
def Sole (V : Pst) (T : Tr) : Prop := ∀ k, V.used k = true ↔ k ∈ T.pgL
section
variable {V V' : Pst} {r : Nat} {T T' : Tr}
theorem Sole.lay (h : Sole V T) (hl : LayR V V' r T T') : Sole V' T' := fun k => by
  rw [hl.used k]
  constructor
  · rintro (⟨h1, h2⟩ | h1)
    · exact absurd ((h k).1 h1) h2
    · exact h1
  · exact fun h1 => .inr h1
theorem Sole.count (h : Sole V T) (hA : TrAt V r T) : countU V.used 2000 = T.pages := by
  rw [countU_list hA.pg_nodup (fun k hk => (hA.used_pg k hk).2.2) (fun k _ => h k), hA.pg_len]
theorem Sole.none (h : ∀ k, V.used k = false) : Sole V Tr.none := fun k => by
  rw [h k]
  simp [Tr.none, Tr.pgL]
theorem TrAt.none_of (h : TrAt V r T) (ha : T.all = []) : T.Ls = [] := by
  cases e : T.Ls with
  | nil => rfl
  | cons L R =>
    exfalso
    have hne := h.ok.ne L (by rw [e]; simp)
    unfold Tr.all at ha
    rw [e, List.flatten_cons] at ha
    exact hne (List.append_eq_nil_iff.1 ha).1
end
def bk : ByteArray := ⟨#[107]⟩
def bitem : ByteArray := ⟨#[105, 116, 101, 109]⟩
theorem kitem_ok : Pr.Ok ⟨bk, bitem⟩ := by unfold Pr.Ok; decide
set_option maxRecDepth 100000 in
set_option maxHeartbeats 1000000 in
theorem grown_any (w : World) : Calls Try.prog 14 #[] w fun e w' => e = .returned (.bool true) ∧ Below w.heap.size w w' := by
  have hz := Try.zeroValue32
  have HO : Hid _ := open_new w
  go_enter Try.func14, Try.ntmps14
  go_wp2_with fail
  refine (show Calls _ _ _ _ _ from HO.out).mono ?_
  rintro _ w1 ⟨bp, bm, up, V, rfl, h1, h2, h3, hW, hU, hE, hb⟩
  have HW : Hid _ := hW
  have HU : Hid _ := hU
  have HE : Hid (TrAt V 1 Tr.none) := hE 1 (by omega)
  have HB : Hid (Below w.heap.size w w1) := hb
  obtain ⟨bd, hbd⟩ : ∃ bd, w.heap.size = bd := ⟨_, rfl⟩
  rw [hbd] at h1 h2 HW
  have hbd2 : w.heap.size ≤ bd := by omega
  clear hW hU hE hb HO hbd
  go_wp2_with fail
  refine (at_any (r := 1) HW.out (by omega)).mono ?_
  rintro _ w2 ⟨bt, rfl, hT2, hlt2, hb2⟩
  have HT2 : Hid _ := hT2
  have HW2 : Hid _ := HW.out.below hb2
  have HB2 : Hid (Below w.heap.size w w2) := HB.out.trans (hb2.mono HB.out.size)
  have hwl := HW.out.lt
  have hne : bt ≠ bp ∧ bt ≠ bm := ⟨by omega, by omega⟩
  clear hT2 hb2
  have HCN : Hid (countU V.used 2000 + 30 < 1999) := by
    show _ < _
    rw [(Sole.none HU.out).count HE.out]
    decide
  have HP : Hid _ := put_any HT2.out HW2.out hne HE.out ⟨bk, bitem⟩ kitem_ok HCN.out (by omega)
  go_wp2_with fail
  refine (show Calls _ _ _ _ _ from HP.out).mono ?_
  rintro _ w3 ⟨A, mid, C, hc, hg⟩
  have hABC : A = [] ∧ mid = [] ∧ C = [] := by
    have := hc.all
    rw [show Tr.none.all = [] from rfl] at this
    have h1 := List.append_eq_nil_iff.1 this.symm
    have h2 := List.append_eq_nil_iff.1 h1.1
    exact ⟨h2.1, h2.2, h1.2⟩
  obtain ⟨rfl, rfl, rfl⟩ := hABC
  have hs7 : szL [⟨bk, bitem⟩] = 7 := rfl
  rcases hg with ⟨hbig, _⟩ | ⟨_, rfl, V3, N3, T3, ha3, hl3, hW3, hn3, ho3⟩
  · simp only [List.nil_append, List.append_nil, hs7] at hbig
    omega
  simp only [List.nil_append, List.append_nil] at ha3
  have HL3 : Hid _ := hl3
  have HW3 : Hid _ := hW3
  have HA3 : Hid (T3.all = [⟨bk, bitem⟩]) := ha3
  have HS3 : Hid (Sole V3 T3) := (Sole.none HU.out).lay hl3
  have HT3 : Hid (Tt bt bp 1 w3) := HT2.out.only ho3 (fun e => by rcases e with e | e; exact hne.1 e; exact hne.2 e)
  have HB3 : Hid (Below w.heap.size w w3) := Only.below HB2.out ho3 HB2.out.size (fun i hi => by rcases hi with hi | hi <;> omega)
  have HR3 : Hid (V3.rn 1 = (7 : Nat)) := by show _ = _; rw [hl3.at_.rn, ha3]; rfl
  clear hc hl3 hW3 ha3 ho3 HP hs7
  go_wp2_with fail
  refine (sum_any HT3.out HW3.out).mono ?_
  rintro _ w4 ⟨rfl, hb4⟩
  rw [HR3.out]
  have HT4 : Hid (Tt bt bp 1 w4) := HT3.out.below hb4
  have HW4 : Hid _ := HW3.out.below hb4
  have HB4 : Hid (Below w.heap.size w w4) := HB3.out.trans (hb4.mono HB3.out.size)
  clear hb4
  go_wp2_with fail
  refine (get_any HT4.out HW4.out HL3.out.at_ bk).mono ?_
  rintro e5 w5 ⟨hg5, hb5⟩
  have hg6 : e5 = Ending.returned (.tuple #[.string bitem, .nilIface]) := by
    rcases hg5 with ⟨x, hx, _, he⟩ | ⟨hno, _⟩
    · rw [HA3.out] at hx
      obtain rfl := List.mem_singleton.1 hx
      exact he
    · exact absurd rfl (hno ⟨bk, bitem⟩ (by rw [HA3.out]; simp))
  subst hg6
  have HT5 : Hid (Tt bt bp 1 w5) := HT4.out.below hb5
  have HW5 : Hid _ := HW4.out.below hb5
  have HB5 : Hid (Below w.heap.size w w5) := HB4.out.trans (hb5.mono HB4.out.size)
  clear hb5 hg5
  have HCN3 : Hid (countU V3.used 2000 + 30 < 1999) := by
    show _ < _
    rw [HS3.out.count HL3.out.at_]
    have := HL3.out.at_.pages_le
    omega
  have hbi : bitem.toList = [105, 116, 101, 109] := by rw [ByteArray.toList_eq]; rfl
  have HD : Hid _ := drop_any HT5.out HW5.out hne HL3.out.at_ bk HCN3.out (by omega)
  go_wp2_with fail
  refine (show Calls _ _ _ _ _ from HD.out).mono ?_
  rintro _ w6 hd6
  rcases hd6 with ⟨hno, _⟩ | ⟨A, y, C, hal, hyk, hg⟩
  · exact absurd rfl (hno ⟨bk, bitem⟩ (by rw [HA3.out]; simp))
  have hAC : A = [] ∧ C = [] := by
    rw [HA3.out] at hal
    have h1 := congrArg List.length hal
    rw [List.length_append, List.length_append] at h1
    simp only [List.length_cons, List.length_nil] at h1
    exact ⟨List.length_eq_zero_iff.1 (by omega), List.length_eq_zero_iff.1 (by omega)⟩
  obtain ⟨rfl, rfl⟩ := hAC
  rcases hg with ⟨hbig, _⟩ | ⟨_, rfl, V6, N6, T6, ha6, hl6, hW6, hn6, ho6⟩
  · simp [szL] at hbig
  have HT6 : Hid (Tt bt bp 1 w6) := HT5.out.only ho6 (fun e => by rcases e with e | e; exact hne.1 e; exact hne.2 e)
  have HB6 : Hid (Below w.heap.size w w6) := Only.below HB5.out ho6 HB5.out.size (fun i hi => by rcases hi with hi | hi <;> omega)
  have HW6 : Hid _ := hW6
  have HR6 : Hid (V6.rn 1 = (0 : Nat)) := by show _ = _; rw [hl6.at_.rn, ha6]; rfl
  have HC6 : Hid (countU V6.used 2000 = 0) := by
    show _ = _
    rw [(HS3.out.lay hl6).count hl6.at_]
    unfold Tr.pages
    rw [hl6.at_.none_of (by rw [ha6]; rfl)]
    rfl
  clear hal hyk ha6 hl6 hW6 ho6 HD
  go_wp2_with fail
  refine (sum_any HT6.out HW6.out).mono ?_
  rintro _ w7 ⟨rfl, hb7⟩
  rw [HR6.out]
  have HW7 : Hid _ := HW6.out.below hb7
  have HB7 : Hid (Below w.heap.size w w7) := HB6.out.trans (hb7.mono HB6.out.size)
  clear hb7
  go_wp2_with fail
  refine (tw_used HW7.out).mono ?_
  rintro _ w8 ⟨rfl, hw8⟩
  subst w8
  rw [HC6.out]
  go_wp2
  go_ret
  exact ⟨rfl, HB7.out⟩
end Go.Proofs.Ytjcddeoihjppaaa
namespace Go.Proofs.Ytjcddeoihjppaaa
open Go.RowKit Go.Maps

section
variable {bt bp bd bm N D r : Nat} {s : St} {up : Nat → Bool} {cm : Int} {V : Pst} {w : World} {T : Tr}
theorem Tr.deep_le (T : Tr) : T.deep ≤ 2 := by
  unfold Tr.deep
  split <;> omega
set_option maxRecDepth 100000 in
theorem lean_any (hT : Tt bt bp r w) (h : Tw bp bd bm N s up cm V w) (hA : TrAt V r T) (hS : Sole V T) :
    Calls Try.prog 20 #[.pointer (some ⟨bp, 0, none⟩), .pointer (some ⟨bt, 0, none⟩)] w fun e w' => e = .returned (.bool true) ∧ Below w.heap.size w w' := by
  have HT : Hid _ := hT
  have HW : Hid _ := h
  have HA : Hid _ := hA
  have HC : Hid (countU V.used 2000 = T.pages) := hS.count hA
  have hp := hA.pages_le
  have hdp := T.deep_le
  clear hT h hA hS
  go_enter Try.func20, Try.ntmps20
  go_wp2_with fail
  refine (shape_any HT.out HW.out HA.out).mono ?_
  rintro _ w1 ⟨rfl, hb1⟩
  have HB1 : Hid (Below w.heap.size w w1) := hb1
  have HW1 : Hid _ := HW.out.below hb1
  clear hb1
  generalize T.pages = p at *
  generalize T.deep = d at *
  go_wp2_with fail
  refine (tw_used HW1.out).mono ?_
  rintro _ w2 ⟨rfl, hw2⟩
  subst w2
  rw [HC.out, Nat.add_comm 1 p]
  go_wp2_with fail
  go_loop [8, 9] (fun b n => ∃ x y : Nat, b = .int .i64 (x : Nat) ∧ n = .int .i64 (y : Nat) ∧ 2 ≤ x ∧ x + y ≤ 100) (fun _ n => (intOf n).toNat)
  case atStart => exact ⟨2, p, rfl, rfl, Nat.le_refl _, by omega⟩
  case round =>
    obtain ⟨x, y, rfl, rfl, h2, h3⟩ := hrel
    by_cases hy : 0 < y
    · have hi : (0 : Int) < (y : Int) := by omega
      have hq : Int.tdiv (y : Int) 2 = ((y / 2 : Nat) : Int) := by rw [Int.tdiv_eq_ediv_of_nonneg (by omega)]; omega
      go_wp2_with fail
      go_round
      case rel => exact ⟨x + 1, y / 2, by go_num, by first | rfl | (rw [hq]), by omega, by omega⟩
      case measure => simp [intOf]; omega
    · have hi : ¬ (0 : Int) < (y : Int) := by omega
      have hdx : (d : Int) ≤ (x : Int) := by omega
      go_wp2
      go_ret
      exact ⟨by first | rfl | simp [hdx], HB1.out⟩
end
/-- where a key stands in a sorted list -/
theorem sorted_at {A A' C C' : List Pr} {y y' : Pr} (h : A ++ [y] ++ C = A' ++ [y'] ++ C') (hs : (A ++ [y] ++ C).Pairwise (fun a b => bl a.k b.k = true)) (hk : y.k = y'.k) : A = A' ∧ y = y' ∧ C = C' := by
  have g1 : (A ++ [y] ++ C)[A.length]? = some y := by simp
  have g2 : (A ++ [y] ++ C)[A'.length]? = some y' := by rw [h]; simp
  obtain ⟨l1, e1⟩ := List.getElem?_eq_some_iff.1 g1
  obtain ⟨l2, e2⟩ := List.getElem?_eq_some_iff.1 g2
  have hl : A.length = A'.length := by
    rcases Nat.lt_trichotomy A.length A'.length with e | e | e
    · have := List.pairwise_iff_getElem.1 hs _ _ l1 l2 e
      rw [e1, e2, hk, bl_irrefl] at this; cases this
    · exact e
    · have := List.pairwise_iff_getElem.1 hs _ _ l2 l1 e
      rw [e1, e2, hk, bl_irrefl] at this; cases this
  rw [List.append_assoc, List.append_assoc] at h
  obtain ⟨h1, h2⟩ := List.append_inj h hl
  simp only [List.singleton_append, List.cons.injEq] at h2
  exact ⟨h1, h2.1, h2.2⟩
end Go.Proofs.Ytjcddeoihjppaaa
namespace Go.Proofs.Ytjcddeoihjppaaa
open Go.RowKit Go.Maps

structure Sol (bt bp bd bm N : Nat) (up : Nat → Bool) (V : Pst) (T : Tr) (w0 w : World) : Prop where
  t : Tt bt bp 1 w
  tw : Tw bp bd bm N sd0 up 1 V w
  a : TrAt V 1 T
  so : Sole V T
  b0 : Below w0.heap.size w0 w
  lp : w0.heap.size ≤ bp
  lm : w0.heap.size ≤ bm
  ne : bt ≠ bp ∧ bt ≠ bm
section
variable {bt bp bd bm N D : Nat} {up : Nat → Bool} {V : Pst} {T : Tr} {w0 w w' : World}
theorem Sol.count (h : Sol bt bp bd bm N up V T w0 w) : countU V.used 2000 ≤ 60 := by
  rw [h.so.count h.a]; exact h.a.pages_le
theorem Sol.below (h : Sol bt bp bd bm N up V T w0 w) (hb : Below w.heap.size w w') : Sol bt bp bd bm N up V T w0 w' :=
  ⟨h.t.below hb, h.tw.below hb, h.a, h.so, h.b0.trans (hb.mono h.b0.size), h.lp, h.lm, h.ne⟩
theorem Sol.lay {V' : Pst} {N' : Nat} {T' : Tr} (h : Sol bt bp bd bm N up V T w0 w) (h1 : LayR V V' 1 T T') (h2 : Tw bp bd bm N' sd0 up 1 V' w') (h4 : Only (fun b => b = bp ∨ b = bm) w w') : Sol bt bp bd bm N' up V' T' w0 w' :=
  ⟨h.t.only h4 (fun e => by rcases e with e | e; exact h.ne.1 e; exact h.ne.2 e), h2, h1.at_, h.so.lay h1, Only.below h.b0 h4 h.b0.size (fun i hi => by rcases hi with hi | hi; rw [hi]; exact h.lp; rw [hi]; exact h.lm), h.lp, h.lm, h.ne⟩
/-- behind a put or a drop -/
def SolTo (bt bp bd bm N D : Nat) (up : Nat → Bool) (P : Tr → Prop) (w0 w w' : World) : Prop := ∃ V' N' T', N' ≤ N + D ∧ P T' ∧ Sol bt bp bd bm N' up V' T' w0 w' ∧ Only (fun b => b = bp ∨ b = bm) w w'
theorem sol_put (h : Sol bt bp bd bm N up V T w0 w) (x : Pr) (hx : x.Ok) (hs : szL T.all + x.sz ≤ 30000) (hN : N + 60 < 1000000) :
    Calls Try.prog 17 #[.pointer (some ⟨bt, 0, none⟩), .string x.k, .string x.i] w fun e w' => e = .returned .nilIface ∧ SolTo bt bp bd bm N 40 up (fun T' => szL T'.all ≤ szL T.all + x.sz) w0 w w' := by
  have hc := h.count
  refine (put_any h.t h.tw h.ne h.a x hx (by omega) hN).mono ?_
  rintro e w' ⟨A, mid, C, hr, hg⟩
  have hsz : szL T.all = szL A + szL mid + szL C := by rw [hr.all, szL_append, szL_append]
  have hs1 : szL [x] = x.sz := rfl
  rcases hg with ⟨hbig, _⟩ | ⟨_, rfl, V', N', T', h3, h4, h5, h6, h7⟩
  · rw [szL_append, szL_append, hs1] at hbig
    omega
  · refine ⟨rfl, V', N', T', h6, ?_, h.lay h4 h5 h7, h7⟩
    show szL T'.all ≤ _
    rw [h3, szL_append, szL_append, hs1]
    omega
theorem sol_any (h : Sol bt bp bd bm N up V T w0 w) (hs : StepTo bp bd bm N D 1 sd0 up 1 V T w w') : SolTo bt bp bd bm N D up (fun _ => True) w0 w w' := by
  obtain ⟨V', N', T', h1, h2, h3, h4⟩ := hs
  exact ⟨V', N', T', h3, trivial, h.lay h1 h2 h4, h4⟩
theorem sol_drop (h : Sol bt bp bd bm N up V T w0 w) {A C : List Pr} {y : Pr} (hall : T.all = A ++ [y] ++ C) (hN : N + 60 < 1000000) :
    Calls Try.prog 19 #[.pointer (some ⟨bt, 0, none⟩), .string y.k] w fun e w' => e = .returned .nilIface ∧ SolTo bt bp bd bm N 40 up (fun T' => T'.all = A ++ C) w0 w w' := by
  have hc := h.count
  refine (drop_any h.t h.tw h.ne h.a y.k (by omega) hN).mono ?_
  rintro e w' (⟨hno, _⟩ | ⟨A', y', C', ha', hk', hg⟩)
  · exact absurd rfl (hno y (by rw [hall]; simp))
  · have hs : (A ++ [y] ++ C).Pairwise (fun a b => bl a.k b.k = true) := by rw [← hall]; exact h.a.ok.sorted
    obtain ⟨rfl, _, rfl⟩ := sorted_at (hall.symm.trans ha') hs hk'.symm
    rcases hg with ⟨hbig, _⟩ | ⟨_, rfl, V', N', T', h3, h4, h5, h6, h7⟩
    · have hsm : szL T.all ≤ 30000 := h.a.ok.sum
      rw [hall] at hsm
      rw [szL_append, szL_append] at hsm hbig
      simp only [szL] at hbig
      omega
    · exact ⟨rfl, V', N', T', h6, by show T'.all = _; rw [h3]; simp, h.lay h4 h5 h7, h7⟩
end
theorem three_bytes (x0 x1 x2 : Int) (h00 : 0 ≤ x0) (h01 : x0 < 256) (h10 : 0 ≤ x1) (h11 : x1 < 256) (h20 : 0 ≤ x2) (h21 : x2 < 256) (W : World) (B : Nat) (h0 : W.cell? ⟨B, 0, none⟩ = some (.int .u8 x0)) (h1 : W.cell? ⟨B, 1, none⟩ = some (.int .u8 x1)) (h2 : W.cell? ⟨B, 2, none⟩ = some (.int .u8 x2)) :
    (convert 54 9 (.slice (some ⟨B, 0, none⟩) 3 3)).run Try.prog W = .ok (.string ⟨#[byteI x0, byteI x1, byteI x2]⟩) W := by
  have e0 : x0 = ((byteI x0).toNat : Int) := by rw [← byteI_toNat, wrap_u8, Int.emod_eq_of_lt h00 h01]
  have e1 : x1 = ((byteI x1).toNat : Int) := by rw [← byteI_toNat, wrap_u8, Int.emod_eq_of_lt h10 h11]
  have e2 : x2 = ((byteI x2).toNat : Int) := by rw [← byteI_toNat, wrap_u8, Int.emod_eq_of_lt h20 h21]
  exact run_convert_bytes_back (P := Try.prog) W 54 9 5 ⟨B, 0, none⟩ 3 [byteI x0, byteI x1, byteI x2] Try.underlying54 Try.underlying5 Try.underlying9 (fun j hj => by
    have : j < 3 := by simpa using hj
    have e : j = 0 ∨ j = 1 ∨ j = 2 := by omega
    rcases e with rfl | rfl | rfl
    · rw [Addr.add_zero', h0]; exact congrArg (fun z => some (Value.int .u8 z)) e0
    · rw [show (⟨B, 0, none⟩ : Addr).add 1 = ⟨B, 1, none⟩ from rfl, h1]; exact congrArg (fun z => some (Value.int .u8 z)) e1
    · rw [show (⟨B, 0, none⟩ : Addr).add 2 = ⟨B, 2, none⟩ from rfl, h2]; exact congrArg (fun z => some (Value.int .u8 z)) e2)
theorem cells_new3 (w : World) (a b c : Value) (t : TypeId) : (w.alloc (.cells #[a, b, c] t)).cell? ⟨w.heap.size, 0, none⟩ = some a ∧ (w.alloc (.cells #[a, b, c] t)).cell? ⟨w.heap.size, 1, none⟩ = some b ∧ (w.alloc (.cells #[a, b, c] t)).cell? ⟨w.heap.size, 2, none⟩ = some c := by
  have hn : (w.alloc (.cells #[a, b, c] t)).heap[w.heap.size]? = some (.cells #[a, b, c] t) := heap_alloc_new w _
  exact ⟨by simp only [World.cell?, hn]; rfl, by simp only [World.cell?, hn]; rfl, by simp only [World.cell?, hn]; rfl⟩
end Go.Proofs.Ytjcddeoihjppaaa
