/- Texts of the proof of PagerBacks: Cln, Bld, Mk2, Bck, Wfl, Wnm, Whd, Whw, Cmt0, Txm, Sav0. -/
import Derived.Test.YtjcddeoihjppaaaR01
import Derived.Laws.Tables
import Derived.Maps.StringElems
namespace Go.Proofs.Ytjcddeoihjppaaa
open Go.RowKit Go.Maps Go.Shelf

theorem size46 : (Try.prog.info? 42).map (·.size) = some 2017 := by kernel_rfl
theorem zsize46 : Try.zeroCells42.size = 2017 := by kernel_rfl
theorem stateL_lt (used : Nat → Bool) (rp rn : Nat → Int) (m m' : Nat) {k : Nat} (hk : k < 2016) : (stateL used rp rn m)[k]? = (stateL used rp rn m')[k]? := by
  by_cases h : k < 2000
  · rw [stateL_used _ _ _ _ h, stateL_used _ _ _ _ h]
  · obtain ⟨j, rfl⟩ : ∃ j, k = 2000 + j := ⟨k - 2000, by omega⟩
    rw [stateL_root _ _ _ _ (by omega), stateL_root _ _ _ _ (by omega)]

/-- what is known of two rows that were laid -/
structure Two (B : Nat) (L : List Value) (w wx : World) : Prop where
  first : wx.rangeAt B 0 L
  free : ∀ k, wx.frozen? ⟨B, k, none⟩ = false
  second : wx.there (B + 1) 0 2017
  below : Below B w wx
  size : B + 2 ≤ wx.heap.size
theorem Two.start (w : World) (L : List Value) (Z : Array Value) (hZ : Z.size = 2017) : Two w.heap.size L w ((w.alloc (.cells L.toArray 42)).alloc (.cells Z 42)) := by
  have hn1 : (w.alloc (.cells L.toArray 42)).heap[w.heap.size]? = some (.cells L.toArray 42) := heap_alloc_new w _
  have hs1 : (w.alloc (.cells L.toArray 42)).heap.size = w.heap.size + 1 := World.size_alloc _ _
  have hn2 : ((w.alloc (.cells L.toArray 42)).alloc (.cells Z 42)).heap[w.heap.size + 1]? = some (.cells Z 42) := by rw [← hs1]; exact heap_alloc_new _ _
  have b2 : Below (w.heap.size + 1) (w.alloc (.cells L.toArray 42)) ((w.alloc (.cells L.toArray 42)).alloc (.cells Z 42)) := by rw [← hs1]; exact (Below.refl _ _).alloc (Nat.le_refl _) _
  have hn1' : ((w.alloc (.cells L.toArray 42)).alloc (.cells Z 42)).heap[w.heap.size]? = some (.cells L.toArray 42) := by rw [b2.block _ (by omega)]; exact hn1
  refine ⟨fun j v hj => ?_, fun k => by simp only [World.frozen?, hn1']; simp, fun j hj => ⟨?_, by simp only [World.frozen?, hn2]; simp⟩, ((Below.refl _ _).alloc (Nat.le_refl _) _).trans (b2.mono (by omega)), by rw [World.size_alloc, hs1]; omega⟩
  · rw [Nat.zero_add, cell_of_row _ _ _ _ _ _ hn1']
    simpa using hj
  · rw [Nat.zero_add, cell_of_row _ _ _ _ _ _ hn2]
    have hl : j < Z.size := by rw [hZ]; exact hj
    simp [hl]
theorem Two.later {B : Nat} {L : List Value} {w wx wy : World} (h : Two B L w wx) (hb : Below wx.heap.size wx wy) : Two B L w wy := by
  have hs := h.size
  refine ⟨fun j v hj => ?_, fun k => ?_, fun j hj => ⟨?_, ?_⟩, h.below.trans (hb.mono (by omega)), Nat.le_trans h.size hb.size⟩
  · rw [hb.cell (p := ⟨B, 0 + j, none⟩) (by show B < _; omega)]; exact h.first j v hj
  · rw [hb.frozen (p := ⟨B, k, none⟩) (by show B < _; omega)]; exact h.free k
  · rw [hb.cell (p := ⟨B + 1, 0 + j, none⟩) (by show B + 1 < _; omega)]; exact (h.second j hj).1
  · rw [hb.frozen (p := ⟨B + 1, 0 + j, none⟩) (by show B + 1 < _; omega)]; exact (h.second j hj).2

section
variable {bp bd bm n : Nat} {p : Pg} {s : St} {w : World} {f : Nat → Option ByteArray}
set_option maxRecDepth 100000 in
set_option maxHeartbeats 400000 in
theorem clone_state (h : Sheets bm n f w) (used : Nat → Bool) (rp rn : Nat → Int) :
    Calls Try.prog 37 #[.agg (stateL used rp rn bm).toArray] w fun e w' => ∃ bm', e = .returned (.agg (stateL used rp rn bm').toArray) ∧ w.heap.size ≤ bm' ∧ Sheets bm' n f w' ∧ Below w.heap.size w w' := by
  have hz := Try.zeroValue42
  have HS : Hid (Sheets bm n f w) := h
  have hlt := h.lt
  clear h
  have T0 := Two.start w (stateL used rp rn bm) Try.zeroCells42 zsize46
  have q0 := T0.first 2016 _ (stateL_map used rp rn bm)
  rw [Nat.zero_add] at q0
  have HT0 : Hid _ := T0
  have HS0 : Hid (Sheets bm n f ((w.alloc (.cells (stateL used rp rn bm).toArray 42)).alloc (.cells Try.zeroCells42 42))) := HS.out.block (T0.below.block _ hlt)
  clear T0
  obtain ⟨L, hL⟩ : ∃ L, stateL used rp rn bm = L := ⟨_, rfl⟩
  rw [hL] at q0 HT0 HS0
  rw [hL]
  go_enter Try.func37, Try.ntmps37
  go_wp2_with fail
  clear hz
  refine (mapsClone_any HS0.out).mono ?_
  rintro _ w1 ⟨rfl, hs1, hb1, hz1⟩
  obtain ⟨w0, hw0⟩ : ∃ w0, (w.alloc (.cells L.toArray 42)).alloc (.cells Try.zeroCells42 42) = w0 := ⟨_, rfl⟩
  rw [hw0] at HT0 hs1 hb1 hz1
  rw [hw0]
  have T1 := HT0.out.later hb1
  clear hw0 HS0 q0
  have q1 := T1.first 2016 (.map (some bm)) (by rw [← hL]; exact stateL_map used rp rn bm)
  rw [Nat.zero_add] at q1
  have f1 := T1.free 2016
  obtain ⟨M, hM⟩ : ∃ M, stateL used rp rn w0.heap.size = M := ⟨_, rfl⟩
  have lM : M.length = 2017 := by rw [← hM, stateL_len]
  have sM : (Try.prog.info? 42).map (·.size) = some M.length := by rw [lM]; exact size46
  have sA : (Try.prog.info? 42).map (·.size) = some M.toArray.size := by rw [List.size_toArray, lM]; exact size46
  have oM := all_oneCell_toArray (show ∀ v ∈ M, v.oneCell' = true by rw [← hM]; exact stateL_one _ _ _ _)
  have hs0 := HT0.out.size
  obtain ⟨w2, hw2⟩ : ∃ w2, w1.setCell ⟨w.heap.size, 2016, none⟩ (.map (some w0.heap.size)) = w2 := ⟨_, rfl⟩
  have R2 : Hid (w2.rangeAt w.heap.size 0 M) := fun j v hj => by
    have hl := (List.getElem?_eq_some_iff.1 hj).1
    rw [Nat.zero_add, ← hw2]
    by_cases e : j = 2016
    · subst e
      rw [World.cell?_setCell_same _ _ _ q1, ← hM, stateL_map] at *
      exact hj
    · rw [World.cell?_setCell_other _ _ _ _ (fun e' => e (by injection e' with e1 e2; omega))]
      have := T1.first j v (by rw [← hL, stateL_lt used rp rn bm w0.heap.size (by omega), hM]; exact hj)
      rw [Nat.zero_add] at this
      exact this
  have T2 : Hid (w2.there (w.heap.size + 1) 0 M.toArray.size) := fun j hj => by
    rw [List.size_toArray, lM] at hj
    rw [← hw2, World.frozen?_setCell, World.cell?_setCell_other _ _ _ _ (fun e' => by injection e' with e1 e2; omega)]
    exact T1.second j hj
  have B2 : Hid (Below w.heap.size w w2) := by rw [← hw2]; exact T1.below.setCell (p := ⟨w.heap.size, 2016, none⟩) (Nat.le_refl _) _
  have S2 : Hid (Sheets w0.heap.size n f w2) := by rw [← hw2]; exact hs1.only (Only.set w.heap.size 2016 _ w1) (fun e => by omega)
  have l3 := run_loadVar_mid (P := Try.prog) (w2.setCells (w.heap.size + 1) 0 M) (w.heap.size + 1) 0 42 M _ (World.rangeAt_setCells_same _ _ _ _ (by have := T2.out; rw [List.size_toArray] at this; exact this)) Try.underlying42 rfl sM
  have HM : Hid _ := hM
  clear hM hs1 hb1 hz1 HT0 T1
  go_wp2_with (first | (refine wpList_load_mid rfl 42 _ rfl w.heap.size 0 rfl M _ R2.out Try.underlying42 rfl sM ?_) | (refine wpList_store_mid rfl 42 _ _ rfl (w.heap.size + 1) 0 M.toArray rfl rfl T2.out sA oM ?_) | (rw [hw2]))
  exact bodyPost_ret (v := .agg M.toArray) (results_cell_of Try.results37 _ _ _ rfl l3) rfl ⟨w0.heap.size, by rw [HM.out], by omega, S2.out.only (Only.setCells (w.heap.size + 1) M 0 w2) (fun e => by omega), Below.setCells' (by omega) _ _ _ B2.out⟩
end
end Go.Proofs.Ytjcddeoihjppaaa
namespace Go.Proofs.Ytjcddeoihjppaaa
open Go.RowKit Go.Maps Go.Shelf

/-- a mark, in cells -/
def markL (used : Nat → Bool) (rp rn : Nat → Int) (m : Nat) (c : Int) : List Value := stateL used rp rn m ++ [.int .i64 c]
theorem markL_len (used : Nat → Bool) (rp rn : Nat → Int) (m : Nat) (c : Int) : (markL used rp rn m c).length = 2018 := by rw [markL, List.length_append, stateL_len]; rfl
theorem markL_one (used : Nat → Bool) (rp rn : Nat → Int) (m : Nat) (c : Int) : ∀ v ∈ markL used rp rn m c, v.oneCell' = true := fun v hv => by
  rcases List.mem_append.1 hv with h | h
  · exact stateL_one _ _ _ _ v h
  · rw [List.mem_singleton.1 h]; rfl
theorem size48 : (Try.prog.info? 44).map (·.size) = some 2018 := by kernel_rfl
theorem zsize48 : Try.zeroCells44.size = 2018 := by kernel_rfl

theorem fold_get (off : Nat) : ∀ (vs : List Value) (n : Nat) (A : Array Value) (k : Nat), off + n + vs.length ≤ A.size →
    ((vs.zipIdx n).foldl (fun cs x => cs.setIfInBounds (off + x.2) x.1) A)[k]? = (if off + n ≤ k ∧ k < off + n + vs.length then vs[k - (off + n)]? else A[k]?) ∧ ((vs.zipIdx n).foldl (fun cs x => cs.setIfInBounds (off + x.2) x.1) A).size = A.size
  | [], n, A, k, _ => by simp; omega
  | v :: r, n, A, k, h => by
    rw [List.zipIdx_cons, List.foldl_cons]
    have h1 : off + (n + 1) + r.length ≤ (A.setIfInBounds (off + n) v).size := by rw [Array.size_setIfInBounds]; simp only [List.length_cons] at h; omega
    obtain ⟨e1, e2⟩ := fold_get off r (n + 1) (A.setIfInBounds (off + n) v) k h1
    refine ⟨?_, by rw [e2, Array.size_setIfInBounds]⟩
    rw [e1]
    simp only [List.length_cons] at h ⊢
    by_cases c1 : off + (n + 1) ≤ k ∧ k < off + (n + 1) + r.length
    · rw [if_pos c1, if_pos (by omega), show k - (off + n) = (k - (off + (n + 1))) + 1 by omega, List.getElem?_cons_succ]
    · rw [if_neg c1]
      by_cases c2 : k = off + n
      · subst c2
        rw [if_pos (by omega), Nat.sub_self, List.getElem?_cons_zero, Array.getElem?_setIfInBounds_self_of_lt (by omega)]
      · rw [if_neg (by omega), Array.getElem?_setIfInBounds_ne (by omega)]

theorem fill_fold (S : List Value) (off : Nat) (A : Array Value) : S.toArray.zipIdx.foldl (fun cs (c, j) => cs.setIfInBounds (off + j) c) A = (S.zipIdx 0).foldl (fun cs x => cs.setIfInBounds (off + x.2) x.1) A := by
  rw [← Array.foldl_toList, Array.toList_zipIdx]
/-- one part laid -/
theorem fill_cons (place : Nat → Option (Nat × Nat)) (A : Array Value) (i : Nat) (v : Value) (rest : List (Nat × Value)) (vs : List Value) (off size : Nat) (hp : place i = some (off, size)) (hv : v.cells = vs.toArray) (hs : vs.length = size) (hA : off + size ≤ A.size) :
    Instr.fill place A ((i, v) :: rest) = Instr.fill place ((vs.zipIdx 0).foldl (fun cs x => cs.setIfInBounds (off + x.2) x.1) A) rest := by
  rw [Instr.fill, hp, hv]
  simp only
  rw [if_neg (by simp [hs]; omega), fill_fold]
theorem info48 : (Try.prog.info? 44).bind (·.zero) = some (.agg Try.zeroCells44) := by kernel_rfl
theorem info46n : (Try.prog.info? 42).map (·.size) = some 2017 := by kernel_rfl
theorem info3n : (Try.prog.info? 3).map (·.size) = some 1 := by kernel_rfl
theorem cells_agg (A : Array Value) : (Value.agg A).cells = A := rfl

set_option maxRecDepth 100000 in
theorem built48 (S : List Value) (hS : S.length = 2017) (c : Int) : Try.prog.built 44 [(0, Value.agg S.toArray), (1, Value.int .i64 c)] = some (S ++ [Value.int .i64 c]).toArray := by
  have h48 := info48
  have h46 := info46n
  have h3 := info3n
  have hZ := zsize48
  unfold Program.built
  rw [Try.underlying44]
  generalize Try.zeroCells44 = Z at *
  cases e48 : Try.prog.info? 44 with
  | none => rw [e48] at h48; cases h48
  | some it =>
    rw [e48] at h48
    have hz : it.zero = some (.agg Z) := h48
    cases e46 : Try.prog.info? 42 with
    | none => rw [e46] at h46; cases h46
    | some i46 =>
      rw [e46] at h46
      have s46 : i46.size = 2017 := Option.some.inj h46
      cases e3 : Try.prog.info? 3 with
      | none => rw [e3] at h3; cases h3
      | some i3 =>
        rw [e3] at h3
        have s3 : i3.size = 1 := Option.some.inj h3
        simp only [hz, List.mapM_cons, List.mapM_nil, e46, e3, s46, s3, Option.map_some, Option.bind_eq_bind, Option.bind_some, Option.pure_def, cells_agg]
        rw [fill_cons _ Z 0 _ _ S 0 2017 rfl rfl hS (by omega)]
        have f1 := fun k => fold_get 0 S 0 Z k (by omega)
        generalize (S.zipIdx 0).foldl (fun cs x => cs.setIfInBounds (0 + x.2) x.1) Z = Y at *
        have sY : Y.size = 2018 := by rw [(f1 0).2, hZ]
        rw [fill_cons _ Y 1 _ _ [.int .i64 c] 2017 1 rfl rfl rfl (by omega)]
        have f2 := fun k => fold_get 2017 [Value.int .i64 c] 0 Y k (by simp; omega)
        generalize ([Value.int .i64 c].zipIdx 0).foldl (fun cs x => cs.setIfInBounds (2017 + x.2) x.1) Y = X at *
        have sX : X.size = 2018 := by rw [(f2 0).2, sY]
        show some X = _
        congr 1
        apply Array.ext_getElem?
        intro k
        have eR : (S ++ [Value.int .i64 c]).toArray[k]? = (S ++ [Value.int .i64 c])[k]? := by simp only [List.getElem?_toArray]
        rw [(f2 k).1, eR]
        simp only [List.length_cons, List.length_nil]
        by_cases c1 : k < 2017
        · rw [if_neg (by omega), (f1 k).1, if_pos (by omega), List.getElem?_append_left (by omega)]
          simp
        · by_cases c2 : k = 2017
          · subst c2
            rw [if_pos (by omega), List.getElem?_append_right (by omega), hS]
          · rw [if_neg (by omega), (f1 k).1, if_neg (by omega), List.getElem?_append_right (by omega), hS, Array.getElem?_eq_none (by omega), List.getElem?_eq_none (by simp; omega)]
end Go.Proofs.Ytjcddeoihjppaaa
namespace Go.Proofs.Ytjcddeoihjppaaa
open Go.RowKit Go.Maps Go.Shelf

section
variable {bp bd bm n : Nat} {p : Pg} {s : St} {w : World} {f : Nat → Option ByteArray}
set_option maxRecDepth 100000 in
set_option maxHeartbeats 400000 in
theorem mark_any (h : PagerIs bp bd bm n p w) : Calls Try.prog 11 #[.pointer (some ⟨bp, 0, none⟩)] w fun e w' => ∃ bm', e = .returned (.agg (markL p.used p.rp p.rn bm' p.commits).toArray) ∧ w.heap.size ≤ bm' ∧ Sheets bm' n p.chg w' ∧ Below w.heap.size w w' := by
  have hz := Try.zeroValue44
  have HP : Hid (PagerIs bp bd bm n p w) := h
  clear h
  go_enter Try.func11, Try.ntmps11
  go_wp2_with fail
  clear hz
  obtain ⟨L, hL⟩ : ∃ L, stateL p.used p.rp p.rn bm = L := ⟨_, rfl⟩
  have sL : (Try.prog.info? 42).map (·.size) = some L.length := by rw [← hL, stateL_len]; exact size46
  have HK : Hid (∀ wx, Below w.heap.size w wx → wx.rangeAt bp 2001 L ∧ wx.cell? ⟨bp, 4018, none⟩ = some (.int .i64 p.commits)) := fun wx hx => by
    have hp := HP.out.below hx
    refine ⟨by rw [← hL]; exact hp.cells.state, ?_⟩
    have := hp.cells.cell 4018 (by omega)
    rw [cellOf_commits] at this
    exact this
  have HB0 : Hid (Below w.heap.size w (w.alloc (.cells Try.zeroCells44 44)).drew) := ((Below.refl _ w).alloc (Nat.le_refl _) _).drew
  have hlt := HP.out.mlt
  refine wp_region_held_drew (S := fun wx => wx.rangeAt bp 2001 L ∧ wx.cell? ⟨bp, 4018, none⟩ = some (.int .i64 p.commits)) (by kernel_rfl) (HK.out _ HB0.out) ?_
  intro g0
  refine wpAnyH_take (i := 0) (v := .pointer (some ⟨bp, 0, none⟩)) rfl (by kernel_rfl) (by kernel_rfl) (by kernel_rfl) (fun _ _ _ h => h) (.inl ⟨by rfl, fun wx _ => by go_simp⟩) g0 ?_
  simp only [Act.put, List.setIfInBounds_toArray]
  refine wpAnyH_take (i := 1) (v := .pointer (some ⟨bp, 0, none⟩)) rfl (by kernel_rfl) (by kernel_rfl) (by kernel_rfl) (fun _ _ _ h => h) (.inl ⟨by rfl, fun wx _ => by go_simp⟩) g0 ?_
  simp only [Act.put]
  refine wpAnyH_take (i := 2) (v := .pointer (some ⟨bp, 2001, none⟩)) rfl (by kernel_rfl) (by kernel_rfl) (by kernel_rfl) (fun _ _ _ h => h) (.inl ⟨by rfl, fun wx _ => by go_simp⟩) g0 ?_
  simp only [Act.put]
  refine wpAnyH_take (i := 3) (v := .agg L.toArray) rfl (by kernel_rfl) (by kernel_rfl) (by kernel_rfl) (fun _ _ _ h => h) (yieldsIf_load_mid (by rfl) 42 _ rfl _ 2001 rfl L _ (fun wx h => h.1) Try.underlying42 rfl sL) g0 ?_
  simp only [Act.put]
  refine wpAnyH_take (i := 5) (v := .pointer (some ⟨bp, 0, none⟩)) rfl (by kernel_rfl) (by kernel_rfl) (by kernel_rfl) (fun _ _ _ h => h) (.inl ⟨by rfl, fun wx _ => by go_simp⟩) g0 ?_
  simp only [Act.put]
  refine wpAnyH_take (i := 6) (v := .pointer (some ⟨bp, 0, none⟩)) rfl (by kernel_rfl) (by kernel_rfl) (by kernel_rfl) (fun _ _ _ h => h) (.inl ⟨by rfl, fun wx _ => by go_simp⟩) g0 ?_
  simp only [Act.put]
  refine wpAnyH_take (i := 7) (v := .pointer (some ⟨bp, 4018, none⟩)) rfl (by kernel_rfl) (by kernel_rfl) (by kernel_rfl) (fun _ _ _ h => h) (.inl ⟨by rfl, fun wx _ => by go_simp⟩) g0 ?_
  simp only [Act.put]
  refine wpAnyH_take (i := 8) (v := .int .i64 p.commits) rfl (by kernel_rfl) (by kernel_rfl) (by kernel_rfl) (fun _ _ _ h => h) (.inl ⟨by rfl, fun wx h => by have h8 := h.2; go_simp⟩) g0 ?_
  simp only [Act.put]
  refine wpAnyH_ready (rs := [4]) (by kernel_rfl) (by decide) (AllReadyH.cons rfl (fun K hK => ?_) AllReadyH.nil)
  rw [if_pos (by rfl)]
  go_simp
  rw [← hL]
  refine (clone_state (HP.out.own.block (HB0.out.block _ hlt)) _ _ _).mono ?_
  rintro _ wy ⟨bm', rfl, hbm, hs, hb⟩
  have HB : Hid (Below w.heap.size w wy) := HB0.out.trans (hb.mono HB0.out.size)
  refine hK.out _ _ (HK.out _ HB.out) (fun g1 => ?_)
  clear hK K
  obtain ⟨M, hM⟩ : ∃ M, markL p.used p.rp p.rn bm' p.commits = M := ⟨_, rfl⟩
  have hbu : Try.prog.built 44 [(0, Value.agg (stateL p.used p.rp p.rn bm').toArray), (1, Value.int .i64 p.commits)] = some M.toArray := by rw [← hM]; exact built48 _ (stateL_len _ _ _ _) _
  have hru := fun wx => run_build (P := Try.prog) wx 44 #[(0, Value.agg (stateL p.used p.rp p.rn bm').toArray), (1, Value.int .i64 p.commits)] M.toArray hbu
  refine wpAnyH_take (i := 9) (v := .agg M.toArray) rfl (by kernel_rfl) (by kernel_rfl) (by kernel_rfl) (fun _ _ _ h => h) (.inl ⟨by rfl, fun wx _ => by
    have h9 := hru wx
    simp [execOp]
    refine (congrArg (fun r => Result.andThen r _) h9).trans ?_
    rfl⟩) g1 ?_
  simp only [Act.put]
  have lM : M.length = 2018 := by rw [← hM, markL_len]
  have sM : (Try.prog.info? 44).map (·.size) = some M.length := by rw [lM]; exact size48
  have oM := all_oneCell_toArray (show ∀ v ∈ M, v.oneCell' = true by rw [← hM]; exact markL_one _ _ _ _ _)
  have hn0 : (w.alloc (.cells Try.zeroCells44 44)).drew.heap[w.heap.size]? = some (.cells Try.zeroCells44 44) := heap_alloc_new w _
  have hny : wy.heap[w.heap.size]? = some (.cells Try.zeroCells44 44) := by
    rw [hb.block _ (by show w.heap.size < (w.alloc (.cells Try.zeroCells44 44)).heap.size; rw [World.size_alloc]; omega)]; exact hn0
  have hty : wy.there w.heap.size 0 M.toArray.size := fun j hj => by
    rw [List.size_toArray, lM] at hj
    refine ⟨?_, by simp only [World.frozen?, hny]; simp⟩
    rw [Nat.zero_add, cell_of_row _ _ _ _ _ _ hny]
    simp
    exact hj
  have HB2 : Hid (Below w.heap.size w (wy.setCells w.heap.size 0 M)) := Below.setCells' (Nat.le_refl _) _ _ _ HB.out
  have HS2 : Hid (Sheets bm' n p.chg (wy.setCells w.heap.size 0 M)) := hs.only (Only.setCells w.heap.size M 0 wy) (fun e => by
    have : (w.alloc (.cells Try.zeroCells44 44)).drew.heap.size = w.heap.size + 1 := World.size_alloc _ _
    omega)
  have hbm2 : w.heap.size ≤ bm' := Nat.le_trans HB0.out.size hbm
  have l3 := run_loadVar_mid (P := Try.prog) (wy.setCells w.heap.size 0 M) w.heap.size 0 44 M _ (World.rangeAt_setCells_same _ _ _ _ (by rw [List.size_toArray] at hty; exact hty)) Try.underlying44 rfl sM
  refine wpAnyH_ready (rs := [10]) (by kernel_rfl) (by decide) (AllReadyH.cons rfl (fun K hK => ?_) AllReadyH.nil)
  rw [if_pos (by rfl)]
  refine wp_store_mid 44 _ _ rfl _ 0 M.toArray rfl rfl hty (by rw [List.size_toArray]; exact sM) oM ?_
  refine hK.out _ _ (HK.out _ HB2.out) (fun _ => ?_)
  clear hK K
  refine wpAnyH_done (by kernel_rfl) ?_ _
  clear hty hny hn0 hs hb g1 g0 hbu hru
  go_wp2_with fail
  exact bodyPost_ret (v := .agg M.toArray) (results_cell_of Try.results11 _ _ _ rfl l3) rfl ⟨bm', by rw [hM], hbm2, HS2.out, HB2.out⟩
end
end Go.Proofs.Ytjcddeoihjppaaa
namespace Go.Proofs.Ytjcddeoihjppaaa
open Go.RowKit Go.Maps Go.Shelf

/-- a pager as it was noted -/
def Pg.back (p q : Pg) : Pg := { p with used := q.used, rp := q.rp, rn := q.rn, chg := q.chg }

section
variable {bp bd bm n : Nat} {p : Pg} {s : St} {w : World} {f : Nat → Option ByteArray}
set_option maxRecDepth 100000 in
set_option maxHeartbeats 400000 in
theorem back_arg (h : Cells bp bd bm p w) (hd : p.down = false) (M : List Value) (c : Int) (hM : M[2017]? = some (.int .i64 c)) (hc : c ≠ p.commits) :
    Calls Try.prog 12 #[.pointer (some ⟨bp, 0, none⟩), .agg M.toArray] w fun e w' => e = .returned (.iface 80 (.int .i64 1)) ∧ Below w.heap.size w w' := by
  have hb : Below w.heap.size w (w.alloc (.cells M.toArray 44)) := (Below.refl _ _).alloc (Nat.le_refl _) _
  have hn : (w.alloc (.cells M.toArray 44)).heap[w.heap.size]? = some (.cells M.toArray 44) := heap_alloc_new w _
  have q1 : (w.alloc (.cells M.toArray 44)).cell? ⟨w.heap.size, 2017, none⟩ = some (.int .i64 c) := by
    rw [cell_of_row _ _ _ _ _ _ hn]; simpa using hM
  have hC := h.block (hb.block _ h.lt)
  have q2 := hC.cell 4018 (by omega)
  have q3 := hC.cell 4019 (by omega)
  rw [cellOf_commits] at q2
  rw [cellOf_down, hd] at q3
  have hne : (c == p.commits) = false := by simpa using hc
  clear hC hn h
  go_enter Try.func12, Try.ntmps12
  go_wp2
  go_quiet (fail)
  go_wp2
  go_ret
  exact ⟨rfl, hb.trans ⟨rfl, rfl, rfl, Nat.le_refl _, fun _ _ => rfl⟩⟩

theorem Cells.setState {q : Pg} {m : Nat} (h : Cells bp bd bm p w) : Cells bp bd m (p.back q) (w.setCells bp 2001 (stateL q.used q.rp q.rn m)) := by
  refine (h.row.setN 2001 (stateL q.used q.rp q.rn m) (by rw [stateL_len]; omega)).cells fun k hk => ?_
  have hl := stateL_len q.used q.rp q.rn m
  by_cases h1 : 2001 ≤ k ∧ k < 4018
  · obtain ⟨j, rfl⟩ : ∃ j, k = 2001 + j := ⟨k - 2001, by omega⟩
    exact over_in _ _ _ (stateL_get (p.back q) bd m (by omega))
  · rw [over_out _ _ _ (by omega)]
    unfold cellOf
    by_cases a0 : k = 0
    · rw [if_pos a0, if_pos a0]
    rw [if_neg a0, if_neg a0]
    by_cases a1 : k < 2001
    · rw [if_pos a1, if_pos a1]; rfl
    rw [if_neg a1, if_neg a1, if_neg (show ¬ k < 4001 by omega), if_neg (show ¬ k < 4001 by omega), if_neg (show ¬ k < 4017 by omega), if_neg (show ¬ k < 4017 by omega), if_neg (show ¬ k = 4017 by omega), if_neg (show ¬ k = 4017 by omega)]; rfl

set_option maxRecDepth 100000 in
set_option maxHeartbeats 400000 in
theorem back_yes (h : PagerIs bp bd bm n p w) (hd : p.down = false) (q : Pg) (mb n' : Nat) (hS : Sheets mb n' q.chg w) (hmb : mb ≠ bp) :
    Calls Try.prog 12 #[.pointer (some ⟨bp, 0, none⟩), .agg (markL q.used q.rp q.rn mb p.commits).toArray] w fun e w' => e = .returned .nilIface ∧ (∃ bm', w.heap.size ≤ bm' ∧ PagerIs bp bd bm' n' (p.back q) w') ∧ Sheets mb n' q.chg w' ∧ Only (fun b => b = bp) w w' := by
  have HP : Hid (PagerIs bp bd bm n p w) := h
  have HS : Hid (Sheets mb n' q.chg w) := hS
  obtain ⟨M, hM⟩ : ∃ M, markL q.used q.rp q.rn mb p.commits = M := ⟨_, rfl⟩
  obtain ⟨L, hL⟩ : ∃ L, stateL q.used q.rp q.rn mb = L := ⟨_, rfl⟩
  have hML : M = L ++ [.int .i64 p.commits] := by rw [← hM, ← hL]; rfl
  have lL : L.length = 2017 := by rw [← hL, stateL_len]
  have sL : (Try.prog.info? 42).map (·.size) = some L.length := by rw [lL]; exact size46
  rw [hM]
  have hb : Below w.heap.size w (w.alloc (.cells M.toArray 44)) := (Below.refl _ _).alloc (Nat.le_refl _) _
  have hn : (w.alloc (.cells M.toArray 44)).heap[w.heap.size]? = some (.cells M.toArray 44) := heap_alloc_new w _
  have q1 : (w.alloc (.cells M.toArray 44)).cell? ⟨w.heap.size, 2017, none⟩ = some (.int .i64 p.commits) := by
    rw [cell_of_row _ _ _ _ _ _ hn, hML]
    simp [lL]
  have hC := h.cells.block (hb.block _ h.lt)
  have q2 := hC.cell 4018 (by omega)
  have q3 := hC.cell 4019 (by omega)
  rw [cellOf_commits] at q2
  rw [cellOf_down, hd] at q3
  have HR0 : Hid ((w.alloc (.cells M.toArray 44)).rangeAt w.heap.size 0 L) := fun j v hj => by
    have hl := (List.getElem?_eq_some_iff.1 hj).1
    rw [Nat.zero_add, cell_of_row _ _ _ _ _ _ hn, hML]
    have : (L ++ [Value.int .i64 p.commits])[j]? = some v := by rw [List.getElem?_append_left hl]; exact hj
    simpa using this
  have HB : Hid _ := hb
  have HL : Hid (stateL q.used q.rp q.rn mb = L) := hL
  clear hC hn h hS hb hML hM hL
  go_enter Try.func12, Try.ntmps12
  go_wp2
  go_quiet (fail)
  obtain ⟨wx, hwx⟩ : ∃ wx, (w.alloc (.cells M.toArray 44)).drewN nq = wx := ⟨_, rfl⟩
  rw [hwx]
  have HBx : Hid (Below w.heap.size w wx) := by rw [← hwx]; exact HB.out.trans ⟨rfl, rfl, rfl, Nat.le_refl _, fun _ _ => rfl⟩
  have HRx : Hid (wx.rangeAt w.heap.size 0 L) := by rw [← hwx]; exact HR0.out
  clear hwx HR0 HB q1 q2 q3
  go_wp2_with (refine wpList_load_mid rfl 42 _ rfl w.heap.size 0 rfl L _ HRx.out Try.underlying42 rfl sL ?_)
  rw [← HL.out]
  refine (clone_state (HS.out.block (HBx.out.block _ HS.out.lt)) q.used q.rp q.rn).mono ?_
  rintro _ w2 ⟨bm', rfl, hbm, hs2, hb2⟩
  have hB2 : Below w.heap.size w w2 := HBx.out.trans (hb2.mono HBx.out.size)
  have hc2 := HP.out.cells.block (hB2.block _ HP.out.lt)
  obtain ⟨R, hR⟩ : ∃ R, stateL q.used q.rp q.rn bm' = R := ⟨_, rfl⟩
  rw [hR]
  have lR : R.length = 2017 := by rw [← hR, stateL_len]
  have sR : (Try.prog.info? 42).map (·.size) = some R.toArray.size := by rw [List.size_toArray, lR]; exact size46
  have oR := all_oneCell_toArray (show ∀ v ∈ R, v.oneCell' = true by rw [← hR]; exact stateL_one _ _ _ _)
  have T2 : Hid (w2.there bp 2001 R.toArray.size) := hc2.there 2001 _ (by rw [List.size_toArray, lR]; omega)
  have hbp := HP.out.lt
  have hle := HBx.out.size
  have HC3 : Hid (Cells bp bd bm' (p.back q) (w2.setCells bp 2001 R)) := by rw [← hR]; exact hc2.setState
  have ho := Only.setCells bp R 2001 w2
  have HS3 : Hid (Sheets bm' n' q.chg (w2.setCells bp 2001 R)) := hs2.only ho (fun e => by omega)
  have HS4 : Hid (Sheets mb n' q.chg (w2.setCells bp 2001 R)) := (HS.out.block (hB2.block _ HS.out.lt)).only ho hmb
  have HO : Hid (Only (fun b => b = bp) w (w2.setCells bp 2001 R)) := (Only.of_below hB2).trans ho (fun _ h => .inl h)
  have hbm2 : w.heap.size ≤ bm' := by omega
  clear hs2 hb2 hB2 hc2 ho hR lR
  go_wp2_with (refine wpList_store_mid rfl 42 _ _ rfl bp 2001 R.toArray rfl rfl T2.out sR oR ?_)
  go_ret
  exact ⟨rfl, ⟨bm', hbm2, HC3.out, HS3.out⟩, HS4.out, HO.out⟩
end
end Go.Proofs.Ytjcddeoihjppaaa
namespace Go.Proofs.Ytjcddeoihjppaaa
open Go.RowKit Go.Maps Go.Shelf

/-- a page of bytes in memory -/
structure BRow (B : Nat) (g : Nat → Nat) (w : World) : Prop where
  cell : ∀ j, j < 1024 → w.cell? ⟨B, j, none⟩ = some (.int .u8 (g j))
  free : ∀ j, w.frozen? ⟨B, j, none⟩ = false
  small : ∀ j, g j < 256
theorem BRow.lt {B : Nat} {g : Nat → Nat} {w : World} (h : BRow B g w) : B < w.heap.size := World.block_lt_of_cell? w _ (h.cell 0 (by omega))
theorem BRow.block {B : Nat} {g : Nat → Nat} {w w' : World} (h : BRow B g w) (hb : w'.heap[B]? = w.heap[B]?) : BRow B g w' :=
  ⟨fun k hk => (World.cell?_of_block hb).trans (h.cell k hk), fun k => (World.frozen?_of_block (a := ⟨B, k, none⟩) hb).trans (h.free k), h.small⟩
theorem BRow.set {B : Nat} {g : Nat → Nat} {w : World} (h : BRow B g w) (o : Nat) (ho : o < 1024) (x : Nat) (hx : x < 256) : BRow B (fun j => if j = o then x else g j) (w.setCell ⟨B, o, none⟩ (.int .u8 x)) := by
  refine ⟨fun j hj => ?_, fun j => by rw [World.frozen?_setCell]; exact h.free j, fun j => ?_⟩
  · by_cases e : j = o
    · subst e
      rw [World.cell?_setCell_same _ _ _ (h.cell j hj), if_pos rfl]
    · rw [World.cell?_setCell_other _ _ _ _ (fun e' => e (by injection e' with e1 e2; omega)), h.cell j hj, if_neg e]
  · show (if j = o then x else g j) < 256
    split
    · exact hx
    · exact h.small j

theorem or_bit2 : ∀ (v : Fin 256) (i : Fin 8), bits BinOp.or IntKind.u8 (v.val : Int) (2 ^ i.val % 256) = ((v.val ||| 2 ^ i.val : Nat) : Int) ∧ (v.val ||| 2 ^ i.val) < 256 := by decide +kernel
theorem or_at (v : Nat) (hv : v < 256) (i : Nat) (hi : i < 8) : bits BinOp.or IntKind.u8 (v : Int) (2 ^ i % 256) = ((v ||| 2 ^ i : Nat) : Int) ∧ (v ||| 2 ^ i) < 256 := or_bit2 ⟨v, hv⟩ ⟨i, hi⟩

set_option maxRecDepth 100000 in
set_option maxHeartbeats 400000 in
theorem writeFlags_any (B o m c : Nat) (g : Nat → Nat) (f : Nat → Bool) (w : World) (h : BRow B g w) (ho : o + 250 ≤ 1024) (hm : 250 ≤ m) (hm2 : m ≤ 1024) (hz : ∀ i, i < 250 → g (o + i) = 0) :
    Calls Try.prog 102 #[.slice (some ⟨B, o, none⟩) m c, .agg (flags f).toArray] w fun e w' => e = .returned (.tuple #[]) ∧ (∃ g', BRow B g' w' ∧ (∀ j, j < o ∨ o + 250 ≤ j → g' j = g j) ∧ ∀ i t, i < 250 → t < 8 → (g' (o + i)).testBit t = f (8 * i + t)) ∧ Only (fun b => b = B) w w' := by
  have HG : Hid (BRow B g w) := h
  have hlt := h.lt
  obtain ⟨F, hF⟩ : ∃ F, flags f = F := ⟨_, rfl⟩
  have sF : (Try.prog.info? 36).map (·.size) = some F.length := by rw [← hF]; exact size_flags _
  have gF : ∀ j, j < 2000 → F[j]? = some (.bool (f j)) := fun j hj => by rw [← hF]; exact flags_get _ hj
  rw [hF]
  have hn : (w.alloc (.cells F.toArray 36)).heap[w.heap.size]? = some (.cells F.toArray 36) := heap_alloc_new w _
  have HR : Hid ((w.alloc (.cells F.toArray 36)).rangeAt w.heap.size 0 F) := fun j v hj => by
    rw [Nat.zero_add, cell_of_row _ _ _ _ _ _ hn]; simpa using hj
  have HB0 : Hid (BRow B g (w.alloc (.cells F.toArray 36))) := h.block (Below.block ((Below.refl _ w).alloc (Nat.le_refl _) _) _ hlt)
  have HO0 : Hid (Only (fun b => b = B) w (w.alloc (.cells F.toArray 36))) := Only.of_below ((Below.refl _ w).alloc (Nat.le_refl _) _)
  clear hF h hn
  go_enter Try.func102, Try.ntmps102
  go_wp2_with (refine wpList_load_mid rfl 36 _ rfl w.heap.size 0 rfl F _ HR.out Try.underlying36 rfl sF ?_)
  go_loopw [7] (fun i wr => ∃ k : Nat, k ≤ 2000 ∧ i = .int .i64 k ∧ Hid (∃ g', BRow B g' wr ∧ (∀ j, j < o ∨ o + 250 ≤ j → g' j = g j) ∧ ∀ i t, i < 250 → t < 8 → (g' (o + i)).testBit t = (decide (8 * i + t < k) && f (8 * i + t))) ∧ Hid (Only (fun b => b = B) w wr)) (fun i _ => 2000 - (intOf i).toNat)
  case atStart => exact ⟨0, by omega, rfl, ⟨g, HB0.out, fun _ _ => rfl, fun i t hi ht => by rw [hz i hi]; simp⟩, HO0.out⟩
  case round =>
    obtain ⟨k, hk, rfl, ⟨g', HG', hout, hbit⟩, HO⟩ := hrel
    by_cases hlt : k < 2000
    · have h1 : (k : Int) < 2000 := by omega
      cases hf : f k
      · have hx := run_index_bits F k hlt false (by rw [gF k hlt, hf]) wr
        have HX : Hid _ := And.intro HG' (And.intro hout hbit)
        clear HG' hout hbit
        go_wp2
        go_roundw
        case rel => exact ⟨k + 1, by omega, by go_num, ⟨g', HX.out.1, HX.out.2.1, fun i t hi ht => by
            rw [HX.out.2.2 i t hi ht]
            by_cases e : 8 * i + t = k
            · rw [e, hf]; simp
            · congr 1; simp; omega⟩, HO.out⟩
        case measure => simp [intOf]; omega
      · have hx := run_index_bits F k hlt true (by rw [gF k hlt, hf]) wr
        have q := HG'.cell (o + k / 8) (by omega)
        have fr := HG'.free (o + k / 8)
        have HOr : Hid _ := or_at (g' (o + k / 8)) (HG'.small _) (k % 8) (by omega)
        have HX : Hid _ := And.intro HG' (And.intro hout hbit)
        clear HG' hout hbit
        have h2 : (k / 8 : Nat) < m := by omega
        have h3 : ((k / 8 : Nat) : Int) < (m : Int) := by omega
        go_wp2
        go_region
        go_wp2
        rw [HOr.out.1]
        go_roundw
        case rel =>
          refine ⟨k + 1, by omega, by go_num, ⟨fun j => if j = o + k / 8 then g' (o + k / 8) ||| 2 ^ (k % 8) else g' j, (HX.out.1.set (o + k / 8) (by omega) _ HOr.out.2).block rfl, fun j hj => ?_, fun i t hi ht => ?_⟩, (HO.out.trans (Only.set B _ _ wr) (fun _ h => .inl h)).drew⟩
          · show (if j = o + k / 8 then _ else g' j) = g j
            rw [if_neg (by omega)]
            exact HX.out.2.1 j hj
          · show (if o + i = o + k / 8 then g' (o + k / 8) ||| 2 ^ (k % 8) else g' (o + i)).testBit t = _
            by_cases e : i = k / 8
            · rw [if_pos (by omega), Nat.testBit_or, ← e, HX.out.2.2 i t hi ht, Nat.testBit_two_pow]
              by_cases e2 : k % 8 = t
              · have e3 : 8 * i + t = k := by omega
                rw [e3, hf]
                simp [e2]
              · rw [decide_eq_false e2, Bool.or_false]
                congr 1
                simp
                omega
            · rw [if_neg (by omega), HX.out.2.2 i t hi ht]
              congr 1
              simp
              omega
        case measure => simp [intOf]; omega
    · obtain rfl : k = 2000 := by omega
      have HX : Hid _ := And.intro HG' (And.intro hout hbit)
      clear HG' hout hbit
      go_wp2
      go_end0
      exact ⟨rfl, ⟨g', HX.out.1, HX.out.2.1, fun i t hi ht => by rw [HX.out.2.2 i t hi ht, decide_eq_true (by omega), Bool.true_and]⟩, HO.out⟩
end Go.Proofs.Ytjcddeoihjppaaa
namespace Go.Proofs.Ytjcddeoihjppaaa
open Go.RowKit Go.Maps Go.Shelf

set_option maxHeartbeats 400000 in
theorem writeNumber_any (B o m c : Nat) (g : Nat → Nat) (w : World) (h : BRow B g w) (hm : 2 ≤ m) (ho : o + 1 < 1024) (n : Nat) (hn : n < 65536) :
    Calls Try.prog 103 #[.slice (some ⟨B, o, none⟩) m c, .int .i64 n] w fun e w' => e = .returned (.tuple #[]) ∧ BRow B (fun j => if j = o + 1 then n % 256 else if j = o then n / 256 else g j) w' ∧ Only (fun b => b = B) w w' := by
  have h0 : (0 : Int) < (m : Int) := by omega
  have h1 : (1 : Int) < (m : Int) := by omega
  have h0' : 0 < m := by omega
  have h1' : 1 < m := by omega
  have r1 := h.set o (by omega) (n / 256) (by omega)
  have q0 := h.cell o (by omega)
  have f0 := h.free o
  have q1 := r1.cell (o + 1) (by omega)
  have f1 := r1.free (o + 1)
  have r2 := r1.set (o + 1) ho (n % 256) (by omega)
  have e1 : ((n / 256 : Nat) : Int) = (n : Int) / 256 := by omega
  have e2 : ((n % 256 : Nat) : Int) = (n : Int) % 256 := by omega
  rw [e1] at q1 f1 r2
  rw [e2] at r2
  have HR : Hid _ := r2
  clear r1 r2 h e1 e2
  go_enter Try.func103, Try.ntmps103
  go_wp2
  go_end0
  exact ⟨rfl, HR.out, (Only.set B _ _ w).trans (Only.set B _ _ _) (fun _ h => .inl h)⟩

theorem info_parts {α β γ : Type} {o : Option TypeInfo} {f : TypeInfo → α} {g : TypeInfo → β} {k : TypeInfo → γ} {a : α} {b : β} {c : γ} (h : o.map (fun i => (f i, g i, k i)) = some (a, b, c)) : ∃ i, o = some i ∧ f i = a ∧ g i = b ∧ k i = c := by
  cases o with
  | none => cases h
  | some i => simp at h; exact ⟨i, rfl, h.1, h.2.1, h.2.2⟩
/-- a page of noughts, made -/
theorem made_page (w : World) : ∃ w', (Instr.makeSlice 54 (.int .i64 1024) (.int .i64 1024)).run Try.prog w = .ok (.slice (some ⟨w.heap.size, 0, none⟩) 1024 1024) w' ∧ Below w.heap.size w w' ∧ BRow w.heap.size (fun _ => 0) w' := by
  obtain ⟨i0, hi, hz0, hz1, hz2⟩ := info_parts info5
  have h := run_make (P := Try.prog) w 54 5 i0 (.int .u8 0) Try.underlying54 hi hz0 .i64 .i64 1024 1024 (by omega) (Int.le_refl _) (by rw [hz2]; omega) (by omega)
  rw [hz1] at h
  have hn' := heap_alloc_new w (.cells (madeCells (Value.int .u8 0).cells 1024) 5)
  refine ⟨_, h, (Below.refl _ w).alloc (Nat.le_refl _) _, fun j hj => ?_, fun j => ?_, fun j => by decide⟩
  · simp only [World.cell?, Nat.mul_one, show (1024 : Int).toNat = 1024 from rfl, hn']
    simp [madeCells, hj, Value.cells, Nat.mod_one]
  · simp only [World.frozen?, Nat.mul_one, show (1024 : Int).toNat = 1024 from rfl, hn']
    simp
/-- a page's text -/
def bytesOf (g : Nat → Nat) : List UInt8 := (List.range 1024).map fun j => UInt8.ofNat (g j)
theorem bytesOf_len (g : Nat → Nat) : (bytesOf g).length = 1024 := by simp [bytesOf]
theorem bytesOf_getD (g : Nat → Nat) {j : Nat} (hj : j < 1024) : (bytesOf g).getD j 0 = UInt8.ofNat (g j) := by
  simp [bytesOf, List.getD_eq_getElem?_getD, List.getElem?_map, List.getElem?_range hj]
theorem BRow.text {B : Nat} {g : Nat → Nat} {w : World} (h : BRow B g w) : (convert 54 9 (.slice (some ⟨B, 0, none⟩) 1024 1024)).run Try.prog w = .ok (.string ⟨(bytesOf g).toArray⟩) w := by
  have := run_convert_bytes_back (P := Try.prog) w 54 9 5 ⟨B, 0, none⟩ 1024 (bytesOf g) Try.underlying54 Try.underlying5 Try.underlying9 (fun j hj => by
    rw [bytesOf_len] at hj
    rw [Addr.add_lit, Nat.zero_add, h.cell j hj]
    have hs := h.small j
    simp [bytesOf, Nat.mod_eq_of_lt hs])
  rw [bytesOf_len] at this
  exact this

set_option maxRecDepth 100000 in
set_option maxHeartbeats 400000 in
theorem writeTurn_any (up : Bool) (w : World) : Calls Try.prog 64 #[.bool up] w fun e w' => ∃ g : Nat → Nat, e = .returned (.string ⟨(bytesOf g).toArray⟩) ∧ (g 0 = if up then 1 else 0) ∧ (∀ j, 0 < j → g j = 0) ∧ Below w.heap.size w w' := by
  obtain ⟨w1, hcv, hb1, hr⟩ := made_page w
  cases up
  · have ht := hr.text
    have HB : Hid _ := hb1
    clear hr hb1
    go_enter Try.func64, Try.ntmps64
    go_wp2
    go_ret
    exact ⟨_, rfl, rfl, fun _ _ => rfl, HB.out⟩
  · have q0 := hr.cell 0 (by omega)
    have f0 := hr.free 0
    have r2 := hr.set 0 (by omega) 1 (by omega)
    have r2 : BRow w.heap.size (fun j => if j = 0 then 1 else 0) (w1.setCell ⟨w.heap.size, 0, none⟩ (.int .u8 1)) := r2
    have ht := r2.text
    have HB : Hid (Below w.heap.size w (w1.setCell ⟨w.heap.size, 0, none⟩ (.int .u8 1))) := hb1.setCell (p := ⟨w.heap.size, 0, none⟩) (Nat.le_refl _) _
    clear hr hb1 r2
    go_enter Try.func64, Try.ntmps64
    go_wp2
    go_ret
    exact ⟨_, rfl, by simp, fun j hj => by show (if j = 0 then 1 else 0) = 0; rw [if_neg (by omega)], HB.out⟩
end Go.Proofs.Ytjcddeoihjppaaa
namespace Go.Proofs.Ytjcddeoihjppaaa
open Go.RowKit Go.Maps Go.Shelf

/-- what is known within writeHead: three rows that were laid, and the page -/
structure W4 (w wr : World) (F G R : List Value) (g : Nat → Nat) : Prop where
  used : wr.rangeAt w.heap.size 0 F
  upper : wr.rangeAt (w.heap.size + 1) 0 G
  roots : wr.rangeAt (w.heap.size + 1 + 1) 0 R
  page : BRow (w.heap.size + 1 + 1 + 1) g wr
  below : Below w.heap.size w wr
section
variable {w wr wx : World} {F G R : List Value} {g g' : Nat → Nat}
theorem W4.size (h : W4 w wr F G R g) : w.heap.size + 4 ≤ wr.heap.size := by have := h.page.lt; omega
theorem rangeAt_block {B o : Nat} {L : List Value} {w w' : World} (h : w.rangeAt B o L) (hb : w'.heap[B]? = w.heap[B]?) : w'.rangeAt B o L := fun j v hj => by
  rw [World.cell?_of_block (a := ⟨B, o + j, none⟩) hb]; exact h j v hj
theorem W4.later (h : W4 w wr F G R g) (hb : Below wr.heap.size wr wx) : W4 w wx F G R g := by
  have := h.size
  exact ⟨rangeAt_block h.used (hb.block _ (by omega)), rangeAt_block h.upper (hb.block _ (by omega)), rangeAt_block h.roots (hb.block _ (by omega)), h.page.block (hb.block _ (by omega)), h.below.trans (hb.mono (by omega))⟩
theorem W4.turn (h : W4 w wr F G R g) (ho : Only (fun b => b = w.heap.size + 1 + 1 + 1) wr wx) (hp : BRow (w.heap.size + 1 + 1 + 1) g' wx) : W4 w wx F G R g' := by
  have := h.size
  refine ⟨rangeAt_block h.used (ho.block _ (by omega) (by omega)), rangeAt_block h.upper (ho.block _ (by omega) (by omega)), rangeAt_block h.roots (ho.block _ (by omega) (by omega)), hp, Only.below h.below ho (by omega) (fun i hi => by omega)⟩
theorem W4.drew (h : W4 w wr F G R g) : W4 w wr.drew F G R g := ⟨rangeAt_block h.used rfl, rangeAt_block h.upper rfl, rangeAt_block h.roots rfl, h.page.block rfl, h.below.drew⟩
end
theorem W4.start (w : World) (F G R : List Value) : ∃ w1, (Instr.makeSlice 54 (.int .i64 1024) (.int .i64 1024)).run Try.prog (((w.alloc (.cells F.toArray 36)).alloc (.cells G.toArray 36)).alloc (.cells R.toArray 39)) = .ok (.slice (some ⟨w.heap.size + 1 + 1 + 1, 0, none⟩) 1024 1024) w1 ∧ W4 w w1 F G R (fun _ => 0) := by
  have row : ∀ (B : Nat) (L : List Value) (t : TypeId) (wz : World), wz.heap[B]? = some (.cells L.toArray t) → wz.rangeAt B 0 L := fun B L t wz hB j v hj => by
    rw [Nat.zero_add, cell_of_row _ _ _ _ _ _ hB]; simpa using hj
  have s1 : (w.alloc (.cells F.toArray 36)).heap.size = w.heap.size + 1 := World.size_alloc _ _
  have s2 : ((w.alloc (.cells F.toArray 36)).alloc (.cells G.toArray 36)).heap.size = w.heap.size + 1 + 1 := by rw [World.size_alloc, s1]
  have s3 : (((w.alloc (.cells F.toArray 36)).alloc (.cells G.toArray 36)).alloc (.cells R.toArray 39)).heap.size = w.heap.size + 1 + 1 + 1 := by rw [World.size_alloc, s2]
  have r1 := row _ F 36 _ (heap_alloc_new w (.cells F.toArray 36))
  have r2 := row _ G 36 _ (heap_alloc_new (w.alloc (.cells F.toArray 36)) (.cells G.toArray 36))
  have r3 := row _ R 39 _ (heap_alloc_new ((w.alloc (.cells F.toArray 36)).alloc (.cells G.toArray 36)) (.cells R.toArray 39))
  rw [s1] at r2
  rw [s2] at r3
  have b1 : Below w.heap.size w (w.alloc (.cells F.toArray 36)) := (Below.refl _ _).alloc (Nat.le_refl _) _
  have b2 : Below (w.heap.size + 1) (w.alloc (.cells F.toArray 36)) ((w.alloc (.cells F.toArray 36)).alloc (.cells G.toArray 36)) := by rw [← s1]; exact (Below.refl _ _).alloc (Nat.le_refl _) _
  have b3 : Below (w.heap.size + 1 + 1) ((w.alloc (.cells F.toArray 36)).alloc (.cells G.toArray 36)) (((w.alloc (.cells F.toArray 36)).alloc (.cells G.toArray 36)).alloc (.cells R.toArray 39)) := by rw [← s2]; exact (Below.refl _ _).alloc (Nat.le_refl _) _
  obtain ⟨w1, h1, h2, h3⟩ := made_page (((w.alloc (.cells F.toArray 36)).alloc (.cells G.toArray 36)).alloc (.cells R.toArray 39))
  rw [s3] at h1 h2 h3
  refine ⟨w1, h1, ?_, ?_, ?_, h3, b1.trans ((b2.mono (by omega)).trans ((b3.mono (by omega)).trans (h2.mono (by omega))))⟩
  · exact rangeAt_block (rangeAt_block (rangeAt_block r1 (b2.block _ (by omega))) (b3.block _ (by omega))) (h2.block _ (by omega))
  · exact rangeAt_block (rangeAt_block r2 (b3.block _ (by omega))) (h2.block _ (by omega))
  · exact rangeAt_block r3 (h2.block _ (by omega))

theorem root_part (rp rn : Nat → Int) : ∀ (k : Nat), k < 8 → (rootsL rp rn).toArray.extract (k * 2) (k * 2 + 2) = #[Value.int .i64 (rp k), Value.int .i64 (rn k)]
  | 0, _ => rfl
  | 1, _ => rfl
  | 2, _ => rfl
  | 3, _ => rfl
  | 4, _ => rfl
  | 5, _ => rfl
  | 6, _ => rfl
  | 7, _ => rfl
  | k + 8, h => absurd h (by omega)
/-- a root out of a row of them -/
theorem run_index_root (A : Array Value) (x y : Int) (k : Nat) (hk : k < 8) (he : A.extract (k * 2) (k * 2 + 2) = #[.int .i64 x, .int .i64 y]) (w : World) : (Instr.index 39 (.agg A) (.int .i64 k)).run Try.prog w = .ok (.agg #[.int .i64 x, .int .i64 y]) w := by
  simp [Instr.index, run_underlying Try.underlying39, asIntOf, part, Try.sizeOf38, Try.isAgg38, go_sem]
  rw [if_pos hk, he]
end Go.Proofs.Ytjcddeoihjppaaa
namespace Go.Proofs.Ytjcddeoihjppaaa
open Go.RowKit Go.Maps Go.Shelf

/-- what the bytes of a head say -/
structure IsHead (used upper : Nat → Bool) (rp rn : Nat → Int) (g : Nat → Nat) : Prop where
  used : ∀ k, k < 2000 → (g (k / 8)).testBit (k % 8) = used k
  upper : ∀ k, k < 2000 → (g (250 + k / 8)).testBit (k % 8) = upper k
  page : ∀ i, i < 8 → ((g (500 + 4 * i) * 256 + g (501 + 4 * i) : Nat) : Int) = rp i
  note : ∀ i, i < 8 → ((g (502 + 4 * i) * 256 + g (503 + 4 * i) : Nat) : Int) = rn i

set_option maxRecDepth 100000 in
set_option maxHeartbeats 3200000 in
theorem writeHead_any (used upper : Nat → Bool) (rp rn : Nat → Int) (hp : ∀ i, i < 8 → 0 ≤ rp i ∧ rp i < 65536) (hn : ∀ i, i < 8 → 0 ≤ rn i ∧ rn i < 65536) (w : World) :
    Calls Try.prog 63 #[.agg (flags used).toArray, .agg (flags upper).toArray, .agg (rootsL rp rn).toArray] w fun e w' => ∃ g : Nat → Nat, e = .returned (.string ⟨(bytesOf g).toArray⟩) ∧ IsHead used upper rp rn g ∧ (∀ j, g j < 256) ∧ Below w.heap.size w w' := by
  obtain ⟨F, hF⟩ : ∃ F, flags used = F := ⟨_, rfl⟩
  obtain ⟨G, hG⟩ : ∃ G, flags upper = G := ⟨_, rfl⟩
  obtain ⟨R, hR⟩ : ∃ R, rootsL rp rn = R := ⟨_, rfl⟩
  obtain ⟨w1, hmk, hw1⟩ := W4.start w F G R
  have sF : (Try.prog.info? 36).map (·.size) = some F.length := by rw [← hF]; exact size_flags _
  have sG : (Try.prog.info? 36).map (·.size) = some G.length := by rw [← hG]; exact size_flags _
  have sR : (Try.prog.info? 39).map (·.size) = some R.length := by rw [← hR]; exact size_roots _ _
  have HI : Hid (∀ k, k < 8 → R.toArray.extract (k * 2) (k * 2 + 2) = #[.int .i64 (rp k), .int .i64 (rn k)]) := by rw [← hR]; exact root_part rp rn
  have H1 : Hid (W4 w w1 F G R (fun _ => 0)) := hw1
  rw [hF, hG, hR]
  have HF : Hid (flags used = F ∧ flags upper = G) := ⟨hF, hG⟩
  clear hF hG hR hw1
  go_enter Try.func63, Try.ntmps63
  go_wp2_with fail
  refine wp_region_held_drew (S := fun wx => ∃ g, W4 w wx F G R g) (by kernel_rfl) ⟨_, H1.out.drew⟩ ?_
  intro g0
  refine wpAnyH_take (i := 0) (v := .slice (some ⟨w.heap.size + 1 + 1 + 1, 0, none⟩) 1024 1024) rfl (by kernel_rfl) (by kernel_rfl) (by kernel_rfl) (fun _ _ _ h => h) (.inl ⟨by rfl, fun wx _ => by go_simp⟩) g0 ?_
  simp only [Act.put, List.setIfInBounds_toArray]
  refine wpAnyH_take (i := 1) (v := .slice (some ⟨w.heap.size + 1 + 1 + 1, 0, none⟩) 250 1024) rfl (by kernel_rfl) (by kernel_rfl) (by kernel_rfl) (fun _ _ _ h => h) (.inl ⟨by rfl, fun wx _ => by go_simp⟩) g0 ?_
  simp only [Act.put]
  refine wpAnyH_take (i := 2) (v := .agg F.toArray) rfl (by kernel_rfl) (by kernel_rfl) (by kernel_rfl) (fun _ _ _ h => h) (yieldsIf_load_mid (by rfl) 36 _ rfl _ 0 rfl F _ (fun wx h => h.elim (fun _ h => h.used)) Try.underlying36 rfl sF) g0 ?_
  simp only [Act.put]
  refine wpAnyH_ready (rs := [3]) (by kernel_rfl) (by decide) (AllReadyH.cons rfl (fun K hK => ?_) AllReadyH.nil)
  rw [if_pos (by rfl)]
  go_simp
  have hc := writeFlags_any (w.heap.size + 1 + 1 + 1) 0 250 1024 (fun _ => 0) used w1.drew H1.out.drew.page (by omega) (by omega) (by omega) (fun _ _ => rfl)
  rw [HF.out.1] at hc
  refine hc.mono ?_
  rintro _ w2 ⟨rfl, ⟨g1, hg1, ho1, hb1⟩, hO1⟩
  have H2 : Hid (W4 w w2 F G R g1) := H1.out.drew.turn hO1 hg1
  clear hc hg1 hO1
  refine hK.out _ _ ⟨_, H2.out⟩ (fun _ => ?_)
  clear hK K
  refine wpAnyH_done (by kernel_rfl) ?_ _
  clear H1 hmk g0
  go_wp2_with fail
  refine wp_region_held_drew (S := fun wx => ∃ g, W4 w wx F G R g) (by kernel_rfl) ⟨_, H2.out.drew⟩ ?_
  intro g0
  refine wpAnyH_take (i := 0) (v := .slice (some ⟨w.heap.size + 1 + 1 + 1, 0, none⟩) 1024 1024) rfl (by kernel_rfl) (by kernel_rfl) (by kernel_rfl) (fun _ _ _ h => h) (.inl ⟨by rfl, fun wx _ => by go_simp⟩) g0 ?_
  simp only [Act.put, List.setIfInBounds_toArray]
  refine wpAnyH_take (i := 1) (v := .slice (some ⟨w.heap.size + 1 + 1 + 1, 250, none⟩) 774 774) rfl (by kernel_rfl) (by kernel_rfl) (by kernel_rfl) (fun _ _ _ h => h) (.inl ⟨by rfl, fun wx _ => by go_simp⟩) g0 ?_
  simp only [Act.put]
  refine wpAnyH_take (i := 2) (v := .agg G.toArray) rfl (by kernel_rfl) (by kernel_rfl) (by kernel_rfl) (fun _ _ _ h => h) (yieldsIf_load_mid (by rfl) 36 _ rfl _ 0 rfl G _ (fun wx h => h.elim (fun _ h => h.upper)) Try.underlying36 rfl sG) g0 ?_
  simp only [Act.put]
  refine wpAnyH_ready (rs := [3]) (by kernel_rfl) (by decide) (AllReadyH.cons rfl (fun K hK => ?_) AllReadyH.nil)
  rw [if_pos (by rfl)]
  go_simp
  have hc := writeFlags_any (w.heap.size + 1 + 1 + 1) 250 774 774 g1 upper w2.drew H2.out.drew.page (by omega) (by omega) (by omega) (fun i _ => ho1 (250 + i) (by omega))
  rw [HF.out.2] at hc
  refine hc.mono ?_
  rintro _ w3 ⟨rfl, ⟨g2, hg2, ho2, hb2⟩, hO2⟩
  have H3 : Hid (W4 w w3 F G R g2) := H2.out.drew.turn hO2 hg2
  clear hc hg2 hO2
  refine hK.out _ _ ⟨_, H3.out⟩ (fun _ => ?_)
  clear hK K
  refine wpAnyH_done (by kernel_rfl) ?_ _
  clear H2 g0
  go_wp2_with (refine wpList_load_mid rfl 39 _ rfl (w.heap.size + 1 + 1) 0 rfl R _ H3.out.roots Try.underlying39 rfl sR ?_)
  go_loopw [20] (fun i wr => ∃ k : Nat, k ≤ 8 ∧ i = .int .i64 k ∧ Hid (∃ g, W4 w wr F G R g ∧ (∀ j, j < 500 → g j = g2 j) ∧ ∀ i, i < k → ((g (500 + 4 * i) * 256 + g (501 + 4 * i) : Nat) : Int) = rp i ∧ ((g (502 + 4 * i) * 256 + g (503 + 4 * i) : Nat) : Int) = rn i)) (fun i _ => 8 - (intOf i).toNat)
  case atStart => exact ⟨0, by omega, rfl, g2, H3.out, fun _ _ => rfl, fun i hi => by omega⟩
  case round =>
    obtain ⟨k, hk, rfl, g, HW, hlow, hnum⟩ := hrel
    have HN : Hid _ := And.intro hlow hnum
    have HW : Hid (W4 w wr F G R g) := HW
    clear hlow hnum
    by_cases hlt : k < 8
    · have h1 : (k : Int) < 8 := by omega
      obtain ⟨a, ha⟩ : ∃ a : Nat, rp k = a := ⟨(rp k).toNat, by have := hp k hlt; omega⟩
      obtain ⟨b, hb⟩ : ∃ b : Nat, rn k = b := ⟨(rn k).toNat, by have := hn k hlt; omega⟩
      have ha2 : a < 65536 := by have := hp k hlt; omega
      have hb2 : b < 65536 := by have := hn k hlt; omega
      have hx := run_index_root R.toArray a b k hlt (by rw [HI.out k hlt, ha, hb]) wr
      go_wp2_with fail
      clear hx
      have hn9 : (wr.alloc (.cells #[.int .i64 (a : Int), .int .i64 (b : Int)] 38)).heap[wr.heap.size]? = some (.cells #[.int .i64 (a : Int), .int .i64 (b : Int)] 38) := heap_alloc_new wr _
      obtain ⟨wb, hwb⟩ : ∃ wb, wr.alloc (.cells #[.int .i64 (a : Int), .int .i64 (b : Int)] 38) = wb := ⟨_, rfl⟩
      have hbb : Below wr.heap.size wr wb := by rw [← hwb]; exact (Below.refl _ _).alloc (Nat.le_refl _) _
      rw [hwb] at hn9
      rw [hwb]
      have HWb : Hid (W4 w wb F G R g) := HW.out.later hbb
      have c0 : wb.cell? ⟨wr.heap.size, 0, none⟩ = some (.int .i64 (a : Int)) := by rw [cell_of_row _ _ _ _ _ _ hn9]; rfl
      have c1 : wb.cell? ⟨wr.heap.size, 1, none⟩ = some (.int .i64 (b : Int)) := by rw [cell_of_row _ _ _ _ _ _ hn9]; rfl
      have hBs : wr.heap.size < wb.heap.size := by rw [← hwb, World.size_alloc]; omega
      have hB3 := HW.out.page.lt
      have HK : Hid (∀ wx, Only (fun i => i = w.heap.size + 1 + 1 + 1) wb wx → wx.cell? ⟨wr.heap.size, 0, none⟩ = some (.int .i64 (a : Int)) ∧ wx.cell? ⟨wr.heap.size, 1, none⟩ = some (.int .i64 (b : Int))) := fun wx hx =>
        ⟨by rw [hx.cell hBs (by omega)]; exact c0, by rw [hx.cell hBs (by omega)]; exact c1⟩
      have HB0 : Hid (Only (fun i => i = w.heap.size + 1 + 1 + 1) wb wb.drew) := (Only.refl _ wb).drew
      clear hwb hbb hn9 HW
      have g1 : (500 + 4 * (k : Int)) ≤ 1024 := by omega
      refine wp_region_held_drew (S := fun wx => wx.cell? ⟨wr.heap.size, 0, none⟩ = some (.int .i64 (a : Int)) ∧ wx.cell? ⟨wr.heap.size, 1, none⟩ = some (.int .i64 (b : Int))) (by kernel_rfl) (HK.out _ HB0.out) ?_
      intro g0
      refine wpAnyH_take (i := 0) (v := .slice (some ⟨w.heap.size + 1 + 1 + 1, 0, none⟩) 1024 1024) rfl (by kernel_rfl) (by kernel_rfl) (by kernel_rfl) (fun _ _ _ h => h) (.inl ⟨by rfl, fun wx _ => by go_simp⟩) g0 ?_
      simp only [Act.put, List.setIfInBounds_toArray]
      refine wpAnyH_take (i := 1) (v := .int .i64 k) rfl (by kernel_rfl) (by kernel_rfl) (by kernel_rfl) (fun _ _ _ h => h) (.inl ⟨by rfl, fun wx _ => by go_simp⟩) g0 ?_
      simp only [Act.put]
      refine wpAnyH_take (i := 4) (v := .pointer (some ⟨wr.heap.size, 0, none⟩)) rfl (by kernel_rfl) (by kernel_rfl) (by kernel_rfl) (fun _ _ _ h => h) (.inl ⟨by rfl, fun wx _ => by go_simp⟩) g0 ?_
      simp only [Act.put]
      refine wpAnyH_take (i := 5) (v := .int .i64 a) rfl (by kernel_rfl) (by kernel_rfl) (by kernel_rfl) (fun _ _ _ h => h) (.inl ⟨by rfl, fun wx h => by have h8 := h.1; go_simp⟩) g0 ?_
      simp only [Act.put]
      refine wpAnyH_ready (rs := [2]) (by kernel_rfl) (by decide) (AllReadyH.cons rfl (fun K hK => ?_) AllReadyH.nil)
      rw [if_pos (by rfl)]
      go_simp
      refine (rootAt_any k hlt _).mono ?_
      rintro _ wy ⟨rfl, hwy⟩
      subst wy
      refine hK.out _ _ g0 (fun _ => ?_)
      clear hK K
      refine wpAnyH_take (i := 3) (v := .slice (some ⟨w.heap.size + 1 + 1 + 1, 500 + 4 * k, none⟩) (1024 - (500 + 4 * k)) (1024 - (500 + 4 * k))) rfl (by kernel_rfl) (by kernel_rfl) (by kernel_rfl) (fun _ _ _ h => h) (.inl ⟨by rfl, fun wx _ => by go_simp; rw [if_pos (show (0 : Int) ≤ 500 + 4 * (k : Int) by omega), if_neg (show ¬ 1024 = (500 + 4 * (k : Int)).toNat by omega), show (500 + 4 * (k : Int)).toNat = 500 + 4 * k by omega]⟩) g0 ?_
      simp only [Act.put]
      refine wpAnyH_ready (rs := [6]) (by kernel_rfl) (by decide) (AllReadyH.cons rfl (fun K hK => ?_) AllReadyH.nil)
      rw [if_pos (by rfl)]
      go_simp
      refine (writeNumber_any (w.heap.size + 1 + 1 + 1) (500 + 4 * k) (1024 - (500 + 4 * k)) (1024 - (500 + 4 * k)) g wb.drew HWb.out.drew.page (by omega) (by omega) a ha2).mono ?_
      rintro _ wc ⟨rfl, hpg, hO⟩
      have HOc : Hid (Only (fun i => i = w.heap.size + 1 + 1 + 1) wb wc) := HB0.out.trans hO (fun _ h => .inl h)
      have HWc : Hid (W4 w wc F G R (fun j => if j = 500 + 4 * k + 1 then a % 256 else if j = 500 + 4 * k then a / 256 else g j)) := HWb.out.drew.turn hO hpg
      refine hK.out _ _ (HK.out _ HOc.out) (fun _ => ?_)
      clear hK K hpg hO g0
      refine wpAnyH_done (by kernel_rfl) ?_ _
      go_wp2_with fail
      have HBc : Hid (Only (fun i => i = w.heap.size + 1 + 1 + 1) wb wc.drew) := HOc.out.drew
      refine wp_region_held_drew (S := fun wx => wx.cell? ⟨wr.heap.size, 0, none⟩ = some (.int .i64 (a : Int)) ∧ wx.cell? ⟨wr.heap.size, 1, none⟩ = some (.int .i64 (b : Int))) (by kernel_rfl) (HK.out _ HBc.out) ?_
      intro g0
      refine wpAnyH_take (i := 0) (v := .slice (some ⟨w.heap.size + 1 + 1 + 1, 0, none⟩) 1024 1024) rfl (by kernel_rfl) (by kernel_rfl) (by kernel_rfl) (fun _ _ _ h => h) (.inl ⟨by rfl, fun wx _ => by go_simp⟩) g0 ?_
      simp only [Act.put, List.setIfInBounds_toArray]
      refine wpAnyH_take (i := 1) (v := .int .i64 k) rfl (by kernel_rfl) (by kernel_rfl) (by kernel_rfl) (fun _ _ _ h => h) (.inl ⟨by rfl, fun wx _ => by go_simp⟩) g0 ?_
      simp only [Act.put]
      refine wpAnyH_take (i := 5) (v := .pointer (some ⟨wr.heap.size, 1, none⟩)) rfl (by kernel_rfl) (by kernel_rfl) (by kernel_rfl) (fun _ _ _ h => h) (.inl ⟨by rfl, fun wx _ => by go_simp⟩) g0 ?_
      simp only [Act.put]
      refine wpAnyH_take (i := 6) (v := .int .i64 b) rfl (by kernel_rfl) (by kernel_rfl) (by kernel_rfl) (fun _ _ _ h => h) (.inl ⟨by rfl, fun wx h => by have h8 := h.2; go_simp⟩) g0 ?_
      simp only [Act.put]
      refine wpAnyH_ready (rs := [2]) (by kernel_rfl) (by decide) (AllReadyH.cons rfl (fun K hK => ?_) AllReadyH.nil)
      rw [if_pos (by rfl)]
      go_simp
      refine (rootAt_any k hlt _).mono ?_
      rintro _ wy ⟨rfl, hwy⟩
      subst wy
      refine hK.out _ _ g0 (fun _ => ?_)
      clear hK K
      refine wpAnyH_take (i := 3) (v := .int .i64 (500 + 4 * (k : Int) + 2)) rfl (by kernel_rfl) (by kernel_rfl) (by kernel_rfl) (fun _ _ _ h => h) (.inl ⟨by rfl, fun wx _ => by go_simp; exact wraps_i64 _ (by omega) (by omega)⟩) g0 ?_
      simp only [Act.put]
      refine wpAnyH_take (i := 4) (v := .slice (some ⟨w.heap.size + 1 + 1 + 1, 500 + 4 * k + 2, none⟩) (1022 - (500 + 4 * k)) (1022 - (500 + 4 * k))) rfl (by kernel_rfl) (by kernel_rfl) (by kernel_rfl) (fun _ _ _ h => h) (.inl ⟨by rfl, fun wx _ => by go_simp; rw [if_pos (show (0 : Int) ≤ 500 + 4 * (k : Int) + 2 ∧ 500 + 4 * (k : Int) + 2 ≤ 1024 by omega), if_neg (show ¬ 1024 = (500 + 4 * (k : Int) + 2).toNat by omega), show (500 + 4 * (k : Int) + 2).toNat = 500 + 4 * k + 2 by omega, show 1024 - (500 + 4 * k + 2) = 1022 - (500 + 4 * k) by omega]⟩) g0 ?_
      simp only [Act.put]
      refine wpAnyH_ready (rs := [7]) (by kernel_rfl) (by decide) (AllReadyH.cons rfl (fun K hK => ?_) AllReadyH.nil)
      rw [if_pos (by rfl)]
      go_simp
      refine (writeNumber_any (w.heap.size + 1 + 1 + 1) (500 + 4 * k + 2) (1022 - (500 + 4 * k)) (1022 - (500 + 4 * k)) _ wc.drew HWc.out.drew.page (by omega) (by omega) b hb2).mono ?_
      rintro _ wd ⟨rfl, hpg, hO⟩
      have HOd : Hid (Only (fun i => i = w.heap.size + 1 + 1 + 1) wb wd) := HBc.out.trans hO (fun _ h => .inl h)
      have HWd : Hid (W4 w wd F G R _) := HWc.out.drew.turn hO hpg
      refine hK.out _ _ (HK.out _ HOd.out) (fun _ => ?_)
      clear hK K hpg hO g0
      refine wpAnyH_done (by kernel_rfl) ?_ _
      go_wp2
      go_roundw
      case rel =>
        refine ⟨k + 1, by omega, by go_num, _, HWd.out, fun j hj => ?_, fun i hi => ?_⟩
        · rw [if_neg (by omega), if_neg (by omega), if_neg (by omega), if_neg (by omega)]
          exact HN.out.1 j hj
        · by_cases e : i = k
          · subst e
            rw [if_neg (by omega), if_neg (by omega), if_neg (by omega), if_pos rfl, if_neg (by omega), if_neg (by omega), if_pos (by omega), if_neg (by omega), if_pos (by omega), if_pos (by omega), ha, hb]
            omega
          · rw [if_neg (by omega), if_neg (by omega), if_neg (by omega), if_neg (by omega), if_neg (by omega), if_neg (by omega), if_neg (by omega), if_neg (by omega), if_neg (by omega), if_neg (by omega), if_neg (by omega), if_neg (by omega), if_neg (by omega), if_neg (by omega), if_neg (by omega), if_neg (by omega)]
            exact HN.out.2 i (by omega)
      case measure => simp [intOf]; omega
    · obtain rfl : k = 8 := by omega
      have ht := HW.out.page.text
      have HE : Hid (IsHead used upper rp rn g) := by
        refine ⟨fun k hk => ?_, fun k hk => ?_, fun i hi => (HN.out.2 i hi).1, fun i hi => (HN.out.2 i hi).2⟩
        · have := hb1 (k / 8) (k % 8) (by omega) (by omega)
          rw [Nat.zero_add] at this
          rw [HN.out.1 _ (by omega), ho2 _ (by omega), this, show 8 * (k / 8) + k % 8 = k by omega]
        · rw [HN.out.1 _ (by omega), hb2 (k / 8) (k % 8) (by omega) (by omega), show 8 * (k / 8) + k % 8 = k by omega]
      go_wp2
      go_ret
      exact ⟨g, rfl, HE.out, HW.out.page.small, HW.out.below⟩
end Go.Proofs.Ytjcddeoihjppaaa
namespace Go.Proofs.Ytjcddeoihjppaaa
open Go.RowKit Go.Maps

/-- the turn -/
def tb (pg : Nat → ByteArray) : Bool := (pg 4000).data.toList.getD 0 0 != 0
theorem headOf_tb (pg : Nat → ByteArray) : headOf pg = pg (placeF 0 (tb pg)) := rfl
theorem placeF_inj {k j : Nat} {a b : Bool} (hk : k < 2000) (hj : j < 2000) (h : placeF k a = placeF j b) : k = j ∧ a = b := by
  unfold placeF at h
  cases a <;> cases b <;> simp at h <;> first | exact ⟨by omega, rfl⟩ | omega
theorem placeF_turn {k : Nat} (hk : k < 2000) (a : Bool) : placeF k a ≠ 4000 := by unfold placeF; split <;> omega

/-- a pager that may be -/
structure Pg.Ok (p : Pg) : Prop where
  zero : p.used 0 = false
  chg : ∀ k t, p.chg k = some t → p.used k = true ∧ k < 2000 ∧ t.size = 1024
  rp : ∀ i, i < 8 → 0 ≤ p.rp i ∧ p.rp i < 65536
  rn : ∀ i, i < 8 → 0 ≤ p.rn i ∧ p.rn i < 65536
theorem Pg.Ok.none0 {p : Pg} (h : p.Ok) : p.chg 0 = none := by
  cases e : p.chg 0 with
  | none => rfl
  | some t => have := (h.chg 0 t e).1; rw [h.zero] at this; cases this

/-- its places are the disk's -/
structure Lies (p : Pg) (pg : Nat → ByteArray) : Prop where
  upper : ∀ k, k < 2000 → p.upper k = upperOf (headOf pg) k
  turn : p.upper 0 = tb pg

/-- what a page has, if it is in use -/
def Pg.view (p : Pg) (pg : Nat → ByteArray) (k : Nat) : Option ByteArray := if k < 2000 ∧ p.used k = true then some (p.text pg k) else none
theorem Pg.view_yes {p : Pg} {pg : Nat → ByteArray} {k : Nat} (hk : k < 2000) (h : p.used k = true) : p.view pg k = some (p.text pg k) := if_pos ⟨hk, h⟩
theorem Pg.view_no {p : Pg} {pg : Nat → ByteArray} {k : Nat} (h : p.used k = false) : p.view pg k = none := if_neg (fun e => by rw [h] at e; cases e.2)
theorem Pg.view_congr {p q : Pg} {pg pg' : Nat → ByteArray} (hu : ∀ k, k < 2000 → p.used k = q.used k) (ht : ∀ k, k < 2000 → q.used k = true → p.text pg k = q.text pg' k) (k : Nat) : p.view pg k = q.view pg' k := by
  unfold Pg.view
  by_cases hk : k < 2000
  · rw [hu k hk]
    by_cases h : q.used k = true
    · rw [if_pos ⟨hk, h⟩, if_pos ⟨hk, h⟩, ht k hk h]
    · rw [if_neg (fun e => h e.2), if_neg (fun e => h e.2)]
  · rw [if_neg (fun e => hk e.1), if_neg (fun e => hk e.1)]

/-- where pages lie behind a commit -/
def Pg.up (p : Pg) (k : Nat) : Bool := if k = 0 ∨ (p.chg k).isSome = true then !p.upper k else p.upper k
/-- a pager behind a commit -/
def Pg.done (p : Pg) : Pg := { p with upper := p.up, chg := fun _ => none, commits := p.commits + 1 }
theorem Pg.up_zero (p : Pg) : p.up 0 = !p.upper 0 := if_pos (.inl rfl)
theorem Pg.up_chg {p : Pg} {k : Nat} {t : ByteArray} (h : p.chg k = some t) : p.up k = !p.upper k := if_pos (.inr (by rw [h]; rfl))
theorem Pg.up_not {p : Pg} {k : Nat} (h0 : k ≠ 0) (h : p.chg k = none) : p.up k = p.upper k := if_neg (fun e => by
  rcases e with e | e
  · exact h0 e
  · rw [h] at e; cases e)

/-- all is committed -/
structure Done (p : Pg) (pg pg' : Nat → ByteArray) : Prop where
  turn : tb pg' = !p.upper 0
  head : ∃ g : Nat → Nat, pg' (placeF 0 (!p.upper 0)) = ⟨(bytesOf g).toArray⟩ ∧ IsHead p.used p.up p.rp p.rn g ∧ ∀ j, g j < 256
  page : ∀ k t, p.chg k = some t → pg' (placeF k (!p.upper k)) = t
  rest : ∀ k, 0 < k → k < 2000 → p.chg k = none → pg' (placeF k (p.upper k)) = pg (placeF k (p.upper k))
/-- nothing of what was committed has changed -/
structure Kept (p : Pg) (pg pg' : Nat → ByteArray) : Prop where
  turn : tb pg' = tb pg
  page : ∀ k, k < 2000 → pg' (placeF k (p.upper k)) = pg (placeF k (p.upper k))

theorem byte_of {g : Nat → Nat} (hg : ∀ j, g j < 256) {j : Nat} (hj : j < 1024) : ((bytesOf g).getD j 0).toNat = g j := by
  rw [bytesOf_getD g hj, UInt8.toNat_ofNat']
  exact Nat.mod_eq_of_lt (hg j)
section
variable {used upper : Nat → Bool} {rp rn : Nat → Int} {g : Nat → Nat}
theorem head_used (h : IsHead used upper rp rn g) (hg : ∀ j, g j < 256) (h0 : used 0 = false) {k : Nat} (hk : k < 2000) : usedOf ⟨(bytesOf g).toArray⟩ k = used k := by
  unfold usedOf bitOf
  simp only []
  rw [byte_of hg (by omega), h.used k hk]
  by_cases e : k = 0
  · subst e; rw [h0]; rfl
  · rw [decide_eq_true (by omega), Bool.true_and]
theorem head_upper (h : IsHead used upper rp rn g) (hg : ∀ j, g j < 256) {k : Nat} (hk : k < 2000) : upperOf ⟨(bytesOf g).toArray⟩ k = upper k := by
  unfold upperOf bitOf
  simp only []
  rw [byte_of hg (by omega), show (k + 2000) / 8 = 250 + k / 8 by omega, show (k + 2000) % 8 = k % 8 by omega, h.upper k hk]
theorem head_rp (h : IsHead used upper rp rn g) (hg : ∀ j, g j < 256) {i : Nat} (hi : i < 8) : rpOf ⟨(bytesOf g).toArray⟩ i = rp i := by
  unfold rpOf numOf
  simp only []
  rw [byte_of hg (by omega), byte_of hg (by omega), show 500 + 4 * i + 1 = 501 + 4 * i by omega, h.page i hi]
theorem head_rn (h : IsHead used upper rp rn g) (hg : ∀ j, g j < 256) {i : Nat} (hi : i < 8) : rnOf ⟨(bytesOf g).toArray⟩ i = rn i := by
  unfold rnOf numOf
  simp only []
  rw [byte_of hg (by omega), byte_of hg (by omega), show 502 + 4 * i + 1 = 503 + 4 * i by omega, h.note i hi]
end

/-- what is loaded may be -/
theorem loaded_ok (pg : Nat → ByteArray) (c : Int) (d : Bool) : (loaded pg c d).Ok :=
  ⟨rfl, fun _ _ h => (by cases h), fun i _ => numOf_lt _ _, fun i _ => numOf_lt _ _⟩
theorem loaded_lies {pg : Nat → ByteArray} (c : Int) (d : Bool) (h : upperOf (headOf pg) 0 = tb pg) : Lies (loaded pg c d) pg := ⟨fun _ _ => rfl, h⟩
theorem Lies.good {p : Pg} {pg : Nat → ByteArray} (h : Lies p pg) : upperOf (headOf pg) 0 = tb pg := by rw [← h.upper 0 (by omega), h.turn]

section
variable {p : Pg} {pg pg' : Nat → ByteArray}
theorem Done.headIs (h : Done p pg pg') : ∃ g : Nat → Nat, headOf pg' = ⟨(bytesOf g).toArray⟩ ∧ IsHead p.used p.up p.rp p.rn g ∧ ∀ j, g j < 256 := by
  obtain ⟨g, h1, h2, h3⟩ := h.head
  exact ⟨g, by rw [headOf_tb, h.turn, h1], h2, h3⟩
theorem Done.lies (h : Done p pg pg') : Lies p.done pg' := by
  obtain ⟨g, h1, h2, h3⟩ := h.headIs
  refine ⟨fun k hk => ?_, ?_⟩
  · rw [h1, head_upper h2 h3 hk]; rfl
  · rw [h.turn]; exact p.up_zero
theorem Done.text (h : Done p pg pg') (ho : p.Ok) {k : Nat} (hk : k < 2000) (hu : p.used k = true) : pg' (placeF k (p.up k)) = p.text pg k := by
  have h0 : k ≠ 0 := fun e => by rw [e, ho.zero] at hu; cases hu
  unfold Pg.text
  cases e : p.chg k with
  | none => rw [Pg.up_not h0 e, h.rest k (by omega) hk e]; rfl
  | some t => rw [Pg.up_chg e, h.page k t e]; rfl
theorem Done.view (h : Done p pg pg') (ho : p.Ok) (k : Nat) : p.done.view pg' k = p.view pg k := by
  refine Pg.view_congr (p := p.done) (q := p) (fun _ _ => rfl) (fun j hj hu => ?_) k
  show pg' (placeF j (p.up j)) = _
  exact h.text ho hj hu
theorem Done.loaded_view (h : Done p pg pg') (ho : p.Ok) (c : Int) (d : Bool) (k : Nat) : (loaded pg' c d).view pg' k = p.view pg k := by
  obtain ⟨g, h1, h2, h3⟩ := h.headIs
  refine Pg.view_congr (fun j hj => ?_) (fun j hj hu => ?_) k
  · show usedOf (headOf pg') j = _
    rw [h1, head_used h2 h3 ho.zero hj]
  · show pg' (placeF j (upperOf (headOf pg') j)) = _
    rw [h1, head_upper h2 h3 hj]
    exact h.text ho hj hu
theorem Done.loaded_rp (h : Done p pg pg') (c : Int) (d : Bool) {i : Nat} (hi : i < 8) : (loaded pg' c d).rp i = p.rp i := by
  obtain ⟨g, h1, h2, h3⟩ := h.headIs
  show rpOf (headOf pg') i = _
  rw [h1, head_rp h2 h3 hi]
theorem Done.loaded_rn (h : Done p pg pg') (c : Int) (d : Bool) {i : Nat} (hi : i < 8) : (loaded pg' c d).rn i = p.rn i := by
  obtain ⟨g, h1, h2, h3⟩ := h.headIs
  show rnOf (headOf pg') i = _
  rw [h1, head_rn h2 h3 hi]
theorem Done.ok (ho : p.Ok) : p.done.Ok := ⟨ho.zero, fun _ _ h => (by cases h), ho.rp, ho.rn⟩

theorem Kept.headOf (h : Kept p pg pg') (hl : Lies p pg) : headOf pg' = Go.Proofs.Ytjcddeoihjppaaa.headOf pg := by
  rw [headOf_tb, headOf_tb, h.turn, ← hl.turn, h.page 0 (by omega)]
theorem Kept.loaded (h : Kept p pg pg') (hl : Lies p pg) (c : Int) (d : Bool) : loaded pg' c d = Go.Proofs.Ytjcddeoihjppaaa.loaded pg c d := by
  unfold Go.Proofs.Ytjcddeoihjppaaa.loaded
  rw [h.headOf hl]
theorem Kept.loaded_view (h : Kept p pg pg') (hl : Lies p pg) (c : Int) (d : Bool) (k : Nat) : (Go.Proofs.Ytjcddeoihjppaaa.loaded pg' c d).view pg' k = (Go.Proofs.Ytjcddeoihjppaaa.loaded pg c d).view pg k := by
  rw [h.loaded hl]
  refine Pg.view_congr (fun _ _ => rfl) (fun j hj _ => ?_) k
  show pg' (placeF j (upperOf (Go.Proofs.Ytjcddeoihjppaaa.headOf pg) j)) = pg (placeF j (upperOf (Go.Proofs.Ytjcddeoihjppaaa.headOf pg) j))
  rw [← hl.upper j hj, h.page j hj]
theorem Kept.good (h : Kept p pg pg') (hl : Lies p pg) : upperOf (Go.Proofs.Ytjcddeoihjppaaa.headOf pg') 0 = tb pg' := by rw [h.headOf hl, h.turn, hl.good]
end

section
variable {p : Pg} {pg : Nat → ByteArray}
theorem Pg.Ok.write (h : p.Ok) {j : Nat} (hj : j < 2000) (hu : p.used j = true) (t : ByteArray) (ht : t.size = 1024) : (p.write j t).Ok := by
  refine ⟨h.zero, fun k s hs => ?_, h.rp, h.rn⟩
  change (if k = j then some t else p.chg k) = some s at hs
  split at hs
  · rename_i e; subst e; cases hs; exact ⟨hu, hj, ht⟩
  · exact h.chg k s hs
theorem Pg.Ok.free (h : p.Ok) (j : Nat) : (p.free j).Ok := by
  refine ⟨?_, fun k s hs => ?_, h.rp, h.rn⟩
  · show (if 0 = j then false else p.used 0) = false
    split
    · rfl
    · exact h.zero
  · change (if k = j then none else p.chg k) = some s at hs
    split at hs
    · cases hs
    · rename_i e
      refine ⟨?_, (h.chg k s hs).2⟩
      show (if k = j then false else p.used k) = true
      rw [if_neg e]; exact (h.chg k s hs).1
theorem Pg.Ok.alloc (h : p.Ok) {j : Nat} (h0 : 0 < j) (hj : j < 2000) : (p.alloc j).Ok := by
  refine ⟨?_, fun k s hs => ?_, h.rp, h.rn⟩
  · show (if 0 = j then true else p.used 0) = false
    rw [if_neg (by omega)]; exact h.zero
  · change (if k = j then some zeros else p.chg k) = some s at hs
    show (if k = j then true else p.used k) = true ∧ _
    split at hs
    · rename_i e; subst e; cases hs; exact ⟨if_pos rfl, hj, zeros_size⟩
    · rename_i e; rw [if_neg e]; exact h.chg k s hs
theorem Pg.Ok.setRoot (h : p.Ok) (i : Nat) {k t : Int} (hk : inB k 2000 = true) (ht : inB t 65536 = true) : (p.setRoot i k t).Ok := by
  have hk' : 0 ≤ k ∧ k < 2000 := by simpa [inB] using hk
  have ht' : 0 ≤ t ∧ t < 65536 := by simpa [inB] using ht
  refine ⟨h.zero, h.chg, fun j hj => ?_, fun j hj => ?_⟩
  · show 0 ≤ (if j = i then k else p.rp j) ∧ (if j = i then k else p.rp j) < 65536
    split
    · omega
    · exact h.rp j hj
  · show 0 ≤ (if j = i then t else p.rn j) ∧ (if j = i then t else p.rn j) < 65536
    split
    · omega
    · exact h.rn j hj
theorem Pg.Ok.back {q : Pg} (hq : q.Ok) : (p.back q).Ok := ⟨hq.zero, hq.chg, hq.rp, hq.rn⟩

theorem view_write {j : Nat} (hj : j < 2000) (hu : p.used j = true) (t : ByteArray) : (p.write j t).view pg = put (p.view pg) j (some t) := by
  funext k
  unfold put
  by_cases e : k = j
  · subst e
    rw [if_pos rfl, Pg.view_yes (p := p.write k t) hj hu]
    show some ((if k = k then some t else p.chg k).getD _) = _
    rw [if_pos rfl]; rfl
  · rw [if_neg e]
    unfold Pg.view
    have : (p.write j t).text pg k = p.text pg k := by
      show (if k = j then some t else p.chg k).getD _ = _
      rw [if_neg e]; rfl
    rw [this]; rfl
theorem view_free (j : Nat) : (p.free j).view pg = put (p.view pg) j none := by
  funext k
  unfold put
  by_cases e : k = j
  · subst e
    rw [if_pos rfl]
    exact Pg.view_no (by show (if k = k then false else p.used k) = false; rw [if_pos rfl])
  · rw [if_neg e]
    unfold Pg.view
    have h1 : (p.free j).text pg k = p.text pg k := by
      show (if k = j then none else p.chg k).getD _ = _
      rw [if_neg e]; rfl
    have h2 : (p.free j).used k = p.used k := by
      show (if k = j then false else p.used k) = _
      rw [if_neg e]
    rw [h1, h2]
theorem view_alloc {j : Nat} (hj : j < 2000) : (p.alloc j).view pg = put (p.view pg) j (some zeros) := by
  funext k
  unfold put
  by_cases e : k = j
  · subst e
    rw [if_pos rfl, Pg.view_yes hj (by show (if k = k then true else p.used k) = true; rw [if_pos rfl])]
    show some ((if k = k then some zeros else p.chg k).getD _) = _
    rw [if_pos rfl]; rfl
  · rw [if_neg e]
    unfold Pg.view
    have h1 : (p.alloc j).text pg k = p.text pg k := by
      show (if k = j then some zeros else p.chg k).getD _ = _
      rw [if_neg e]; rfl
    have h2 : (p.alloc j).used k = p.used k := by
      show (if k = j then true else p.used k) = _
      rw [if_neg e]
    rw [h1, h2]
theorem view_setRoot (i : Nat) (k t : Int) : (p.setRoot i k t).view pg = p.view pg := rfl
end
end Go.Proofs.Ytjcddeoihjppaaa
namespace Go.Proofs.Ytjcddeoihjppaaa
open Go.RowKit Go.Maps

/-- a map's page at any number -/
def fi (f : Nat → Option ByteArray) (k : Int) : Option ByteArray := if 0 ≤ k then f k.toNat else none
theorem fi_nat (f : Nat → Option ByteArray) (k : Nat) : fi f k = f k := by unfold fi; rw [if_pos (by omega)]; rfl
theorem fi_neg (f : Nat → Option ByteArray) {k : Int} (h : k < 0) : fi f k = none := if_neg (by omega)

/-- a map in memory has these pages -/
def Texts (m n : Nat) (f : Nat → Option ByteArray) (w : World) : Prop := ∃ D : DataW Unit, w.ownsMap Try.prog 3 (plainElem Try.prog 9) m n D ∧ MapIs D f
section
variable {m n : Nat} {f : Nat → Option ByteArray} {w w' : World}
theorem Texts.lt (h : Texts m n f w) : m < w.heap.size := by obtain ⟨D, hD, _⟩ := h; exact hD.lt
theorem Texts.block (h : Texts m n f w) (hb : w'.heap[m]? = w.heap[m]?) : Texts m n f w' := by
  obtain ⟨D, ⟨es, clock, hm, F, hs, hD⟩, hM⟩ := h
  exact ⟨D, ⟨es, clock, hb.trans hm, F, hs, hD⟩, hM⟩
theorem Texts.only {S : Nat → Prop} (h : Texts m n f w) (ho : Only S w w') (hs : ¬ S m) : Texts m n f w' := h.block (ho.block m h.lt hs)
theorem Texts.mono {n' : Nat} (h : Texts m n f w) (hn : n ≤ n') : Texts m n' f w := by
  obtain ⟨D, hD, hM⟩ := h
  exact ⟨D, hD.mono hn, hM⟩
theorem Texts.ne_cell (h : Texts m n f w) {b o : Nat} {v : Value} (hc : w.cell? ⟨b, o, none⟩ = some v) : m ≠ b := by
  obtain ⟨D, ⟨es, clock, hm, _⟩, _⟩ := h
  intro e; subst e
  simp [World.cell?, hm] at hc
theorem Texts.small (h : Texts m n f w) {k : Nat} {s : ByteArray} (hk : f k = some s) : k < 2000 ∧ s.size = 1024 := by
  obtain ⟨D, _, hM⟩ := h
  exact hM.small k s hk
end

theorem MapIs.hasI {D : DataW Unit} {f : Nat → Option ByteArray} (h : MapIs D f) (k : Int) : Maps.has D (.int .i64 k) = (fi f k).isSome := by
  by_cases h0 : 0 ≤ k
  · obtain ⟨j, rfl⟩ : ∃ j : Nat, k = j := ⟨k.toNat, by omega⟩
    rw [fi_nat]
    by_cases hj : j < 2000
    · exact h.has j hj
    · have h1 : f j = none := by
        cases e : f j with
        | none => rfl
        | some s => exact absurd (h.small j s e).1 hj
      rw [h1]
      cases e : Maps.has D (.int .i64 (j : Int)) with
      | false => rfl
      | true =>
        obtain ⟨i, hi, hl⟩ := h.key _ e
        injection hi with _ hi
        omega
  · rw [fi_neg f (by omega)]
    cases e : Maps.has D (.int .i64 k) with
    | false => rfl
    | true =>
      obtain ⟨i, hi, hl⟩ := h.key _ e
      injection hi with _ hi
      omega

section
variable {ops : Array Oper} {rest : List Oper} {o : Oper} {a : Act} {Q : Exit → Act → World → Prop} {bm n : Nat} {f : Nat → Option ByteArray}
end

/-! how many entries -/
def keyN : Lit → Nat
  | .int _ a => a.toNat
  | _ => 0
theorem filter_count (g : Nat → Bool) : ∀ n, ((List.range n).filter g).length = countU g n
  | 0 => rfl
  | n + 1 => by
    rw [List.range_succ, List.filter_append, List.length_append, filter_count g n]
    show _ = countU g n + (if g n then 1 else 0)
    cases h : g n <;> simp [h]
theorem MapIs.keys {D : DataW Unit} {f : Nat → Option ByteArray} (h : MapIs D f) (c : Canon D) : ∃ es, D = .map es ∧ (es.map fun p => keyN p.1).Nodup ∧ (∀ k, k ∈ (es.map fun p => keyN p.1) ↔ (f k).isSome = true) ∧ ∀ p ∈ es, ∃ k : Nat, p.1 = .int .i64 k ∧ k < 2000 := by
  obtain ⟨es, rfl, hs, hk⟩ := c
  have hkey : ∀ p ∈ es, ∃ k : Nat, p.1 = .int .i64 k ∧ k < 2000 := fun p hp => h.key p.1 (List.any_eq_true.2 ⟨p, hp, WideAt.sameKey_self (hk p hp)⟩)
  refine ⟨es, rfl, ?_, fun k => ?_, hkey⟩
  · refine List.pairwise_map.2 ((apart_of_rising hs).imp_of_mem fun {p q} hp hq hne e => hne ?_)
    obtain ⟨a, ha, _⟩ := hkey p hp
    obtain ⟨b, hb, _⟩ := hkey q hq
    rw [ha, hb] at e ⊢
    have : a = b := by simpa [keyN] using e
    rw [this]
  · constructor
    · intro hm
      obtain ⟨p, hp, rfl⟩ := List.mem_map.1 hm
      obtain ⟨a, ha, hl⟩ := hkey p hp
      rw [ha]
      show (f (a : Int).toNat).isSome = true
      rw [Int.toNat_natCast, ← h.has a hl, ← ha]
      exact List.any_eq_true.2 ⟨p, hp, WideAt.sameKey_self (hk p hp)⟩
    · intro hf
      obtain ⟨s, hs'⟩ := Option.isSome_iff_exists.1 hf
      have hl := (h.small k s hs').1
      have hh := h.has k hl
      rw [hf] at hh
      obtain ⟨p, hp, he⟩ := List.any_eq_true.1 hh
      refine List.mem_map.2 ⟨p, hp, ?_⟩
      rw [WideAt.sameKey_eq he]
      exact Int.toNat_natCast k
theorem MapIs.count {D : DataW Unit} {f : Nat → Option ByteArray} (h : MapIs D f) (c : Canon D) : Maps.size D = countU (fun k => (f k).isSome) 2000 := by
  obtain ⟨es, rfl, hn, hm, _⟩ := h.keys c
  rw [← filter_count, size_eq]
  have hl : (es.map fun p => keyN p.1).length = es.length := List.length_map _
  rw [← hl]
  refine List.Perm.length_eq ((List.perm_ext_iff_of_nodup hn (List.nodup_range.filter _)).2 fun k => ?_)
  rw [hm k, List.mem_filter, List.mem_range]
  refine ⟨fun hf => ⟨?_, hf⟩, fun hf => hf.2⟩
  obtain ⟨s, hs⟩ := Option.isSome_iff_exists.1 hf
  exact (h.small k s hs).1
theorem countU_congr {f g : Nat → Bool} : ∀ (n : Nat), (∀ k, k < n → f k = g k) → countU f n = countU g n
  | 0, _ => rfl
  | n + 1, h => by
    show countU f n + _ = countU g n + _
    rw [countU_congr n (fun k hk => h k (by omega)), h n (by omega)]
/-- how many pages are in use -/
theorem view_count (p : Pg) (pg : Nat → ByteArray) : countU (fun k => (p.view pg k).isSome) 2000 = countU p.used 2000 :=
  countU_congr 2000 fun k hk => by
    cases h : p.used k
    · rw [Pg.view_no h]; rfl
    · rw [Pg.view_yes hk h]; rfl
section
variable {ops : Array Oper} {rest : List Oper} {o : Oper} {a : Act} {Q : Exit → Act → World → Prop} {bm n : Nat} {f : Nat → Option ByteArray}
end

/-! the keys of the map of changed pages -/
/-- just the pages that are changed, each once -/
def KeysOf (f : Nat → Option ByteArray) (ks : List Nat) : Prop := ks.Nodup ∧ ∀ k, k ∈ ks ↔ (f k).isSome = true
/-- a slice of them, above block B -/
def KRow (B : Nat) (v : Value) (ks : List Nat) (w : World) : Prop :=
  ∃ ad cap, v = .slice ad ks.length cap ∧ (ks = [] ∨ ∃ g, ad = some ⟨g, 0, none⟩ ∧ B ≤ g ∧ g < w.heap.size ∧ ∀ i (h : i < ks.length), w.cell? ⟨g, i, none⟩ = some (.int .i64 (ks[i] : Nat)))

/-- a map that is cleared -/
theorem clear_sheet {bm n : Nat} {f : Nat → Option ByteArray} {w : World} (hS : Sheets bm n f w) (ty : TypeId) :
    ∃ w', (Builtin.clear_ #[40] ty #[.map (some bm)]).run Try.prog w = .ok (.tuple #[]) w' ∧ Sheets bm n (fun _ => none) w' ∧ Only (fun b => b = bm) w w' := by
  obtain ⟨D, ⟨es, clock, hb, F, hs, hD⟩, hM⟩ := hS
  have hlt : bm < w.heap.size := by
    by_cases h : bm < w.heap.size
    · exact h
    · rw [Array.getElem?_eq_none (by omega)] at hb; cases hb
  refine ⟨{ w with heap := w.heap.setIfInBounds bm (.map #[] clock) }, ?_, ⟨.map [], ⟨#[], clock, ?_, ⟨by simp, by simp [MapKept.Stamped], by simp⟩, Nat.zero_le _, rfl⟩, mapIs_empty⟩, ?_⟩
  · simp [Builtin.clear_, run_underlying Try.underlying40, MapKept.run_getObj_map hb, MapKept.run_setObj_map _ hb, Result.andThen]
  · simp [hlt]
  · refine ⟨rfl, rfl, rfl, by simp, fun k hk hs => ?_⟩
    show (w.heap.setIfInBounds bm _)[k]? = _
    rw [Array.getElem?_setIfInBounds, if_neg (fun e => hs e.symm)]
end Go.Proofs.Ytjcddeoihjppaaa
namespace Go.Proofs.Ytjcddeoihjppaaa
open Go.RowKit Go.Maps

/-- with one place turned -/
def flip1 (up : Nat → Bool) (k : Nat) : Nat → Bool := fun i => if i = k then !up k else up i

/-- these pages are written -/
structure SavI (p : Pg) (pg pg' : Nat → ByteArray) (up : Nat → Bool) (done : List Nat) : Prop where
  up : ∀ k, up k = if k ∈ done then !p.upper k else p.upper k
  page : ∀ k t, k ∈ done → p.chg k = some t → pg' (placeF k (!p.upper k)) = t
  rest : ∀ j, (∀ k ∈ done, j ≠ placeF k (!p.upper k)) → pg' j = pg j
  low : ∀ k ∈ done, k < 2000
section
variable {p : Pg} {pg pg' : Nat → ByteArray} {up : Nat → Bool} {done : List Nat} {k : Nat} {t : ByteArray}
theorem SavI.start : SavI p pg pg p.upper [] := ⟨fun k => by simp, fun _ _ h => (by cases h), fun _ _ => rfl, fun _ h => (by cases h)⟩
theorem SavI.not (h : SavI p pg pg' up done) (hk : k ∉ done) : up k = p.upper k := by rw [h.up k, if_neg hk]
theorem SavI.step (h : SavI p pg pg' up done) (hk : k ∉ done) (hl : k < 2000) (ht : p.chg k = some t) : SavI p pg (upd pg' (placeF k (!p.upper k)) t) (flip1 up k) (done ++ [k]) := by
  refine ⟨fun i => ?_, fun i s hi hs => ?_, fun j hj => ?_, fun i hi => ?_⟩
  · unfold flip1
    by_cases e : i = k
    · subst e
      rw [if_pos rfl, if_pos (by simp), h.not hk]
    · rw [if_neg e, h.up i]
      by_cases m : i ∈ done
      · rw [if_pos m, if_pos (by simp [m])]
      · rw [if_neg m, if_neg (by simp [m, e])]
  · unfold upd
    by_cases e : i = k
    · subst e
      rw [if_pos rfl]
      rw [ht] at hs; cases hs; rfl
    · have hi' : i ∈ done := by
        rcases List.mem_append.1 hi with m | m
        · exact m
        · exact absurd (List.mem_singleton.1 m) e
      rw [if_neg (fun e' => e (placeF_inj (h.low i hi') hl e').1)]
      exact h.page i s hi' hs
  · unfold upd
    rw [if_neg (hj k (by simp))]
    exact h.rest j (fun i hi => hj i (by simp [hi]))
  · rcases List.mem_append.1 hi with m | m
    · exact h.low i m
    · rw [List.mem_singleton.1 m]; exact hl
theorem SavI.away (h : SavI p pg pg' up done) (hl : k < 2000) : pg' (placeF k (p.upper k)) = pg (placeF k (p.upper k)) :=
  h.rest _ (fun i hi e => by
    obtain ⟨e1, e2⟩ := placeF_inj hl (h.low i hi) e
    subst e1
    cases hu : p.upper k <;> rw [hu] at e2 <;> cases e2)
theorem SavI.turn (h : SavI p pg pg' up done) : pg' 4000 = pg 4000 := h.rest _ (fun i hi e => placeF_turn (h.low i hi) _ e.symm)
theorem SavI.kept (h : SavI p pg pg' up done) (hl : k < 2000) (X : ByteArray) : Kept p pg (upd pg' (placeF k (!p.upper k)) X) := by
  refine ⟨?_, fun i hi => ?_⟩
  · unfold tb upd
    rw [if_neg (fun e => placeF_turn hl _ e.symm), h.turn]
  · unfold upd
    rw [if_neg (fun e => by
      obtain ⟨e1, e2⟩ := placeF_inj hi hl e
      subst e1
      cases hu : p.upper i <;> rw [hu] at e2 <;> cases e2)]
    exact h.away hi
theorem SavI.all (h : SavI p pg pg' up done) (hk : KeysOf p.chg done) (ho : p.Ok) : flip1 up 0 = p.up := by
  funext i
  have h0 : 0 ∉ done := fun m => by
    have := (hk.2 0).1 m
    rw [ho.none0] at this; cases this
  unfold flip1 Pg.up
  by_cases e : i = 0
  · subst e
    rw [if_pos rfl, if_pos (.inl rfl), h.not h0]
  · rw [if_neg e, h.up i]
    by_cases m : i ∈ done
    · rw [if_pos m, if_pos (.inr ((hk.2 i).1 m))]
    · rw [if_neg m, if_neg (fun x => by
        rcases x with x | x
        · exact e x
        · exact m ((hk.2 i).2 x))]
theorem SavI.whole (h : SavI p pg pg' up done) (hk : KeysOf p.chg done) (ho : p.Ok) (g : Nat → Nat) (hH : IsHead p.used p.up p.rp p.rn g) (hg : ∀ j, g j < 256) (T : ByteArray) (hT : (T.data.toList.getD 0 0 != 0) = !p.upper 0) :
    Done p pg (upd (upd pg' (placeF 0 (!p.upper 0)) ⟨(bytesOf g).toArray⟩) 4000 T) := by
  refine ⟨?_, ⟨g, ?_, hH, hg⟩, fun i s hs => ?_, fun i h0 hi hn => ?_⟩
  · unfold tb
    show ((if 4000 = 4000 then T else _ : ByteArray).data.toList.getD 0 0 != 0) = _
    rw [if_pos rfl]; exact hT
  · show (if placeF 0 (!p.upper 0) = 4000 then T else if placeF 0 (!p.upper 0) = placeF 0 (!p.upper 0) then _ else _) = _
    rw [if_neg (placeF_turn (by omega) _), if_pos rfl]
  · have hl := (ho.chg i s hs).2.1
    have hn0 : i ≠ 0 := fun e => by rw [e, ho.none0] at hs; cases hs
    show (if placeF i (!p.upper i) = 4000 then T else if placeF i (!p.upper i) = placeF 0 (!p.upper 0) then _ else pg' _) = _
    rw [if_neg (placeF_turn hl _), if_neg (fun e => hn0 (placeF_inj hl (by omega) e).1)]
    exact h.page i s ((hk.2 i).2 (by rw [hs]; rfl)) hs
  · show (if placeF i (p.upper i) = 4000 then T else if placeF i (p.upper i) = placeF 0 (!p.upper 0) then _ else pg' _) = _
    rw [if_neg (placeF_turn hi _), if_neg (fun e => by have := (placeF_inj hi (by omega) e).1; omega)]
    exact h.away hi
theorem SavI.kept_turn (h : SavI p pg pg' up done) (X T : ByteArray) (hT : (T.data.toList.getD 0 0 != 0) = tb pg) : Kept p pg (upd (upd pg' (placeF 0 (!p.upper 0)) X) 4000 T) := by
  refine ⟨?_, fun i hi => ?_⟩
  · unfold tb
    show ((if 4000 = 4000 then T else _ : ByteArray).data.toList.getD 0 0 != 0) = _
    rw [if_pos rfl]; exact hT
  · show (if placeF i (p.upper i) = 4000 then T else upd pg' (placeF 0 (!p.upper 0)) X _) = _
    rw [if_neg (placeF_turn hi _)]
    exact (h.kept (k := 0) (by omega) X).page i hi
end
/-- the first byte of a page that is torn -/
theorem torn_first (T old : ByteArray) (t : Nat) (hT : T.size = 1024) : (tornPage T old t).data.toList.getD 0 0 = if t = 0 then old.data.toList.getD 0 0 else T.data.toList.getD 0 0 := by
  have hl : T.data.toList.length = 1024 := by simpa using hT
  show ((T.data.toList.take t ++ old.data.toList.drop t).toArray.toList).getD 0 0 = _
  rw [List.toList_toArray]
  cases t with
  | zero => simp
  | succ t =>
    rw [if_neg (by omega)]
    match hb : T.data.toList with
    | [] => rw [hb] at hl; cases hl
    | a :: r => simp
/-- the first byte of a turn -/
theorem turn_first {g : Nat → Nat} {up : Bool} (h : g 0 = if up then 1 else 0) : ((⟨(bytesOf g).toArray⟩ : ByteArray).data.toList.getD 0 0 != 0) = up := by
  simp only []
  rw [bytesOf_getD g (by omega), h]
  cases up <;> rfl
theorem text_size (g : Nat → Nat) : (⟨(bytesOf g).toArray⟩ : ByteArray).size = 1024 := by
  simp only [ByteArray.size]
  rw [List.size_toArray, bytesOf_len]

/-- a write: it is done, or the power went off in it -/
theorem write_sure {b : Nat} {s : St} {w : World} (h : Prg b s w) (ho : s.Ok) (k : Nat) (hk : k < 4001) (p : ByteArray) (hp : p.size = 1024) :
    Calls Try.prog 62 #[.pointer (some ⟨b, 0, none⟩), .int .i64 k, .string p] w fun e w' => ∃ (E : Value) (s' : St), e = .returned E ∧ Prg b s' w' ∧ s'.Ok ∧ s'.ends = s.ends ∧ w.grownBy w' (some b) ∧
      ((E = .nilIface ∧ s'.pg = upd s.pg k p) ∨ (E = .iface 80 (.int .i64 14) ∧ s.ends = true ∧ ∃ t, s'.pg = upd s.pg k (tornPage p (s.pg k) t))) := by
  have hok := ho.wr k p
  obtain ⟨pg, ends, left, torn⟩ := s
  have hin : inside (k : Int) = true := by simp [inside]; omega
  have o1 := ho.torn
  have o2 := ho.low
  have o3 := ho.high
  simp only at o1 o2 o3
  cases ends
  · refine (write_still h k hk p hp).mono ?_
    rintro _ w' ⟨rfl, hd, hg⟩
    have e : (⟨pg, false, left, torn⟩ : St).wr k p = ⟨upd pg k p, false, left, torn⟩ := by simp [St.wr, hin, St.pow]
    rw [e] at hok
    exact ⟨_, ⟨upd pg k p, false, left, torn⟩, rfl, hd, hok, rfl, hg, .inl ⟨rfl, rfl⟩⟩
  · by_cases hl : 0 < left
    · refine (write_less h hl o3 k hk p hp).mono ?_
      rintro _ w' ⟨rfl, hd, hg⟩
      have e : (⟨pg, true, left, torn⟩ : St).wr k p = ⟨upd pg k p, true, left - 1, torn⟩ := by simp [St.wr, hin, St.pow, hl]
      rw [e] at hok
      exact ⟨_, ⟨upd pg k p, true, left - 1, torn⟩, rfl, hd, hok, rfl, hg, .inl ⟨rfl, rfl⟩⟩
    · have h0 : left = 0 := by have := o2 rfl; omega
      subst h0
      refine (write_off torn h o1 k hk p hp).mono ?_
      rintro _ w' ⟨rfl, hd, hg⟩
      have e : (⟨pg, true, 0, torn⟩ : St).wr k p = ⟨upd pg k (tornPage p (pg k) torn), true, 0, 0⟩ := by simp [St.wr, hin, St.pow]
      rw [e] at hok
      exact ⟨_, ⟨upd pg k (tornPage p (pg k) torn), true, 0, 0⟩, rfl, hd, hok, rfl, hg, .inr ⟨rfl, rfl, torn, rfl⟩⟩

set_option maxRecDepth 100000 in
/-- a changed page, looked up -/
theorem look1_sheet {bm n : Nat} {f : Nat → Option ByteArray} {w : World} (hS : Sheets bm n f w) (k : Nat) {t : ByteArray} (ht : f k = some t) :
    (Instr.lookup 40 (.map (some bm)) (.int .i64 k) false).run Try.prog w = .ok (.agg #[.string t]) w := by
  obtain ⟨D, hD, hM⟩ := hS
  have hk := (hM.small k t ht).1
  obtain ⟨v, ps, hr, hv⟩ := hD.lookup keyed3 Try.underlying40 (zero86 w) (zd := .lit (.string [])) (zp := []) rfl (key_of k hk)
  obtain ⟨s, rfl, hz⟩ := sheetElem_inv hv
  have h1 := congrArg Prod.fst hz
  simp only at h1
  rw [hM.elem k t hk ht] at h1
  injection h1 with h2
  injection h2 with h3
  rw [hr, bytes_inj h3]
theorem field86 (t : ByteArray) (w : World) : (Instr.field 119 (.agg #[.string t]) 0).run Try.prog w = .ok (.string t) w := by kernel_rfl
theorem results_ct {P : Program} {fn : Func} {p : Tmp} {ty : TypeId} {q : Tmp} {v : Value} (h : fn.results = #[.cell p ty, .tmp q]) (tmps : Array Value) (w : World) (a : Addr) (hp : tmps.getD p undef = .pointer (some a)) (hl : (loadVar ty a).run P w = .ok v w) (E : Value) (hE : tmps.getD q undef = E) :
    (results fn tmps).run P w = .ok (.tuple #[v, E]) w := by
  have hp' : tmps[p]?.getD undef = .pointer (some a) := by simpa [Array.getD_eq_getD_getElem?] using hp
  have hE' : tmps[q]?.getD undef = E := by simpa [Array.getD_eq_getD_getElem?] using hE
  simp [results, h, hp', hE', asAddr, hl]
end Go.Proofs.Ytjcddeoihjppaaa
