/- Part 27 of 30. -/
import Derived.Test.YtmabfbffpedfnaaGreatDoorK26
import Derived.Deep.RegionLaw
namespace Go.Proofs.YtmabfbffpedfnaaGreatDoor
open Go.RowKit

/-- what Choose looks at: its result stands in block br, the table in block b0; be is the table that own looks at -/
structure ChoW (br b0 bC bI : Nat) (C : List Cl) (I : List ByteArray) (p : Option Addr) (X : Ex) (w0 : World) (wr : World) : Prop where
  kr : Blk br #[.int .i64 0, .string ⟨#[]⟩, .pointer none, .pointer none, .string ⟨#[]⟩] 38 wr
  k0 : Blk b0 (entC bC bI C I) 35 wr
  tb : TabW bC bI C I wr
  ex : ExAt wr p X
  be : Below w0.heap.size w0 wr
theorem ChoW.below {br b0 bC bI : Nat} {C : List Cl} {I : List ByteArray} {p : Option Addr} {X : Ex} {w0 wr w' : World} (h : ChoW br b0 bC bI C I p X w0 wr) (hb : Below wr.heap.size wr w') : ChoW br b0 bC bI C I p X w0 w' :=
  ⟨h.kr.below hb, h.k0.below hb, h.tb.below hb, h.ex.below hb, h.be.trans (hb.mono h.be.size)⟩
/-- and the parts, and what they ask -/
structure ChoA (br b0 bC bI be : Nat) (C : List Cl) (I : List ByteArray) (p : Option Addr) (X : Ex) (v sv : Value) (E : List Ex) (L : List Ak) (w0 : World) (wr : World) : Prop where
  c : ChoW br b0 bC bI C I p X w0 wr
  pt : PtRow wr v E
  ke : Blk be (entC bC bI C I) 35 wr
  ak : AkRow wr sv L
theorem ChoA.below {br b0 bC bI be : Nat} {C : List Cl} {I : List ByteArray} {p : Option Addr} {X : Ex} {v sv : Value} {E : List Ex} {L : List Ak} {w0 wr w' : World} (h : ChoA br b0 bC bI be C I p X v sv E L w0 wr) (hb : Below wr.heap.size wr w') : ChoA br b0 bC bI be C I p X v sv E L w0 w' :=
  ⟨h.c.below hb, h.pt.below hb, h.ke.below hb, h.ak.below hb⟩
theorem PtRow.cell {wx : World} {a : Option Addr} {c : Nat} {E : List Ex} (h : PtRow wx (.slice a E.length c) E) (j : Nat) (hj : j < E.length) : ∃ b q, a = some ⟨b, 0, none⟩ ∧ wx.cell? ⟨b, j, none⟩ = some (.pointer q) ∧ ExAt wx q E[j] := by
  obtain ⟨a1, c1, e1, h1⟩ := h
  injection e1 with e1 _ _
  subst e1
  rcases h1 with h1 | ⟨b, h2, _, h3⟩
  · rw [h1] at hj; simp at hj
  · obtain ⟨q, h4, h5⟩ := h3 j hj
    exact ⟨b, q, h2, h4, h5⟩
theorem AkRow.cell {wx : World} {a : Option Addr} {c : Nat} {L : List Ak} (h : AkRow wx (.slice a L.length c) L) (j : Nat) (hj : j < L.length) : ∃ b, a = some ⟨b, 0, none⟩ ∧ b < wx.heap.size ∧ wx.cell? ⟨b, j * 5, none⟩ = some (.int .i64 L[j].cd) ∧ wx.cell? ⟨b, j * 5 + 1, none⟩ = some (.string L[j].cl) ∧ wx.cell? ⟨b, j * 5 + 2, none⟩ = some (.int .i64 L[j].vl.k) ∧ wx.cell? ⟨b, j * 5 + 3, none⟩ = some (.int .i64 L[j].vl.n) ∧ wx.cell? ⟨b, j * 5 + 4, none⟩ = some (.string L[j].vl.t) := by
  obtain ⟨a1, c1, e1, h1⟩ := h
  injection e1 with e1 _ _
  subst e1
  rcases h1 with h1 | ⟨b, h2, h0, h3⟩
  · rw [h1] at hj; simp at hj
  · exact ⟨b, h2, h0, h3 j hj⟩
theorem put38_cell {w : World} {b g : Nat} {x0 x1 x2 x3 x4 : Value} (hne : g ≠ b) (o : Nat) : (put38 w b x0 x1 x2 x3 x4).cell? ⟨g, o, none⟩ = w.cell? ⟨g, o, none⟩ := by
  have h : ∀ (u : World) (i : Nat) (y : Value), (u.setCell ⟨b, i, none⟩ y).cell? ⟨g, o, none⟩ = u.cell? ⟨g, o, none⟩ := fun u i y => World.cell?_of_block (w := u) (a := ⟨g, o, none⟩) (Below.heap_setCell u ⟨b, i, none⟩ y g (fun e => hne e))
  unfold put38
  rw [h, h, h, h, h]
theorem blk_ne {a b : Nat} {cs ds : Array Value} {S T : Nat} {w : World} (h : Blk a cs S w) (k : Blk b ds T w) (hT : S ≠ T) : a ≠ b := fun e => by
  subst e
  have := h.symm.trans k
  injection this with this
  injection this with _ this
  exact hT this
/-- names and texts are short -/
structure TabS (C : List Cl) : Prop where
  nm : ∀ c ∈ C, c.nm.size ≤ 1000
theorem nameAt_sm {C : List Cl} (h : TabS C) (i : Int) : (nameAt C i).size ≤ 1000 := by
  unfold nameAt
  split
  · rename_i c hc
    exact h.nm c (List.mem_of_getElem? hc)
  · exact Nat.zero_le _
theorem askG_sm {C : List Cl} {I : List ByteArray} {cd : Int} {col lit : Ex} {k : Ak} (hC : TabS C) (hs : TreeSm lit) (h : pAskG C I cd col lit = some k) : k.Sm := by
  cases lit with
  | nil => cases h
  | node c v nm l r =>
    rw [pAskG] at h
    split at h
    · cases h
    · injection h with h
      subst h
      exact ⟨nameAt_sm hC _, Nat.le_trans hs.1 (by decide)⟩
theorem askF_sm {C : List Cl} {I : List ByteArray} {e : Ex} {k : Ak} (hC : TabS C) (hs : TreeSm e) (h : pAskF C I e = some k) : k.Sm := by
  cases e with
  | nil => cases h
  | node c v nm l r =>
    rw [pAskF] at h
    split at h
    · exact askG_sm hC hs.2.1 h
    · exact askG_sm hC hs.2.2 h
theorem asksF_sm {C : List Cl} {I : List ByteArray} {X : Ex} (hC : TabS C) (hs : TreeSm X) : ∀ k ∈ asksF C I (partsF X), k.Sm := fun k hk => by
  obtain ⟨e, h1, h2⟩ := List.mem_filterMap.1 hk
  exact askF_sm hC (parts_sm hs e h1) h2
/-- looking along a row -/
theorem pfind_no {α : Type} {f : α → Bool} {L : List α} {k : Nat} (h : k < L.length) (hn : f L[k] = false) (hp : (L.take k).find? f = none) : (L.take (k + 1)).find? f = none := by
  rw [List.take_succ_eq_append_getElem h, List.find?_append, hp]
  simp [hn]
theorem pfind_yes {α : Type} {f : α → Bool} {L : List α} {k : Nat} (h : k < L.length) (hn : f L[k] = true) (hp : (L.take k).find? f = none) : L.find? f = some L[k] := by
  have e : L.find? f = ((L.take (k + 1)) ++ (L.drop (k + 1))).find? f := by rw [List.take_append_drop]
  rw [e, List.find?_append, List.take_succ_eq_append_getElem h, List.find?_append, hp]
  simp [hn]
set_option maxRecDepth 100000 in
set_option maxHeartbeats 4000000 in
theorem choose_no (bC bI : Nat) (C : List Cl) (I : List ByteArray) (X : Ex) (p : Option Addr) (w0 : World) (hX : ExAt w0 p X) (hs : safeB X = false) : Calls Tryz.prog 7 #[entV bC bI C I, .pointer p] w0 fun e w' => ∃ v, e = .returned v ∧ PlnV (chooseF C I X) v w' ∧ Below w0.heap.size w0 w' := by
  obtain ⟨W, hW⟩ : ∃ W, (w0.alloc (.cells #[.int .i64 1, .int .i64 1, .string ⟨#[116]⟩, .slice (some ⟨bC, 0, none⟩) C.length C.length, .slice (some ⟨bI, 0, none⟩) I.length I.length] 35)).alloc (.cells #[.int .i64 0, .string ⟨#[]⟩, .pointer none, .pointer none, .string ⟨#[]⟩] 38) = W := ⟨_, rfl⟩
  have hbW : Below w0.heap.size w0 W := by rw [← hW]; exact ((Below.refl _ _).alloc (Nat.le_refl _) _).alloc (by simp only [World.size_alloc]; omega) _
  have hkR : Blk (w0.heap.size + 1) #[.int .i64 0, .string ⟨#[]⟩, .pointer none, .pointer none, .string ⟨#[]⟩] 38 W := by
    have hq := Blk.new (w0.alloc (.cells (entC bC bI C I) 35)) #[.int .i64 0, .string ⟨#[]⟩, .pointer none, .pointer none, .string ⟨#[]⟩] 38
    simp only [World.size_alloc] at hq
    rw [← hW]
    exact hq
  have HE : Hid (chooseF C I X = planZ) := by show _ = _; rw [chooseF, if_pos hs]
  have H : Hid (Blk (w0.heap.size + 1) #[.int .i64 0, .string ⟨#[]⟩, .pointer none, .pointer none, .string ⟨#[]⟩] 38 W ∧ Below w0.heap.size w0 W ∧ ExAt W p X ∧ safeB X = false) := ⟨hkR, hbW, hX.below hbW, hs⟩
  obtain ⟨z0, z1, z2, z3, z4, zf⟩ := hkR.pc
  rw [HE.out]
  clear hbW hkR hX hs
  unfold entV
  go_enter Tryz.func7, Tryz.ntmps7
  go_wp2_with fail
  have h8 := safe_any X p W H.out.2.2.1
  rw [H.out.2.2.2] at h8
  refine h8.mono ?_
  clear h8
  rintro _ w1 ⟨rfl, rfl⟩
  go_wp2
  refine bodyPost_ret (v := .agg #[.int .i64 0, .string ⟨#[]⟩, .pointer none, .pointer none, .string ⟨#[]⟩]) (results_c Tryz.results7 _ _ ⟨w0.heap.size + 1, 0, none⟩ rfl (load38 (put38_blk (.int .i64 0) (.string ⟨#[]⟩) (.pointer none) (.pointer none) (.string ⟨#[]⟩) H.out.1))) rfl ?_
  exact ⟨_, rfl, ⟨none, none, rfl, rfl, rfl⟩, put38_below _ _ _ _ _ H.out.2.1 (by omega)⟩
set_option maxRecDepth 100000 in
set_option maxHeartbeats 40000000 in
theorem choose_yes (bC bI : Nat) (C : List Cl) (I : List ByteArray) (X : Ex) (p : Option Addr) (w0 : World) (hT : TabW bC bI C I w0) (hC : TabS C) (hX : ExAt w0 p X) (hK : PK X) (hs : safeB X = true) : Calls Tryz.prog 7 #[entV bC bI C I, .pointer p] w0 fun e w' => ∃ v, e = .returned v ∧ PlnV (chooseF C I X) v w' ∧ Below w0.heap.size w0 w' := by
  obtain ⟨W, hW⟩ : ∃ W, (w0.alloc (.cells #[.int .i64 1, .int .i64 1, .string ⟨#[116]⟩, .slice (some ⟨bC, 0, none⟩) C.length C.length, .slice (some ⟨bI, 0, none⟩) I.length I.length] 35)).alloc (.cells #[.int .i64 0, .string ⟨#[]⟩, .pointer none, .pointer none, .string ⟨#[]⟩] 38) = W := ⟨_, rfl⟩
  have hbW : Below w0.heap.size w0 W := by rw [← hW]; exact ((Below.refl _ _).alloc (Nat.le_refl _) _).alloc (by simp only [World.size_alloc]; omega) _
  have hkE : Blk w0.heap.size (entC bC bI C I) 35 W := by rw [← hW]; exact (Blk.new _ _ _).below ((Below.refl _ _).alloc (Nat.le_refl _) _)
  have hkR : Blk (w0.heap.size + 1) #[.int .i64 0, .string ⟨#[]⟩, .pointer none, .pointer none, .string ⟨#[]⟩] 38 W := by
    have hq := Blk.new (w0.alloc (.cells (entC bC bI C I) 35)) #[.int .i64 0, .string ⟨#[]⟩, .pointer none, .pointer none, .string ⟨#[]⟩] 38
    simp only [World.size_alloc] at hq
    rw [← hW]
    exact hq
  have G0 : Hid (ChoW (w0.heap.size + 1) w0.heap.size bC bI C I p X w0 W) := ⟨hkR, hkE, hT.below hbW, hX.below hbW, hbW⟩
  have HK : Hid (PK X ∧ TabS C ∧ safeB X = true) := ⟨hK, hC, hs⟩
  have HLC : Hid (bC < w0.heap.size) := hT.lc
  obtain ⟨E, hE⟩ : ∃ E, partsF X = E := ⟨_, rfl⟩
  obtain ⟨L, hL⟩ : ∃ L, asksF C I E = L := ⟨_, rfl⟩
  have HEL : Hid (partsF X = E ∧ asksF C I E = L ∧ E.length ≤ 200 ∧ L.length ≤ 200 ∧ (∀ e ∈ E, e ≠ .nil) ∧ (∀ k ∈ L, k.Sm) ∧ (∀ e ∈ E, TreeSm e)) := by
    refine ⟨hE, hL, hE ▸ hK.le, ?_, hE ▸ parts_ne X, ?_, hE ▸ parts_sm hK.sm⟩
    · have h1 := asksF_len C I E E.length
      rw [List.take_length, hL] at h1
      have h2 := hK.le
      rw [hE] at h2
      omega
    · rw [← hL, ← hE]; exact asksF_sm hC hK.sm
  have HP : Hid (chooseF C I X = match L.find? isEqA with
      | some a => ⟨1, a.cl, some a.vl, some a.vl, ⟨#[]⟩⟩
      | none => match E.find? (isMat C) with
        | some p => ⟨2, nameAt C (ownF C (leftOf p)), none, none, textOf p⟩
        | none => betF L) := by show _ = _; rw [chooseF, if_neg (by rw [hs]; decide), hE, hL]; rfl
  have hEl : E.length ≤ 200 := HEL.out.2.2.1
  have hLl : L.length ≤ 200 := HEL.out.2.2.2.1
  obtain ⟨k0, k1, k2, k3, k4, kf⟩ := G0.out.k0.ec
  clear hbW hkE hkR hT hC hX hK hs hE hL
  have hmf : ∀ (fn : Fn) (first cap : Array Value) (w : World), (Instr.makeFunc fn first cap).run Tryz.prog w = .ok (.func fn first cap) w := fun _ _ _ _ => rfl
  unfold entV
  go_enter Tryz.func7, Tryz.ntmps7
  go_wp2_with fail
  have h8 := safe_any X p W G0.out.ex
  rw [HK.out.2.2] at h8
  refine h8.mono ?_
  clear h8
  rintro _ w1 ⟨rfl, rfl⟩
  go_upto_region 3 with fail
  have G1 : Hid (ChoW (w0.heap.size + 1) w0.heap.size bC bI C I p X w0 w1.drew) := G0.out.below ((Below.refl _ _).drew)
  obtain ⟨d0, d1, d2, d3, d4, df⟩ := G1.out.k0.ec
  clear k0 k1 k2 k3 k4 kf hW
  go_cut [5, 6] (fun a5 a6 wx => ∃ be, a6 = .func (.func 42) #[] #[.pointer (some ⟨be, 0, none⟩)] ∧ Hid (ChoW (w0.heap.size + 1) w0.heap.size bC bI C I p X w0 wx ∧ PtRow wx a5 E ∧ Blk be (entC bC bI C I) 35 wx))
  case first =>
    have HKx : Hid (∀ wx, Below w1.drew.heap.size w1.drew wx → wx.cell? ⟨w0.heap.size, 0, none⟩ = some (.int .i64 1) ∧ wx.cell? ⟨w0.heap.size, 1, none⟩ = some (.int .i64 1) ∧ wx.cell? ⟨w0.heap.size, 2, none⟩ = some (.string ⟨#[116]⟩) ∧ wx.cell? ⟨w0.heap.size, 3, none⟩ = some (.slice (some ⟨bC, 0, none⟩) C.length C.length) ∧ wx.cell? ⟨w0.heap.size, 4, none⟩ = some (.slice (some ⟨bI, 0, none⟩) I.length I.length)) := fun wx hb => by
      obtain ⟨x0, x1, x2, x3, x4, _⟩ := (G1.out.k0.below hb).ec
      exact ⟨x0, x1, x2, x3, x4⟩
    have HBx : Hid (Below w1.drew.heap.size w1.drew w1.drew) := Below.refl _ _
    go_region_held3 (fun wx => wx.cell? ⟨w0.heap.size, 0, none⟩ = some (.int .i64 1) ∧ wx.cell? ⟨w0.heap.size, 1, none⟩ = some (.int .i64 1) ∧ wx.cell? ⟨w0.heap.size, 2, none⟩ = some (.string ⟨#[116]⟩) ∧ wx.cell? ⟨w0.heap.size, 3, none⟩ = some (.slice (some ⟨bC, 0, none⟩) C.length C.length) ∧ wx.cell? ⟨w0.heap.size, 4, none⟩ = some (.slice (some ⟨bI, 0, none⟩) I.length I.length)) (exact HKx.out _ HBx.out) (first
      | (go_at_call 19; refine Calls.mono (parts_any X p _ G1.out.ex (Nat.le_trans HK.out.1.le (by decide))) ?_; rintro _ w2 ⟨v2, rfl, hpt, hb⟩; rw [HEL.out.1] at hpt; have G2 : Hid (ChoW (w0.heap.size + 1) w0.heap.size bC bI C I p X w0 w2 ∧ PtRow w2 v2 E) := ⟨G1.out.below hb, hpt⟩; have HBx : Hid (Below w1.drew.heap.size w1.drew w2) := hb; clear hb hpt)
      | (go_at_call 20; refine Calls.mono (columnsC_any bC bI C I w2) ?_; rintro _ w3 ⟨rfl, hk3, hb⟩; have G3 : Hid (ChoW (w0.heap.size + 1) w0.heap.size bC bI C I p X w0 w3 ∧ PtRow w3 v2 E ∧ Blk w2.heap.size (entC bC bI C I) 35 w3) := ⟨G2.out.1.below hb, G2.out.2.below hb, hk3⟩; have HBx : Hid (Below w1.drew.heap.size w1.drew w3) := HBx.out.trans (hb.mono HBx.out.size); clear hb hk3))
    all_goals
      go_wp2_with fail
      go_meet
    all_goals
      exact ⟨_, rfl, G3⟩
  case rest =>
  obtain ⟨be, rfl, GR⟩ := hcut
  obtain ⟨w3, hw3⟩ : ∃ u, u = wc := ⟨_, rfl⟩
  subst hw3
  clear d0 d1 d2 d3 d4 df
  obtain ⟨aE, cE, rfl, _⟩ := GR.out.2.1
  obtain ⟨k0, k1, k2, k3, k4, kf⟩ := GR.out.1.k0.ec
  go_wp2_with fail
  have h8 := asking_any be bC bI C I E (.slice aE E.length cE) w3 GR.out.1.tb GR.out.2.2 GR.out.2.1 HEL.out.2.2.2.2.1 (by omega)
  rw [HEL.out.2.1] at h8
  refine h8.mono ?_
  clear h8 k0 k1 k2 k3 k4 kf
  rintro _ w4 ⟨sv, rfl, hown, hb⟩
  have hak := AkRow.of hown
  obtain ⟨aL, cL, rfl, _⟩ := hak
  have GA : Hid (ChoA (w0.heap.size + 1) w0.heap.size bC bI be C I p X (.slice aE E.length cE) (.slice aL L.length cL) E L w0 (w4)) := ⟨GR.out.1.below hb, GR.out.2.1.below hb, GR.out.2.2.below hb, AkRow.of hown⟩
  clear hb hown GR G0 G1
  go_wp2
  go_loopw [28] (fun i wr => ∃ k : Nat, k ≤ L.length ∧ i = .int .i64 k ∧ Hid ((L.take k).find? isEqA = none) ∧ Hid (ChoA (w0.heap.size + 1) w0.heap.size bC bI be C I p X (.slice aE E.length cE) (.slice aL L.length cL) E L w0 (wr))) (fun i _ => L.length - (intOf i).toNat)
  case atStart => exact ⟨0, Nat.zero_le _, rfl, (by show List.find? isEqA [] = none; rfl), GA⟩
  case round =>
    obtain ⟨k, hkL, rfl, hfn, G5⟩ := hrel
    by_cases hlt : k < L.length
    · have i1 : (k : Int) < (L.length : Int) := by omega
      obtain ⟨bL, rfl, hbL, n0, n1, n2, n3, n4⟩ := G5.out.ak.cell k hlt
      obtain ⟨x, hx⟩ : ∃ x, L[k] = x := ⟨_, rfl⟩
      rw [hx] at n0 n1 n2 n3 n4
      have HX : Hid (x.Sm ∧ L[k] = x) := ⟨by rw [← hx]; exact HEL.out.2.2.2.2.2.1 _ (List.getElem_mem hlt), hx⟩
      obtain ⟨Y, hY⟩ : ∃ Y, wr.alloc (.cells #[.int .i64 0, .string ⟨#[]⟩, .int .i64 0, .int .i64 0, .string ⟨#[]⟩] 71) = Y := ⟨_, rfl⟩
      have hbY : Below wr.heap.size wr Y := by rw [← hY]; exact (Below.refl _ _).alloc (Nat.le_refl _) _
      have hkY : Blk wr.heap.size #[.int .i64 0, .string ⟨#[]⟩, .int .i64 0, .int .i64 0, .string ⟨#[]⟩] 71 Y := by rw [← hY]; exact Blk.new _ _ _
      obtain ⟨bx, hbx⟩ : ∃ b, wr.heap.size = b := ⟨_, rfl⟩
      have G6 : Hid (ChoA (w0.heap.size + 1) w0.heap.size bC bI be C I p X (.slice aE E.length cE) (.slice (some ⟨bL, 0, none⟩) L.length cL) E L w0 (put71 Y bx x) ∧ Blk bx #[.int .i64 x.cd, .string x.cl, .int .i64 x.vl.k, .int .i64 x.vl.n, .string x.vl.t] 71 (put71 Y bx x)) := by
        rw [hbx] at hkY hbY
        have hb2 : Below bx Y (put71 Y bx x) := put71_below x (Below.refl _ _) (Nat.le_refl _)
        exact ⟨G5.out.below (by rw [hbx]; exact hbY.trans hb2), put71_blk x hkY⟩
      obtain ⟨bL', e1, _, m0, m1, m2, m3, m4⟩ := (G5.out.below hbY).ak.cell k hlt
      obtain rfl : bL = bL' := by injection e1 with e1; injection e1
      rw [hx] at m0 m1 m2 m3 m4
      rw [hbx] at hkY
      obtain ⟨y0, y1, y2, y3, y4, yf⟩ := hkY.ac
      obtain ⟨W3, hW3⟩ : ∃ V, put71 Y bx x = V := ⟨_, rfl⟩
      rw [hW3] at G6
      unfold put71 at hW3
      obtain ⟨g0, g1, g2, g3, g4, gf⟩ := G6.out.2.ac
      clear hbY hkY G5 hx e1 hbL
      by_cases h9 : x.cd = 9
      · have e9 : (x.cd == 9) = true := by simp [h9]
        have HQ : Hid (chooseF C I X = ⟨1, x.cl, some x.vl, some x.vl, ⟨#[]⟩⟩) := by
          show _ = _
          rw [HP.out, pfind_yes (f := isEqA) hlt (by rw [HX.out.2]; exact e9) hfn.out, HX.out.2]
        clear h9
        go_upto_region 9 with fail
        have G7 : Hid (ChoA (w0.heap.size + 1) w0.heap.size bC bI be C I p X (.slice aE E.length cE) (.slice (some ⟨bL, 0, none⟩) L.length cL) E L w0 (W3.drew) ∧ Blk bx #[.int .i64 x.cd, .string x.cl, .int .i64 x.vl.k, .int .i64 x.vl.n, .string x.vl.t] 71 W3.drew) := ⟨G6.out.1.below ((Below.refl _ _).drew), G6.out.2.below ((Below.refl _ _).drew)⟩
        obtain ⟨d0, d1, d2, d3, d4, df⟩ := G7.out.2.ac
        have HKx : Hid (∀ wx, Below W3.drew.heap.size W3.drew wx → wx.cell? ⟨bx, 0, none⟩ = some (.int .i64 x.cd) ∧ wx.cell? ⟨bx, 1, none⟩ = some (.string x.cl) ∧ wx.cell? ⟨bx, 2, none⟩ = some (.int .i64 x.vl.k) ∧ wx.cell? ⟨bx, 3, none⟩ = some (.int .i64 x.vl.n) ∧ wx.cell? ⟨bx, 4, none⟩ = some (.string x.vl.t)) := fun wx hb => by
          obtain ⟨x0, x1, x2, x3, x4, _⟩ := (G7.out.2.below hb).ac
          exact ⟨x0, x1, x2, x3, x4⟩
        have HKz : Hid (∀ wx, Below W3.drew.heap.size W3.drew wx → ∀ y0 y1 y2 y3 y4, (put38 wx (w0.heap.size + 1) y0 y1 y2 y3 y4).cell? ⟨bx, 0, none⟩ = some (.int .i64 x.cd) ∧ (put38 wx (w0.heap.size + 1) y0 y1 y2 y3 y4).cell? ⟨bx, 1, none⟩ = some (.string x.cl) ∧ (put38 wx (w0.heap.size + 1) y0 y1 y2 y3 y4).cell? ⟨bx, 2, none⟩ = some (.int .i64 x.vl.k) ∧ (put38 wx (w0.heap.size + 1) y0 y1 y2 y3 y4).cell? ⟨bx, 3, none⟩ = some (.int .i64 x.vl.n) ∧ (put38 wx (w0.heap.size + 1) y0 y1 y2 y3 y4).cell? ⟨bx, 4, none⟩ = some (.string x.vl.t)) := fun wx hb y0 y1 y2 y3 y4 => by
          have hne : bx ≠ w0.heap.size + 1 := blk_ne G7.out.2 G7.out.1.c.kr (by decide)
          simp only [put38_cell hne]
          exact HKx.out wx hb
        have HBx : Hid (Below W3.drew.heap.size W3.drew W3.drew) := Below.refl _ _
        go_region_held3 (fun wx => wx.cell? ⟨bx, 0, none⟩ = some (.int .i64 x.cd) ∧ wx.cell? ⟨bx, 1, none⟩ = some (.string x.cl) ∧ wx.cell? ⟨bx, 2, none⟩ = some (.int .i64 x.vl.k) ∧ wx.cell? ⟨bx, 3, none⟩ = some (.int .i64 x.vl.n) ∧ wx.cell? ⟨bx, 4, none⟩ = some (.string x.vl.t)) (first | exact HKx.out _ HBx.out | exact HKz.out _ HBx.out _ _ _ _ _) (first
          | (go_at_call 22; refine Calls.mono (aname_any x HX.out.1 _) ?_; rintro _ w6 ⟨rfl, hb⟩; have G8 : Hid (ChoA (w0.heap.size + 1) w0.heap.size bC bI be C I p X (.slice aE E.length cE) (.slice (some ⟨bL, 0, none⟩) L.length cL) E L w0 (w6)) := G7.out.1.below hb; have HBx : Hid (Below W3.drew.heap.size W3.drew w6) := hb; clear hb)
          | (go_at_call 23; have hh9 := G9.out; refine Calls.mono (abound_any x HX.out.1 _) ?_; rintro _ w8 ⟨b8, rfl, hk8, hb⟩; have G10 : Hid (ChoA (w0.heap.size + 1) w0.heap.size bC bI be C I p X (.slice aE E.length cE) (.slice (some ⟨bL, 0, none⟩) L.length cL) E L w0 (w8) ∧ Blk b7 x.vl.cells 23 w8 ∧ Blk b8 x.vl.cells 23 w8) := ⟨G9.out.1.below hb, G9.out.2.below hb, hk8⟩; obtain ⟨r0, r1, r2, r3, r4, rf⟩ := G10.out.1.c.kr.pc; have HBx : Hid (Below W3.drew.heap.size W3.drew w8) := HBx.out.trans (hb.mono HBx.out.size); clear hb hk8 hh9)
          | (go_at_call 23; refine Calls.mono (abound_any x HX.out.1 _) ?_; rintro _ w7 ⟨b7, rfl, hk7, hb⟩; have G9 : Hid (ChoA (w0.heap.size + 1) w0.heap.size bC bI be C I p X (.slice aE E.length cE) (.slice (some ⟨bL, 0, none⟩) L.length cL) E L w0 (w7) ∧ Blk b7 x.vl.cells 23 w7) := ⟨G8.out.below hb, hk7⟩; have HBx : Hid (Below W3.drew.heap.size W3.drew w7) := HBx.out.trans (hb.mono HBx.out.size); clear hb hk7))
        all_goals
          go_wp2
          refine bodyPost_ret (v := .agg #[.int .i64 1, .string x.cl, .pointer (some ⟨b7, 0, none⟩), .pointer (some ⟨b8, 0, none⟩), .string ⟨#[]⟩]) (results_c Tryz.results7 _ _ ⟨w0.heap.size + 1, 0, none⟩ rfl (load38 (put38_blk (.int .i64 1) (.string x.cl) (.pointer (some ⟨b7, 0, none⟩)) (.pointer (some ⟨b8, 0, none⟩)) (.string ⟨#[]⟩) G10.out.1.c.kr))) rfl ?_
          exact ⟨_, rfl, (by rw [HQ.out]; exact ⟨some ⟨b7, 0, none⟩, some ⟨b8, 0, none⟩, rfl, ptv_put (q := some ⟨b7, 0, none⟩) (o := some x.vl) ⟨b7, rfl, G10.out.2.1⟩ G10.out.1.c.kr _ _ _ _ _, ptv_put (q := some ⟨b8, 0, none⟩) (o := some x.vl) ⟨b8, rfl, G10.out.2.2⟩ G10.out.1.c.kr _ _ _ _ _⟩), put38_below _ _ _ _ _ G10.out.1.c.be (by omega)⟩
      · have e9 : (x.cd == 9) = false := by simp [h9]
        have HN : Hid ((L.take (k + 1)).find? isEqA = none) := pfind_no hlt (by rw [HX.out.2]; exact e9) hfn.out
        clear h9
        go_wp2
        go_roundw
        case rel => exact ⟨k + 1, by omega, by go_num, HN, G6.out.1⟩
        case measure => simp [intOf]; omega
    · obtain rfl : k = L.length := by omega
      have HF : Hid (L.find? isEqA = none) := by have := hfn.out; rw [List.take_length] at this; exact this
      clear hfn
      go_wp2
      go_loopw [45] (fun i wr => ∃ k : Nat, k ≤ E.length ∧ i = .int .i64 k ∧ Hid ((E.take k).find? (isMat C) = none) ∧ Hid (ChoA (w0.heap.size + 1) w0.heap.size bC bI be C I p X (.slice aE E.length cE) (.slice aL L.length cL) E L w0 (wr))) (fun i _ => E.length - (intOf i).toNat)
      case atStart => exact ⟨0, Nat.zero_le _, rfl, (by show List.find? (isMat C) [] = none; rfl), G5⟩
      case round =>
        obtain ⟨k, hkE, rfl, hfn, G6⟩ := hrel
        by_cases hlt : k < E.length
        · have i1 : (k : Int) < (E.length : Int) := by omega
          obtain ⟨bE, q, rfl, cq, hq⟩ := G6.out.pt.cell k hlt
          have hne := HEL.out.2.2.2.2.1 E[k] (List.getElem_mem hlt)
          have hsm := HEL.out.2.2.2.2.2.2 E[k] (List.getElem_mem hlt)
          obtain ⟨Z, hZ⟩ : ∃ Z, E[k] = Z := ⟨_, rfl⟩
          rw [hZ] at hq hne hsm
          have HZ : Hid (E[k] = Z) := hZ
          clear hZ
          cases Z with
          | nil => exact absurd rfl hne
          | node c v nm l r =>
            have HSM : Hid (v.t.size ≤ 40) := hsm.1
            clear hne hsm
            have HXA : Hid (ExAt wr q (.node c v nm l r)) := hq
            obtain ⟨B, pl, pr, rfl, hBlt, ⟨m0, m1, m2, m3, m4, m5, m6⟩, hl0, hr0⟩ := hq
            have HL0 : Hid (ExAt wr pl l) := hl0
            have HCB : Hid (∀ wx, Below wr.heap.size wr wx → wx.cell? ⟨B, 0, none⟩ = some (.int .i64 c) ∧ wx.cell? ⟨B, 3, none⟩ = some (.string v.t)) := fun wx hb => ⟨(hb.cell (p := ⟨B, 0, none⟩) hBlt).trans m0, (hb.cell (p := ⟨B, 3, none⟩) hBlt).trans m3⟩
            clear hl0 hr0 m1 m2 m3 m4 m6 hBlt
            obtain ⟨j, hj⟩ : ∃ j, ownF C l = j := ⟨_, rfl⟩
            have HJ : Hid (ownF C l = j) := hj
            have HM : Hid (isMat C (.node c v nm l r) = ((c == 17) && decide (0 ≤ j))) := by show _ = _; rw [← hj]; rfl
            by_cases h17 : c = 17
            · have e17 : (c == 17) = true := by simp [h17]
              by_cases hjp : 0 ≤ j
              · have dj : decide (0 ≤ j) = true := decide_eq_true hjp
                have hjl : j < C.length := by rw [← hj]; exact ownF_lt (by rw [hj]; exact hjp)
                have hjc : j.toNat < C.length := by omega
                have hjn : (j.toNat : Int) = j := by omega
                obtain ⟨nn, hnn⟩ : ∃ z, nameAt C j = z := ⟨_, rfl⟩
                have hcn : C[j.toNat].nm = nn := by rw [← hnn, nameAt, List.getElem?_eq_getElem hjc]
                have HCN : Hid (∀ wx, TabW bC bI C I wx → wx.cell? ⟨bC, j.toNat * 4, none⟩ = some (.string nn)) := fun wx h => by rw [← hcn]; exact (h.kc j.toNat hjc).1
                have HNS : Hid (nn.size ≤ 1000) := by show _ ≤ _; rw [← hnn]; exact nameAt_sm HK.out.2.1 _
                have HQ : Hid (chooseF C I X = ⟨2, nn, none, none, v.t⟩) := by
                  show _ = _
                  rw [HP.out, HF.out, pfind_yes (f := isMat C) hlt (by rw [HZ.out, HM.out, e17, dj]; rfl) hfn.out, HZ.out]
                  show (⟨2, nameAt C (ownF C l), none, none, v.t⟩ : Pln) = _
                  rw [HJ.out, hnn]
                have HC17 : Hid (c = 17) := h17
                clear hj hnn hcn h17
                go_wp2_with fail
                have h8 := ownC_any bC bI C I l pl be wr HL0.out G6.out.ke G6.out.c.tb
                rw [HJ.out] at h8
                refine h8.mono ?_
                clear h8 m0 m5 cq
                rintro _ w5 ⟨rfl, hb⟩
                have G7 : Hid (ChoA (w0.heap.size + 1) w0.heap.size bC bI be C I p X (.slice (some ⟨bE, 0, none⟩) E.length cE) (.slice aL L.length cL) E L w0 (w5)) := G6.out.below hb
                obtain ⟨o0, o3⟩ := HCB.out w5 hb
                have HCB2 : Hid (∀ wx, Below w5.heap.size w5 wx → wx.cell? ⟨B, 3, none⟩ = some (.string v.t)) := fun wx hb2 => (HCB.out wx (hb.trans (hb2.mono hb.size))).2
                clear hb
                go_upto_region 16 with fail
                have hd : Below w5.heap.size w5 w5.drew := (Below.refl _ _).drew
                have G8 : Hid (ChoA (w0.heap.size + 1) w0.heap.size bC bI be C I p X (.slice (some ⟨bE, 0, none⟩) E.length cE) (.slice aL L.length cL) E L w0 (w5.drew)) := G7.out.below hd
                have HCB3 : Hid (∀ wx, Below w5.drew.heap.size w5.drew wx → wx.cell? ⟨B, 3, none⟩ = some (.string v.t)) := fun wx hb2 => HCB2.out wx (hd.trans (hb2.mono hd.size))
                have HO0 : Hid (w5.drew.cell? ⟨B, 0, none⟩ = some (.int .i64 c) ∧ c = 17) := ⟨o0, HC17.out⟩
                have p3 : w5.drew.cell? ⟨B, 3, none⟩ = some (.string v.t) := o3
                obtain ⟨d0, d1, d2, d3, d4, df⟩ := G8.out.c.k0.ec
                have tn := HCN.out w5.drew G8.out.c.tb
                clear hd
                have HKx : Hid (∀ wx, Below w5.drew.heap.size w5.drew wx → wx.cell? ⟨w0.heap.size, 3, none⟩ = some (.slice (some ⟨bC, 0, none⟩) C.length C.length) ∧ wx.cell? ⟨bC, j.toNat * 4, none⟩ = some (.string nn) ∧ wx.cell? ⟨B, 3, none⟩ = some (.string v.t)) := fun wx hb => by
                  obtain ⟨_, _, _, x3, _, _⟩ := (G8.out.c.k0.below hb).ec
                  exact ⟨x3, HCN.out wx (G8.out.c.tb.below hb), HCB3.out wx hb⟩
                have HKz : Hid (∀ wx, Below w5.drew.heap.size w5.drew wx → ∀ y0 y1 y2 y3 y4, (put38 wx (w0.heap.size + 1) y0 y1 y2 y3 y4).cell? ⟨w0.heap.size, 3, none⟩ = some (.slice (some ⟨bC, 0, none⟩) C.length C.length) ∧ (put38 wx (w0.heap.size + 1) y0 y1 y2 y3 y4).cell? ⟨bC, j.toNat * 4, none⟩ = some (.string nn) ∧ (put38 wx (w0.heap.size + 1) y0 y1 y2 y3 y4).cell? ⟨B, 3, none⟩ = some (.string v.t)) := fun wx hb y0 y1 y2 y3 y4 => by
                  have hn1 : w0.heap.size ≠ w0.heap.size + 1 := by omega
                  have hn2 : bC ≠ w0.heap.size + 1 := by have := HLC.out; omega
                  have hn3 : B ≠ w0.heap.size + 1 := fun e => by
                    have h1 := HO0.out.1
                    rw [e, G8.out.c.kr.pc.1] at h1
                    injection h1 with h1
                    injection h1 with _ h1
                    rw [← h1] at HO0
                    exact absurd HO0.out.2 (by decide)
                  rw [put38_cell hn1, put38_cell hn2, put38_cell hn3]
                  exact HKx.out wx hb
                have HBx : Hid (Below w5.drew.heap.size w5.drew w5.drew) := Below.refl _ _
                go_region_held3 (fun wx => wx.cell? ⟨w0.heap.size, 3, none⟩ = some (.slice (some ⟨bC, 0, none⟩) C.length C.length) ∧ wx.cell? ⟨bC, j.toNat * 4, none⟩ = some (.string nn) ∧ wx.cell? ⟨B, 3, none⟩ = some (.string v.t)) (first | exact HKx.out _ HBx.out | exact HKz.out _ HBx.out _ _ _ _ _) (first
                  | (go_at_call 24; have hh9 := G9.out; refine Calls.mono (clone_ok v.t _ (Nat.le_trans HSM.out (by decide))) ?_; rintro _ w7 ⟨rfl, hb⟩; have G10 : Hid (ChoA (w0.heap.size + 1) w0.heap.size bC bI be C I p X (.slice (some ⟨bE, 0, none⟩) E.length cE) (.slice aL L.length cL) E L w0 (w7)) := G9.out.below hb; obtain ⟨r0, r1, r2, r3, r4, rf⟩ := G10.out.c.kr.pc; have HBx : Hid (Below w5.drew.heap.size w5.drew w7) := HBx.out.trans (hb.mono HBx.out.size); clear hb hh9)
                  | (go_at_call 24; refine Calls.mono (clone_ok nn _ (Nat.le_trans HNS.out (by decide))) ?_; rintro _ w6 ⟨rfl, hb⟩; have G9 : Hid (ChoA (w0.heap.size + 1) w0.heap.size bC bI be C I p X (.slice (some ⟨bE, 0, none⟩) E.length cE) (.slice aL L.length cL) E L w0 (w6)) := G8.out.below hb; have HBx : Hid (Below w5.drew.heap.size w5.drew w6) := hb; clear hb))
                all_goals
                  go_wp2
                  refine bodyPost_ret (v := .agg #[.int .i64 2, .string nn, .pointer none, .pointer none, .string v.t]) (results_c Tryz.results7 _ _ ⟨w0.heap.size + 1, 0, none⟩ rfl (load38 (put38_blk (.int .i64 2) (.string nn) (.pointer none) (.pointer none) (.string v.t) G10.out.c.kr))) rfl ?_
                  exact ⟨_, rfl, (by rw [HQ.out]; exact ⟨none, none, rfl, rfl, rfl⟩), put38_below _ _ _ _ _ G10.out.c.be (by omega)⟩
              · have dj : decide (0 ≤ j) = false := decide_eq_false hjp
                have HN : Hid ((E.take (k + 1)).find? (isMat C) = none) := pfind_no hlt (by rw [HZ.out, HM.out, e17, dj]; rfl) hfn.out
                clear hj h17
                go_wp2_with fail
                have h8 := ownC_any bC bI C I l pl be wr HL0.out G6.out.ke G6.out.c.tb
                rw [HJ.out] at h8
                refine h8.mono ?_
                clear h8 m0 m5 cq
                rintro _ w5 ⟨rfl, hb⟩
                have G7 : Hid (ChoA (w0.heap.size + 1) w0.heap.size bC bI be C I p X (.slice (some ⟨bE, 0, none⟩) E.length cE) (.slice aL L.length cL) E L w0 (w5)) := G6.out.below hb
                obtain ⟨o0, o3⟩ := HCB.out w5 hb
                clear hb
                go_wp2
                go_roundw
                case rel => exact ⟨k + 1, by omega, by go_num, HN, G7⟩
                case measure => simp [intOf]; omega
            · have e17 : (c == 17) = false := by simp [h17]
              have HN : Hid ((E.take (k + 1)).find? (isMat C) = none) := pfind_no hlt (by rw [HZ.out, HM.out, e17]; rfl) hfn.out
              clear hj h17
              go_wp2_with fail
              have h8 := ownC_any bC bI C I l pl be wr HL0.out G6.out.ke G6.out.c.tb
              rw [HJ.out] at h8
              refine h8.mono ?_
              clear h8 m0 m5 cq
              rintro _ w5 ⟨rfl, hb⟩
              have G7 : Hid (ChoA (w0.heap.size + 1) w0.heap.size bC bI be C I p X (.slice (some ⟨bE, 0, none⟩) E.length cE) (.slice aL L.length cL) E L w0 (w5)) := G6.out.below hb
              obtain ⟨o0, o3⟩ := HCB.out w5 hb
              clear hb
              go_wp2
              go_roundw
              case rel => exact ⟨k + 1, by omega, by go_num, HN, G7⟩
              case measure => simp [intOf]; omega
        · obtain rfl : k = E.length := by omega
          have HQ : Hid (chooseF C I X = betF L) := by
            show _ = _
            have h := hfn.out
            rw [List.take_length] at h
            rw [HP.out, HF.out, h]
          clear hfn
          go_wp2_with fail
          refine (betw_any L _ wr G6.out.ak HEL.out.2.2.2.2.2.1 (by omega)).mono ?_
          rintro _ w5 ⟨v5, rfl, hpv, hb⟩
          have G7 : Hid (ChoA (w0.heap.size + 1) w0.heap.size bC bI be C I p X (.slice aE E.length cE) (.slice aL L.length cL) E L w0 (w5)) := G6.out.below hb
          obtain ⟨ql, qh, rfl, h1, h2⟩ := hpv
          have HPV : Hid (PtV w5 ql (betF L).lo ∧ PtV w5 qh (betF L).hi) := ⟨h1, h2⟩
          obtain ⟨r0, r1, r2, r3, r4, rf⟩ := G7.out.c.kr.pc
          clear hb h1 h2
          go_wp2
          refine bodyPost_ret (v := .agg #[.int .i64 (betF L).kd, .string (betF L).cl, .pointer ql, .pointer qh, .string (betF L).tx]) (results_c Tryz.results7 _ _ ⟨w0.heap.size + 1, 0, none⟩ rfl (load38 (put38_blk (.int .i64 (betF L).kd) (.string (betF L).cl) (.pointer ql) (.pointer qh) (.string (betF L).tx) G7.out.c.kr))) rfl ?_
          exact ⟨_, rfl, (by rw [HQ.out]; exact ⟨ql, qh, rfl, ptv_put HPV.out.1 G7.out.c.kr _ _ _ _ _, ptv_put HPV.out.2 G7.out.c.kr _ _ _ _ _⟩), put38_below _ _ _ _ _ G7.out.c.be (by omega)⟩
theorem choose_any (bC bI : Nat) (C : List Cl) (I : List ByteArray) (X : Ex) (p : Option Addr) (w0 : World) (hT : TabW bC bI C I w0) (hC : TabS C) (hX : ExAt w0 p X) (hK : PK X) : Calls Tryz.prog 7 #[entV bC bI C I, .pointer p] w0 fun e w' => ∃ v, e = .returned v ∧ PlnV (chooseF C I X) v w' ∧ Below w0.heap.size w0 w' := by
  cases hs : safeB X with
  | false => exact choose_no bC bI C I X p w0 hX hs
  | true => exact choose_yes bC bI C I X p w0 hT hC hX hK hs
end Go.Proofs.YtmabfbffpedfnaaGreatDoor
namespace Go.Proofs.YtmabfbffpedfnaaGreatDoor
open Go.RowKit

/-- what lies in memory ahead of the law -/
structure LAt (w : World) : Prop where
  b : BAt w
  ask : w.rangeAt 0 0 askCells
theorem LAt.below {w w' : World} (h : LAt w) (hb : Below w.heap.size w w') : LAt w' :=
  ⟨h.b.below hb, range_keep h.ask (fun q => World.cell?_of_block (w := w) (a := ⟨0, q, none⟩) (hb.block 0 (by have := h.b.g.lo; omega)))⟩
def C1 : List Cl := [⟨⟨#[97]⟩, 1, false, false⟩]
def I1 : List ByteArray := [⟨#[97]⟩]
theorem C1_sm : TabS C1 := ⟨fun c hc => by rw [List.mem_singleton.1 hc]; decide⟩
def pd1 : ByteArray := ⟨#[51, 32, 60, 32, 97]⟩
def pd2 : ByteArray := ⟨#[97, 32, 43, 32, 49, 32, 61, 32, 50]⟩
theorem pd1_plan : chooseF C1 I1 (condF pd1) = ⟨1, ⟨#[97]⟩, some (numV 3), none, ⟨#[]⟩⟩ := by kernel_rfl
theorem pd2_plan : chooseF C1 I1 (condF pd2) = planZ := by kernel_rfl
/-- the plan stands in block b -/
def PlanAt (b : Nat) (p : Pln) (w : World) : Prop := ∃ ql qh, Blk b #[.int .i64 p.kd, .string p.cl, .pointer ql, .pointer qh, .string p.tx] 38 w ∧ PtV w ql p.lo ∧ PtV w qh p.hi
theorem PlanAt.below {b : Nat} {p : Pln} {w w' : World} (h : PlanAt b p w) (hb : Below w.heap.size w w') : PlanAt b p w' := by
  obtain ⟨ql, qh, h1, h2, h3⟩ := h
  exact ⟨ql, qh, h1.below hb, h2.below hb, h3.below hb⟩
theorem PlanAt.put {b : Nat} {p : Pln} {ql qh : Option Addr} {w : World} (h : Blk b #[.int .i64 0, .string ⟨#[]⟩, .pointer none, .pointer none, .string ⟨#[]⟩] 38 w) (h1 : PtV w ql p.lo) (h2 : PtV w qh p.hi) : PlanAt b p (put38 w b (.int .i64 p.kd) (.string p.cl) (.pointer ql) (.pointer qh) (.string p.tx)) :=
  ⟨ql, qh, put38_blk _ _ _ _ _ h, ptv_put h1 h _ _ _ _ _, ptv_put h2 h _ _ _ _ _⟩
theorem PlanAt.new {p : Pln} {ql qh : Option Addr} {w : World} (h1 : PtV w ql p.lo) (h2 : PtV w qh p.hi) : PlanAt w.heap.size p (w.alloc (.cells #[.int .i64 p.kd, .string p.cl, .pointer ql, .pointer qh, .string p.tx] 38)) :=
  ⟨ql, qh, Blk.new _ _ _, h1.below ((Below.refl _ _).alloc (Nat.le_refl _) _), h2.below ((Below.refl _ _).alloc (Nat.le_refl _) _)⟩
set_option maxRecDepth 100000 in
set_option maxHeartbeats 40000000 in
theorem planned_any (w : World) (h : LAt w) : Calls Tryz.prog 4 #[] w fun e w' => e = .returned (.bool true) ∧ Below w.heap.size w w' := by
  obtain ⟨W, hW⟩ : ∃ W, ((w.alloc (.cells #[.string ⟨#[97]⟩, .int .i64 1, .bool false, .bool false] 29)).alloc (.cells #[.string ⟨#[97]⟩] 9)).alloc (.cells #[.string ⟨#[116]⟩, .slice (some ⟨w.heap.size, 0, none⟩) 1 1, .slice (some ⟨w.heap.size + 1, 0, none⟩) 1 1] 33) = W := ⟨_, rfl⟩
  have hbW : Below w.heap.size w W := by rw [← hW]; exact (((Below.refl _ _).alloc (Nat.le_refl _) _).alloc (by simp only [World.size_alloc]; omega) _).alloc (by simp only [World.size_alloc]; omega) _
  have hkC : Blk w.heap.size #[.string ⟨#[97]⟩, .int .i64 1, .bool false, .bool false] 29 W := by rw [← hW]; exact (Blk.new _ _ _).below (((Below.refl _ _).alloc (Nat.le_refl _) _).alloc (by simp only [World.size_alloc]; omega) _)
  have hkI : Blk (w.heap.size + 1) #[.string ⟨#[97]⟩] 9 W := by
    have hq := Blk.new (w.alloc (.cells #[.string ⟨#[97]⟩, .int .i64 1, .bool false, .bool false] 29)) #[.string ⟨#[97]⟩] 9
    simp only [World.size_alloc] at hq
    rw [← hW]
    exact hq.below ((Below.refl _ _).alloc (Nat.le_refl _) _)
  have hkT : Blk (w.heap.size + 2) #[.string ⟨#[116]⟩, .slice (some ⟨w.heap.size, 0, none⟩) 1 1, .slice (some ⟨w.heap.size + 1, 0, none⟩) 1 1] 33 W := by
    have hq := Blk.new ((w.alloc (.cells #[.string ⟨#[97]⟩, .int .i64 1, .bool false, .bool false] 29)).alloc (.cells #[.string ⟨#[97]⟩] 9)) #[.string ⟨#[116]⟩, .slice (some ⟨w.heap.size, 0, none⟩) 1 1, .slice (some ⟨w.heap.size + 1, 0, none⟩) 1 1] 33
    simp only [World.size_alloc, Nat.add_assoc, Nat.reduceAdd] at hq
    rw [← hW]
    exact hq
  have HT : Hid (TabW w.heap.size (w.heap.size + 1) C1 I1 W) := by
    refine ⟨fun j hj => ?_, fun j hj => ?_, (Array.getElem?_eq_some_iff.1 hkC).1, (Array.getElem?_eq_some_iff.1 hkI).1, by decide, by decide⟩
    · obtain rfl : j = 0 := by have : j < 1 := hj; omega
      exact ⟨by rw [hkC.cell]; rfl, by rw [hkC.cell]; rfl, by rw [hkC.cell]; rfl, by rw [hkC.cell]; rfl⟩
    · obtain rfl : j = 0 := by have : j < 1 := hj; omega
      rw [hkI.cell]; rfl
  have HKT : Hid (Blk (w.heap.size + 2) #[.string ⟨#[116]⟩, .slice (some ⟨w.heap.size, 0, none⟩) 1 1, .slice (some ⟨w.heap.size + 1, 0, none⟩) 1 1] 33 W) := hkT
  have HQ : Hid (∀ wx, Below W.heap.size W wx → (wx.cell? ⟨w.heap.size + 2, 0, none⟩ = some (.string ⟨#[116]⟩) ∧ wx.cell? ⟨w.heap.size + 2, 1, none⟩ = some (.slice (some ⟨w.heap.size, 0, none⟩) 1 1) ∧ wx.cell? ⟨w.heap.size + 2, 2, none⟩ = some (.slice (some ⟨w.heap.size + 1, 0, none⟩) 1 1)) ∧ LAt wx ∧ TabW w.heap.size (w.heap.size + 1) C1 I1 wx) := fun wx hb => ⟨⟨by rw [(HKT.out.below hb).cell 0]; rfl, by rw [(HKT.out.below hb).cell 1]; rfl, by rw [(HKT.out.below hb).cell 2]; rfl⟩, (h.below hbW).below hb, HT.out.below hb⟩
  have HB0 : Hid (Below w.heap.size w W) := hbW
  clear hbW hkC hkI hkT h HT
  go_enter Tryz.func4, Tryz.ntmps4
  obtain ⟨pn, hpn⟩ : ∃ pn, chooseF C1 I1 (condF pd1) = pn := ⟨_, rfl⟩
  have HPN : Hid (chooseF C1 I1 (condF pd1) = pn) := hpn
  clear hpn
  go_upto_region 2 with fail
  go_cut [2] (fun uu wc => ∃ bu : Nat, uu = .pointer (some ⟨bu, 0, none⟩) ∧ Hid (PlanAt bu pn wc ∧ Below W.heap.size W wc))
  case first =>
    have HK : Hid (∀ wx, Below W.heap.size W wx → wx.cell? ⟨w.heap.size + 2, 0, none⟩ = some (.string ⟨#[116]⟩) ∧ wx.cell? ⟨w.heap.size + 2, 1, none⟩ = some (.slice (some ⟨w.heap.size, 0, none⟩) 1 1) ∧ wx.cell? ⟨w.heap.size + 2, 2, none⟩ = some (.slice (some ⟨w.heap.size + 1, 0, none⟩) 1 1)) := fun wx h => (HQ.out wx h).1
    have HCO : Hid (∀ wx, Below W.heap.size W wx → Calls Tryz.prog 6 #[.string pd1] wx fun e w' => ∃ p, e = .returned (.pointer p) ∧ ExAt w' p (condF pd1) ∧ Below wx.heap.size wx w') := fun wx h => cond_any pd1 wx (HQ.out wx h).2.1.b (by decide)
    have HCH : Hid (∀ p wx, Below W.heap.size W wx → ExAt wx p (condF pd1) → Calls Tryz.prog 7 #[entV w.heap.size (w.heap.size + 1) C1 I1, .pointer p] wx fun e w' => ∃ ql qh, e = .returned (.agg #[.int .i64 pn.kd, .string pn.cl, .pointer ql, .pointer qh, .string pn.tx]) ∧ PtV w' ql pn.lo ∧ PtV w' qh pn.hi ∧ Below wx.heap.size wx w') := fun p wx h hx => by
      have h8 := choose_any w.heap.size (w.heap.size + 1) C1 I1 (condF pd1) p wx (HQ.out wx h).2.2 C1_sm hx (PK.of _)
      rw [HPN.out] at h8
      exact h8.mono fun e w' ⟨v, e1, ⟨ql, qh, e2, k1, k2⟩, hb⟩ => ⟨ql, qh, by rw [e1, e2], k1, k2, hb⟩
    have HD : Hid (Below W.heap.size W W.drew) := (Below.refl _ _).drew
    have HB : Hid (Below W.heap.size W (W.alloc (.cells #[.int .i64 0, .string ⟨#[]⟩, .pointer none, .pointer none, .string ⟨#[]⟩] 38)).drew ∧ Blk W.heap.size #[.int .i64 0, .string ⟨#[]⟩, .pointer none, .pointer none, .string ⟨#[]⟩] 38 (W.alloc (.cells #[.int .i64 0, .string ⟨#[]⟩, .pointer none, .pointer none, .string ⟨#[]⟩] 38)).drew) := ⟨((Below.refl _ _).alloc (Nat.le_refl _) _).drew, (Blk.new W #[.int .i64 0, .string ⟨#[]⟩, .pointer none, .pointer none, .string ⟨#[]⟩] 38).below ((Below.refl _ _).drew)⟩
    go_region_held3 (fun wx => wx.cell? ⟨w.heap.size + 2, 0, none⟩ = some (.string ⟨#[116]⟩) ∧ wx.cell? ⟨w.heap.size + 2, 1, none⟩ = some (.slice (some ⟨w.heap.size, 0, none⟩) 1 1) ∧ wx.cell? ⟨w.heap.size + 2, 2, none⟩ = some (.slice (some ⟨w.heap.size + 1, 0, none⟩) 1 1)) (first | exact HK.out _ HZ.out | exact HK.out _ HBx.out | exact HK.out _ (HBx.out.alloc HBx.out.size _) | exact HK.out _ HD.out | exact HK.out _ HB.out.1) (first
      | (go_at_call 6; refine Calls.mono (HCO.out _ (by first | exact HD.out | exact HB.out.1)) ?_; rintro _ w20 ⟨p, rfl, hX, hb⟩; have HX : Hid (ExAt w20 p (condF pd1)) := hX; clear hX; first
        | (have HBx : Hid (Below W.heap.size W w20) := HB.out.1.trans (hb.mono HB.out.1.size); have HU : Hid (Blk W.heap.size #[.int .i64 0, .string ⟨#[]⟩, .pointer none, .pointer none, .string ⟨#[]⟩] 38 w20 ∧ W.heap.size ≤ W.heap.size) := ⟨HB.out.2.below hb, Nat.le_refl _⟩; clear hb)
        | (have HBx : Hid (Below W.heap.size W w20) := HD.out.trans (hb.mono HD.out.size); clear hb))
      | (go_at_call 7; refine Calls.mono (HCH.out p _ (by first | exact HBx.out | exact HBx.out.alloc HBx.out.size _) (by first | exact HX.out | exact HX.out.below ((Below.refl _ _).alloc (Nat.le_refl _) _))) ?_; rintro _ w21 ⟨ql, qh, rfl, h1, h2, hb⟩; first
        | (have hk : Blk w20.heap.size #[.int .i64 0, .string ⟨#[]⟩, .pointer none, .pointer none, .string ⟨#[]⟩] 38 w21 := (Blk.new w20 #[.int .i64 0, .string ⟨#[]⟩, .pointer none, .pointer none, .string ⟨#[]⟩] 38).below hb; have hle : W.heap.size ≤ w20.heap.size := HBx.out.size; have HBx : Hid (Below W.heap.size W w21) := (HBx.out.alloc HBx.out.size _).trans (hb.mono (HBx.out.alloc HBx.out.size _).size); obtain ⟨k0, k1, k2, k3, k4, kf⟩ := hk.pc; have HZ : Hid (Below W.heap.size W (put38 w21 w20.heap.size (.int .i64 pn.kd) (.string pn.cl) (.pointer ql) (.pointer qh) (.string pn.tx))) := put38_below _ _ _ _ _ HBx.out hle; have GY : Hid (PlanAt w20.heap.size pn (put38 w21 w20.heap.size (.int .i64 pn.kd) (.string pn.cl) (.pointer ql) (.pointer qh) (.string pn.tx)) ∧ Below W.heap.size W (put38 w21 w20.heap.size (.int .i64 pn.kd) (.string pn.cl) (.pointer ql) (.pointer qh) (.string pn.tx))) := ⟨PlanAt.put hk h1 h2, HZ.out⟩; clear hb hk hle h1 h2)
        | (have hk : Blk W.heap.size #[.int .i64 0, .string ⟨#[]⟩, .pointer none, .pointer none, .string ⟨#[]⟩] 38 w21 := HU.out.1.below hb; have hle : W.heap.size ≤ W.heap.size := HU.out.2; have HBx : Hid (Below W.heap.size W w21) := HBx.out.trans (hb.mono HBx.out.size); obtain ⟨k0, k1, k2, k3, k4, kf⟩ := hk.pc; have HZ : Hid (Below W.heap.size W (put38 w21 W.heap.size (.int .i64 pn.kd) (.string pn.cl) (.pointer ql) (.pointer qh) (.string pn.tx))) := put38_below _ _ _ _ _ HBx.out hle; have GY : Hid (PlanAt W.heap.size pn (put38 w21 W.heap.size (.int .i64 pn.kd) (.string pn.cl) (.pointer ql) (.pointer qh) (.string pn.tx)) ∧ Below W.heap.size W (put38 w21 W.heap.size (.int .i64 pn.kd) (.string pn.cl) (.pointer ql) (.pointer qh) (.string pn.tx))) := ⟨PlanAt.put hk h1 h2, HZ.out⟩; clear hb hk hle h1 h2)
        | (have HBx : Hid (Below W.heap.size W w21) := HBx.out.trans (hb.mono HBx.out.size); obtain ⟨V, hV⟩ : ∃ V, w21.alloc (.cells #[.int .i64 pn.kd, .string pn.cl, .pointer ql, .pointer qh, .string pn.tx] 38) = V := ⟨_, rfl⟩; have hbV : Below w21.heap.size w21 V := (by rw [← hV]; exact (Below.refl _ _).alloc (Nat.le_refl _) _); have HZ : Hid (Below W.heap.size W V) := HBx.out.trans (hbV.mono HBx.out.size); have GY : Hid (PlanAt w21.heap.size pn V ∧ Below W.heap.size W V) := ⟨(by rw [← hV]; exact PlanAt.new h1 h2), HZ.out⟩; clear hb hbV h1 h2)))
    all_goals
      go_wp2_with fail
      go_meet
      case rel => exact ⟨_, rfl, GY⟩
  case rest =>
  obtain ⟨b2, rfl, GL⟩ := hcut
  obtain ⟨wa, hwa⟩ : ∃ u, u = wc := ⟨_, rfl⟩
  subst hwa
  have GP : Hid (PlanAt b2 ⟨1, ⟨#[97]⟩, some (numV 3), none, ⟨#[]⟩⟩ wa ∧ Below W.heap.size W wa) := by rw [← pd1_plan, HPN.out]; exact GL.out
  have HQ2 : Hid (∀ wx, Below wa.heap.size wa wx → (wx.cell? ⟨w.heap.size + 2, 0, none⟩ = some (.string ⟨#[116]⟩) ∧ wx.cell? ⟨w.heap.size + 2, 1, none⟩ = some (.slice (some ⟨w.heap.size, 0, none⟩) 1 1) ∧ wx.cell? ⟨w.heap.size + 2, 2, none⟩ = some (.slice (some ⟨w.heap.size + 1, 0, none⟩) 1 1)) ∧ LAt wx ∧ TabW w.heap.size (w.heap.size + 1) C1 I1 wx) := fun wx hb => HQ.out wx (GP.out.2.trans (hb.mono GP.out.2.size))
  clear HPN GL hW
  obtain ⟨pn, hpn⟩ : ∃ pn, chooseF C1 I1 (condF pd2) = pn := ⟨_, rfl⟩
  have HPN : Hid (chooseF C1 I1 (condF pd2) = pn) := hpn
  clear hpn
  go_upto_region 3 with fail
  go_cut [3] (fun uu wc => ∃ bu : Nat, uu = .pointer (some ⟨bu, 0, none⟩) ∧ Hid (PlanAt bu pn wc ∧ Below wa.heap.size wa wc))
  case first =>
    have HK : Hid (∀ wx, Below wa.heap.size wa wx → wx.cell? ⟨w.heap.size + 2, 0, none⟩ = some (.string ⟨#[116]⟩) ∧ wx.cell? ⟨w.heap.size + 2, 1, none⟩ = some (.slice (some ⟨w.heap.size, 0, none⟩) 1 1) ∧ wx.cell? ⟨w.heap.size + 2, 2, none⟩ = some (.slice (some ⟨w.heap.size + 1, 0, none⟩) 1 1)) := fun wx h => (HQ2.out wx h).1
    have HCO : Hid (∀ wx, Below wa.heap.size wa wx → Calls Tryz.prog 6 #[.string pd2] wx fun e w' => ∃ p, e = .returned (.pointer p) ∧ ExAt w' p (condF pd2) ∧ Below wx.heap.size wx w') := fun wx h => cond_any pd2 wx (HQ2.out wx h).2.1.b (by decide)
    have HCH : Hid (∀ p wx, Below wa.heap.size wa wx → ExAt wx p (condF pd2) → Calls Tryz.prog 7 #[entV w.heap.size (w.heap.size + 1) C1 I1, .pointer p] wx fun e w' => ∃ ql qh, e = .returned (.agg #[.int .i64 pn.kd, .string pn.cl, .pointer ql, .pointer qh, .string pn.tx]) ∧ PtV w' ql pn.lo ∧ PtV w' qh pn.hi ∧ Below wx.heap.size wx w') := fun p wx h hx => by
      have h8 := choose_any w.heap.size (w.heap.size + 1) C1 I1 (condF pd2) p wx (HQ2.out wx h).2.2 C1_sm hx (PK.of _)
      rw [HPN.out] at h8
      exact h8.mono fun e w' ⟨v, e1, ⟨ql, qh, e2, k1, k2⟩, hb⟩ => ⟨ql, qh, by rw [e1, e2], k1, k2, hb⟩
    have HD : Hid (Below wa.heap.size wa wa.drew) := (Below.refl _ _).drew
    have HB : Hid (Below wa.heap.size wa (wa.alloc (.cells #[.int .i64 0, .string ⟨#[]⟩, .pointer none, .pointer none, .string ⟨#[]⟩] 38)).drew ∧ Blk wa.heap.size #[.int .i64 0, .string ⟨#[]⟩, .pointer none, .pointer none, .string ⟨#[]⟩] 38 (wa.alloc (.cells #[.int .i64 0, .string ⟨#[]⟩, .pointer none, .pointer none, .string ⟨#[]⟩] 38)).drew) := ⟨((Below.refl _ _).alloc (Nat.le_refl _) _).drew, (Blk.new wa #[.int .i64 0, .string ⟨#[]⟩, .pointer none, .pointer none, .string ⟨#[]⟩] 38).below ((Below.refl _ _).drew)⟩
    go_region_held3 (fun wx => wx.cell? ⟨w.heap.size + 2, 0, none⟩ = some (.string ⟨#[116]⟩) ∧ wx.cell? ⟨w.heap.size + 2, 1, none⟩ = some (.slice (some ⟨w.heap.size, 0, none⟩) 1 1) ∧ wx.cell? ⟨w.heap.size + 2, 2, none⟩ = some (.slice (some ⟨w.heap.size + 1, 0, none⟩) 1 1)) (first | exact HK.out _ HZ.out | exact HK.out _ HBx.out | exact HK.out _ (HBx.out.alloc HBx.out.size _) | exact HK.out _ HD.out | exact HK.out _ HB.out.1) (first
      | (go_at_call 6; refine Calls.mono (HCO.out _ (by first | exact HD.out | exact HB.out.1)) ?_; rintro _ w20 ⟨p, rfl, hX, hb⟩; have HX : Hid (ExAt w20 p (condF pd2)) := hX; clear hX; first
        | (have HBx : Hid (Below wa.heap.size wa w20) := HB.out.1.trans (hb.mono HB.out.1.size); have HU : Hid (Blk wa.heap.size #[.int .i64 0, .string ⟨#[]⟩, .pointer none, .pointer none, .string ⟨#[]⟩] 38 w20 ∧ wa.heap.size ≤ wa.heap.size) := ⟨HB.out.2.below hb, Nat.le_refl _⟩; clear hb)
        | (have HBx : Hid (Below wa.heap.size wa w20) := HD.out.trans (hb.mono HD.out.size); clear hb))
      | (go_at_call 7; refine Calls.mono (HCH.out p _ (by first | exact HBx.out | exact HBx.out.alloc HBx.out.size _) (by first | exact HX.out | exact HX.out.below ((Below.refl _ _).alloc (Nat.le_refl _) _))) ?_; rintro _ w21 ⟨ql, qh, rfl, h1, h2, hb⟩; first
        | (have hk : Blk w20.heap.size #[.int .i64 0, .string ⟨#[]⟩, .pointer none, .pointer none, .string ⟨#[]⟩] 38 w21 := (Blk.new w20 #[.int .i64 0, .string ⟨#[]⟩, .pointer none, .pointer none, .string ⟨#[]⟩] 38).below hb; have hle : wa.heap.size ≤ w20.heap.size := HBx.out.size; have HBx : Hid (Below wa.heap.size wa w21) := (HBx.out.alloc HBx.out.size _).trans (hb.mono (HBx.out.alloc HBx.out.size _).size); obtain ⟨k0, k1, k2, k3, k4, kf⟩ := hk.pc; have HZ : Hid (Below wa.heap.size wa (put38 w21 w20.heap.size (.int .i64 pn.kd) (.string pn.cl) (.pointer ql) (.pointer qh) (.string pn.tx))) := put38_below _ _ _ _ _ HBx.out hle; have GY : Hid (PlanAt w20.heap.size pn (put38 w21 w20.heap.size (.int .i64 pn.kd) (.string pn.cl) (.pointer ql) (.pointer qh) (.string pn.tx)) ∧ Below wa.heap.size wa (put38 w21 w20.heap.size (.int .i64 pn.kd) (.string pn.cl) (.pointer ql) (.pointer qh) (.string pn.tx))) := ⟨PlanAt.put hk h1 h2, HZ.out⟩; clear hb hk hle h1 h2)
        | (have hk : Blk wa.heap.size #[.int .i64 0, .string ⟨#[]⟩, .pointer none, .pointer none, .string ⟨#[]⟩] 38 w21 := HU.out.1.below hb; have hle : wa.heap.size ≤ wa.heap.size := HU.out.2; have HBx : Hid (Below wa.heap.size wa w21) := HBx.out.trans (hb.mono HBx.out.size); obtain ⟨k0, k1, k2, k3, k4, kf⟩ := hk.pc; have HZ : Hid (Below wa.heap.size wa (put38 w21 wa.heap.size (.int .i64 pn.kd) (.string pn.cl) (.pointer ql) (.pointer qh) (.string pn.tx))) := put38_below _ _ _ _ _ HBx.out hle; have GY : Hid (PlanAt wa.heap.size pn (put38 w21 wa.heap.size (.int .i64 pn.kd) (.string pn.cl) (.pointer ql) (.pointer qh) (.string pn.tx)) ∧ Below wa.heap.size wa (put38 w21 wa.heap.size (.int .i64 pn.kd) (.string pn.cl) (.pointer ql) (.pointer qh) (.string pn.tx))) := ⟨PlanAt.put hk h1 h2, HZ.out⟩; clear hb hk hle h1 h2)
        | (have HBx : Hid (Below wa.heap.size wa w21) := HBx.out.trans (hb.mono HBx.out.size); obtain ⟨V, hV⟩ : ∃ V, w21.alloc (.cells #[.int .i64 pn.kd, .string pn.cl, .pointer ql, .pointer qh, .string pn.tx] 38) = V := ⟨_, rfl⟩; have hbV : Below w21.heap.size w21 V := (by rw [← hV]; exact (Below.refl _ _).alloc (Nat.le_refl _) _); have HZ : Hid (Below wa.heap.size wa V) := HBx.out.trans (hbV.mono HBx.out.size); have GY : Hid (PlanAt w21.heap.size pn V ∧ Below wa.heap.size wa V) := ⟨(by rw [← hV]; exact PlanAt.new h1 h2), HZ.out⟩; clear hb hbV h1 h2)))
    all_goals
      go_wp2_with fail
      go_meet
      case rel => exact ⟨_, rfl, GY⟩
  case rest =>
  obtain ⟨b3, rfl, GL⟩ := hcut
  obtain ⟨wb, hwb⟩ : ∃ u, u = wc := ⟨_, rfl⟩
  subst hwb
  have GP3 : Hid (PlanAt b3 planZ wb ∧ Below wa.heap.size wa wb) := by rw [← pd2_plan, HPN.out]; exact GL.out
  clear HPN GL
  obtain ⟨ql, qh, hk2, ⟨bl, rfl, hkl⟩, hq0⟩ := GP.out.1.below GP3.out.2
  obtain rfl : qh = none := hq0
  obtain ⟨ql3, qh3, hk3, _, _⟩ := GP3.out.1
  have HS : Hid (Blk b2 #[.int .i64 1, .string ⟨#[97]⟩, .pointer (some ⟨bl, 0, none⟩), .pointer none, .string ⟨#[]⟩] 38 wb ∧ Blk bl (numV 3).cells 23 wb ∧ Blk b3 #[.int .i64 0, .string ⟨#[]⟩, .pointer ql3, .pointer qh3, .string ⟨#[]⟩] 38 wb) := ⟨hk2, hkl, hk3⟩
  have HF : Hid (Below w.heap.size w wb.drew) := ((HB0.out.trans (GP.out.2.mono HB0.out.size)).trans (GP3.out.2.mono (Nat.le_trans HB0.out.size GP.out.2.size))).drew
  clear hk2 hkl hk3
  go_upto_region 4 with fail
  have HK : Hid (∀ wx, Below wb.drew.heap.size wb.drew wx → wx.cell? ⟨b2, 0, none⟩ = some (.int .i64 1) ∧ wx.cell? ⟨b2, 1, none⟩ = some (.string ⟨#[97]⟩) ∧ wx.cell? ⟨b2, 2, none⟩ = some (.pointer (some ⟨bl, 0, none⟩)) ∧ wx.cell? ⟨b2, 3, none⟩ = some (.pointer none) ∧ wx.cell? ⟨bl, 0, none⟩ = some (.int .i64 1) ∧ wx.cell? ⟨bl, 1, none⟩ = some (.int .i64 3) ∧ wx.cell? ⟨bl, 2, none⟩ = some (.string ⟨#[]⟩) ∧ wx.cell? ⟨b3, 0, none⟩ = some (.int .i64 0)) := fun wx hb => by
    have d : Below wb.heap.size wb wb.drew := (Below.refl _ _).drew
    obtain ⟨x0, x1, x2, x3, x4, _⟩ := ((HS.out.1.below d).below hb).pc
    obtain ⟨y0, y1, y2, _⟩ := ((HS.out.2.1.below d).below hb).vc
    obtain ⟨z0, z1, z2, z3, z4, _⟩ := ((HS.out.2.2.below d).below hb).pc
    exact ⟨x0, x1, x2, x3, y0, y1, y2, z0⟩
  have HBx : Hid (Below wb.drew.heap.size wb.drew wb.drew) := Below.refl _ _
  go_region_held3 (fun wx => wx.cell? ⟨b2, 0, none⟩ = some (.int .i64 1) ∧ wx.cell? ⟨b2, 1, none⟩ = some (.string ⟨#[97]⟩) ∧ wx.cell? ⟨b2, 2, none⟩ = some (.pointer (some ⟨bl, 0, none⟩)) ∧ wx.cell? ⟨b2, 3, none⟩ = some (.pointer none) ∧ wx.cell? ⟨bl, 0, none⟩ = some (.int .i64 1) ∧ wx.cell? ⟨bl, 1, none⟩ = some (.int .i64 3) ∧ wx.cell? ⟨bl, 2, none⟩ = some (.string ⟨#[]⟩) ∧ wx.cell? ⟨b3, 0, none⟩ = some (.int .i64 0)) (exact HK.out _ HBx.out) ((go_at_call 16; refine Calls.mono (knumber_any 3 _) ?_; rintro _ w7 ⟨rfl, hb⟩; have HBx : Hid (Below wb.drew.heap.size wb.drew w7) := HBx.out.trans (hb.mono HBx.out.size); clear hb; simp only [vv, numV]))
  all_goals
    go_wp2
    go_ret
    exact ⟨rfl, HF.out.trans (HBx.out.mono HF.out.size)⟩
end Go.Proofs.YtmabfbffpedfnaaGreatDoor
namespace Go.Proofs.YtmabfbffpedfnaaGreatDoor
open Go.RowKit

theorem rightText_big (s : ByteArray) (h : 40 < s.size) (hs : s.size ≤ maxLen) (w : World) : Calls Tryz.prog 17 #[.string s] w fun e w' => e = .returned (.bool false) ∧ w' = w := by
  unfold maxLen at hs
  have d1 : decide ((s.size : Int) ≤ 40) = false := decide_eq_false (by omega)
  clear h hs
  go_enter Tryz.func17, Tryz.ntmps17
  go_wp2
  go_ret
  exact ⟨rfl, rfl⟩
theorem rightText_sm (s : ByteArray) (hs : s.size ≤ maxLen) (w : World) : Calls Tryz.prog 17 #[.string s] w fun e w' => ∃ b, e = .returned (.bool b) ∧ (b = true → s.size ≤ 40) ∧ w' = w := by
  by_cases h : s.size ≤ 40
  · exact (rightText_any s _ rfl w (by omega)).mono fun e w' ⟨h1, h2⟩ => ⟨_, h1, fun _ => h, h2⟩
  · exact (rightText_big s (by omega) hs w).mono fun e w' ⟨h1, h2⟩ => ⟨_, h1, (fun hh => by cases hh), h2⟩
theorem empty_sm {t : ByteArray} (h : (t.toList == []) = true) : t.size ≤ 40 := by
  have h1 : t.toList = [] := by simpa using h
  rw [← ba_len]
  have h2 : t.data.toList = [] := by rw [← ByteArray.toList_eq]; exact h1
  rw [h2]; decide
/-- what Right tells -/
def RightTo (v : Vl) (w : World) (e : Ending) (w' : World) : Prop := ∃ b, e = .returned (.bool b) ∧ (b = true → Sm v) ∧ Below w.heap.size w w'
set_option maxRecDepth 100000 in
set_option maxHeartbeats 4000000 in
theorem right_any (v : Vl) (w : World) (hs : v.t.size ≤ maxLen) : Calls Tryz.prog 5 #[vv v] w fun e w' => RightTo v w e w' := by
  obtain ⟨W, hW⟩ : ∃ W, w.alloc (.cells #[.int .i64 v.k, .int .i64 v.n, .string v.t] 23) = W := ⟨_, rfl⟩
  have hbW : Below w.heap.size w W := by rw [← hW]; exact (Below.refl _ _).alloc (Nat.le_refl _) _
  have hk0W : Blk (w.heap.size) v.cells 23 W := by
      have hq := Blk.new w v.cells 23
      rw [← hW]
      exact hq
  have G0 : Hid (Blk (w.heap.size) v.cells 23 W ∧ Below w.heap.size w W) := ⟨hk0W, hbW⟩
  clear hbW
  obtain ⟨a0, a1, a2, af⟩ := hk0W.vc
  have HS : Hid (v.t.size ≤ maxLen) := hs
  clear hk0W hs
  unfold vv
  obtain ⟨q1, hq1⟩ : ∃ q, (v.n == 0) = q := ⟨_, rfl⟩
  obtain ⟨q2, hq2⟩ : ∃ q, (v.t.toList == []) = q := ⟨_, rfl⟩
  have HQ : Hid (q2 = true → Sm v) := fun h => empty_sm (hq2.trans h)
  by_cases h0 : v.k = 0
  · have e0 : (v.k == 0) = true := by simp [h0]
    clear h0
    cases q1 <;> cases q2
    all_goals
      go_enter Tryz.func5, Tryz.ntmps5
      go_wp2
      go_ret
    · exact ⟨_, rfl, fun h => (by cases h), G0.out.2⟩
    · exact ⟨_, rfl, fun h => (by cases h), G0.out.2⟩
    · exact ⟨_, rfl, fun h => (by cases h), G0.out.2⟩
    · exact ⟨_, rfl, fun _ => HQ.out trivial, G0.out.2⟩
  by_cases h1 : v.k = 1
  · have e0 : (v.k == 0) = false := by simp [h0]
    have e1 : (v.k == 1) = true := by simp [h1]
    clear h0 h1
    cases q2
    all_goals
      go_enter Tryz.func5, Tryz.ntmps5
      go_wp2
      go_ret
    · exact ⟨_, rfl, fun h => (by cases h), G0.out.2⟩
    · exact ⟨_, rfl, fun _ => HQ.out trivial, G0.out.2⟩
  by_cases h2 : v.k = 2
  · have e0 : (v.k == 0) = false := by simp [h0]
    have e1 : (v.k == 1) = false := by simp [h1]
    have e2 : (v.k == 2) = true := by simp [h2]
    clear hq2 h0 h1 h2
    cases q1
    · go_enter Tryz.func5, Tryz.ntmps5
      go_wp2
      go_ret
      exact ⟨_, rfl, fun h => (by cases h), G0.out.2⟩
    · go_enter Tryz.func5, Tryz.ntmps5
      go_wp2_with fail
      refine (rightText_sm v.t HS.out W).mono ?_
      rintro _ _ ⟨b, rfl, hb, rfl⟩
      have HB : Hid (b = true → v.t.size ≤ 40) := hb
      clear hb
      go_wp2
      go_ret
      exact ⟨_, rfl, HB.out, G0.out.2⟩
  · have e0 : (v.k == 0) = false := by simp [h0]
    have e1 : (v.k == 1) = false := by simp [h1]
    have e2 : (v.k == 2) = false := by simp [h2]
    clear hq1 hq2 h0 h1 h2
    go_enter Tryz.func5, Tryz.ntmps5
    go_wp2
    go_ret
    exact ⟨_, rfl, fun h => (by cases h), G0.out.2⟩
end Go.Proofs.YtmabfbffpedfnaaGreatDoor
