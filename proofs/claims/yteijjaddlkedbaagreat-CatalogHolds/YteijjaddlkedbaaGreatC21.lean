/- Texts of the proof of CatalogHolds: Clw. -/
import Derived.Test.YteijjaddlkedbaaGreatC20
namespace Go.Proofs.YteijjaddlkedbaaGreat
open Go.RowKit Go.Maps

theorem insT_ids (t : Tb) : ∀ (L : List Tb), L.Pairwise (fun a b => a.id ≠ b.id) → (∀ s ∈ L, s.id ≠ t.id) → (insT t L).Pairwise (fun a b => a.id ≠ b.id)
  | [], _, _ => by simp [insT]
  | s :: L, h, hn => by
    rw [List.pairwise_cons] at h
    unfold insT
    split
    · exact List.Pairwise.cons (fun u hu => fun e => hn u hu e.symm) (List.pairwise_cons.2 h)
    · refine List.Pairwise.cons (fun u hu => ?_) (insT_ids t L h.2 (fun s hs => hn s (by simp [hs])))
      rcases (insT_mem t L u).1 hu with rfl | hu
      · exact hn s (by simp)
      · exact h.1 u hu
/-- what the law knows in a round -/
structure Lw (bc bt bp bd bm mh n N : Nat) (L : List Tb) (w0 w : World) : Prop where
  cat : CatS bc bt bp bd bm N L w
  has : HasB mh n L w
  len : L.length ≤ 20
  ids : L.Pairwise (fun a b => a.id ≠ b.id)
  b0 : Below w0.heap.size w0 w
/-- the law's blocks -/
structure Lb (bc bt bp bd bm mh : Nat) (w0 : World) : Prop where
  hc : bc ≠ mh
  ht : bt ≠ mh
  hp : bp ≠ mh
  hd : bd ≠ mh
  hm : bm ≠ mh
  lp : w0.heap.size ≤ bp
  lm : w0.heap.size ≤ bm
  lh : w0.heap.size ≤ mh
section
variable {bc bt bp bd bm mh n N : Nat} {L : List Tb} {w0 w w' : World}
theorem Lw.below (h : Lw bc bt bp bd bm mh n N L w0 w) (hb : Below w.heap.size w w') : Lw bc bt bp bd bm mh n N L w0 w' :=
  ⟨h.cat.below hb, h.has.below hb, h.len, h.ids, h.b0.trans (hb.mono h.b0.size)⟩
theorem Lw.mono {n' N' : Nat} (h : Lw bc bt bp bd bm mh n N L w0 w) (hn : n ≤ n') (hN : N ≤ N') : Lw bc bt bp bd bm mh n' N' L w0 w := ⟨h.cat.mono hN, h.has.mono hn, h.len, h.ids, h.b0⟩
/-- behind Create, and the note in the map -/
theorem Lw.made {w1 : World} {id : Nat} {nm : ByteArray} {k : Int} {N' n' : Nat} (h : Lw bc bt bp bd bm mh n N L w0 w) (hb : Lb bc bt bp bd bm mh w0) (h1 : L.length < 20) (h2 : ∀ t ∈ L, t.id ≠ id) (hc : CatS bc bt bp bd bm N' (insT ⟨id, nm, colsK k⟩ L) w') (ho : Only (fun b => b = bp ∨ b = bm) w w')
    (hh : HasB mh n' (insT ⟨id, nm, colsK k⟩ L) w1) (ho1 : Only (fun b => b = mh) w' w1) : Lw bc bt bp bd bm mh n' N' (insT ⟨id, nm, colsK k⟩ L) w0 w1 := by
  refine ⟨hc.only ho1 ⟨hb.hc, hb.ht, hb.hp, hb.hd, hb.hm⟩, hh, by rw [insT_len]; omega, insT_ids _ _ h.ids h2, ?_⟩
  have h3 := Only.below h.b0 ho h.b0.size (fun i hi => by rcases hi with hi | hi; rw [hi]; exact hb.lp; rw [hi]; exact hb.lm)
  exact Only.below h3 ho1 h3.size (fun i hi => by rw [hi]; exact hb.lh)
/-- behind Drop, and what is struck out of the map -/
theorem Lw.gone {w1 : World} {nm : ByteArray} {N' : Nat} (h : Lw bc bt bp bd bm mh n N L w0 w) (hb : Lb bc bt bp bd bm mh w0) (hc : CatS bc bt bp bd bm N' (delT L nm) w') (ho : Only (fun b => b = bp ∨ b = bm) w w')
    (hh : HasB mh n (delT L nm) w1) (ho1 : Only (fun b => b = mh) w' w1) : Lw bc bt bp bd bm mh n N' (delT L nm) w0 w1 := by
  refine ⟨hc.only ho1 ⟨hb.hc, hb.ht, hb.hp, hb.hd, hb.hm⟩, hh, Nat.le_trans delT_len h.len, h.ids.sublist List.filter_sublist, ?_⟩
  have h3 := Only.below h.b0 ho h.b0.size (fun i hi => by rcases hi with hi | hi; rw [hi]; exact hb.lp; rw [hi]; exact hb.lm)
  exact Only.below h3 ho1 h3.size (fun i hi => by rw [hi]; exact hb.lh)
end
theorem perm_ids {L L' : List Tb} (h : L.Pairwise (fun a b => a.id ≠ b.id)) (p : L.Perm L') : L'.Pairwise (fun a b => a.id ≠ b.id) := (p.pairwise_iff (fun e => fun e' => e e'.symm)).1 h
theorem perm_nms {L L' : List Tb} (h : L.Pairwise (fun a b => bl a.nm b.nm = true)) (p : L.Perm L') : L'.Pairwise (fun a b => a.nm ≠ b.nm) := (p.pairwise_iff (fun e => fun e' => e e'.symm)).1 (h.imp (fun e => bl_ne e))
theorem ranges_only {w w' : World} {S : Nat → Prop} {b r n : Nat} {D : DataW Unit} {left : Lit → Bool} {cnt : Nat} (h : w.ranges Tryz.prog 9 (plainElem Tryz.prog 3) b r n D left cnt) (ho : Only S w w') (h1 : ¬ S b) (h2 : ¬ S r) : w'.ranges Tryz.prog 9 (plainElem Tryz.prog 3) b r n D left cnt := by
  have k1 := h.owns.lt
  have k2 := h.lt
  obtain ⟨es, clock, since, seen, c0, hb, F, hs, hD, hr, rest⟩ := h
  exact ⟨es, clock, since, seen, c0, (ho.block b k1 h1).trans hb, F, hs, hD, (ho.block r k2 h2).trans hr, rest⟩
/-- what the second loop knows -/
structure L2 (bc bt bp bd bm mh mi r n N : Nat) (D : DataW Unit) (L done rest : List Tb) (left : Lit → Bool) (cnt : Nat) (w0 w : World) : Prop where
  cat : CatS bc bt bp bd bm N L w
  rg : w.ranges Tryz.prog 9 (plainElem Tryz.prog 3) mh r n D left cnt
  ids : IdsB mi done.length done w
  perm : L.Perm (done ++ rest)
  left : ∀ nm : ByteArray, left (kl nm) = true ↔ ∃ t ∈ rest, t.nm = nm
  b0 : Below w0.heap.size w0 w
theorem left_step {left : Lit → Bool} {a b : List Tb} {t : Tb} (hl : ∀ nm : ByteArray, left (kl nm) = true ↔ ∃ s ∈ a ++ t :: b, s.nm = nm) (hp : (a ++ t :: b).Pairwise (fun a b => a.nm ≠ b.nm)) (nm : ByteArray) : (left (kl nm) && !(kl nm).sameKey (kl t.nm)) = true ↔ ∃ s ∈ a ++ b, s.nm = nm := by
  have hne : ∀ s ∈ a ++ b, s.nm ≠ t.nm := by
    rw [List.pairwise_append, List.pairwise_cons] at hp
    intro s hs
    rcases List.mem_append.1 hs with hs | hs
    · exact hp.2.2 s hs t (by simp)
    · exact fun e => hp.2.1.1 s hs e.symm
  rw [Bool.and_eq_true, hl nm]
  constructor
  · rintro ⟨⟨s, hs, rfl⟩, hk⟩
    have hsn : s.nm ≠ t.nm := fun e => by
      rw [e, kl_same] at hk; cases hk
    rcases List.mem_append.1 hs with hs | hs
    · exact ⟨s, by simp [hs], rfl⟩
    · rcases List.mem_cons.1 hs with rfl | hs
      · exact absurd rfl hsn
      · exact ⟨s, by simp [hs], rfl⟩
  · rintro ⟨s, hs, rfl⟩
    refine ⟨⟨s, ?_, rfl⟩, ?_⟩
    · rcases List.mem_append.1 hs with hs | hs <;> simp [hs]
    · rw [sameKey_ne (kl_ne (hne s hs))]; rfl
theorem L2.step {bc bt bp bd bm mh mi r n N : Nat} {D : DataW Unit} {L done rest : List Tb} {left : Lit → Bool} {cnt : Nat} {w0 w : World} (h : L2 bc bt bp bd bm mh mi r n N D L done rest left cnt w0 w) (hi : L.Pairwise (fun a b => a.id ≠ b.id)) {x : ByteArray} (hx : left (kl x) = true) :
    ∃ t rest', t ∈ L ∧ t.nm = x ∧ L.Perm (done ++ [t] ++ rest') ∧ (∀ s ∈ done, s.id ≠ t.id) ∧ ∀ nm : ByteArray, (left (kl nm) && !(kl nm).sameKey (kl x)) = true ↔ ∃ s ∈ rest', s.nm = nm := by
  obtain ⟨t, ht, rfl⟩ := (h.left x).1 hx
  obtain ⟨a, b, rfl⟩ := List.append_of_mem ht
  have hp2 : L.Perm (done ++ [t] ++ (a ++ b)) := h.perm.trans (by
    rw [List.append_assoc]
    exact List.Perm.append_left _ (by simp [List.perm_middle]))
  refine ⟨t, a ++ b, h.perm.mem_iff.2 (by simp), rfl, hp2, fun s hs => ?_, fun nm => left_step h.left ?_ nm⟩
  · have := perm_ids hi hp2
    rw [List.append_assoc, List.pairwise_append] at this
    exact this.2.2 s hs t (by simp)
  · have := perm_nms h.cat.srt h.perm
    rw [List.pairwise_append] at this
    exact this.2.1
/-- what the third loop knows -/
structure L3 (bc bt bp bd bm mh r n N : Nat) (D : DataW Unit) (L : List Tb) (left : Lit → Bool) (cnt : Nat) (w0 w : World) : Prop where
  cat : CatS bc bt bp bd bm (N + 280 * (20 - L.length)) L w
  rg : w.ranges Tryz.prog 9 (plainElem Tryz.prog 3) mh r n D left cnt
  left : ∀ nm : ByteArray, left (kl nm) = true ↔ ∃ t ∈ L, t.nm = nm
  len : L.length ≤ 20
  b0 : Below w0.heap.size w0 w
theorem del_left {left : Lit → Bool} {L : List Tb} (hl : ∀ nm : ByteArray, left (kl nm) = true ↔ ∃ s ∈ L, s.nm = nm) (x nm : ByteArray) : (left (kl nm) && !(kl nm).sameKey (kl x)) = true ↔ ∃ s ∈ delT L x, s.nm = nm := by
  rw [Bool.and_eq_true, hl nm]
  constructor
  · rintro ⟨⟨s, hs, rfl⟩, hk⟩
    exact ⟨s, delT_mem.2 ⟨hs, fun e => by rw [e, kl_same] at hk; cases hk⟩, rfl⟩
  · rintro ⟨s, hs, rfl⟩
    obtain ⟨h1, h2⟩ := delT_mem.1 hs
    exact ⟨⟨s, h1, rfl⟩, by rw [sameKey_ne (kl_ne h2)]; rfl⟩
theorem elem22s : Tryz.prog.elem 22 = 9 := by kernel_rfl
theorem strs_get {ss : List ByteArray} {k : Nat} (hk : k < ss.length) : (ss.map Value.string)[k]'(by rw [List.length_map]; exact hk) = .string ss[k] := by simp
theorem ints_at {ds : List Int} {k : Nat} (hk : k < ds.length) : (ds.map (Value.int .i64))[k]'(by rw [List.length_map]; exact hk) = .int .i64 ds[k] := by simp
set_option maxRecDepth 100000 in
set_option maxHeartbeats 4000000 in
theorem holds_walk (w : World) {m kinds : Int} {a0 a1 : Option Addr} {n0 c0 n1 c1 : Nat} {ss : List ByteArray} {ds : List Int} (hm : w.cell? ⟨0, 0, none⟩ = some (.int .i64 m)) (hvs : 0 < n0 → View 0 (.slice a0 n0 c0) (ss.map Value.string) w) (hvd : 0 < n1 → View 0 (.slice a1 n1 c1) (ds.map (Value.int .i64)) w) (hn0 : n0 = ss.length) (hn1 : n1 = ds.length) (hsz : ∀ s ∈ ss, s.size ≤ 140737488351232) :
    Calls Tryz.prog 3 #[.slice a0 n0 c0, .slice a1 n1 c1, .int .i64 kinds] w fun e w' => e = .returned (.bool true) ∧ Below w.heap.size w w' := by
  have HM : Hid _ := hm
  have HVS : Hid _ := hvs
  have HVD : Hid _ := hvd
  have HN0 : Hid _ := hn0
  have HN1 : Hid _ := hn1
  have HSZ : Hid _ := hsz
  have hz := Tryz.zeroValue34
  clear hm hvs hvd hn0 hn1 hsz
  by_cases hA : 25 < n0
  · have i1 : (25 : Int) < (n0 : Int) := by omega
    go_enter Tryz.func3, Tryz.ntmps3
    go_wp2
    go_ret
    exact ⟨rfl, Below.refl _ _⟩
  by_cases hB : 25 < n1
  · have i1 : ¬ (25 : Int) < (n0 : Int) := by omega
    have i2 : (25 : Int) < (n1 : Int) := by omega
    go_enter Tryz.func3, Tryz.ntmps3
    go_wp2
    go_ret
    exact ⟨rfl, Below.refl _ _⟩
  have i1 : ¬ (25 : Int) < (n0 : Int) := by omega
  have i2 : ¬ (25 : Int) < (n1 : Int) := by omega
  go_enter Tryz.func3, Tryz.ntmps3
  go_wp2_with fail
  refine (listed_any w HM.out).mono ?_
  rintro _ w1 ⟨rfl, hb1⟩
  have HB1 : Hid (Below w.heap.size w w1) := hb1
  clear hb1
  go_wp2_with fail
  refine (pickR_any kinds 4 (by omega) (by omega) _).mono ?_
  rintro _ w9 ⟨⟨k0, hk0, rfl⟩, h9⟩
  obtain rfl := h9.symm
  clear h9
  have HO : Hid _ := open_new w1
  go_wp2_with fail
  refine (show Calls _ _ _ _ _ from HO.out).mono ?_
  rintro _ w2 ⟨bp, bm, up, V, rfl, h1, h2, h3, hW, hU, hE, hb⟩
  have HW : Hid _ := hW
  have HU : Hid _ := hU
  have HE : Hid (TrAt V 0 Tr.none) := hE 0 (by omega)
  have HB2 : Hid (Below w.heap.size w w2) := HB1.out.trans (hb.mono HB1.out.size)
  obtain ⟨bd, hbd⟩ : ∃ bd, w1.heap.size = bd := ⟨_, rfl⟩
  have hw1 := HB1.out.size
  rw [hbd] at h1 h2 HW hw1
  clear hW hU hE hb HO hbd HB1
  go_wp2_with fail
  refine (at_any (r := 0) HW.out (by omega)).mono ?_
  rintro _ w3 ⟨bt, rfl, hT3, hlt3, hb3⟩
  have hwl := HW.out.lt
  have HT3 : Hid (Tt bt bp 0 w3) := hT3
  have HW3 : Hid _ := HW.out.below hb3
  have HB3 : Hid (Below w.heap.size w w3) := HB2.out.trans (hb3.mono HB2.out.size)
  have hs3 := hT3.lt
  have hs23 := hb3.size
  clear hT3 hb3 HW HB2
  go_wp2_with fail
  refine (over_any bt w3).mono ?_
  rintro _ w4 ⟨rfl, hw4⟩
  have hb4 : Below w3.heap.size w3 w4 := by rw [hw4]; exact (Below.refl _ _).alloc (Nat.le_refl _) _
  have hs4 : w4.heap.size = w3.heap.size + 1 := by rw [hw4]; exact World.size_alloc _ _
  have HC4 : Hid (CatS w3.heap.size bt bp bd bm 0 [] w4) := catNew (by rw [hw4]; exact Own1.new w3 _ 75) (HT3.out.below hb4) (HW3.out.below hb4) HU.out HE.out ⟨by omega, by omega⟩ ⟨by omega, by omega⟩
  have HB4 : Hid (Below w.heap.size w w4) := HB3.out.trans (hb4.mono HB3.out.size)
  obtain ⟨bc, hbc⟩ : ∃ bc, w3.heap.size = bc := ⟨_, rfl⟩
  rw [hbc] at HC4 hs4 hs3 hs23
  rw [hbc]
  have HLB : Hid (Lb bc bt bp bd bm w4.heap.size w) := ⟨by omega, by omega, by omega, by omega, by omega, by omega, by omega, HB4.out.size⟩
  have HL6 : Hid (Lw bc bt bp bd bm w4.heap.size 0 0 [] w (w4.alloc (.map #[] 0))) := ⟨HC4.out.below ((Below.refl _ _).alloc (Nat.le_refl _) _), HasB.new w4, by simp, List.Pairwise.nil, HB4.out.alloc HB4.out.size _⟩
  obtain ⟨mh, hmh⟩ : ∃ mh, w4.heap.size = mh := ⟨_, rfl⟩
  rw [hmh] at HLB HL6
  have hmm := @run_makeMap Tryz.prog
  clear hw4 hb4 hbc hs3 hs23 hs4 HT3 HW3 HB3 HB4 HC4 HU HE hlt3 h1 h2 h3 hwl hw1
  go_wp2_with fail
  clear hmm
  go_loopw [12] (fun i wr => ∃ (j : Nat) (L : List Tb), j ≤ n0 ∧ i = .int .i64 (j : Nat) ∧ Hid (Lw bc bt bp bd bm mh j (600 * j) L w wr)) (fun i _ => n0 + 1 - (intOf i).toNat)
  case atStart => exact ⟨0, [], Nat.zero_le _, rfl, HL6⟩
  case round =>
    clear HL6
    obtain ⟨j, L, hj, rfl, HL⟩ := hrel
    by_cases hlt : j < n0
    · have x1 : (j : Int) < (n0 : Int) := by omega
      have hjn0 : j < ss.length := by rw [← HN0.out]; exact hlt
      obtain ⟨bs1, os1, z1, z2, z3w, z4⟩ := (HVS.out (by omega)).at (i := j) (by rw [List.length_map]; exact hjn0)
      have hixs0 := z4 Tryz.underlying22 elem22s size9 (j : Int) rfl
      rw [strs_get hjn0] at z3w
      have HSJ : Hid (ss[j].size ≤ 140737488351232) := HSZ.out _ (List.getElem_mem hjn0)
      obtain ⟨s, hs⟩ : ∃ s, ss[j] = s := ⟨_, rfl⟩
      rw [hs] at z3w HSJ
      have z3 := keepc HL.out.b0 z3w
      have hwk : IntKind.i64.wrap ((k0 : Int) + (j : Int)) = (k0 : Int) + (j : Int) := wraps_i64 _ (by omega) (by omega)
      obtain ⟨kk, hkk⟩ : ∃ kk : Int, (k0 : Int) + (j : Int) = kk := ⟨_, rfl⟩
      have hkk0 : 0 ≤ kk := by omega
      have hkk1 : kk < 100 := by omega
      rw [hkk] at hwk
      obtain ⟨MU, hMU⟩ : ∃ b, decide (0 < bits BinOp.and IntKind.i64 kk 1) = b := ⟨_, rfl⟩
      obtain ⟨WO, hWO⟩ : ∃ b, decide (0 < bits BinOp.and IntKind.i64 kk 2) = b := ⟨_, rfl⟩
      have HCK : Hid (colsK kk = [⟨sA, 1, false, false, false⟩, ⟨sB, 2, MU, WO, false⟩]) := by
        show _ = _
        unfold colsK muK woK
        rw [hMU, hWO]
      have hbA : Below wr.heap.size wr ((wr.alloc (.cells #[.string ⟨#[97]⟩, .int .i64 1, .bool false, .bool false, .string ⟨#[98]⟩, .int .i64 2, .bool MU, .bool WO] 43)).alloc (.cells #[.string s, .slice (some ⟨wr.heap.size, 0, none⟩) 2 2, .slice none 0 0] 46)) := ((Below.refl _ wr).alloc (Nat.le_refl _) _).alloc (by rw [World.size_alloc]; omega) _
      have HLA : Hid (Lw bc bt bp bd bm mh j (600 * j) L w ((wr.alloc (.cells #[.string ⟨#[97]⟩, .int .i64 1, .bool false, .bool false, .string ⟨#[98]⟩, .int .i64 2, .bool MU, .bool WO] 43)).alloc (.cells #[.string s, .slice (some ⟨wr.heap.size, 0, none⟩) 2 2, .slice none 0 0] 46))) := HL.out.below hbA
      have HRA : Hid (CRow 0 (.slice (some ⟨wr.heap.size, 0, none⟩) 2 2) (colsK kk) ((wr.alloc (.cells #[.string ⟨#[97]⟩, .int .i64 1, .bool false, .bool false, .string ⟨#[98]⟩, .int .i64 2, .bool MU, .bool WO] 43)).alloc (.cells #[.string s, .slice (some ⟨wr.heap.size, 0, none⟩) 2 2, .slice none 0 0] 46))) := by
        show World.ownsRow _ _ _ _ _ _ _
        rw [HCK.out]
        exact World.ownsRow.alloc (World.ownsRow_lit (base := 0) (e := 43) (size := 4) wr #[.string ⟨#[97]⟩, .int .i64 1, .bool false, .bool false, .string ⟨#[98]⟩, .int .i64 2, .bool MU, .bool WO] 2 (Nat.zero_le _) (by decide) rfl) _
      have HCR : Hid _ := createT_any HLA.out.cat (keepc HLA.out.b0 HM.out) HLA.out.len s HRA.out (colsK_ok kk) (by omega)
      have HZ3 : Hid (w.cell? ⟨bs1, os1, none⟩ = some (.string s)) := z3w
      clear z1 z2 z4 hs hbA HCK z3w
      go_wp2_with fail
      refine (show Calls _ _ _ _ _ from HCR.out).mono ?_
      rintro _ w5 (⟨hmay, rfl, id, hid1, hid2, hid3, _, hc5, ho5⟩ | ⟨_, ty, x, rfl, hb5⟩)
      · have HC5 : Hid (CatS bc bt bp bd bm (600 * j + 280) (insT ⟨id, s, colsK kk⟩ L) w5) := hc5
        have HO5 : Hid (Only (fun b => b = bp ∨ b = bm) ((wr.alloc (.cells #[.string ⟨#[97]⟩, .int .i64 1, .bool false, .bool false, .string ⟨#[98]⟩, .int .i64 2, .bool MU, .bool WO] 43)).alloc (.cells #[.string s, .slice (some ⟨wr.heap.size, 0, none⟩) 2 2, .slice none 0 0] 46)) w5) := ho5
        have HH5 : Hid (HasB mh j L w5) := HLA.out.has.only ho5 (fun e => by rcases e with e | e; exact HLB.out.hp e.symm; exact HLB.out.hm e.symm)
        have HID3 : Hid _ := hid3
        have HMAY : Hid (May L s) := hmay
        have z5 := keepc (Only.below HLA.out.b0 ho5 HLA.out.b0.size (fun i hi => by rcases hi with hi | hi; rw [hi]; exact HLB.out.lp; rw [hi]; exact HLB.out.lm)) HZ3.out
        clear hc5 ho5 hid3 hmay HCR z3
        by_cases hd0 : n1 = 0
        · have d1 : ¬ (0 : Int) < (n1 : Int) := by omega
          clear hd0
          go_wp2_with (refine put_has _ rfl _ _ _ rfl HH5.out (by omega) s HSJ.out HMAY.out.2.1 id kk hkk0 (by omega) rfl rfl rfl ?_; intro w6 hB6 hO6; have HLX : Hid (Lw bc bt bp bd bm mh (j + 1) (600 * j + 280) (insT ⟨id, s, colsK kk⟩ L) w w6) := HLA.out.made HLB.out HMAY.out.2.2 HID3.out HC5.out HO5.out hB6 hO6; clear hB6 hO6)
          go_roundw
          case rel => exact ⟨j + 1, _, by omega, by go_num, HLX.out.mono (by omega) (by omega)⟩
          case measure => simp [intOf]; omega
        · have d1 : (0 : Int) < (n1 : Int) := by omega
          have d2 : ¬ (n1 : Int) = 0 := by omega
          have hjn : j % n1 < n1 := Nat.mod_lt _ (by omega)
          obtain ⟨bd1, od1, y1, y2, y3w, y4⟩ := (HVD.out (by omega)).at (i := j % n1) (by rw [List.length_map, ← HN1.out]; exact hjn)
          have hixd := y4 Tryz.underlying23 elem93 size3 ((j : Int) % (n1 : Int)) (by omega)
          rw [ints_at (by rw [← HN1.out]; exact hjn)] at y3w
          obtain ⟨dv, hdv⟩ : ∃ dv, ds[j % n1]'(by rw [← HN1.out]; exact hjn) = dv := ⟨_, rfl⟩
          rw [hdv] at y3w
          have HY3 : Hid (w.cell? ⟨bd1, od1, none⟩ = some (.int .i64 dv)) := y3w
          clear y1 y2 y3w y4 hdv hjn
          go_wp2_with (refine put_has _ rfl _ _ _ rfl HH5.out (by omega) s HSJ.out HMAY.out.2.1 id kk hkk0 (by omega) rfl rfl rfl ?_; intro w6 hB6 hO6; have HLX : Hid (Lw bc bt bp bd bm mh (j + 1) (600 * j + 280) (insT ⟨id, s, colsK kk⟩ L) w w6) := HLA.out.made HLB.out HMAY.out.2.2 HID3.out HC5.out HO5.out hB6 hO6; clear hB6 hO6; have y6 := keepc HLX.out.b0 HY3.out)
          refine (pickR_any dv 3 (by omega) (by omega) _).mono ?_
          rintro _ w9 ⟨⟨r, hr, rfl⟩, h9⟩
          obtain rfl := h9.symm
          clear h9
          by_cases hr0 : r = 0
          · subst hr0
            go_wp2_with fail
            refine (pickR_any dv (j + 1) (by omega) (by omega) _).mono ?_
            rintro _ w9 ⟨⟨q, hq, rfl⟩, h9⟩
            obtain rfl := h9.symm
            clear h9
            have hqn : q < ss.length := by have := HN0.out; omega
            obtain ⟨bd2, od2, z1, z2, z3w, z4⟩ := (HVS.out (by omega)).at (i := q) (by rw [List.length_map]; exact hqn)
            have hixs := z4 Tryz.underlying22 elem22s size9 (q : Int) rfl
            rw [strs_get hqn] at z3w
            have HSQ : Hid (ss[q].size ≤ 140737488351232) := HSZ.out _ (List.getElem_mem hqn)
            obtain ⟨s2, hs2⟩ : ∃ s2, ss[q] = s2 := ⟨_, rfl⟩
            rw [hs2] at z3w HSQ
            have z6 := keepc HLX.out.b0 z3w
            clear z1 z2 z3w z4 hs2
            have HDR : Hid _ := dropT_any HLX.out.cat s2 HSQ.out (by omega)
            go_wp2_with (refine look_has _ rfl _ _ rfl HLX.out.has s2 HSQ.out rfl rfl ?_; intro cv bv hbv)
            refine (show Calls _ _ _ _ _ from HDR.out).mono ?_
            rintro _ w7 (⟨hno, rfl, hb7⟩ | ⟨hex, rfl, hc7, ho7⟩)
            · obtain rfl : bv = false := by
                cases bv
                · rfl
                · obtain ⟨t, ht, e⟩ := hbv.1 rfl
                  exact absurd e (hno t ht)
              have HL7 : Hid (Lw bc bt bp bd bm mh (j + 1) (600 * j + 280) (insT ⟨id, s, colsK kk⟩ L) w w7) := HLX.out.below hb7
              have HNO : Hid _ := hno
              clear hb7 hno hbv z6 HDR y6
              go_wp2_with (refine del_has _ rfl _ _ rfl HL7.out.has HL7.out.cat.srt s2 HSQ.out rfl rfl ?_; intro w8 hB8 hO8)
              go_roundw
              case rel =>
                refine ⟨j + 1, delT (insT ⟨id, s, colsK kk⟩ L) s2, by omega, by go_num, Lw.mono (Lw.gone HL7.out HLB.out (w' := w7) (N' := 600 * j + 280) ?_ (Only.refl _ _) hB8 hO8) (by omega) (by omega)⟩
                rw [delT_none HNO.out]
                exact HL7.out.cat
              case measure => simp [intOf]; omega
            · obtain rfl : bv = true := hbv.2 hex
              have HC7 : Hid (CatS bc bt bp bd bm (600 * j + 280 + 280) (delT (insT ⟨id, s, colsK kk⟩ L) s2) w7) := hc7
              have HO7 : Hid (Only (fun b => b = bp ∨ b = bm) w6 w7) := ho7
              have HH7 : Hid (HasB mh (j + 1) (insT ⟨id, s, colsK kk⟩ L) w7) := HLX.out.has.only ho7 (fun e => by rcases e with e | e; exact HLB.out.hp e.symm; exact HLB.out.hm e.symm)
              clear hc7 ho7 hex hbv z6 HDR y6
              go_wp2_with (refine del_has _ rfl _ _ rfl HH7.out HLX.out.cat.srt s2 HSQ.out rfl rfl ?_; intro w8 hB8 hO8)
              go_roundw
              case rel => exact ⟨j + 1, delT (insT ⟨id, s, colsK kk⟩ L) s2, by omega, by go_num, Lw.mono (HLX.out.gone HLB.out HC7.out HO7.out hB8 hO8) (by omega) (by omega)⟩
              case measure => simp [intOf]; omega
          · have r1 : ¬ (r : Int) = 0 := by omega
            have r2 : ((r : Int) == 0) = false := by simpa using r1
            go_wp2_with fail
            go_roundw
            case rel => exact ⟨j + 1, _, by omega, by go_num, HLX.out.mono (by omega) (by omega)⟩
            case measure => simp [intOf]; omega
      · have HLX : Hid (Lw bc bt bp bd bm mh j (600 * j) L w w5) := HLA.out.below hb5
        clear hb5 HCR z3
        by_cases hd0 : n1 = 0
        · have d1 : ¬ (0 : Int) < (n1 : Int) := by omega
          clear hd0
          go_wp2_with (fail)
          go_roundw
          case rel => exact ⟨j + 1, _, by omega, by go_num, HLX.out.mono (by omega) (by omega)⟩
          case measure => simp [intOf]; omega
        · have d1 : (0 : Int) < (n1 : Int) := by omega
          have d2 : ¬ (n1 : Int) = 0 := by omega
          have hjn : j % n1 < n1 := Nat.mod_lt _ (by omega)
          obtain ⟨bd1, od1, y1, y2, y3w, y4⟩ := (HVD.out (by omega)).at (i := j % n1) (by rw [List.length_map, ← HN1.out]; exact hjn)
          have hixd := y4 Tryz.underlying23 elem93 size3 ((j : Int) % (n1 : Int)) (by omega)
          rw [ints_at (by rw [← HN1.out]; exact hjn)] at y3w
          obtain ⟨dv, hdv⟩ : ∃ dv, ds[j % n1]'(by rw [← HN1.out]; exact hjn) = dv := ⟨_, rfl⟩
          rw [hdv] at y3w
          have HY3 : Hid (w.cell? ⟨bd1, od1, none⟩ = some (.int .i64 dv)) := y3w
          clear y1 y2 y3w y4 hdv hjn
          have y6 := keepc HLX.out.b0 HY3.out
          go_wp2_with (fail)
          refine (pickR_any dv 3 (by omega) (by omega) _).mono ?_
          rintro _ w9 ⟨⟨r, hr, rfl⟩, h9⟩
          obtain rfl := h9.symm
          clear h9
          by_cases hr0 : r = 0
          · subst hr0
            go_wp2_with fail
            refine (pickR_any dv (j + 1) (by omega) (by omega) _).mono ?_
            rintro _ w9 ⟨⟨q, hq, rfl⟩, h9⟩
            obtain rfl := h9.symm
            clear h9
            have hqn : q < ss.length := by have := HN0.out; omega
            obtain ⟨bd2, od2, z1, z2, z3w, z4⟩ := (HVS.out (by omega)).at (i := q) (by rw [List.length_map]; exact hqn)
            have hixs := z4 Tryz.underlying22 elem22s size9 (q : Int) rfl
            rw [strs_get hqn] at z3w
            have HSQ : Hid (ss[q].size ≤ 140737488351232) := HSZ.out _ (List.getElem_mem hqn)
            obtain ⟨s2, hs2⟩ : ∃ s2, ss[q] = s2 := ⟨_, rfl⟩
            rw [hs2] at z3w HSQ
            have z6 := keepc HLX.out.b0 z3w
            clear z1 z2 z3w z4 hs2
            have HDR : Hid _ := dropT_any HLX.out.cat s2 HSQ.out (by omega)
            go_wp2_with (refine look_has _ rfl _ _ rfl HLX.out.has s2 HSQ.out rfl rfl ?_; intro cv bv hbv)
            refine (show Calls _ _ _ _ _ from HDR.out).mono ?_
            rintro _ w7 (⟨hno, rfl, hb7⟩ | ⟨hex, rfl, hc7, ho7⟩)
            · obtain rfl : bv = false := by
                cases bv
                · rfl
                · obtain ⟨t, ht, e⟩ := hbv.1 rfl
                  exact absurd e (hno t ht)
              have HL7 : Hid (Lw bc bt bp bd bm mh (j) (600 * j) (L) w w7) := HLX.out.below hb7
              have HNO : Hid _ := hno
              clear hb7 hno hbv z6 HDR y6
              go_wp2_with (refine del_has _ rfl _ _ rfl HL7.out.has HL7.out.cat.srt s2 HSQ.out rfl rfl ?_; intro w8 hB8 hO8)
              go_roundw
              case rel =>
                refine ⟨j + 1, delT (L) s2, by omega, by go_num, Lw.mono (Lw.gone HL7.out HLB.out (w' := w7) (N' := 600 * j) ?_ (Only.refl _ _) hB8 hO8) (by omega) (by omega)⟩
                rw [delT_none HNO.out]
                exact HL7.out.cat
              case measure => simp [intOf]; omega
            · obtain rfl : bv = true := hbv.2 hex
              have HC7 : Hid (CatS bc bt bp bd bm (600 * j + 280) (delT (L) s2) w7) := hc7
              have HO7 : Hid (Only (fun b => b = bp ∨ b = bm) w5 w7) := ho7
              have HH7 : Hid (HasB mh (j) (L) w7) := HLX.out.has.only ho7 (fun e => by rcases e with e | e; exact HLB.out.hp e.symm; exact HLB.out.hm e.symm)
              clear hc7 ho7 hex hbv z6 HDR y6
              go_wp2_with (refine del_has _ rfl _ _ rfl HH7.out HLX.out.cat.srt s2 HSQ.out rfl rfl ?_; intro w8 hB8 hO8)
              go_roundw
              case rel => exact ⟨j + 1, delT (L) s2, by omega, by go_num, Lw.mono (HLX.out.gone HLB.out HC7.out HO7.out hB8 hO8) (by omega) (by omega)⟩
              case measure => simp [intOf]; omega
          · have r1 : ¬ (r : Int) = 0 := by omega
            have r2 : ((r : Int) == 0) = false := by simpa using r1
            go_wp2_with fail
            go_roundw
            case rel => exact ⟨j + 1, _, by omega, by go_num, HLX.out.mono (by omega) (by omega)⟩
            case measure => simp [intOf]; omega
    · have x1 : ¬ (j : Int) < (n0 : Int) := by omega
      obtain rfl : n0 = j := by omega
      obtain ⟨D, hD, hDR⟩ := HL.out.has
      have hbI : Below wr.heap.size wr (wr.alloc (.map #[] 0)) := (Below.refl _ _).alloc (Nat.le_refl _) _
      have HD7 : Hid ((wr.alloc (.map #[] 0)).ownsMap Tryz.prog 9 (plainElem Tryz.prog 3) mh n0 D) := hD.alloc _
      have HDR : Hid (HasR D L) := hDR
      have HI7 : Hid (IdsB wr.heap.size 0 [] (wr.alloc (.map #[] 0))) := IdsB.new wr
      have HC7 : Hid (CatS bc bt bp bd bm (600 * n0) L (wr.alloc (.map #[] 0))) := HL.out.cat.below hbI
      have HB7 : Hid (Below w.heap.size w (wr.alloc (.map #[] 0))) := HL.out.b0.alloc HL.out.b0.size _
      have hmhl := HL.out.has.lt
      have hcl := HL.out.cat.lt
      have hcl2 := HL.out.cat.own.lt
      have hctl : bt < wr.heap.size := by obtain ⟨N1, up, V, T, g1, g2, g3⟩ := HL.out.cat; exact g2.t.lt
      have HIDS : Hid (L.Pairwise (fun a b => a.id ≠ b.id)) := HL.out.ids
      have HLEN : Hid (L.length ≤ 20) := HL.out.len
      have HWL : Hid (w.heap.size ≤ wr.heap.size) := HL.out.b0.size
      have hmm := @run_makeMap Tryz.prog
      obtain ⟨mi, hmi⟩ : ∃ mi, wr.heap.size = mi := ⟨_, rfl⟩
      rw [hmi] at HI7 hmhl hcl hcl2 hctl HWL
      clear hD hDR hbI HL
      go_wp2_with (refine wpList_range_own _ rfl _ 41 rfl 9 3 keyed9 Tryz.underlying41 (plainElem Tryz.prog 3) mh n0 D rfl HD7.out ?_; intro w8 hrg hg8 hs8)
      try go_frame
      have hs8' : w8.heap.size = mi + 1 + 1 := by rw [hs8, World.size_alloc, hmi]
      rw [World.size_alloc, hmi] at hrg
      have hb8 : Below (wr.alloc (.map #[] 0)).heap.size (wr.alloc (.map #[] 0)) w8 := ⟨hg8.os, hg8.tape, hg8.output, hg8.size, fun k hk => hg8.block k hk (by simp)⟩
      have HL8 : Hid (L2 bc bt bp bd bm mh mi (mi + 1) n0 (600 * n0) D L [] L (Maps.has D) (Maps.size D) w w8) := ⟨HC7.out.below hb8, hrg, HI7.out.below hb8, by simp, HDR.out.has, HB7.out.trans (hb8.mono HB7.out.size)⟩
      clear hrg hg8 hs8 hb8 HC7 HI7 HB7 HD7 hs8' hmm
      go_loopw [] (fun wq => ∃ (left : Lit → Bool) (cnt : Nat) (done rest : List Tb), Hid (L2 bc bt bp bd bm mh mi (mi + 1) n0 (600 * n0) D L done rest left cnt w wq)) (fun wq => wq.rangeLeft mh (mi + 1))
      case atStart => exact ⟨_, _, _, _, HL8⟩
      case round =>
        clear HL8
        obtain ⟨left, cnt, done, rest, HQ⟩ := hrel
        have hrg := HQ.out.rg
        go_wp2_with (at_next; refine next_has _ rfl _ rfl mh _ n0 D left cnt rfl hrg ?_ ?_)
        · intro _ hl
          have hrest : rest = [] := by
            cases rest with
            | nil => rfl
            | cons t r =>
              have := (HQ.out.left t.nm).2 ⟨t, by simp, rfl⟩
              rw [hl] at this; cases this
          subst hrest
          obtain ⟨D2, hD2, hDR2⟩ := HQ.out.ids
          have hlen2 : done.length = L.length := by have := HQ.out.perm.length_eq; simp at this; exact this.symm
          have hsz2 : Maps.size D2 = L.length := by rw [hDR2.size, hlen2]
          have hsz1 : Maps.size D = L.length := HDR.out.size
          have HD2 : Hid _ := hD2
          have HDA : Hid _ := hrg.owns
          have HCQ : Hid (CatS bc bt bp bd bm (600 * n0) L wr) := HQ.out.cat
          have HBQ : Hid (Below w.heap.size w wr) := HQ.out.b0
          have hrl := hrg.lt
          clear hl hD2 hDR2 hlen2 hrg HQ
          go_wp2_with (first | (at_len; refine wpList_len_own _ rfl _ 50 rfl 3 3 Tryz.underlying50 (plainElem Tryz.prog 3) mi done.length D2 rfl HD2.out ?_) | (at_len; refine wpList_len_own _ rfl _ 41 rfl 9 3 Tryz.underlying41 (plainElem Tryz.prog 3) mh n0 D rfl HDA.out ?_) | (refine wpList_range_own _ rfl _ 41 rfl 9 3 keyed9 Tryz.underlying41 (plainElem Tryz.prog 3) mh n0 D rfl HDA.out ?_; intro w8 hrg hg8 hs8))
          try go_frame
          have hb8 : Below wr.heap.size wr w8 := ⟨hg8.os, hg8.tape, hg8.output, hg8.size, fun k hk => hg8.block k hk (by simp)⟩
          have HL8 : Hid (L3 bc bt bp bd bm mh wr.heap.size n0 (600 * n0) D L (Maps.has D) (Maps.size D) w w8) := ⟨(HCQ.out.below hb8).mono (by omega), hrg, HDR.out.has, HLEN.out, HBQ.out.trans (hb8.mono HBQ.out.size)⟩
          have hWQ := HBQ.out.size
          clear hrg hg8 hs8 hb8 HCQ HBQ HD2 HDA
          obtain ⟨r2, hr2⟩ : ∃ r2, wr.heap.size = r2 := ⟨_, rfl⟩
          rw [hr2] at HL8 hrl hWQ
          rw [hr2]
          go_loopw [] (fun wq => ∃ (left : Lit → Bool) (cnt : Nat) (Lr : List Tb), Hid (L3 bc bt bp bd bm mh r2 n0 (600 * n0) D Lr left cnt w wq)) (fun wq => wq.rangeLeft mh r2)
          case atStart => exact ⟨_, _, _, HL8⟩
          case round =>
            clear HL8
            obtain ⟨left3, cnt3, Lr, H3⟩ := hrel
            have hrg := H3.out.rg
            go_wp2_with (at_next; refine next_has _ rfl _ rfl mh _ n0 D left3 cnt3 rfl hrg ?_ ?_)
            · intro _ hl
              have hLr : Lr = [] := by
                cases Lr with
                | nil => rfl
                | cons t r =>
                  have := (H3.out.left t.nm).2 ⟨t, by simp, rfl⟩
                  rw [hl] at this; cases this
              subst hLr
              have HNM : Hid _ := namesT_nil H3.out.cat (keepc H3.out.b0 HM.out)
              have HB3 : Hid _ := H3.out.b0
              clear hl hrg H3
              go_wp2_with fail
              refine (show Calls _ _ _ _ _ from HNM.out).mono ?_
              rintro _ w9 ⟨rfl, hb9⟩
              have HB9 : Hid (Below w.heap.size w w9) := HB3.out.trans (hb9.mono HB3.out.size)
              clear hb9 HNM
              go_wp2
              go_ret
              exact ⟨rfl, HB9.out⟩
            · intro x c w7 cnt7 hlx hat hrg7 hlt7 hg7 hs7 hen
              obtain ⟨t, htL, htx⟩ := (H3.out.left x).1 hlx
              have htok := H3.out.cat.ok t htL
              have hns := name_size htok.nm
              rw [htx] at hns
              have ho7 : Only (fun b => b = r2) wr w7 := ⟨hg7.os, hg7.tape, hg7.output, hg7.size, fun k hk hs => hg7.block k hk (fun e => hs (Option.some.inj e))⟩
              have HC7 : Hid (CatS bc bt bp bd bm (600 * n0 + 280 * (20 - Lr.length)) Lr w7) := H3.out.cat.only ho7 ⟨by omega, by omega, by omega, by omega, by omega⟩
              have HB7 : Hid (Below w.heap.size w w7) := Only.below H3.out.b0 ho7 H3.out.b0.size (fun i hi => by rw [hi]; omega)
              have HRG7 : Hid (w7.ranges Tryz.prog 9 (plainElem Tryz.prog 3) mh r2 n0 D (fun z => left3 z && !z.sameKey (kl x)) cnt7) := hrg7
              have HLT7 : Hid (cnt7 < cnt3) := hlt7
              have HD1 : Hid ((delT Lr x).length + 1 = Lr.length) := by
                have := delT_one H3.out.cat.srt htL
                rw [htx] at this
                exact this
              have HLL : Hid (Lr.length ≤ 20) := H3.out.len
              have HEX : Hid (∃ t ∈ Lr, t.nm = x) := ⟨t, htL, htx⟩
              have HLF : Hid (∀ nm : ByteArray, left3 (kl nm) = true ↔ ∃ t ∈ Lr, t.nm = nm) := H3.out.left
              have HDP : Hid _ := dropT_any HC7.out x (by omega) (by omega)
              clear hlx hat hrg7 hlt7 ho7 hg7 htok htx htL hs7 H3
              go_wp2_with fail
              refine (show Calls _ _ _ _ _ from HDP.out).mono ?_
              rintro _ w9 (⟨hno, _⟩ | ⟨_, rfl, hc9, ho9⟩)
              · obtain ⟨t, ht, e⟩ := HEX.out
                exact absurd e (hno t ht)
              · have HC9 : Hid (CatS bc bt bp bd bm (600 * n0 + 280 * (20 - Lr.length) + 280) (delT Lr x) w9) := hc9
                have HB9 : Hid (Below w.heap.size w w9) := Only.below HB7.out ho9 HB7.out.size (fun i hi => by rcases hi with hi | hi; rw [hi]; exact HLB.out.lp; rw [hi]; exact HLB.out.lm)
                have HRG9 : Hid (w9.ranges Tryz.prog 9 (plainElem Tryz.prog 3) mh r2 n0 D (fun z => left3 z && !z.sameKey (kl x)) cnt7) := ranges_only HRG7.out ho9 (fun e => by rcases e with e | e; exact HLB.out.hp e.symm; exact HLB.out.hm e.symm) (fun e => by rcases e with e | e <;> omega)
                clear hc9 ho9 HDP hen
                go_wp2_with fail
                go_roundw
                case rel => exact ⟨_, _, delT Lr x, ⟨HC9.out.mono (by have := HD1.out; have := HLL.out; omega), HRG9.out, del_left HLF.out x, by have := HD1.out; have := HLL.out; omega, HB9.out⟩⟩
                case measure =>
                  rw [HRG9.out.left_eq, hrg.left_eq]
                  exact HLT7.out
        · intro x c w7 cnt7 hlx hat hrg7 hlt7 hg7 hs7 hen
          obtain ⟨t, rest', htL, htx, hperm, hidn, hleft⟩ := HQ.out.step HIDS.out hlx
          obtain ⟨kq, hkq, hcs⟩ := HDR.out.elem t htL
          have hcq : kq = c := by
            have e1 := hkq (.lit (.int .i64 0))
            rw [htx, hat] at e1
            injection e1 with e1
            injection e1 with _ e1
            exact e1.symm
          subst hcq
          have htok := HQ.out.cat.ok t htL
          have hid := htok.id
          have ho7 : Only (fun b => b = mi + 1) wr w7 := ⟨hg7.os, hg7.tape, hg7.output, hg7.size, fun k hk hs => hg7.block k hk (fun e => hs (Option.some.inj e))⟩
          have HC7 : Hid (CatS bc bt bp bd bm (600 * n0) L w7) := HQ.out.cat.only ho7 ⟨by omega, by omega, by omega, by omega, by omega⟩
          have HI7 : Hid (IdsB mi done.length done w7) := HQ.out.ids.only ho7 (by omega)
          have HB7 : Hid (Below w.heap.size w w7) := Only.below HQ.out.b0 ho7 HQ.out.b0.size (fun i hi => by rw [hi]; have := HWL.out; omega)
          have HRG7 : Hid (w7.ranges Tryz.prog 9 (plainElem Tryz.prog 3) mh (mi + 1) n0 D (fun z => left z && !z.sameKey (kl t.nm)) cnt7) := by rw [htx]; exact hrg7
          have HLT7 : Hid (cnt7 < cnt) := hlt7
          have HPM : Hid _ := hperm
          have HIN : Hid _ := hidn
          have HLF : Hid (∀ nm : ByteArray, (left (kl nm) && !(kl nm).sameKey (kl t.nm)) = true ↔ ∃ s ∈ rest', s.nm = nm) := by rw [htx]; exact hleft
          have HCS : Hid (t.cs = [⟨sA, 1, false, false, false⟩, ⟨sB, 2, muK kq, woK kq, false⟩]) := hcs
          have HDL : Hid (done.length ≤ 100) := by
            have := HQ.out.perm.length_eq
            rw [List.length_append] at this
            have := HLEN.out
            show _ ≤ _
            omega
          have HGT : Hid _ := getT_any HC7.out (keepc HB7.out HM.out) (by have := HLEN.out; omega) htL
          rw [htx] at HGT
          have HTX : Hid (t.nm = x) := htx
          clear hlx hat hrg7 hlt7 ho7 hg7 hperm hidn hleft hcs hkq htok htx hs7
          go_wp2_with fail
          refine (show Calls _ _ _ _ _ from HGT.out).mono ?_
          rintro _ w9 ⟨vc, vi, rfl, hcr, hir, _, hb9⟩
          rw [HCS.out] at hcr
          obtain ⟨g, cap, ev, hg1, hg2, k0_, k1, k2, k3, hix0⟩ := CRow.at hcr (i := 1) (by simp)
          obtain ⟨ai, ci, hvi⟩ := row_slice hir
          subst ev hvi
          have hix := hix0 2 (by omega)
          simp only [List.getElem_cons_succ, List.getElem_cons_zero, muK, woK] at k2 k3
          obtain ⟨li, hli⟩ : ∃ li, (ixs t.cs).length = li := ⟨_, rfl⟩
          rw [hli]
          have hb10 : Below w9.heap.size w9 (w9.alloc (.cells #[.int .i64 (t.id : Nat), .int .i64 1, .string x, .slice (some ⟨g, 0, none⟩) 2 cap, .slice ai li ci] 52)) := (Below.refl _ _).alloc (Nat.le_refl _) _
          have k2A := keepc hb10 k2
          have k3A := keepc hb10 k3
          have hbA : Below w7.heap.size w7 (w9.alloc (.cells #[.int .i64 (t.id : Nat), .int .i64 1, .string x, .slice (some ⟨g, 0, none⟩) 2 cap, .slice ai li ci] 52)) := hb9.trans (hb10.mono hb9.size)
          have HCA : Hid (CatS bc bt bp bd bm (600 * n0) L (w9.alloc (.cells #[.int .i64 (t.id : Nat), .int .i64 1, .string x, .slice (some ⟨g, 0, none⟩) 2 cap, .slice ai li ci] 52))) := HC7.out.below hbA
          have HIA : Hid (IdsB mi done.length done (w9.alloc (.cells #[.int .i64 (t.id : Nat), .int .i64 1, .string x, .slice (some ⟨g, 0, none⟩) 2 cap, .slice ai li ci] 52))) := HI7.out.below hbA
          have HBA : Hid (Below w.heap.size w (w9.alloc (.cells #[.int .i64 (t.id : Nat), .int .i64 1, .string x, .slice (some ⟨g, 0, none⟩) 2 cap, .slice ai li ci] 52))) := HB7.out.trans (hbA.mono HB7.out.size)
          have HRA : Hid ((w9.alloc (.cells #[.int .i64 (t.id : Nat), .int .i64 1, .string x, .slice (some ⟨g, 0, none⟩) 2 cap, .slice ai li ci] 52)).ranges Tryz.prog 9 (plainElem Tryz.prog 3) mh (mi + 1) n0 D (fun z => left z && !z.sameKey (kl t.nm)) cnt7) := ranges_only HRG7.out (below_only hbA (fun _ => False)) (fun e => e) (fun e => e)
          have j1 : ¬ (t.id : Int) < 1 := by omega
          have j2 : ¬ (20 : Int) < (t.id : Int) := by omega
          clear hcr hir hb9 hb10 hbA k0_ k1 k2 k3 hix0 HGT hli HC7 HI7 HB7 HRG7 hen
          simp only [List.length_cons, List.length_nil, Nat.zero_add, Nat.reduceAdd]
          go_wp2_with (first | (refine look_ids _ rfl _ _ rfl HIA.out t (by omega) HIN.out rfl rfl ?_) | (refine put_ids _ rfl _ _ _ rfl HIA.out (by have := HDL.out; omega) t (by omega) HIN.out rfl rfl rfl ?_; intro w11 hB11 hO11))
          go_roundw
          case rel =>
            refine ⟨_, _, done ++ [t], rest', ⟨HCA.out.only hO11 ⟨by omega, by omega, by omega, by omega, by omega⟩, ranges_only HRA.out hO11 (by omega) (by omega), ?_, HPM.out, HLF.out, Only.below HBA.out hO11 HBA.out.size (fun i hi => by rw [hi]; exact HWL.out)⟩⟩
            rw [List.length_append]
            exact hB11
          case measure =>
            rw [(ranges_only HRA.out hO11 (by omega) (by omega)).left_eq, hrg.left_eq]
            exact HLT7.out
end Go.Proofs.YteijjaddlkedbaaGreat
