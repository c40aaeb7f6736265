/- Texts of the proof of CatalogHolds: Ccs, Cgt, Cpl, Ccr, Cix, Cls. -/
import Derived.Test.YteijjaddlkedbaaGreatC18
namespace Go.Proofs.YteijjaddlkedbaaGreat
open Go.RowKit Go.Maps

def CatS (bc bt bp bd bm N : Nat) (L : List Tb) (w : World) : Prop := ∃ N1 up V T, N1 ≤ N ∧ Cs bc bt bp bd bm N1 up V T w ∧ Cat L T.all
section
variable {bc bt bp bd bm N Z : Nat} {L : List Tb} {w w' : World}
theorem CatS.below (h : CatS bc bt bp bd bm N L w) (hb : Below w.heap.size w w') : CatS bc bt bp bd bm N L w' := by
  obtain ⟨N1, up, V, T, h1, h2, h3⟩ := h
  exact ⟨N1, up, V, T, h1, h2.below hb, h3⟩
theorem CatS.only {S : Nat → Prop} (h : CatS bc bt bp bd bm N L w) (ho : Only S w w') (hS : ¬ S bc ∧ ¬ S bt ∧ ¬ S bp ∧ ¬ S bd ∧ ¬ S bm) : CatS bc bt bp bd bm N L w' := by
  obtain ⟨N1, up, V, T, h1, h2, h3⟩ := h
  exact ⟨N1, up, V, T, h1, ⟨h2.c.only ho hS.1, h2.t.only ho hS.2.1, h2.tw.only ho hS.2.2.1 hS.2.2.2.2 hS.2.2.2.1, h2.a, h2.so, h2.ne, h2.nc⟩, h3⟩
theorem CatS.own (h : CatS bc bt bp bd bm N L w) : Own1 bc (.pointer (some ⟨bt, 0, none⟩)) w := by
  obtain ⟨N1, up, V, T, h1, h2, h3⟩ := h
  exact h2.c
theorem CatS.mono {N' : Nat} (h : CatS bc bt bp bd bm N L w) (hN : N ≤ N') : CatS bc bt bp bd bm N' L w := by
  obtain ⟨N1, up, V, T, h1, h2, h3⟩ := h
  exact ⟨N1, up, V, T, by omega, h2, h3⟩
theorem CatS.lt (h : CatS bc bt bp bd bm N L w) : bp < w.heap.size ∧ bm < w.heap.size ∧ bd < w.heap.size := by
  obtain ⟨N1, up, V, T, h1, h2, h3⟩ := h
  exact h2.tw.lt
theorem CatS.ok (h : CatS bc bt bp bd bm N L w) : ∀ t ∈ L, t.Ok := by
  obtain ⟨N1, up, V, T, h1, h2, h3⟩ := h
  exact h3.ok
theorem CatS.srt (h : CatS bc bt bp bd bm N L w) : L.Pairwise (fun a b => bl a.nm b.nm = true) := by
  obtain ⟨N1, up, V, T, h1, h2, h3⟩ := h
  exact h3.srt
theorem CatS.prs (h : CatS bc bt bp bd bm N L w) : PrS bc bt bp bd bm N (300 * L.length) (· ∈ L.flatMap Tb.prs) w := by
  obtain ⟨N1, up, V, T, h1, h2, h3⟩ := h
  refine ⟨N1, up, V, T, h1, h2, ?_, h3.mem⟩
  rw [h3.all h2.sorted]
  exact flat_sz L h3.ok
theorem keys_ne {l : List Pr} (h : l.Pairwise (fun a b => bl a.k b.k = true)) : l.Pairwise (fun a b => a.k ≠ b.k) := h.imp (fun e => bl_ne e)
theorem dropT_any (h : CatS bc bt bp bd bm N L w) (nm : ByteArray) (hnm : nm.size ≤ 140737488351232) (hN : N + 5000 < 1000000) :
    Calls Tryz.prog 10 #[.pointer (some ⟨bc, 0, none⟩), .string nm] w fun e w' => ((∀ t ∈ L, t.nm ≠ nm) ∧ e = .returned (.iface 60 (.int .i64 7)) ∧ Below w.heap.size w w') ∨ ((∃ t ∈ L, t.nm = nm) ∧ e = .returned .nilIface ∧ CatS bc bt bp bd bm (N + 280) (delT L nm) w' ∧ Only (fun b => b = bp ∨ b = bm) w w') := by
  obtain ⟨N1, up, V, T, h1, h2, h3⟩ := h
  have hall := h3.all h2.sorted
  have hpre := h3.prefix h2.sorted nm
  by_cases hex : ∃ t ∈ L, t.nm = nm
  · obtain ⟨t, ht, hn⟩ := hex
    have hat : atN L nm = [t] := by rw [← hn]; exact atN_one h3.srt ht
    rw [hat, List.flatMap_singleton] at hpre
    have htk := h3.ok t ht
    have hlen := prs_len t
    have hcs := htk.cs
    refine (dropL_any (Z := 300 * L.length) h2 nm hnm hpre (fun x hx => (h3.mem x).2 (List.mem_flatMap.2 ⟨t, ht, hx⟩)) (keys_ne (prs_sorted htk)) (by omega) (by rw [hall]; exact flat_sz L h3.ok) (by omega)).mono ?_
    rintro e w' (⟨h0, _⟩ | ⟨_, he, ⟨N2, up2, V2, T2, g1, g2, g3, g4⟩, ho⟩)
    · rw [h0] at hlen; simp at hlen
    · refine .inr ⟨⟨t, ht, hn⟩, he, ⟨N2, up2, V2, T2, by omega, g2, ?_⟩, ho⟩
      rw [← hn]
      exact h3.drop ht g4
  · have hno : ∀ t ∈ L, t.nm ≠ nm := fun t ht e => hex ⟨t, ht, e⟩
    rw [atN_none hno] at hpre
    refine (dropL_any (Z := 300 * L.length) h2 nm hnm (ps := []) hpre (fun x hx => by cases hx) List.Pairwise.nil (by simp) (by rw [hall]; exact flat_sz L h3.ok) (by omega)).mono ?_
    rintro e w' (⟨_, he, hb⟩ | ⟨h0, _⟩)
    · exact .inl ⟨hno, he, hb⟩
    · exact absurd rfl h0
end
theorem EntR.far {B b o : Nat} {v u : Value} {E : List Ent} {w : World} (h : EntR B v E w) (hb : ∀ a k, (a = v ∨ a ∈ vals E) → a.ownBlock = some k → k ≠ b) : EntR B v E (w.setCell ⟨b, o, none⟩ u) := by
  have hG : w.grownBy (w.setCell ⟨b, o, none⟩ u) (some b) := ⟨rfl, rfl, rfl, by simp, fun k _ hk => heap_setCell_other w ⟨b, o, none⟩ k u (fun e => hk (by simp [e]))⟩
  have hk : ∀ a, (a = v ∨ a ∈ vals E) → (a.ownBlock = none ∨ a.ownBlock ≠ some b) := fun a ha => by
    cases e : a.ownBlock with
    | none => exact .inl rfl
    | some k => exact .inr (fun e2 => hb a k ha e (Option.some.inj e2))
  exact ⟨World.ownsRow.kept h.row hG (hk v (.inl rfl)), fun x hx => ⟨World.ownsRow.kept (h.cs x hx).1 hG (hk _ (.inr (vals_mem.2 ⟨x, hx, .inl rfl⟩))), World.ownsRow.kept (h.cs x hx).2 hG (hk _ (.inr (vals_mem.2 ⟨x, hx, .inr rfl⟩)))⟩, h.ap⟩
/-- as many numbers as tables -/
theorem pigeon : ∀ (k : Nat) (l : List Nat), (∀ j, 1 ≤ j → j < k + 1 → j ∈ l) → k ≤ l.length
  | 0, _, _ => Nat.zero_le _
  | k + 1, l, h => by
    have hm : k + 1 ∈ l := h (k + 1) (by omega) (by omega)
    have h1 := pigeon k (l.erase (k + 1)) (fun j h1 h2 => (List.mem_erase_of_ne (by omega)).2 (h j h1 (by omega)))
    rw [List.length_erase_of_mem hm] at h1
    have : 0 < l.length := List.length_pos_of_mem hm
    omega
def cellInt (w : World) (b : Nat) : Int := match w.cell? ⟨b, 0, none⟩ with
  | some v => intOf v
  | none => 0
set_option maxRecDepth 100000 in
set_option maxHeartbeats 1000000 in
theorem free_any {B : Nat} {v : Value} {E : List Ent} (w : World) (h : EntR B v E w) (hl : E.length ≤ 100) :
    Calls Tryz.prog 22 #[v] w fun e w' => (∃ n : Nat, e = .returned (.int .i64 (n : Nat)) ∧ 1 ≤ n ∧ n ≤ E.length + 1 ∧ ∀ x ∈ E, x.t.id ≠ n) ∧ Below w.heap.size w w' := by
  obtain ⟨W1, hW1⟩ : ∃ W1, w.alloc (.cells #[.int .i64 1] 3) = W1 := ⟨_, rfl⟩
  have hb1 : Below w.heap.size w W1 := by rw [← hW1]; exact (Below.refl _ w).alloc (Nat.le_refl _) _
  have HO1 : Hid (Own1 w.heap.size (.int .i64 1) W1) := by rw [← hW1]; exact Own1.new w _ 3
  have HE1 : Hid (EntR B v E W1) := h.below hb1
  have HB1 : Hid _ := hb1
  have HELT : Hid (∀ a k, (a = v ∨ a ∈ vals E) → a.ownBlock = some k → k < w.heap.size) := fun a k ha hk => (h.lt ha hk).2
  have hmf : ∀ (fn : Fn) (first cap : Array Value) (w : World), (Instr.makeFunc fn first cap).run Tryz.prog w = .ok (.func fn first cap) w := fun _ _ _ _ => rfl
  clear h hb1
  go_enter Tryz.func22, Tryz.ntmps22
  go_wp2_with fail
  go_loopw [] (fun wr => ∃ k : Nat, 1 ≤ k ∧ k ≤ E.length + 1 ∧ Hid (Own1 w.heap.size (.int .i64 (k : Nat)) wr) ∧ Hid (EntR B v E wr) ∧ Hid (Below w.heap.size w wr) ∧ Hid (∀ j, 1 ≤ j → j < k → ∃ x ∈ E, x.t.id = j)) (fun wr => 200 - (cellInt wr w.heap.size).toNat)
  case atStart => exact ⟨1, Nat.le_refl _, by omega, HO1, HE1, HB1, fun j h1 h2 => absurd h2 (by omega)⟩
  case round =>
    clear HO1 HE1 HB1
    obtain ⟨k, hk1, hk2, HO, HE, HB, HJ⟩ := hrel
    have q0 := HO.out.cell
    have HH : Hid (Calls Tryz.prog 18 #[v, .func (.func 41) #[] #[.pointer (some ⟨w.heap.size, 0, none⟩)]] wr fun e w' => e = .returned (.bool (E.any (fun x => (x.t.id : Int) == (k : Int)))) ∧ Below wr.heap.size wr w') :=
      hasE_any (p := fun x => (x.t.id : Int) == (k : Int)) wr HE.out q0 (enters_of Tryz.func41 (by kernel_rfl) rfl) (fun x _ a1 l1 c1 a2 l2 c2 wx hx => free_cl wx hx _ _ _ _ _ a1 a2 l1 c1 l2 c2 rfl rfl)
    go_wp2_with fail
    refine (show Calls _ _ _ _ _ from HH.out).mono ?_
    rintro _ w2 ⟨rfl, hb2⟩
    have HO2 : Hid (Own1 w.heap.size (.int .i64 (k : Nat)) w2) := HO.out.below hb2
    have HE2 : Hid (EntR B v E w2) := HE.out.below hb2
    have HB2 : Hid (Below w.heap.size w w2) := HB.out.trans (hb2.mono HB.out.size)
    have c0 := HO2.out.cell
    have f0 := HO2.out.free
    clear hb2 q0 HH
    cases hany : E.any (fun x => (x.t.id : Int) == (k : Int))
    · have HNO : Hid (∀ x ∈ E, x.t.id ≠ k) := fun x hx e => by
        have := List.any_eq_false.1 hany x hx
        exact this (by simp [e])
      clear hany
      go_wp2
      go_ret
      exact ⟨⟨k, rfl, hk1, hk2, HNO.out⟩, HB2.out⟩
    · have HYES : Hid (∃ x ∈ E, x.t.id = k) := by
        obtain ⟨x, hx, e⟩ := List.any_eq_true.1 hany
        exact ⟨x, hx, by have := eq_of_beq e; omega⟩
      have hkk : k ≤ E.length := by
        have := pigeon k (E.map (·.t.id)) (fun j h1 h2 => by
          rcases Nat.lt_or_ge j k with hj | hj
          · obtain ⟨x, hx, e⟩ := HJ.out j h1 hj
            exact List.mem_map.2 ⟨x, hx, e⟩
          · obtain rfl : j = k := by omega
            obtain ⟨x, hx, e⟩ := HYES.out
            exact List.mem_map.2 ⟨x, hx, e⟩)
        simpa using this
      clear hany
      have hkw : IntKind.i64.wrap ((k : Int) + 1) = ((k + 1 : Nat) : Int) := by rw [wraps_i64 _ (by omega) (by omega)]; simp
      go_wp2_with fail
      go_roundw
      case rel =>
        refine ⟨k + 1, by omega, by omega, HO2.out.set _, HE2.out.far (fun a b ha hb => by have := HELT.out a b ha hb; omega), HB2.out.setCell (Nat.le_refl _) _, fun j h1 h2 => ?_⟩
        rcases Nat.lt_or_ge j k with hj | hj
        · exact HJ.out j h1 hj
        · obtain rfl : j = k := by omega
          exact HYES.out
      case measure =>
        simp only [cellInt]
        rw [(HO2.out.set _).cell, HO.out.cell]
        simp [intOf]
        omega
end Go.Proofs.YteijjaddlkedbaaGreat
namespace Go.Proofs.YteijjaddlkedbaaGreat
open Go.RowKit Go.Maps

theorem row_set1 {B b o : Nat} {e : TypeId} {size n : Nat} {v u : Value} {xs : List Value} {w : World} (h : w.ownsRow B e size v n xs) (hb : ∀ k, v.ownBlock = some k → k ≠ b) : (w.setCell ⟨b, o, none⟩ u).ownsRow B e size v n xs := by
  have hG : w.grownBy (w.setCell ⟨b, o, none⟩ u) (some b) := ⟨rfl, rfl, rfl, by simp, fun k _ hk => heap_setCell_other w ⟨b, o, none⟩ k u (fun e => hk (by simp [e]))⟩
  refine World.ownsRow.kept h hG ?_
  cases e : v.ownBlock with
  | none => exact .inl rfl
  | some k => exact .inr (fun e2 => hb k e (Option.some.inj e2))
theorem row_five {B b : Nat} {e : TypeId} {size n : Nat} {v u0 u1 u2 u3 u4 : Value} {xs : List Value} {w : World} (h : w.ownsRow B e size v n xs) (hb : ∀ k, v.ownBlock = some k → k ≠ b) : (((((w.setCell ⟨b, 0, none⟩ u0).setCell ⟨b, 1, none⟩ u1).setCell ⟨b, 2, none⟩ u2).setCell ⟨b, 3, none⟩ u3).setCell ⟨b, 4, none⟩ u4).ownsRow B e size v n xs :=
  row_set1 (row_set1 (row_set1 (row_set1 (row_set1 h hb) hb) hb) hb) hb
section
variable {bc bt bp bd bm N Z : Nat} {L : List Tb} {w : World}
/-- look, by names -/
theorem lookAt_any (h : CatS bc bt bp bd bm N L w) {m : Int} (hm : w.cell? ⟨0, 0, none⟩ = some (.int .i64 m)) (nm : ByteArray) (hLl : L.length ≤ 100) :
    Calls Tryz.prog 17 #[.pointer (some ⟨bc, 0, none⟩), .string (startB nm)] w fun e w' => ∃ v E, e = .returned (.tuple #[v, .nilIface]) ∧ EntR w.heap.size v E w' ∧ E.map (·.t) = atN L nm ∧ (∀ x ∈ E, x.is_ = ixs x.t.cs) ∧ Below w.heap.size w w' := by
  obtain ⟨N1, up, V, T, h1, h2, h3⟩ := h
  exact look_any h2 hm (startB nm) (fun t ht => h3.ok t (List.mem_filter.1 ht).1) (h3.prefix h2.sorted nm) (Nat.le_trans (List.length_filter_le _ _) hLl)
theorem lookAll_any (h : CatS bc bt bp bd bm N L w) {m : Int} (hm : w.cell? ⟨0, 0, none⟩ = some (.int .i64 m)) (hLl : L.length ≤ 100) :
    Calls Tryz.prog 17 #[.pointer (some ⟨bc, 0, none⟩), .string ⟨#[]⟩] w fun e w' => ∃ v E, e = .returned (.tuple #[v, .nilIface]) ∧ EntR w.heap.size v E w' ∧ E.map (·.t) = L ∧ (∀ x ∈ E, x.is_ = ixs x.t.cs) ∧ Below w.heap.size w w' := by
  obtain ⟨N1, up, V, T, h1, h2, h3⟩ := h
  exact look_any h2 hm ⟨#[]⟩ h3.ok (h3.every h2.sorted) hLl
set_option maxRecDepth 100000 in
set_option maxHeartbeats 1000000 in
theorem getT_any (h : CatS bc bt bp bd bm N L w) {m : Int} (hm : w.cell? ⟨0, 0, none⟩ = some (.int .i64 m)) (hLl : L.length ≤ 100) {t : Tb} (ht : t ∈ L) :
    Calls Tryz.prog 11 #[.pointer (some ⟨bc, 0, none⟩), .string t.nm] w fun e w' => ∃ vc vi, e = .returned (.tuple #[.agg #[.int .i64 (t.id : Nat), .int .i64 1, .string t.nm, vc, vi], .nilIface]) ∧ CRow w.heap.size vc t.cs w' ∧ NRow w.heap.size vi (ixs t.cs) w' ∧ Apt vc vi ∧ Below w.heap.size w w' := by
  have htk := h.ok t ht
  have hns := name_size htk.nm
  have hat := atN_one h.srt ht
  obtain ⟨W1, hW1⟩ : ∃ W1, w.alloc (.cells #[.int .i64 0, .int .i64 0, .string ⟨#[]⟩, .slice none 0 0, .slice none 0 0] 52) = W1 := ⟨_, rfl⟩
  have hb1 : Below w.heap.size w W1 := by rw [← hW1]; exact (Below.refl _ w).alloc (Nat.le_refl _) _
  have HV1 : Hid (VarN w.heap.size [.int .i64 0, .int .i64 0, .string ⟨#[]⟩, .slice none 0 0, .slice none 0 0] W1) := by rw [← hW1]; exact VarN.new w #[.int .i64 0, .int .i64 0, .string ⟨#[]⟩, .slice none 0 0, .slice none 0 0] 52 (by simp)
  have HS1 : Hid (w.heap.size < W1.heap.size) := HV1.out.lt
  have HLK : Hid (Calls Tryz.prog 17 #[.pointer (some ⟨bc, 0, none⟩), .string (startB t.nm)] W1 fun e w' => ∃ v E, e = .returned (.tuple #[v, .nilIface]) ∧ EntR W1.heap.size v E w' ∧ E.map (·.t) = [t] ∧ (∀ x ∈ E, x.is_ = ixs x.t.cs) ∧ Below W1.heap.size W1 w') := by
    have := lookAt_any (h.below hb1) (keepc hb1 hm) t.nm hLl
    rw [hat] at this
    exact this
  have HB1 : Hid _ := hb1
  clear h hm hat htk hb1
  go_enter Tryz.func11, Tryz.ntmps11
  go_wp2_with fail
  refine (start_any t.nm (by omega) _).mono ?_
  rintro _ w9 ⟨rfl, h9⟩
  obtain rfl := h9.symm
  clear h9
  go_wp2_with fail
  refine (show Calls _ _ _ _ _ from HLK.out).mono ?_
  rintro _ w2 ⟨v, E, rfl, hE, hM, hI, hb2⟩
  obtain ⟨x, rfl, hx⟩ : ∃ x, E = [x] ∧ x.t = t := by
    cases E with
    | nil => simp at hM
    | cons x r =>
      simp at hM
      obtain ⟨h1, h2⟩ := hM
      subst h2
      exact ⟨x, rfl, h1⟩
  obtain ⟨g, cap, a1, l1, c1, a2, l2, c2, ev, hg1, hg2, e1, e2, k0, k1, k2, k3, k4, hix⟩ := hE.at (i := 0) (by simp)
  simp only [List.length_singleton] at ev hix
  subst ev
  simp only [List.getElem_cons_zero, Nat.mul_zero, Nat.zero_add] at e1 e2 k0 k1 k2 k3 k4 hix
  rw [hx] at k0 k2
  have HC2 : Hid (CRow w.heap.size (.slice a1 l1 c1) t.cs w2) := by
    have := (hE.cs x (by simp)).1
    rw [e1, hx] at this
    exact row_base this (Nat.le_of_lt HS1.out)
  have HN2 : Hid (NRow w.heap.size (.slice a2 l2 c2) (ixs t.cs) w2) := by
    have := (hE.cs x (by simp)).2
    rw [e2, hI x (by simp), hx] at this
    exact row_base this (Nat.le_of_lt HS1.out)
  have HV2 : Hid (VarN w.heap.size [.int .i64 0, .int .i64 0, .string ⟨#[]⟩, .slice none 0 0, .slice none 0 0] w2) := HV1.out.below hb2
  have HB2 : Hid (Below w.heap.size w w2) := HB1.out.trans (hb2.mono HB1.out.size)
  have HCL : Hid (∀ k, (Value.slice a1 l1 c1).ownBlock = some k → k ≠ w.heap.size) := fun k hk => by
    have := (World.ownsRow.lt (hE.cs x (by simp)).1 k (by rw [e1]; exact hk)).1
    have := HS1.out
    omega
  have HNL : Hid (∀ k, (Value.slice a2 l2 c2).ownBlock = some k → k ≠ w.heap.size) := fun k hk => by
    have := (World.ownsRow.lt (hE.cs x (by simp)).2 k (by rw [e2]; exact hk)).1
    have := HS1.out
    omega
  have HAP : Hid (Apt (.slice a1 l1 c1) (.slice a2 l2 c2)) := by
    have := hE.ap
    simp only [List.flatMap_singleton, List.pairwise_cons] at this
    rw [← e1, ← e2]
    exact this.2.1 _ (by simp)
  have f0 := HV2.out.free 0
  have f1 := HV2.out.free 1
  have f2 := HV2.out.free 2
  have f3 := HV2.out.free 3
  have f4 := HV2.out.free 4
  obtain ⟨d0, d1, d2, d3, d4⟩ := HV2.out.c5
  clear hE hM hI hb2 e1 e2 hx HV1 HB1 HLK
  go_wp2
  refine bodyPost_ret (v := .tuple #[.agg #[.int .i64 (t.id : Nat), .int .i64 1, .string t.nm, .slice a1 l1 c1, .slice a2 l2 c2], .nilIface]) (results_cell_tmp Tryz.results11 _ _ _ rfl rfl (load52 (((((HV2.out.set 0 _).set 1 _).set 2 _).set 3 _).set 4 _))) rfl ⟨_, _, rfl, ?_, ?_, HAP.out, ((((HB2.out.setCell (Nat.le_refl _) _).setCell (Nat.le_refl _) _).setCell (Nat.le_refl _) _).setCell (Nat.le_refl _) _).setCell (Nat.le_refl _) _⟩
  · exact row_five HC2.out HCL.out
  · exact row_five HN2.out HNL.out
end
end Go.Proofs.YteijjaddlkedbaaGreat
namespace Go.Proofs.YteijjaddlkedbaaGreat
open Go.RowKit Go.Maps

set_option maxRecDepth 100000 in
set_option maxHeartbeats 1000000 in
theorem indexC_any {B fw Bc : Nat} {u v : Value} {E : List Col} {p : Col → Bool} (w : World) (h : CRow B v E w) (hu : w.cell? ⟨Bc, 0, none⟩ = some u) (eg : ∀ args w, (callFunc fw args).run Tryz.prog w = .ok (.enter fw args) w)
    (hc : ∀ x ∈ E, ∀ wx, wx.cell? ⟨Bc, 0, none⟩ = some u → Calls Tryz.prog fw #[.agg #[.string x.nm, .int .i64 (x.kd : Nat), .bool x.mu, .bool x.wo], .pointer (some ⟨Bc, 0, none⟩)] wx fun e w' => e = .returned (.bool (p x)) ∧ Below wx.heap.size wx w') :
    Calls Tryz.prog 79 #[v, .func (.func fw) #[] #[.pointer (some ⟨Bc, 0, none⟩)]] w fun e w' => IdxR p E e ∧ Below w.heap.size w w' := by
  obtain ⟨a9, c9, hv9⟩ := row_slice h
  have hmx := row_max h
  obtain ⟨n, hn⟩ : ∃ n, E.length = n := ⟨_, rfl⟩
  rw [hn] at hv9 hmx
  subst hv9
  have HN : Hid (E.length = n) := hn
  have HE : Hid _ := h
  have HU : Hid _ := hu
  have HC : Hid _ := hc
  have hult := World.block_lt_of_cell? _ _ hu
  clear h hu hc hn
  go_enter Tryz.func79, Tryz.ntmps79
  go_wp2_with fail
  go_loopw [8] (fun i wr => ∃ k : Nat, k ≤ n ∧ i = .int .i64 (k : Nat) ∧ Hid (CRow B (.slice a9 n c9) E wr) ∧ Hid (wr.cell? ⟨Bc, 0, none⟩ = some u) ∧ Hid (Below w.heap.size w wr) ∧ Hid (∀ j (hj : j < k) (hl : j < E.length), p E[j] = false)) (fun i _ => n + 1 - (intOf i).toNat)
  case atStart => exact ⟨0, Nat.zero_le _, rfl, HE, HU, Below.refl _ _, fun j hj => absurd hj (by omega)⟩
  case round =>
    clear HE HU
    obtain ⟨k, hk, rfl, HE, HU, HB, HP⟩ := hrel
    by_cases hlt : k < n
    · have h1 : (k : Int) < (n : Int) := by omega
      have hkl : k < E.length := by rw [HN.out]; exact hlt
      obtain ⟨g, cap, ev, hg1, hg2, k0, k1, k2, k3, hix0⟩ := HE.out.at hkl
      rw [HN.out] at ev
      cases ev
      have hix := hix0 n hlt
      clear hix0
      have HCC : Hid _ := HC.out E[k] (List.getElem_mem hkl) wr HU.out
      obtain ⟨x, hx⟩ : ∃ x, E[k] = x := ⟨_, rfl⟩
      rw [hx] at k0 k1 k2 k3 HCC
      go_wp2_with fail
      refine (show Calls _ _ _ _ _ from HCC.out).mono ?_
      rintro _ w2 ⟨rfl, hb2⟩
      have HE2 : Hid (CRow B (.slice (some ⟨g, 0, none⟩) n c9) E w2) := HE.out.below hb2
      have HU2 : Hid (w2.cell? ⟨Bc, 0, none⟩ = some u) := (hb2.cell (World.block_lt_of_cell? _ _ HU.out)).trans HU.out
      have HB2 : Hid (Below w.heap.size w w2) := HB.out.trans (hb2.mono HB.out.size)
      clear hb2 k0 k1 k2 k3 HCC
      cases hp : p x
      · go_wp2_with fail
        go_roundw
        case rel => exact ⟨k + 1, by omega, by go_num, HE2, HU2, HB2, fun j hj hl => by
            by_cases e : j = k
            · subst e; rw [hx]; exact hp
            · exact HP.out j (by omega) hl⟩
        case measure => simp [intOf]; omega
      · go_wp2
        go_ret
        exact ⟨.inl ⟨k, hkl, by rw [hx]; exact hp, fun j hj => HP.out j hj _, rfl⟩, HB2.out⟩
    · have h1 : ¬ (k : Int) < (n : Int) := by omega
      obtain rfl : n = k := by omega
      go_wp2
      go_ret
      exact ⟨.inr ⟨fun x hx => by
        obtain ⟨j, hj, rfl⟩ := List.getElem_of_mem hx
        exact HP.out j (by have := HN.out; omega) hj, rfl⟩, HB.out⟩
set_option maxRecDepth 100000 in
theorem place_cl {B : Nat} {nm : ByteArray} (w : World) (h : w.cell? ⟨B, 0, none⟩ = some (.string nm)) (name : ByteArray) (kd : Int) (mu wo : Bool) :
    Calls Tryz.prog 80 #[.agg #[.string name, .int .i64 kd, .bool mu, .bool wo], .pointer (some ⟨B, 0, none⟩)] w fun e w' => e = .returned (.bool (name.toList == nm.toList)) ∧ Below w.heap.size w w' := by
  have hlt := World.block_lt_of_cell? w _ h
  have hb : Below w.heap.size w (w.alloc (.cells #[.string name, .int .i64 kd, .bool mu, .bool wo] 43)) := (Below.refl _ w).alloc (Nat.le_refl _) _
  have q0 := (hb.cell (p := ⟨B, 0, none⟩) hlt).trans h
  have HB : Hid _ := hb
  clear hb h
  go_enter Tryz.func80, Tryz.ntmps80
  go_wp2
  go_ret
  exact ⟨rfl, HB.out⟩
/-- the columns' names -/
def isNm (nm : ByteArray) (c : Col) : Bool := c.nm.toList == nm.toList
theorem isNm_iff {nm : ByteArray} {c : Col} : isNm nm c = true ↔ c.nm = nm := ⟨fun h => bytes_of_beq h, fun h => by unfold isNm; rw [h]; simp⟩
set_option maxRecDepth 100000 in
theorem placeC_any {B : Nat} {v : Value} {cs : List Col} (nm : ByteArray) (w : World) (h : CRow B v cs w) :
    Calls Tryz.prog 48 #[v, .string nm] w fun e w' => IdxR (isNm nm) cs e ∧ Below w.heap.size w w' := by
  have hb : Below w.heap.size w (w.alloc (.cells #[.string nm] 9)) := (Below.refl _ w).alloc (Nat.le_refl _) _
  have q0 := (Own1.new w (.string nm) 9).cell
  have HI : Hid (Calls Tryz.prog 79 #[v, .func (.func 80) #[] #[.pointer (some ⟨w.heap.size, 0, none⟩)]] (w.alloc (.cells #[.string nm] 9)) fun e w' => IdxR (isNm nm) cs e ∧ Below (w.alloc (.cells #[.string nm] 9)).heap.size (w.alloc (.cells #[.string nm] 9)) w') :=
    indexC_any _ (h.below hb) q0 (enters_of Tryz.func80 (by kernel_rfl) rfl) (fun x _ wx hx => place_cl wx hx x.nm _ _ _)
  have HB : Hid _ := hb
  have hmf : ∀ (fn : Fn) (first cap : Array Value) (w : World), (Instr.makeFunc fn first cap).run Tryz.prog w = .ok (.func fn first cap) w := fun _ _ _ _ => rfl
  clear hb h q0
  go_enter Tryz.func48, Tryz.ntmps48
  go_wp2_with fail
  refine (show Calls _ _ _ _ _ from HI.out).mono ?_
  rintro _ w2 ⟨hI, hb2⟩
  have HB2 : Hid (Below w.heap.size w w2) := HB.out.trans (hb2.mono HB.out.size)
  have HR : Hid (IdxR (isNm nm) cs _) := hI
  obtain ⟨u, hu⟩ : ∃ u, _ = Ending.returned u := by
    rcases hI with ⟨i, _, _, _, e⟩ | ⟨_, e⟩
    · exact ⟨_, e⟩
    · exact ⟨_, e⟩
  subst hu
  clear hb2 hI HI
  go_wp2
  go_ret
  exact ⟨HR.out, HB2.out⟩
/-- a column that is right behind these -/
structure ColR (c : Col) (ah : List Col) : Prop where
  nm : nameB c.nm = true
  kd : c.kd = 1 ∨ c.kd = 2
  wo : c.wo = true → c.kd = 2
  new : ∀ x ∈ ah, x.nm ≠ c.nm
set_option maxRecDepth 100000 in
theorem wrong_ok {B : Nat} {v : Value} {ah : List Col} {c : Col} (w : World) (h : CRow B v ah w) (hc : ColR c ah) :
    Calls Tryz.prog 34 #[.agg #[.string c.nm, .int .i64 (c.kd : Nat), .bool c.mu, .bool c.wo], v] w fun e w' => e = .returned (.int .i64 0) ∧ Below w.heap.size w w' := by
  obtain ⟨nm, kd, mu, wo, ix⟩ := c
  obtain ⟨h1, h2, h3, h4⟩ := hc
  simp only at h1 h2 h3 h4 ⊢
  have hb : Below w.heap.size w (w.alloc (.cells #[.string nm, .int .i64 (kd : Nat), .bool mu, .bool wo] 43)) := (Below.refl _ w).alloc (Nat.le_refl _) _
  have HR : Hid (CRow B v ah (w.alloc (.cells #[.string nm, .int .i64 (kd : Nat), .bool mu, .bool wo] 43))) := h.below hb
  have HB : Hid _ := hb
  have H1 : Hid _ := h1
  have H4 : Hid _ := h4
  clear hb h h1 h4
  rcases h2 with rfl | rfl
  · obtain rfl : wo = false := by
      cases wo
      · rfl
      · exact absurd (h3 rfl) (by decide)
    clear h3
    go_enter Tryz.func34, Tryz.ntmps34
    go_wp2_with fail
    refine (isName_any nm _).mono ?_
    rintro _ w2 ⟨rfl, h2⟩
    obtain rfl := h2.symm
    rw [H1.out]
    clear h2
    go_wp2_with fail
    refine (placeC_any nm _ HR.out).mono ?_
    rintro _ w3 ⟨hI, hb3⟩
    have HB3 : Hid (Below w.heap.size w w3) := HB.out.trans (hb3.mono HB.out.size)
    rcases hI with ⟨i, hi, hp, _, _⟩ | ⟨_, rfl⟩
    · exact absurd (isNm_iff.1 hp) (H4.out _ (List.getElem_mem hi))
    clear hb3
    go_wp2
    go_ret
    exact ⟨rfl, HB3.out⟩
  · clear h3
    cases wo
    · go_enter Tryz.func34, Tryz.ntmps34
      go_wp2_with fail
      refine (isName_any nm _).mono ?_
      rintro _ w2 ⟨rfl, h2⟩
      obtain rfl := h2.symm
      rw [H1.out]
      clear h2
      go_wp2_with fail
      refine (placeC_any nm _ HR.out).mono ?_
      rintro _ w3 ⟨hI, hb3⟩
      have HB3 : Hid (Below w.heap.size w w3) := HB.out.trans (hb3.mono HB.out.size)
      rcases hI with ⟨i, hi, hp, _, _⟩ | ⟨_, rfl⟩
      · exact absurd (isNm_iff.1 hp) (H4.out _ (List.getElem_mem hi))
      clear hb3
      go_wp2
      go_ret
      exact ⟨rfl, HB3.out⟩
    · go_enter Tryz.func34, Tryz.ntmps34
      go_wp2_with fail
      refine (isName_any nm _).mono ?_
      rintro _ w2 ⟨rfl, h2⟩
      obtain rfl := h2.symm
      rw [H1.out]
      clear h2
      go_wp2_with fail
      refine (placeC_any nm _ HR.out).mono ?_
      rintro _ w3 ⟨hI, hb3⟩
      have HB3 : Hid (Below w.heap.size w w3) := HB.out.trans (hb3.mono HB.out.size)
      rcases hI with ⟨i, hi, hp, _, _⟩ | ⟨_, rfl⟩
      · exact absurd (isNm_iff.1 hp) (H4.out _ (List.getElem_mem hi))
      clear hb3
      go_wp2
      go_ret
      exact ⟨rfl, HB3.out⟩
theorem run_head44 (g n cap i : Nat) (hi : i < n) (hn : n ≤ cap) (wx : World) : (Instr.slice 44 (.slice (some ⟨g, 0, none⟩) n cap) none (some (.int .i64 (i : Nat))) none).run Tryz.prog wx = .ok (.slice (some ⟨g, 0, none⟩) i cap) wx := by
  simp [Instr.slice, Instr.sliceBounds, Instr.sliceBound, asIntOf, run_underlying Tryz.underlying44, go_sem, Tryz.sizeOf43]
  intro h
  omega
set_option maxRecDepth 100000 in
set_option maxHeartbeats 1000000 in
theorem check_any {B : Nat} {v : Value} {cs : List Col} {nm : ByteArray} {ai : Option Addr} {li ci : Nat} (w : World) (h : CRow B v cs w) (hl : 1 ≤ cs.length) (h6 : cs.length ≤ 6) (hc : ∀ i (hi : i < cs.length), ColR cs[i] (cs.take i)) :
    Calls Tryz.prog 16 #[.agg #[.string nm, v, .slice ai li ci]] w fun e w' => e = .returned (if nameB nm = true then .nilIface else .iface 60 (.int .i64 4)) ∧ Below w.heap.size w w' := by
  obtain ⟨g, cap, hv, hg1, hg2⟩ := World.ownsRow.form h (by omega)
  subst hv
  obtain ⟨n, hn⟩ : ∃ n, cs.length = n := ⟨_, rfl⟩
  have hcap : cs.length ≤ cap ∧ cap ≤ maxLen := by
    rcases h.2 with ⟨e, _⟩ | ⟨g', cap', cur, e, _, _, h4, h5, _⟩
    · cases e
    · cases e; exact ⟨h4, h5⟩
  obtain ⟨W0, hW0⟩ : ∃ W0, w.alloc (.cells #[.string nm, .slice (some ⟨g, 0, none⟩) cs.length cap, .slice ai li ci] 46) = W0 := ⟨_, rfl⟩
  have hbW : Below w.heap.size w W0 := by rw [← hW0]; exact (Below.refl _ w).alloc (Nat.le_refl _) _
  have HWS : Hid (W0.heap.size = w.heap.size + 1) := by rw [← hW0]; exact World.size_alloc _ _
  have HV : Hid (VarN w.heap.size [.string nm, .slice (some ⟨g, 0, none⟩) cs.length cap, .slice ai li ci] W0) := by rw [← hW0]; exact VarN.new w #[.string nm, .slice (some ⟨g, 0, none⟩) cs.length cap, .slice ai li ci] 46 (by simp)
  have HR : Hid (CRow B (.slice (some ⟨g, 0, none⟩) cs.length cap) cs W0) := h.below hbW
  have HB : Hid _ := hbW
  have HC : Hid _ := hc
  have HN : Hid _ := hn
  have HCAP : Hid _ := hcap
  clear h hc hbW hcap
  rw [hn] at HV HR hW0
  rw [hn] at hl h6
  rw [hn]
  obtain ⟨q0, q1, q2⟩ := HV.out.c3
  go_enter Tryz.func16, Tryz.ntmps16
  go_wp2_with fail
  refine (isName_any nm _).mono ?_
  rintro _ w1 ⟨rfl, h1⟩
  obtain rfl := h1.symm
  clear h1 hn
  cases hnm : nameB nm
  · go_wp2 <;> (go_ret; exact ⟨rfl, HB.out⟩)
  · have i1 : ¬ (n : Int) < 1 := by omega
    have i2 : ¬ (6 : Int) < (n : Int) := by omega
    go_wp2_with fail
    go_loopw [26] (fun i wr => ∃ k : Nat, k ≤ n ∧ i = .int .i64 (k : Nat) ∧ Hid (VarN w.heap.size [.string nm, .slice (some ⟨g, 0, none⟩) n cap, .slice ai li ci] wr) ∧ Hid (CRow B (.slice (some ⟨g, 0, none⟩) n cap) cs wr) ∧ Hid (Below w.heap.size w wr)) (fun i _ => n + 1 - (intOf i).toNat)
    case atStart => exact ⟨0, Nat.zero_le _, rfl, HV, HR, HB⟩
    case round =>
      clear HV HR HB q0 q1 q2
      obtain ⟨k, hk, rfl, HV, HR, HB⟩ := hrel
      by_cases hlt : k < n
      · have h1 : (k : Int) < (n : Int) := by omega
        have hkl : k < cs.length := by rw [HN.out]; exact hlt
        obtain ⟨g', cap', ev, _, _, k0, k1, k2, k3, hix0⟩ := HR.out.at hkl
        rw [HN.out] at ev
        cases ev
        have hix := hix0 n hlt
        have hsl := run_head44 g n cap k hlt (by have := HCAP.out.1; have := HN.out; omega)
        obtain ⟨g2, cap2, ev2, hct⟩ := HR.out.take hkl
        rw [HN.out] at ev2
        cases ev2
        have HCT : Hid (CRow B (.slice (some ⟨g, 0, none⟩) k cap) (cs.take k) wr) := hct
        have HCC : Hid (ColR cs[k] (cs.take k)) := HC.out k hkl
        obtain ⟨c, hcx⟩ : ∃ c, cs[k] = c := ⟨_, rfl⟩
        rw [hcx] at k0 k1 k2 k3 HCC
        obtain ⟨q0, q1, q2⟩ := HV.out.c3
        have C0 : Hid ((wr.alloc (.cells #[.string c.nm, .int .i64 (c.kd : Nat), .bool c.mu, .bool c.wo] 43)).drew.cell? ⟨wr.heap.size, 0, none⟩ = some (.string c.nm) ∧ (wr.alloc (.cells #[.string c.nm, .int .i64 (c.kd : Nat), .bool c.mu, .bool c.wo] 43)).drew.cell? ⟨wr.heap.size, 1, none⟩ = some (.int .i64 (c.kd : Nat)) ∧ (wr.alloc (.cells #[.string c.nm, .int .i64 (c.kd : Nat), .bool c.mu, .bool c.wo] 43)).drew.cell? ⟨wr.heap.size, 2, none⟩ = some (.bool c.mu) ∧ (wr.alloc (.cells #[.string c.nm, .int .i64 (c.kd : Nat), .bool c.mu, .bool c.wo] 43)).drew.cell? ⟨wr.heap.size, 3, none⟩ = some (.bool c.wo) ∧ (wr.alloc (.cells #[.string c.nm, .int .i64 (c.kd : Nat), .bool c.mu, .bool c.wo] 43)).drew.cell? ⟨w.heap.size, 1, none⟩ = some (.slice (some ⟨g, 0, none⟩) n cap)) := by
          have v4 := (VarN.new wr #[.string c.nm, .int .i64 (c.kd : Nat), .bool c.mu, .bool c.wo] 43 (by simp)).drew.c4
          exact ⟨v4.1, v4.2.1, v4.2.2.1, v4.2.2.2, (HV.out.below ((Below.refl _ wr).alloc (Nat.le_refl _) (.cells #[.string c.nm, .int .i64 (c.kd : Nat), .bool c.mu, .bool c.wo] 43))).drew.c3.2.1⟩
        have HBA : Hid (Below wr.heap.size wr (wr.alloc (.cells #[.string c.nm, .int .i64 (c.kd : Nat), .bool c.mu, .bool c.wo] 43)).drew) := ((Below.refl _ wr).alloc (Nat.le_refl _) _).drew
        clear hix0 hct hcx
        go_wp2_with fail
        go_region_held3 (fun wx => wx.cell? ⟨wr.heap.size, 0, none⟩ = some (.string c.nm) ∧ wx.cell? ⟨wr.heap.size, 1, none⟩ = some (.int .i64 (c.kd : Nat)) ∧ wx.cell? ⟨wr.heap.size, 2, none⟩ = some (.bool c.mu) ∧ wx.cell? ⟨wr.heap.size, 3, none⟩ = some (.bool c.wo) ∧ wx.cell? ⟨w.heap.size, 1, none⟩ = some (.slice (some ⟨g, 0, none⟩) n cap)) (first | exact C0.out | exact C1.out) (first | (go_at_call 34; refine (wrong_ok _ (HCT.out.below HBA.out) HCC.out).mono ?_; rintro _ w2 ⟨rfl, hb2⟩; have HB2 : Hid (Below wr.heap.size wr w2) := HBA.out.trans (hb2.mono HBA.out.size); have C1 : Hid (w2.cell? ⟨wr.heap.size, 0, none⟩ = some (.string c.nm) ∧ w2.cell? ⟨wr.heap.size, 1, none⟩ = some (.int .i64 (c.kd : Nat)) ∧ w2.cell? ⟨wr.heap.size, 2, none⟩ = some (.bool c.mu) ∧ w2.cell? ⟨wr.heap.size, 3, none⟩ = some (.bool c.wo) ∧ w2.cell? ⟨w.heap.size, 1, none⟩ = some (.slice (some ⟨g, 0, none⟩) n cap)) := ⟨keepc hb2 C0.out.1, keepc hb2 C0.out.2.1, keepc hb2 C0.out.2.2.1, keepc hb2 C0.out.2.2.2.1, keepc hb2 C0.out.2.2.2.2⟩; clear hb2))
        go_wp2_with fail
        go_roundw
        case rel => exact ⟨k + 1, by omega, by go_num, HV.out.below HB2.out, HR.out.below HB2.out, HB.out.trans (HB2.out.mono HB.out.size)⟩
        case measure => simp [intOf]; omega
      · have h1 : ¬ (k : Int) < (n : Int) := by omega
        obtain rfl : n = k := by omega
        go_wp2
        go_ret
        exact ⟨rfl, HB.out⟩
end Go.Proofs.YteijjaddlkedbaaGreat
namespace Go.Proofs.YteijjaddlkedbaaGreat
open Go.RowKit Go.Maps

/-- columns that are right -/
structure ColsR (cs : List Col) : Prop where
  one : 1 ≤ cs.length
  six : cs.length ≤ 6
  col : ∀ i (hi : i < cs.length), ColR cs[i] (cs.take i)
  ix : ∀ c ∈ cs, c.ix = false
theorem ColsR.ok {cs : List Col} (h : ColsR cs) : ∀ c ∈ cs, c.Ok := fun c hc => by
  obtain ⟨i, hi, rfl⟩ := List.getElem_of_mem hc
  exact ⟨(h.col i hi).nm, (h.col i hi).kd⟩
/-- it may be made -/
def May (L : List Tb) (nm : ByteArray) : Prop := nameB nm = true ∧ (∀ t ∈ L, t.nm ≠ nm) ∧ L.length < 20
/-- what Create tells -/
def CreTo (bc bt bp bd bm N : Nat) (L : List Tb) (nm : ByteArray) (cs : List Col) (w : World) (e : Ending) (w' : World) : Prop :=
  (May L nm ∧ e = .returned .nilIface ∧ ∃ id, 1 ≤ id ∧ id ≤ 20 ∧ (∀ t ∈ L, t.id ≠ id) ∧ id ≤ L.length + 1 ∧ CatS bc bt bp bd bm (N + 280) (insT ⟨id, nm, cs⟩ L) w' ∧ Only (fun b => b = bp ∨ b = bm) w w') ∨
  (¬ May L nm ∧ ∃ ty x, e = .returned (.iface ty x) ∧ Below w.heap.size w w')
section
variable {bc bt bp bd bm N Z : Nat} {L : List Tb} {w : World}
theorem catOf {L : List Tb} (h : ∀ t ∈ L, t.Ok) (hs : L.Pairwise (fun a b => bl a.nm b.nm = true)) : Cat L (L.flatMap Tb.prs) := ⟨h, hs, fun _ => Iff.rfl⟩
theorem PrS.cat (hok : ∀ t ∈ L, t.Ok) (hs : L.Pairwise (fun a b => bl a.nm b.nm = true)) {t : Tb} (ht : t.Ok) (hn : ∀ s ∈ L, s.nm ≠ t.nm) (h : PrS bc bt bp bd bm N Z (putM (· ∈ L.flatMap Tb.prs) t.prs) w) : CatS bc bt bp bd bm N (insT t L) w := by
  obtain ⟨N1, up, V, T, h1, h2, h3, h4⟩ := h
  exact ⟨N1, up, V, T, h1, h2, (catOf hok hs).put ht hn h4⟩
set_option maxRecDepth 100000 in
set_option maxHeartbeats 1000000 in
theorem createT_any (h : CatS bc bt bp bd bm N L w) {m : Int} (hm : w.cell? ⟨0, 0, none⟩ = some (.int .i64 m)) (hLl : L.length ≤ 20) (nm : ByteArray) {B : Nat} {vc : Value} {cs : List Col} (hc : CRow B vc cs w) (hcr : ColsR cs) (hN : N + 5000 < 1000000) :
    Calls Tryz.prog 9 #[.pointer (some ⟨bc, 0, none⟩), .agg #[.string nm, vc, .slice none 0 0]] w fun e w' => CreTo bc bt bp bd bm N L nm cs w e w' := by
  obtain ⟨ac, cc, hvc⟩ := row_slice hc
  subst hvc
  obtain ⟨nc, hnc⟩ : ∃ nc, cs.length = nc := ⟨_, rfl⟩
  rw [hnc] at hc
  rw [hnc]
  obtain ⟨W1, hW1⟩ : ∃ W1, w.alloc (.cells #[.string nm, .slice ac nc cc, .slice none 0 0] 46) = W1 := ⟨_, rfl⟩
  have hb1 : Below w.heap.size w W1 := by rw [← hW1]; exact (Below.refl _ w).alloc (Nat.le_refl _) _
  have HV1 : Hid (VarN w.heap.size [.string nm, .slice ac nc cc, .slice none 0 0] W1) := by rw [← hW1]; exact VarN.new w #[.string nm, .slice ac nc cc, .slice none 0 0] 46 (by simp)
  have HC1 : Hid (CatS bc bt bp bd bm N L W1) := h.below hb1
  have HR1 : Hid (CRow B (.slice ac nc cc) cs W1) := CRow.below hc hb1
  have HM1 : Hid (W1.cell? ⟨0, 0, none⟩ = some (.int .i64 m)) := keepc hb1 hm
  have HB1 : Hid (Below w.heap.size w W1) := hb1
  have HCR : Hid (ColsR cs) := hcr
  have hltw := h.lt
  have hmf : ∀ (fn : Fn) (first cap : Array Value) (w : World), (Instr.makeFunc fn first cap).run Tryz.prog w = .ok (.func fn first cap) w := fun _ _ _ _ => rfl
  obtain ⟨q0, q1, q2⟩ := HV1.out.c3
  have HCK : Hid (Calls Tryz.prog 16 #[.agg #[.string nm, .slice ac nc cc, .slice none 0 0]] W1 fun e w' => e = .returned (if nameB nm = true then .nilIface else .iface 60 (.int .i64 4)) ∧ Below W1.heap.size W1 w') := check_any W1 HR1.out hcr.one hcr.six hcr.col
  clear h hc hm hb1 hcr hnc
  go_enter Tryz.func9, Tryz.ntmps9
  go_wp2_with fail
  refine (show Calls _ _ _ _ _ from HCK.out).mono ?_
  rintro _ w2 ⟨rfl, hb2⟩
  have HV2 : Hid (VarN w.heap.size [.string nm, .slice ac nc cc, .slice none 0 0] w2) := HV1.out.below hb2
  have HC2 : Hid (CatS bc bt bp bd bm N L w2) := HC1.out.below hb2
  have HR2 : Hid (CRow B (.slice ac nc cc) cs w2) := CRow.below HR1.out hb2
  have HM2 : Hid (w2.cell? ⟨0, 0, none⟩ = some (.int .i64 m)) := keepc hb2 HM1.out
  have HB2 : Hid (Below w.heap.size w w2) := HB1.out.trans (hb2.mono HB1.out.size)
  clear hb2 HV1 HC1 HR1 HM1 HB1 q0 q1 q2 HCK
  cases hnm : nameB nm
  · have HNM : Hid _ := hnm
    rw [if_neg (by decide)]
    clear hnm
    go_wp2
    go_ret
    exact .inr ⟨fun e => (by have := e.1; rw [HNM.out] at this; cases this), _, _, rfl, HB2.out⟩
  · have HNM : Hid _ := hnm
    rw [if_pos rfl]
    clear hnm
    have HLK : Hid _ := lookAll_any HC2.out HM2.out (by omega)
    go_wp2_with fail
    refine (show Calls _ _ _ _ _ from HLK.out).mono ?_
    rintro _ w3 ⟨v, E, rfl, hE, hMap, _, hb3⟩
    have HV3 : Hid (VarN w.heap.size [.string nm, .slice ac nc cc, .slice none 0 0] w3) := HV2.out.below hb3
    have HC3 : Hid (CatS bc bt bp bd bm N L w3) := HC2.out.below hb3
    have HR3 : Hid (CRow B (.slice ac nc cc) cs w3) := CRow.below HR2.out hb3
    have HB3 : Hid (Below w.heap.size w w3) := HB2.out.trans (hb3.mono HB2.out.size)
    have HE3 : Hid (EntR w2.heap.size v E w3) := hE
    have HMP : Hid (E.map (·.t) = L) := hMap
    have HEL : Hid (E.length = L.length) := by show _ = _; rw [← hMap, List.length_map]
    clear hE hMap hb3 HV2 HC2 HR2 HB2 HM2 HLK
    obtain ⟨av, cv, hv⟩ := row_slice HE3.out.row
    rw [HEL.out] at hv
    obtain ⟨n, hn⟩ : ∃ n, L.length = n := ⟨_, rfl⟩
    rw [hn] at hv hLl
    subst hv
    have HN : Hid _ := hn
    have q0 := HV3.out.c3.1
    have HH : Hid (Calls Tryz.prog 18 #[.slice av n cv, .func (.func 19) #[] #[.pointer (some ⟨w.heap.size, 0, none⟩)]] w3 fun e w' => e = .returned (.bool (E.any (fun x => x.t.nm.toList == nm.toList))) ∧ Below w3.heap.size w3 w') :=
      hasE_any (p := fun x => x.t.nm.toList == nm.toList) w3 HE3.out q0 (enters_of Tryz.func19 (by kernel_rfl) rfl) (fun x _ a1 l1 c1 a2 l2 c2 wx hx => create_cl wx hx _ _ _ _ _ a1 a2 l1 c1 l2 c2 rfl rfl)
    clear hn q0
    go_wp2_with fail
    refine (show Calls _ _ _ _ _ from HH.out).mono ?_
    rintro _ w4 ⟨rfl, hb4⟩
    have HV4 : Hid (VarN w.heap.size [.string nm, .slice ac nc cc, .slice none 0 0] w4) := HV3.out.below hb4
    have HC4 : Hid (CatS bc bt bp bd bm N L w4) := HC3.out.below hb4
    have HR4 : Hid (CRow B (.slice ac nc cc) cs w4) := CRow.below HR3.out hb4
    have HB4 : Hid (Below w.heap.size w w4) := HB3.out.trans (hb4.mono HB3.out.size)
    have HE4 : Hid (EntR w2.heap.size (.slice av n cv) E w4) := HE3.out.below hb4
    clear hb4 HV3 HC3 HR3 HB3 HE3 HH
    cases hany : E.any (fun x => x.t.nm.toList == nm.toList)
    · have HNO : Hid (∀ t ∈ L, t.nm ≠ nm) := fun t ht e => by
        rw [← HMP.out] at ht
        obtain ⟨x, hx, rfl⟩ := List.mem_map.1 ht
        have := List.any_eq_false.1 hany x hx
        exact this (by rw [e]; simp)
      clear hany
      by_cases h20 : 20 ≤ n
      · have i1 : (20 : Int) ≤ (n : Int) := by omega
        go_wp2
        go_ret
        exact .inr ⟨fun e => by have := e.2.2; have := HN.out; omega, _, _, rfl, HB4.out⟩
      · have i1 : ¬ (20 : Int) ≤ (n : Int) := by omega
        have C0 : Hid (w4.drew.cell? ⟨w.heap.size, 0, none⟩ = some (.string nm) ∧ w4.drew.cell? ⟨w.heap.size, 1, none⟩ = some (.slice ac nc cc) ∧ w4.drew.cell? ⟨w.heap.size, 2, none⟩ = some (.slice none 0 0)) := HV4.out.drew.c3
        have HBD : Hid (Below w4.heap.size w4 w4.drew) := (Below.refl _ _).drew
        go_wp2_with fail
        go_region_held3 (fun wx => wx.cell? ⟨w.heap.size, 0, none⟩ = some (.string nm) ∧ wx.cell? ⟨w.heap.size, 1, none⟩ = some (.slice ac nc cc) ∧ wx.cell? ⟨w.heap.size, 2, none⟩ = some (.slice none 0 0)) (first | exact C0.out | exact C1.out | exact C2.out | exact C3.out) (first
          | (go_at_call 22; refine (free_any _ (HE4.out.below HBD.out) (by have := HEL.out; have := HN.out; omega)).mono ?_; rintro _ w5 ⟨⟨id, rfl, hid1, hid2, hid3⟩, hb5⟩; have HID3 : Hid (∀ t ∈ L, t.id ≠ id) := (fun t ht => by rw [← HMP.out] at ht; obtain ⟨x, hx, rfl⟩ := List.mem_map.1 ht; exact hid3 x hx); have HID2 : Hid (id ≤ L.length + 1) := (by rw [← HEL.out]; exact hid2); have hidn : id ≤ n + 1 := (by have := HID2.out; have := HN.out; omega); have HB5 : Hid (Below w4.heap.size w4 w5) := HBD.out.trans (hb5.mono HBD.out.size); have C1 : Hid (w5.cell? ⟨w.heap.size, 0, none⟩ = some (.string nm) ∧ w5.cell? ⟨w.heap.size, 1, none⟩ = some (.slice ac nc cc) ∧ w5.cell? ⟨w.heap.size, 2, none⟩ = some (.slice none 0 0)) := ⟨keepc hb5 C0.out.1, keepc hb5 C0.out.2.1, keepc hb5 C0.out.2.2⟩; clear hb5 hid2 hid3)
          | (go_at_call 21; refine (pairsT_any (t := ⟨id, nm, cs⟩) (Bi := 0) (is_ := []) w5 (CRow.below HR4.out HB5.out) (World.ownsRow_nil _ _ _ _) (by show id < 256; omega) (by show nm.size ≤ 1000; have := name_size HNM.out; omega) (by have := HCR.out.six; show cs.length ≤ 100; omega) (fun c hc => ⟨by rcases (HCR.out.ok c hc).kd with e | e <;> omega, by have := name_size (HCR.out.ok c hc).nm; omega, by rw [HCR.out.ix c hc]; rfl⟩)).mono ?_; rintro _ w6 ⟨v6, rfl, hr6, hb6⟩; have HR6 : Hid (PRow w5.heap.size v6 (Tb.prs ⟨id, nm, cs⟩) w6) := hr6; have HB6 : Hid (Below w4.heap.size w4 w6) := HB5.out.trans (hb6.mono HB5.out.size); have C2 : Hid (w6.cell? ⟨w.heap.size, 0, none⟩ = some (.string nm) ∧ w6.cell? ⟨w.heap.size, 1, none⟩ = some (.slice ac nc cc) ∧ w6.cell? ⟨w.heap.size, 2, none⟩ = some (.slice none 0 0)) := ⟨keepc hb6 C1.out.1, keepc hb6 C1.out.2.1, keepc hb6 C1.out.2.2⟩; clear hr6 hb6)
          | (go_at_call 20; have HOK : Hid (Tb.Ok ⟨id, nm, cs⟩) := ⟨HNM.out, ⟨hid1, by show id ≤ 20; omega⟩, HCR.out.six, HCR.out.ok⟩; refine (putL_any (HC4.out.below HB6.out).prs HR6.out (by have := HB4.out.size; have := HB5.out.size; omega) (fun x hx => prs_ok HOK.out hx) (keys_ne (prs_sorted HOK.out)) (by have := prs_sz HOK.out; have := HN.out; omega) (by rw [prs_len]; have := HCR.out.six; show cs.length + 1 ≤ 100; omega) (by omega)).mono ?_; rintro _ w7 ⟨rfl, hp7, ho7⟩; have HP7 : Hid _ := hp7; have HO7 : Hid (Only (fun b => b = bp ∨ b = bm) w6 w7) := ho7; have C3 : Hid (w7.cell? ⟨w.heap.size, 0, none⟩ = some (.string nm) ∧ w7.cell? ⟨w.heap.size, 1, none⟩ = some (.slice ac nc cc) ∧ w7.cell? ⟨w.heap.size, 2, none⟩ = some (.slice none 0 0)) := ⟨(ho7.cell (World.block_lt_of_cell? _ _ C2.out.1) (fun e => by rcases e with e | e; (have e' : w.heap.size = bp := e; omega); (have e' : w.heap.size = bm := e; omega)) 0).trans C2.out.1, (ho7.cell (World.block_lt_of_cell? _ _ C2.out.1) (fun e => by rcases e with e | e; (have e' : w.heap.size = bp := e; omega); (have e' : w.heap.size = bm := e; omega)) 1).trans C2.out.2.1, (ho7.cell (World.block_lt_of_cell? _ _ C2.out.1) (fun e => by rcases e with e | e; (have e' : w.heap.size = bp := e; omega); (have e' : w.heap.size = bm := e; omega)) 2).trans C2.out.2.2⟩; clear hp7 ho7))
        go_wp2
        go_ret
        refine .inl ⟨⟨HNM.out, HNO.out, by have := HN.out; omega⟩, rfl, id, hid1, by omega, HID3.out, HID2.out, ?_, (below_only (HB4.out.trans (HB6.out.mono HB4.out.size)) _).trans HO7.out (fun _ e => .inl e)⟩
        refine CatS.mono (PrS.cat HC4.out.ok HC4.out.srt HOK.out HNO.out HP7.out) ?_
        rw [prs_len]
        have := HCR.out.six
        show N + 40 * (cs.length + 1) ≤ _
        omega
    · have HYES : Hid (¬ May L nm) := fun e => by
        obtain ⟨x, hx, hn⟩ := List.any_eq_true.1 hany
        exact e.2.1 x.t (by rw [← HMP.out]; exact List.mem_map.2 ⟨x, hx, rfl⟩) (bytes_of_beq hn)
      clear hany
      go_wp2
      go_ret
      exact .inr ⟨HYES.out, _, _, rfl, HB4.out⟩
end
end Go.Proofs.YteijjaddlkedbaaGreat
namespace Go.Proofs.YteijjaddlkedbaaGreat
open Go.RowKit Go.Maps

section
variable {bc bt bp bd bm N Z : Nat} {L : List Tb} {w : World}
set_option maxRecDepth 100000 in
theorem namesT_nil (h : CatS bc bt bp bd bm N [] w) {m : Int} (hm : w.cell? ⟨0, 0, none⟩ = some (.int .i64 m)) :
    Calls Tryz.prog 12 #[.pointer (some ⟨bc, 0, none⟩)] w fun e w' => e = .returned (.tuple #[.slice none 0 0, .nilIface]) ∧ Below w.heap.size w w' := by
  have HLK : Hid _ := lookAll_any h hm (by simp)
  clear h hm
  go_enter Tryz.func12, Tryz.ntmps12
  go_wp2_with fail
  refine (show Calls _ _ _ _ _ from HLK.out).mono ?_
  rintro _ w2 ⟨v, E, rfl, hE, hMap, _, hb2⟩
  obtain rfl := List.map_eq_nil_iff.1 hMap
  obtain ⟨a, c, hv⟩ := row_slice hE.row
  subst hv
  have HB : Hid _ := hb2
  simp only [List.length_nil]
  clear hE hMap hb2 HLK
  go_wp2_with fail
  go_loopw [6, 19] (fun l i wr => l = .slice none 0 0 ∧ i = .int .i64 0 ∧ wr = w2) (fun _ _ _ => 0)
  case atStart => exact ⟨rfl, rfl, rfl⟩
  case round =>
    obtain ⟨rfl, rfl, hw⟩ := hrel
    subst hw
    go_wp2
    go_ret2
    exact ⟨rfl, HB.out⟩
end
set_option maxRecDepth 100000 in
theorem pickR_any (a : Int) (n : Nat) (h0 : 0 < n) (hn : n < 1000000) (w : World) :
    Calls Tryz.prog 5 #[.int .i64 a, .int .i64 (n : Nat)] w fun e w' => (∃ r : Nat, r < n ∧ e = .returned (.int .i64 (r : Nat))) ∧ w' = w := by
  have hu : IntKind.u64.wrap (n : Int) = (n : Int) := by
    have : IntKind.u64.wrap (n : Int) = (n : Int) % 18446744073709551616 := rfl
    rw [this]; omega
  obtain ⟨A, hA⟩ : ∃ A : Int, IntKind.u64.wrap a = A := ⟨_, rfl⟩
  have hA0 : 0 ≤ A := by
    have : IntKind.u64.wrap a = a % 18446744073709551616 := rfl
    rw [← hA, this]; omega
  have hne : ¬ (n : Int) = 0 := by omega
  have hr0 : 0 ≤ A % (n : Int) := Int.emod_nonneg _ hne
  have hr1 : A % (n : Int) < (n : Int) := Int.emod_lt_of_pos _ (by omega)
  have htm : A.tmod (n : Int) = A % (n : Int) := by rw [Int.tmod_eq_emod_of_nonneg hA0]
  obtain ⟨r, hr⟩ : ∃ r : Nat, A % (n : Int) = (r : Nat) := ⟨(A % (n : Int)).toNat, by omega⟩
  have hw1 : IntKind.u64.wrap (r : Int) = (r : Int) := by
    have : IntKind.u64.wrap (r : Int) = (r : Int) % 18446744073709551616 := rfl
    rw [this]; omega
  have hw2 : IntKind.i64.wrap (r : Int) = (r : Int) := wraps_i64 _ (by omega) (by omega)
  rw [hr] at htm
  have hrn : r < n := by omega
  clear hr0 hr1 hr
  go_enter Tryz.func5, Tryz.ntmps5
  go_wp2
  go_ret
  exact ⟨⟨r, hrn, rfl⟩, rfl⟩
set_option maxRecDepth 100000 in
theorem column_any {B : Nat} {cs : List Col} {vc : Value} {id nx : Int} {nm : ByteArray} {a2 : Option Addr} {l2 c2 : Nat} (name : ByteArray) (w : World) (h : CRow B vc cs w) :
    Calls Tryz.prog 26 #[.agg #[.int .i64 id, .int .i64 nx, .string nm, vc, .slice a2 l2 c2], .string name] w fun e w' => IdxR (isNm name) cs e ∧ Below w.heap.size w w' := by
  obtain ⟨ac, cc, hvc⟩ := row_slice h
  subst hvc
  obtain ⟨n, hn⟩ : ∃ n, cs.length = n := ⟨_, rfl⟩
  rw [hn] at h
  rw [hn]
  obtain ⟨W1, hW1⟩ : ∃ W1, w.alloc (.cells #[.int .i64 id, .int .i64 nx, .string nm, .slice ac n cc, .slice a2 l2 c2] 52) = W1 := ⟨_, rfl⟩
  have hb1 : Below w.heap.size w W1 := by rw [← hW1]; exact (Below.refl _ w).alloc (Nat.le_refl _) _
  have HR1 : Hid (CRow B (.slice ac n cc) cs W1) := CRow.below h hb1
  have HB1 : Hid (Below w.heap.size w W1) := hb1
  have hv1 : VarN w.heap.size [.int .i64 id, .int .i64 nx, .string nm, .slice ac n cc, .slice a2 l2 c2] W1 := by rw [← hW1]; exact VarN.new w #[.int .i64 id, .int .i64 nx, .string nm, .slice ac n cc, .slice a2 l2 c2] 52 (by simp)
  obtain ⟨q0, q1, q2, q3, q4⟩ := hv1.c5
  clear h hb1 hn hv1
  go_enter Tryz.func26, Tryz.ntmps26
  go_wp2_with fail
  refine (placeC_any name _ HR1.out).mono ?_
  rintro _ w2 ⟨hI, hb2⟩
  have HB2 : Hid (Below w.heap.size w w2) := HB1.out.trans (hb2.mono HB1.out.size)
  have HR : Hid (IdxR (isNm name) cs _) := hI
  obtain ⟨u, hu⟩ : ∃ u, _ = Ending.returned u := by
    rcases hI with ⟨i, _, _, _, e⟩ | ⟨_, e⟩
    · exact ⟨_, e⟩
    · exact ⟨_, e⟩
  subst hu
  clear hb2 hI
  go_wp2
  go_ret
  exact ⟨HR.out, HB2.out⟩
section
variable {bc bt bp bd bm N Z : Nat} {w : World}
theorem PrS.idx {id : Nat} {nm : ByteArray} {c : Col} (hok : Tb.Ok ⟨id, nm, [c]⟩) (h : PrS bc bt bp bd bm N Z (putM (· ∈ [Tb.mk id nm [c]].flatMap Tb.prs) [⟨colK nm 0, colI { c with ix := true }⟩]) w) : CatS bc bt bp bd bm N [⟨id, nm, [{ c with ix := true }]⟩] w := by
  obtain ⟨N1, up, V, T, h1, h2, h3, h4⟩ := h
  refine ⟨N1, up, V, T, h1, h2, ⟨fun t ht => ?_, by simp, fun x => ?_⟩⟩
  · obtain rfl := List.mem_singleton.1 ht
    exact ⟨hok.nm, hok.id, by simp, fun c' hc' => by
      obtain rfl := List.mem_singleton.1 hc'
      exact ⟨(hok.col c (by simp)).nm, (hok.col c (by simp)).kd⟩⟩
  · rw [h4 x]
    unfold putM
    have hk : startB nm ≠ colK nm 0 := fun e => by
      have := congrArg ByteArray.size e
      rw [startB_size, colK_size] at this
      omega
    simp only [List.flatMap_singleton, Tb.prs, colsP, List.mem_cons, List.not_mem_nil, or_false]
    constructor
    · rintro (h | ⟨h | h, h2⟩)
      · exact .inr h
      · exact .inl h
      · exact absurd (by rw [h]) (h2 _ rfl)
    · rintro (h | h)
      · refine .inr ⟨.inl h, fun y hy => ?_⟩
        rw [h, hy]
        exact hk
      · exact .inl h
set_option maxRecDepth 100000 in
set_option maxHeartbeats 1000000 in
theorem index_one {id : Nat} {nm : ByteArray} {c : Col} (h : CatS bc bt bp bd bm N [⟨id, nm, [c]⟩] w) {m : Int} (hm : w.cell? ⟨0, 0, none⟩ = some (.int .i64 m)) (hix : c.ix = false) (hN : N + 5000 < 1000000) :
    Calls Tryz.prog 13 #[.pointer (some ⟨bc, 0, none⟩), .string nm, .string c.nm] w fun e w' => e = .returned .nilIface ∧ CatS bc bt bp bd bm (N + 40) [⟨id, nm, [{ c with ix := true }]⟩] w' ∧ Only (fun b => b = bp ∨ b = bm) w w' := by
  have hok := h.ok _ (List.mem_singleton.2 rfl)
  have hns := name_size hok.nm
  have hcok := hok.col c (by simp)
  have hcn := name_size hcok.nm
  simp only at hns
  have hltw := h.lt
  have HG : Hid _ := getT_any h hm (by simp) (List.mem_singleton.2 rfl)
  have HC : Hid (CatS bc bt bp bd bm N [⟨id, nm, [c]⟩] w) := h
  have HOK : Hid _ := hok
  have HCOK : Hid _ := hcok
  obtain ⟨j0, hj, hy0, hy1, hy2⟩ := info9s
  clear h hm hok hcok
  go_enter Tryz.func13, Tryz.ntmps13
  go_wp2_with fail
  refine (show Calls _ _ _ _ _ from HG.out).mono ?_
  rintro _ w1 ⟨vc, vi, rfl, hcr, hir, hap, hb1⟩
  have hir : NRow w.heap.size vi [] w1 := by
    have e : ixs [c] = [] := by unfold ixs; simp [hix]
    rw [e] at hir
    exact hir
  obtain ⟨ac, cc, hvc⟩ := row_slice hcr
  obtain ⟨ai, ci, hvi⟩ := row_slice hir
  subst hvc hvi
  simp only [List.length_cons, List.length_nil, Nat.zero_add] at hcr hap ⊢
  simp only [List.length_nil] at hir
  obtain ⟨W2, hW2⟩ : ∃ W2, w1.alloc (.cells #[.int .i64 (id : Nat), .int .i64 1, .string nm, .slice ac 1 cc, .slice ai 0 ci] 52) = W2 := ⟨_, rfl⟩
  have hb2 : Below w1.heap.size w1 W2 := by rw [← hW2]; exact (Below.refl _ _).alloc (Nat.le_refl _) _
  have HV2 : Hid (VarN w1.heap.size [.int .i64 (id : Nat), .int .i64 1, .string nm, .slice ac 1 cc, .slice ai 0 ci] W2) := by rw [← hW2]; exact VarN.new w1 #[.int .i64 (id : Nat), .int .i64 1, .string nm, .slice ac 1 cc, .slice ai 0 ci] 52 (by simp)
  have HC2 : Hid (CRow w.heap.size (.slice ac 1 cc) [c] W2) := row_below hcr hb2
  have HI2 : Hid (NRow w.heap.size (.slice ai 0 ci) [] W2) := row_below hir hb2
  have HAP : Hid _ := hap
  have HCL : Hid (∀ k, (Value.slice ac 1 cc).ownBlock = some k → k < w1.heap.size) := fun k e => (World.ownsRow.lt hcr k e).2
  have HIL : Hid (∀ k, (Value.slice ai 0 ci).ownBlock = some k → w.heap.size ≤ k ∧ k < w1.heap.size) := fun k e => World.ownsRow.lt hir k e
  have HB2 : Hid (Below w.heap.size w W2) := hb1.trans (hb2.mono hb1.size)
  have HW1 : Hid (w.heap.size ≤ w1.heap.size) := hb1.size
  obtain ⟨q0, q1, q2, q3, q4⟩ := HV2.out.c5
  clear hcr hir hap hb1 hb2 HG
  go_wp2_with fail
  refine (column_any c.nm _ HC2.out).mono ?_
  rintro _ w3 ⟨hI, hb3⟩
  rcases hI with ⟨i, hi, hp, hno, rfl⟩ | ⟨hno, _⟩
  · obtain rfl : i = 0 := by simp at hi; exact hi
    have HV3 : Hid (VarN w1.heap.size [.int .i64 (id : Nat), .int .i64 1, .string nm, .slice ac 1 cc, .slice ai 0 ci] w3) := HV2.out.below hb3
    have HC3 : Hid (CRow w.heap.size (.slice ac 1 cc) [c] w3) := row_below HC2.out hb3
    have HI3 : Hid (NRow w.heap.size (.slice ai 0 ci) [] w3) := row_below HI2.out hb3
    have HB3 : Hid (Below w.heap.size w w3) := HB2.out.trans (hb3.mono HB2.out.size)
    clear hb3 hi hp hno HV2 HC2 HI2 HB2 hW2 q0 q1 q2 q3 q4
    obtain ⟨q0, q1, q2, q3, q4⟩ := HV3.out.c5
    have f4 := HV3.out.free 4
    go_wp2_with fail
    refine (has_any c.nm _ HI3.out).mono ?_
    rintro _ w9 ⟨rfl, h9⟩
    obtain rfl := h9.symm
    have hcf : Lib.containsS [] c.nm = false := rfl
    rw [hcf]
    clear h9 hcf
    have hbA : Below w3.heap.size w3 (w3.alloc (.cells #[.string c.nm] 9)) := (Below.refl _ _).alloc (Nat.le_refl _) _
    have HVA : Hid (VarN w1.heap.size [.int .i64 (id : Nat), .int .i64 1, .string nm, .slice ac 1 cc, .slice ai 0 ci] (w3.alloc (.cells #[.string c.nm] 9))) := HV3.out.below hbA
    have HCA : Hid (CRow w.heap.size (.slice ac 1 cc) [c] (w3.alloc (.cells #[.string c.nm] 9))) := row_below HC3.out hbA
    have HIA : Hid (NRow w.heap.size (.slice ai 0 ci) [] (w3.alloc (.cells #[.string c.nm] 9))) := row_below HI3.out hbA
    have HBA : Hid (Below w.heap.size w (w3.alloc (.cells #[.string c.nm] 9))) := HB3.out.trans (hbA.mono HB3.out.size)
    clear hbA
    go_wp2_with (at_builtin; refine wpList_append_lies _ rfl _ _ 22 rfl w.heap.size 9 j0 (.string ⟨#[]⟩) 1 16 Tryz.underlying22 hj hy0 hy1 hy2 rfl (by decide) _ _ _ rfl HIA.out ⟨w3.heap.size, 0, none⟩ 1 1 [.string c.nm] rfl rfl (news_str w3 c.nm 9) (by intro u hu; simp at hu; subst hu; rfl) (by decide) (by decide) (by decide) HBA.out.size _ rfl ?_; intro g5 cap5 w5 hO5 hG5 hat5 hlt5; have HO5 : Hid _ := hO5; have HG5 : Hid _ := hG5; have HAT5 : Hid _ := hat5; have HV5 : Hid (VarN w1.heap.size [.int .i64 (id : Nat), .int .i64 1, .string nm, .slice ac 1 cc, .slice ai 0 ci] w5) := HVA.out.block (hG5.block _ HVA.out.lt (fun e => by have := (HIL.out _ e.symm).2; omega)); have f45 := HV5.out.free 4; have d45 := HV5.out.c5.2.2.2.2; have d25 := HV5.out.c5.2.2.1; have d35 := HV5.out.c5.2.2.2.1; clear hO5 hG5 hat5 q0 q1 q2 q3 q4 f4)
    obtain ⟨W6, hW6⟩ : ∃ W6, w5.setCell ⟨w1.heap.size, 4, none⟩ (.slice (some ⟨g5, 0, none⟩) 1 cap5) = W6 := ⟨_, rfl⟩
    have HB5 : Hid (Below w.heap.size w w5) := HBA.out.grown HG5.out HBA.out.size (fun k e => (HIL.out k e).1)
    have HB6 : Hid (Below w.heap.size w W6) := by show Below _ _ _; rw [← hW6]; exact HB5.out.setCell HW1.out _
    have hg5 : g5 ≠ w1.heap.size := by
      rcases HAT5.out with e | e
      · have := (HIL.out g5 e).2; omega
      · have := HVA.out.lt; omega
    have HC6 : Hid (CRow w.heap.size (.slice ac 1 cc) [{ c with ix := true }] W6) := by
      show World.ownsRow _ _ _ _ _ _ _
      rw [← hW6]
      refine row_set1 (World.ownsRow.kept HCA.out HG5.out ?_) (fun k hk => by have := HCL.out k hk; omega)
      cases e : (Value.slice ac 1 cc).ownBlock with
      | none => exact .inl rfl
      | some k => exact .inr (fun e2 => HAP.out k e e2.symm)
    have HI6 : Hid (NRow w.heap.size (.slice (some ⟨g5, 0, none⟩) 1 cap5) [c.nm] W6) := by
      show World.ownsRow _ _ _ _ _ _ _
      rw [← hW6]
      exact row_set1 HO5.out (fun k hk => by simp only [Value.ownBlock, Option.some.injEq] at hk; omega)
    have HCP : Hid (Calls Tryz.prog 28 #[.agg #[.string nm, .slice ac 1 cc, .slice (some ⟨g5, 0, none⟩) 1 cap5], .int .i64 0] W6 fun e w' => e = .returned (.agg #[.string (colK nm 0), .string (colI { c with ix := true })]) ∧ Below W6.heap.size W6 w') := by
      have hcs : Lib.containsS [c.nm] c.nm = true := (Lib.containsS_iff _ _).2 (by simp)
      exact columnPair_any (i := 0) nm W6 HC6.out HI6.out (by simp) (by omega) (by omega) (by show c.kd < 256; rcases HCOK.out.kd with e | e <;> omega) (by show c.nm.size ≤ 1000; omega) hcs
    rw [hW6]
    clear d45 d25 d35 f45 hW6 HV5 HVA HCA HIA HO5 HG5 HAT5 HV3 HC3 HI3
    refine (show Calls _ _ _ _ _ from HCP.out).mono ?_
    rintro _ w7 ⟨rfl, hb7⟩
    have HB7 : Hid (Below w.heap.size w w7) := HB6.out.trans (hb7.mono HB6.out.size)
    have HB8 : Hid (Below w.heap.size w (w7.alloc (.cells #[.string (colK nm 0), .string (colI { c with ix := true })] 89))) := HB7.out.alloc HB7.out.size _
    have HR8 : Hid (PRow w7.heap.size (.slice (some ⟨w7.heap.size, 0, none⟩) 1 1) [⟨colK nm 0, colI { c with ix := true }⟩] (w7.alloc (.cells #[.string (colK nm 0), .string (colI { c with ix := true })] 89))) :=
      World.ownsRow_lit (base := w7.heap.size) (e := 89) (size := 2) w7 #[.string (colK nm 0), .string (colI { c with ix := true })] 1 (Nat.le_refl _) (by decide) rfl
    have HPP : Hid (Pr.Ok ⟨colK nm 0, colI { c with ix := true }⟩) := ⟨by show 1 ≤ (colK nm 0).size; rw [colK_size]; omega, by show (colK nm 0).size ≤ 60; rw [colK_size]; omega, by show (colI _).size ≤ 100; rw [colI_size]; show c.nm.size + 4 ≤ 100; omega⟩
    have hsz8 : szL [⟨colK nm 0, colI { c with ix := true }⟩] ≤ 100 := by
      show 2 + (colK nm 0).size + (colI _).size + 0 ≤ 100
      rw [colK_size, colI_size]
      show 2 + (nm.size + 2) + (c.nm.size + 4) + 0 ≤ 100
      omega
    have HPU : Hid _ := putL_any (HC.out.below HB8.out).prs HR8.out (by have := HB7.out.size; omega) (fun x hx => by obtain rfl := List.mem_singleton.1 hx; exact HPP.out) (by simp) (by simp only [List.length_singleton]; omega) (by simp) hN
    clear hb7 hsz8
    go_wp2_with fail
    refine (show Calls _ _ _ _ _ from HPU.out).mono ?_
    rintro _ w9 ⟨rfl, hp9, ho9⟩
    have HP9 : Hid _ := hp9
    have HO9 : Hid (Only (fun b => b = bp ∨ b = bm) (w7.alloc (.cells #[.string (colK nm 0), .string (colI { c with ix := true })] 89)) w9) := ho9
    clear hp9 ho9 HPU
    go_wp2
    go_ret
    exact ⟨rfl, PrS.idx HOK.out HP9.out, (below_only HB8.out _).trans HO9.out (fun _ e => .inl e)⟩
  · have := hno c (by simp)
    have h2 : isNm c.nm c = true := isNm_iff.2 rfl
    rw [h2] at this; cases this
end
end Go.Proofs.YteijjaddlkedbaaGreat
namespace Go.Proofs.YteijjaddlkedbaaGreat
open Go.RowKit Go.Maps

theorem catNew {bc bt bp bd bm : Nat} {up : Nat → Bool} {V : Pst} {w : World} (h1 : Own1 bc (.pointer (some ⟨bt, 0, none⟩)) w) (h2 : Tt bt bp 0 w) (h3 : Tw bp bd bm 0 sd0 up 1 V w) (h4 : ∀ k, V.used k = false) (h5 : TrAt V 0 Tr.none) (h6 : bt ≠ bp ∧ bt ≠ bm) (h7 : bc ≠ bp ∧ bc ≠ bm) : CatS bc bt bp bd bm 0 [] w :=
  ⟨0, up, V, Tr.none, Nat.le_refl _, ⟨h1, h2, h3, h5, Sole.none h4, h6, h7⟩, Cat.nil⟩
def sT : ByteArray := ⟨#[116]⟩
def sA : ByteArray := ⟨#[97]⟩
theorem name_T : nameB sT = true := by decide
theorem name_A : nameB sA = true := by decide
def colA : Col := ⟨sA, 1, true, false, false⟩
theorem colsA : ColsR [colA] := ⟨by simp, by simp, fun i hi => by
  obtain rfl : i = 0 := by simp at hi; exact hi
  exact ⟨name_A, .inl rfl, fun e => (by cases e), fun x hx => (by cases hx)⟩, fun c hc => by obtain rfl := List.mem_singleton.1 hc; rfl⟩
set_option maxRecDepth 100000 in
set_option maxHeartbeats 1000000 in
theorem listed_any (w : World) {m : Int} (hm : w.cell? ⟨0, 0, none⟩ = some (.int .i64 m)) : Calls Tryz.prog 4 #[] w fun e w' => e = .returned (.bool true) ∧ Below w.heap.size w w' := by
  have hz := Tryz.zeroValue34
  have HO : Hid _ := open_new w
  have HM : Hid _ := hm
  clear hm
  go_enter Tryz.func4, Tryz.ntmps4
  go_wp2_with fail
  refine (show Calls _ _ _ _ _ from HO.out).mono ?_
  rintro _ w1 ⟨bp, bm, up, V, rfl, h1, h2, h3, hW, hU, hE, hb⟩
  have HW : Hid _ := hW
  have HU : Hid _ := hU
  have HE : Hid (TrAt V 0 Tr.none) := hE 0 (by omega)
  have HB : Hid (Below w.heap.size w w1) := hb
  obtain ⟨bd, hbd⟩ : ∃ bd, w.heap.size = bd := ⟨_, rfl⟩
  rw [hbd] at h1 h2 HW
  have hbd2 : w.heap.size ≤ bd := by omega
  clear hW hU hE hb HO hbd
  go_wp2_with fail
  refine (at_any (r := 0) HW.out (by omega)).mono ?_
  rintro _ w2 ⟨bt, rfl, hT2, hlt2, hb2⟩
  have hwl := HW.out.lt
  have HT2 : Hid (Tt bt bp 0 w2) := hT2
  have HW2 : Hid _ := HW.out.below hb2
  have HB2 : Hid (Below w.heap.size w w2) := HB.out.trans (hb2.mono HB.out.size)
  have hs2 := hT2.lt
  have hs12 := hb2.size
  clear hT2 hb2
  go_wp2_with fail
  refine (over_any bt w2).mono ?_
  rintro _ w3 ⟨rfl, hw3⟩
  have hb3 : Below w2.heap.size w2 w3 := by rw [hw3]; exact (Below.refl _ _).alloc (Nat.le_refl _) _
  have HC3 : Hid (CatS w2.heap.size bt bp bd bm 0 [] w3) := catNew (by rw [hw3]; exact Own1.new w2 _ 75) (HT2.out.below hb3) (HW2.out.below hb3) HU.out HE.out ⟨by omega, by omega⟩ ⟨by omega, by omega⟩
  have HB3 : Hid (Below w.heap.size w w3) := HB2.out.trans (hb3.mono HB2.out.size)
  obtain ⟨bc, hbc⟩ : ∃ bc, w2.heap.size = bc := ⟨_, rfl⟩
  rw [hbc] at HC3
  rw [hbc]
  clear hw3 hb3 hbc hs2 hs12 HT2 HW2 HB2 HB HW HU HE hlt2
  have HB4 : Hid (Below w.heap.size w (w3.alloc (.cells #[.string ⟨#[97]⟩, .int .i64 1, .bool true, .bool false] 43))) := HB3.out.alloc HB3.out.size _
  have hb34 : Below w3.heap.size w3 (w3.alloc (.cells #[.string ⟨#[97]⟩, .int .i64 1, .bool true, .bool false] 43)) := (Below.refl _ _).alloc (Nat.le_refl _) _
  have HC4 : Hid (CatS bc bt bp bd bm 0 [] (w3.alloc (.cells #[.string ⟨#[97]⟩, .int .i64 1, .bool true, .bool false] 43))) := HC3.out.below hb34
  have HR4 : Hid (CRow 0 (.slice (some ⟨w3.heap.size, 0, none⟩) 1 1) [colA] (w3.alloc (.cells #[.string ⟨#[97]⟩, .int .i64 1, .bool true, .bool false] 43))) :=
    World.ownsRow_lit (base := 0) (e := 43) (size := 4) w3 #[.string ⟨#[97]⟩, .int .i64 1, .bool true, .bool false] 1 (Nat.zero_le _) (by decide) rfl
  have HCR : Hid _ := createT_any HC4.out (keepc HB4.out HM.out) (by simp) sT HR4.out colsA (by omega)
  clear hb34
  go_wp2_with fail
  refine (show Calls _ _ _ _ _ from HCR.out).mono ?_
  rintro _ w5 (⟨_, rfl, id, i1, _, _, i2, hc5, ho5⟩ | ⟨hno, _⟩)
  · obtain rfl : id = 1 := by simp at i2; omega
    have HC5 : Hid (CatS bc bt bp bd bm 280 [⟨1, sT, [colA]⟩] w5) := hc5
    have HB5 : Hid (Below w.heap.size w w5) := Only.below HB4.out ho5 HB4.out.size (fun i hi => by rcases hi with hi | hi <;> omega)
    have HIX : Hid _ := index_one HC5.out (keepc HB5.out HM.out) rfl (by omega)
    clear hc5 ho5 HCR HC4 HR4 i1 i2
    go_wp2_with fail
    refine (show Calls _ _ _ _ _ from HIX.out).mono ?_
    rintro _ w6 ⟨rfl, hc6, ho6⟩
    have HC6 : Hid (CatS bc bt bp bd bm 320 [⟨1, sT, [{ colA with ix := true }]⟩] w6) := hc6
    have HB6 : Hid (Below w.heap.size w w6) := Only.below HB5.out ho6 HB5.out.size (fun i hi => by rcases hi with hi | hi <;> omega)
    have HGT : Hid _ := getT_any HC6.out (keepc HB6.out HM.out) (by simp) (List.mem_singleton.2 rfl)
    clear hc6 ho6 HIX
    go_wp2_with fail
    refine (show Calls _ _ _ _ _ from HGT.out).mono ?_
    rintro _ w7 ⟨vc, vi, rfl, hcr, hir, _, hb7⟩
    have HB7 : Hid (Below w.heap.size w w7) := HB6.out.trans (hb7.mono HB6.out.size)
    obtain ⟨g, cap, ev, hg1, hg2, k0, k1, k2, k3, hix0⟩ := CRow.at hcr (i := 0) (by simp)
    obtain ⟨ai, ci, hvi⟩ := row_slice hir
    subst ev hvi
    have hix := hix0 1 (by omega)
    simp only [List.getElem_cons_zero, Nat.mul_zero, Nat.zero_add] at k2 hix
    have hl1 : (ixs [{ colA with ix := true }]).length = 1 := rfl
    have hb8 : Below w7.heap.size w7 (w7.alloc (.cells #[.int .i64 1, .int .i64 1, .string sT, .slice (some ⟨g, 0, none⟩) 1 cap, .slice ai 1 ci] 52)) := (Below.refl _ _).alloc (Nat.le_refl _) _
    have k28 : (w7.alloc (.cells #[.int .i64 1, .int .i64 1, .string sT, .slice (some ⟨g, 0, none⟩) 1 cap, .slice ai 1 ci] 52)).cell? ⟨g, 2, none⟩ = some (.bool true) := keepc hb8 k2
    have HB8 : Hid (Below w.heap.size w (w7.alloc (.cells #[.int .i64 1, .int .i64 1, .string sT, .slice (some ⟨g, 0, none⟩) 1 cap, .slice ai 1 ci] 52))) := HB7.out.alloc HB7.out.size _
    clear hcr hir hb7 k0 k1 k2 k3 hix0 HGT hb8
    simp only [hl1, List.length_singleton]
    go_wp2
    go_ret
    exact ⟨rfl, HB8.out⟩
  · exact absurd ⟨name_T, fun t ht => (by cases ht), by simp⟩ hno
end Go.Proofs.YteijjaddlkedbaaGreat
