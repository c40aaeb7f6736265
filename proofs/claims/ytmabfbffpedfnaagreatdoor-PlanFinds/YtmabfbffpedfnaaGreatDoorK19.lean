/- Part 19 of 30. -/
import Derived.Test.YtmabfbffpedfnaaGreatDoorK18
import Derived.Stop.Asserts
import Derived.Defers
import Derived.Recover
import Derived.Deep.CutBlock
import Derived.Deep.AppendLies
import Derived.Deep.DeepCutAuto
import Derived.Deep.RegionHeld3
namespace Go.Proofs.YtmabfbffpedfnaaGreatDoor
open Go.RowKit

theorem below_grown {A : Nat} {w w' : World} (h : w.grownBy w' (some A)) (hA : w.heap.size ≤ A) : Below w.heap.size w w' := ⟨h.os, h.tape, h.output, h.size, fun k hk => h.block k hk (fun e => by cases e; omega)⟩
/-- what read tells -/
def ToldR (R : Option Stm) (w : World) (e : Ending) (w' : World) : Prop :=
  Below w.heap.size w w' ∧ ((∃ st sv, R = some st ∧ e = .returned (.agg sv.cells) ∧ SVIs w.heap.size sv st w') ∨ (R = none ∧ Thr e))
set_option maxRecDepth 100000 in
set_option maxHeartbeats 16000000 in
theorem read_any (hE : ESpec Ef 0) (L : List Tok) (a : Option Addr) (c : Nat) (w : World) (hrow : RowK w.heap.size w a L) (hc : L.length ≤ c) (hok : OkT (L.map Tok.kt)) (hvr : VrAt w) (hlo : 12 ≤ w.heap.size) : Calls Tryz.prog 39 #[.slice a L.length c] w fun e w' => ToldR (readF (L.map Tok.kt)) w e w' := by
  have HE : Hid (ESpec Ef 0) := hE
  obtain ⟨l, hl⟩ : ∃ l, L.map Tok.kt = l := ⟨_, rfl⟩
  rw [hl] at hok ⊢
  have hln : L.length = l.length := by rw [← hl]; simp
  obtain ⟨W1, hW1⟩ : ∃ W, (w.alloc (.cells #[.int .i64 0, .string ⟨#[]⟩, .string ⟨#[]⟩, .slice none 0 0, .string ⟨#[]⟩, .slice none 0 0, .slice none 0 0, .pointer none, .pointer none, .slice none 0 0, .pointer none, .slice none 0 0, .int .i64 0] 62)).alloc (.cells #[.slice a L.length c] 119) = W := ⟨_, rfl⟩
  have hb1 : Below w.heap.size w W1 := by rw [← hW1]; exact ((Below.refl _ _).alloc (Nat.le_refl _) _).alloc (by simp) _
  have hs1 : W1.heap.size = w.heap.size + 2 := by rw [← hW1]; simp
  have hk1 : Blk w.heap.size svZ.cells 62 W1 := by rw [← hW1]; exact (Blk.new _ _ _).below ((Below.refl _ _).alloc (Nat.le_refl _) _)
  have hk2 : Blk (w.heap.size + 1) #[.slice a L.length c] 119 W1 := by
    have := Blk.new (w.alloc (.cells #[.int .i64 0, .string ⟨#[]⟩, .string ⟨#[]⟩, .slice none 0 0, .string ⟨#[]⟩, .slice none 0 0, .slice none 0 0, .pointer none, .pointer none, .slice none 0 0, .pointer none, .slice none 0 0, .int .i64 0] 62)) #[.slice a L.length c] 119
    rw [hW1, World.size_alloc] at this
    exact this
  have HB1 : Hid (Blk w.heap.size svZ.cells 62 W1 ∧ w.grownBy W1 (some (w.heap.size + 1)) ∧ W1.heap.size = w.heap.size + 2) := ⟨hk1, grown_of_belowA hb1 _, hs1⟩
  have HW : Hid (RdIs (w.heap.size + 1) l W1) := by
    refine ⟨⟨L, a, c, hl, by rw [← hln]; exact hk2, ?_, by omega⟩, hok, hvr.keep (fun k hk => hb1.block k (by omega)), by omega⟩
    rcases hrow with h0 | ⟨b, off, e, hb, hcells⟩
    · exact .inl h0
    · refine .inr ⟨b, off, e, by omega, fun j hj => ?_⟩
      obtain ⟨h1, h2, h3⟩ := hcells j hj
      exact ⟨(hb1.cell (p := ⟨b, _, none⟩) hb).trans h1, (hb1.cell (p := ⟨b, _, none⟩) hb).trans h2, (hb1.cell (p := ⟨b, _, none⟩) hb).trans h3⟩
  obtain ⟨R, hR⟩ : ∃ R, readF l = R := ⟨_, rfl⟩
  have E0 : Hid (R = readF l) := hR.symm
  unfold ToldR
  rw [hR]
  clear hR hb1 hs1 hk1 hk2 hrow hok hvr hl hln
  go_enter Tryz.func39, Tryz.ntmps39
  go_wp2_with fail
  refine (statement_any HE.out (w.heap.size + 1) l W1 HW.out).mono ?_
  rintro _ w2 ⟨hg, ⟨st, lz, sv, hn, rfl, hv, hr⟩ | ⟨hn, n1, m1, rfl⟩⟩
  · have E1 : Hid (R = if (hdT (semiF lz)).1 = 5 then some st else none) := by show _ = _; rw [E0.out]; unfold readF; rw [hn, Option.bind_some]
    have hkA : Blk w2.heap.size svZ.cells 62 (w2.alloc (.cells #[.int .i64 0, .string ⟨#[]⟩, .string ⟨#[]⟩, .slice none 0 0, .string ⟨#[]⟩, .slice none 0 0, .slice none 0 0, .pointer none, .pointer none, .slice none 0 0, .pointer none, .slice none 0 0, .int .i64 0] 62)) := Blk.new _ _ _
    have HKA : Hid (Blk w2.heap.size svZ.cells 62 (w2.alloc (.cells #[.int .i64 0, .string ⟨#[]⟩, .string ⟨#[]⟩, .slice none 0 0, .string ⟨#[]⟩, .slice none 0 0, .slice none 0 0, .pointer none, .pointer none, .slice none 0 0, .pointer none, .slice none 0 0, .int .i64 0] 62)) ∧ sv.Rows) := ⟨hkA, hv.rowsOk⟩
    obtain ⟨V, hV⟩ : ∃ V, (w2.alloc (.cells #[.int .i64 0, .string ⟨#[]⟩, .string ⟨#[]⟩, .slice none 0 0, .string ⟨#[]⟩, .slice none 0 0, .slice none 0 0, .pointer none, .pointer none, .slice none 0 0, .pointer none, .slice none 0 0, .int .i64 0] 62)).setCells w2.heap.size 0 sv.cells.toList = V := ⟨_, rfl⟩
    have hgV : w2.grownBy V (some (w.heap.size + 1)) := by rw [← hV]; exact grown_sets _ 0 (grown_alloc _ _ _) (Nat.le_refl _)
    have hs2 := hg.size
    have HS : Hid (SI (w.heap.size + 1) w2.heap.size W1 st lz V) := by
      refine ⟨?_, hg.trans hgV, ⟨sv, ?_, ?_⟩, by have := HB1.out.2.2; omega, hs2⟩
      · rw [← hV]
        exact RdIs.setsN _ 0 (hr.below ((Below.refl _ _).alloc (Nat.le_refl _) _)) hr.lt
      · rw [← hV]
        exact hkA.stored
      · exact hv.grown (by have := HB1.out.2.2; omega) hgV
    clear hg hn hr hkA hgV hv
    go_wp2_with (refine wpList_store_mid rfl 62 _ _ rfl _ 0 sv.cells rfl rfl (HKA.out.1.there rfl) (s30 _) HKA.out.2.one ?_; rw [hV])
    clear HKA
    obtain ⟨b, hb⟩ : ∃ b, isT ⟨#[59]⟩ lz = b := ⟨_, rfl⟩
    have HSb : Hid (isT ⟨#[59]⟩ lz = b) := hb
    have hse : semiF lz = (if b then lz.tail else lz) := by unfold semiF; rw [hb]
    clear hb
    go_wp2_with fail
    refine (has_any (w.heap.size + 1) lz ⟨#[59]⟩ b HSb.out _ HS.out.rd).mono ?_
    rintro _ w3 ⟨rfl, hr, hg⟩
    rw [← hse] at hr
    clear hse
    obtain ⟨K, hK⟩ : ∃ K, (hdT (semiF lz)).1 = K := ⟨_, rfl⟩
    obtain ⟨T, hT⟩ : ∃ T, (hdT (semiF lz)).2 = T := ⟨_, rfl⟩
    have HK : Hid ((hdT (semiF lz)).1 = K ∧ (hdT (semiF lz)).2 = T) := ⟨hK, hT⟩
    have E2 : Hid (R = if K = 5 then some st else none) := by show _ = _; rw [E1.out, hK]
    have HS3 : Hid (SI (w.heap.size + 1) w2.heap.size W1 st (semiF lz) w3) := HS.out.grown hr hg
    clear hr hg hK hT HS HSb
    go_wp2_with fail
    refine (now_any (w.heap.size + 1) (semiF lz) w3 HS3.out.rd).mono ?_
    rintro _ w4 ⟨⟨p, rfl⟩, hb4⟩
    rw [HK.out.1, HK.out.2]
    have HS4 : Hid (SI (w.heap.size + 1) w2.heap.size W1 st (semiF lz) w4) := HS3.out.grown (HS3.out.rd.below hb4) (grown_of_belowA hb4 _)
    clear hb4
    have hf0 := field0 K p T
    by_cases hk5 : K = 5
    · subst hk5
      have E3 : Hid (R = some st) := by show _ = _; rw [E2.out]; rfl
      go_wp2_with fail
      refine (must_yes (w.heap.size + 1) w4).mono ?_
      rintro _ w5 ⟨rfl, rfl⟩
      obtain ⟨sv, hk, hv⟩ := HS4.out.st
      have HZ : Hid (Blk w2.heap.size sv.cells 62 w5 ∧ Blk w.heap.size svZ.cells 62 w5 ∧ SVIs W1.heap.size sv st w5) := ⟨hk, HB1.out.1.keep (by omega) HS4.out.gr, hv⟩
      clear hk hv
      go_wp2_with (first | (refine wpList_load_mid rfl 62 _ rfl _ 0 rfl sv.cells.toList _ HZ.out.1.range Tryz.underlying62 rfl (s30 sv) ?_) | (refine wpList_store_mid rfl 62 _ _ rfl _ 0 sv.cells rfl rfl (HZ.out.2.1.there rfl) (s30 _) (HZ.out.2.2.rowsOk).one ?_))
      refine bodyPost_ret (v := .agg sv.cells) (results_c Tryz.results39 _ _ _ rfl (load30 HZ.out.2.1.stored)) rfl ?_
      refine ⟨below_grown (grown_sets _ 0 (HB1.out.2.1.trans HS4.out.gr) (Nat.le_refl _)) (by omega), .inl ⟨_, sv, E3.out, rfl, ?_⟩⟩
      exact (HZ.out.2.2.st (by have := HB1.out.2.2; omega) (fr_sets _ 0 HZ.out.2.1)).low (by have := HB1.out.2.2; omega)
    · have E3 : Hid (R = none) := by show _ = _; rw [E2.out, if_neg hk5]
      have hk6 : (K == 5) = false := beq_eq_false_iff_ne.mpr hk5
      go_wp2_with fail
      refine (must_no (w.heap.size + 1) (semiF lz) w4 HS4.out.rd).mono ?_
      rintro _ w5 ⟨⟨n1, m1, rfl⟩, hb5⟩
      have HG : Hid (Below w.heap.size w w5 ∧ R = none) := ⟨below_grown (HB1.out.2.1.trans (HS4.out.gr.trans (grown_of_belowA hb5 _))) (by omega), E3.out⟩
      clear hb5
      go_wp2
      exact ⟨by first | rfl | trivial, HG.out.1, .inr ⟨HG.out.2, n1, m1, rfl⟩⟩
  · have HG : Hid (Below w.heap.size w w2 ∧ R = none) := ⟨below_grown (HB1.out.2.1.trans hg) (by omega), by rw [E0.out]; unfold readF; rw [hn]; rfl⟩
    clear hg hn
    go_wp2
    exact ⟨by first | rfl | trivial, HG.out.1, .inr ⟨HG.out.2, n1, m1, rfl⟩⟩
end Go.Proofs.YtmabfbffpedfnaaGreatDoor
namespace Go.Proofs.YtmabfbffpedfnaaGreatDoor
open Go.RowKit

set_option maxRecDepth 100000 in
set_option maxHeartbeats 2000000 in
theorem told_any (n p : Int) (w : World) : Calls Tryz.prog 38 #[.iface 115 (.agg #[.int .i64 n, .int .i64 p])] w fun e w' => (∃ t v, e = .returned (.iface t v)) ∧ Below w.heap.size w w' := by
  have hta : ∀ w : World, (Instr.typeAssert (.iface 115 (.agg #[.int .i64 n, .int .i64 p])) 20 115 true).run Tryz.prog w = .ok (.tuple #[.agg #[.int .i64 n, .int .i64 p], .bool true]) w := fun _ => by kernel_rfl
  go_enter Tryz.func38, Tryz.ntmps38
  go_wp2
  go_ret
  refine ⟨⟨_, _, rfl⟩, ?_⟩
  refine Below.alloc ?_ (by simp) _
  first
  | exact (((Below.refl _ _).alloc (Nat.le_refl _) _).setCell (Nat.le_refl _) _).setCell (Nat.le_refl _) _
  | exact (Below.refl _ _).alloc (Nat.le_refl _) _
set_option maxRecDepth 100000 in
set_option maxHeartbeats 2000000 in
theorem catch_idle (p q : Addr) (w : World) :
    CallsD Tryz.prog 37 #[.pointer (some p), .pointer (some q)] .returning w fun e u' w' => e = .returned (.tuple #[]) ∧ u' = .returning ∧ w' = w := by
  refine callsD_of_wpS Tryz.func37 rfl fun c₀ cs hu => ?_
  simp only [Tryz.ntmps37, List.size_toArray, List.length_cons, List.length_nil, Nat.reduceAdd, Nat.reduceSub, Array.replicate_succ, Array.replicate_zero, List.push_toArray, List.append_toArray, List.nil_append, List.cons_append]
  apply wpS_seq
  apply wpS_region
  simp [wpOpsS, go_sem, recoverD, hu, Exit.thenS]
  refine wpS_of_wp ?_
  go_wp2
  cases c₀
  simp_all [bodyPostS, results, Tryz.results37]
set_option maxRecDepth 100000 in
set_option maxHeartbeats 2000000 in
theorem catch_thrown (b : Nat) (n p : Int) (w : World) (k0 : Blk b svZ.cells 62 w) (k1 : Blk (b + 1) #[.nilIface] 41 w) :
    CallsD Tryz.prog 37 #[.pointer (some ⟨b, 0, none⟩), .pointer (some ⟨b + 1, 0, none⟩)] (.panicking [{ v := .iface 115 (.agg #[.int .i64 n, .int .i64 p]), recovered := false }]) w fun e u' w' => e = .returned (.tuple #[]) ∧ u' = .panicking [{ v := .iface 115 (.agg #[.int .i64 n, .int .i64 p]), recovered := true }] ∧ Blk b svZ.cells 62 w' ∧ (∃ t v, w'.cell? ⟨b + 1, 0, none⟩ = some (.iface t v)) ∧ Below b w w' := by
  refine callsD_of_wpS Tryz.func37 rfl fun c₀ cs hu => ?_
  simp only [Tryz.ntmps37, List.size_toArray, List.length_cons, List.length_nil, Nat.reduceAdd, Nat.reduceSub, Array.replicate_succ, Array.replicate_zero, List.push_toArray, List.append_toArray, List.nil_append, List.cons_append]
  apply wpS_seq
  apply wpS_region
  simp [wpOpsS, go_sem, recoverD, hu, Exit.thenS]
  refine wpS_of_wp ?_
  go_wp2_with fail
  refine (told_any n p w).mono ?_
  rintro _ w1 ⟨⟨ty, ve, rfl⟩, hb1⟩
  have hlt := k1.lt
  have HK0 : Hid (Blk b svZ.cells 62 w1 ∧ Below b w w1) := ⟨k0.below hb1, hb1.mono (by omega)⟩
  obtain ⟨V, hV⟩ : ∃ V, w1.setCells b 0 svZ.cells.toList = V := ⟨_, rfl⟩
  have hk1 : Blk (b + 1) #[.nilIface] 41 V := by rw [← hV]; exact Blk.othersN _ 0 (k1.below hb1) (by omega)
  have z1 : V.cell? ⟨b + 1, 0, none⟩ = some .nilIface := by rw [hk1.cell 0]; rfl
  have f1 : V.frozen? ⟨b + 1, 0, none⟩ = false := hk1.free 0
  have HV : Hid (Blk b svZ.cells 62 V ∧ Below b w V) := by rw [← hV]; exact ⟨HK0.out.1.stored, below_sets _ 0 HK0.out.2 (Nat.le_refl _)⟩
  clear hb1 k0 k1 hlt hk1
  go_wp2_with (refine wpList_store_mid rfl 62 _ _ rfl _ 0 svZ.cells rfl rfl (HK0.out.1.there rfl) (s30 _) svZ_rows.one ?_; rw [hV])
  refine ⟨rfl, _, rfl, .tuple #[], by simp [results, Tryz.results37], rfl, rfl, ?_, ⟨ty, ve, ?_⟩, HV.out.2.setCell (Nat.le_succ _) _⟩
  · exact HV.out.1.other (by omega) 0 _
  · exact World.cell?_setCell_same _ _ _ z1
end Go.Proofs.YtmabfbffpedfnaaGreatDoor
namespace Go.Proofs.YtmabfbffpedfnaaGreatDoor
open Go.RowKit

/-- tokens in a row -/
def RowT (w : World) (a : Option Addr) (L : List Tok) : Prop :=
  L.length ≤ 5000 ∧ (L = [] ∨ ∃ b off, a = some ⟨b, off, none⟩ ∧ b < w.heap.size ∧ ∀ j (h : j < L.length), w.cell? ⟨b, off + j * 3, none⟩ = some (.int .i64 L[j].k) ∧ w.cell? ⟨b, off + j * 3 + 1, none⟩ = some (.string L[j].t) ∧ w.cell? ⟨b, off + j * 3 + 2, none⟩ = some (.int .i64 (L[j].p : Int)))
theorem RowT.below {w w' : World} {a : Option Addr} {L : List Tok} (h : RowT w a L) (hb : Below w.heap.size w w') : RowT w' a L := by
  refine ⟨h.1, ?_⟩
  rcases h.2 with h | ⟨b, off, e, hlt, hc⟩
  · exact .inl h
  · refine .inr ⟨b, off, e, Nat.lt_of_lt_of_le hlt hb.size, fun j hj => ?_⟩
    have := hc j hj
    exact ⟨by rw [hb.cell (p := ⟨b, _, none⟩) hlt]; exact this.1, by rw [hb.cell (p := ⟨b, _, none⟩) hlt]; exact this.2.1, by rw [hb.cell (p := ⟨b, _, none⟩) hlt]; exact this.2.2⟩
theorem tc_at (L : List Tok) : ∀ j (h : j < L.length), (tc L)[j * 3]? = some (.int .i64 L[j].k) ∧ (tc L)[j * 3 + 1]? = some (.string L[j].t) ∧ (tc L)[j * 3 + 2]? = some (.int .i64 (L[j].p : Int)) := by
  induction L with
  | nil => intro j h; cases h
  | cons x L ih =>
    intro j h
    have e : tc (x :: L) = .int .i64 x.k :: .string x.t :: .int .i64 (x.p : Int) :: tc L := rfl
    rw [e]
    cases j with
    | zero => exact ⟨rfl, rfl, rfl⟩
    | succ j =>
      have := ih j (by simpa using h)
      rw [show (j + 1) * 3 = j * 3 + 1 + 1 + 1 by omega]
      simpa using this
theorem rowT_of_own {w : World} {B : Nat} {ty : TypeId} {v : Value} {L : List Tok} (h : w.ownsRow B ty 3 v L.length (tc L)) (hl : L.length ≤ 5000) : ∃ a c, v = .slice a L.length c ∧ RowT w a L := by
  rcases h.2 with ⟨rfl, h0⟩ | ⟨g, cap, cur, rfl, _, hg, _⟩
  · have : L = [] := List.length_eq_zero_iff.1 h0
    subst this
    exact ⟨none, 0, rfl, by simp, .inl rfl⟩
  · refine ⟨_, cap, rfl, hl, .inr ⟨g, 0, rfl, (Array.getElem?_eq_some_iff.1 hg).1, fun j hj => ?_⟩⟩
    have t := tc_at L j hj
    have k0 := h.cells (g := g) rfl (j * 3) _ t.1
    have k1 := h.cells (g := g) rfl (j * 3 + 1) _ t.2.1
    have k2 := h.cells (g := g) rfl (j * 3 + 2) _ t.2.2
    rw [Go.WideShapes.add_plain] at k0 k1 k2
    exact ⟨k0, k1, k2⟩
def VarsAt (w : World) : Prop := MarksAt w ∧ MaxAt w
end Go.Proofs.YtmabfbffpedfnaaGreatDoor
namespace Go.Proofs.YtmabfbffpedfnaaGreatDoor

theorem nextT_ok {l : List UInt8} {k : Int} {t : List UInt8} {m : Nat} (h : nextT l = some (k, t, m)) : k ≠ 5 ∧ (k = 2 → t.all isDg = true ∧ t.length = m) := by
  cases l with
  | nil => cases h
  | cons c l =>
    rw [nextT] at h
    split at h
    · cases h; exact ⟨by decide, fun e => absurd e (by decide)⟩
    · split at h
      · rename_i hd
        cases h
        refine ⟨by decide, fun _ => ⟨?_, by simp⟩⟩
        rw [List.all_cons, hd, Bool.true_and]
        exact List.all_takeWhile
      · split at h
        · obtain ⟨x, _, hx⟩ := Option.map_eq_some_iff.1 h
          cases hx; exact ⟨by decide, fun e => absurd e (by decide)⟩
        · split at h
          · have h' := Option.some.inj h
            unfold markT at h'
            split at h'
            · split at h' <;> (cases h'; exact ⟨by decide, fun e => absurd e (by decide)⟩)
            · cases h'; exact ⟨by decide, fun e => absurd e (by decide)⟩
          · cases h
theorem lexL_ok (f : Nat) : ∀ i n l L, lexL f i n l = .ok L → n ≤ 200 → l.length ≤ 4000 → ∃ C p, L = C ++ [⟨5, ⟨#[]⟩, p⟩] ∧ (∀ x ∈ C, x.k ≠ 5 ∧ x.t.size ≤ 4000 ∧ (x.k = 2 → digsB x.t = true)) ∧ C.length + n ≤ 200 := by
  induction f with
  | zero => intro i n l L h hn _; cases h; exact ⟨[], _, rfl, fun x hx => absurd hx (by simp), by simpa using hn⟩
  | succ f ih =>
    intro i n l L h hn hl
    cases l with
    | nil => cases h; exact ⟨[], _, rfl, fun x hx => absurd hx (by simp), by simpa using hn⟩
    | cons c l =>
      rw [lexL] at h
      simp only [List.length_cons] at hl
      split at h
      · exact ih _ _ _ _ h hn (by omega)
      · split at h
        · cases h
        · rename_i k t m hm
          have hp := nextT_pos hm
          have hk := nextT_ok hm
          split at h
          · cases h
          · rename_i hlim
            cases ho : lexL f (i + m) (n + 1) ((c :: l).drop m) with
            | error e => rw [ho] at h; cases h
            | ok M =>
              rw [ho] at h
              have e : L = ⟨k, ⟨t.toArray⟩, i⟩ :: M := by
                have : Except.ok (ε := Int × Nat) (⟨k, ⟨t.toArray⟩, i⟩ :: M) = .ok L := h
                exact (Except.ok.inj this).symm
              have hn2 : n ≠ 200 := fun e => hlim (.inr e)
              obtain ⟨C, p, e1, h1, h2⟩ := ih _ _ _ _ ho (by omega) (by rw [List.length_drop, List.length_cons]; omega)
              refine ⟨⟨k, ⟨t.toArray⟩, i⟩ :: C, p, by rw [e, e1]; rfl, ?_, by rw [List.length_cons]; omega⟩
              intro x hx
              rcases List.mem_cons.1 hx with rfl | hx
              · have hsz : (ByteArray.mk t.toArray).size = t.length := by simp [ByteArray.size]
                have hlc : (c :: l).length = l.length + 1 := List.length_cons
                refine ⟨hk.1, ?_, fun e2 => ?_⟩
                · show (ByteArray.mk t.toArray).size ≤ 4000
                  rw [hsz]; omega
                · have e3 : k = 2 := e2
                  obtain ⟨h3, h4⟩ := hk.2 e3
                  have hm19 : ¬ 19 < m := fun h5 => hlim (.inl ⟨e3, h5⟩)
                  show digsB ⟨t.toArray⟩ = true
                  unfold digsB
                  rw [hsz, show (ByteArray.mk t.toArray).data.toList = t from by simp, h3, decide_eq_true (by omega : 0 < t.length), decide_eq_true (by omega : t.length ≤ 19)]; rfl
              · exact h1 x hx
theorem lexS_ok {s : ByteArray} {L : List Tok} (h : lexS s = .ok L) (hs : s.size ≤ 4000) : OkT (L.map Tok.kt) := by
  obtain ⟨C, p, e, h1, h2⟩ := lexL_ok _ _ _ _ _ h (by omega) (by rw [ba_len]; exact hs)
  refine ⟨⟨C.map Tok.kt, by rw [e]; simp [Tok.kt], ?_⟩, by rw [e]; simp; omega⟩
  intro x hx
  obtain ⟨y, hy, rfl⟩ := List.mem_map.1 hx
  exact h1 y hy
end Go.Proofs.YtmabfbffpedfnaaGreatDoor
namespace Go.Proofs.YtmabfbffpedfnaaGreatDoor
open Go.RowKit

theorem infoLTok : (Tryz.prog.info? 113).map (fun i => (i.zero, i.size, i.bytes)) = some (some (.agg #[.int .i64 0, .string ⟨#[]⟩, .int .i64 0]), 3, 32) := by kernel_rfl
theorem VarsAt.below {w w' : World} (h : VarsAt w) (hb : Below w.heap.size w w') : VarsAt w' := ⟨h.1.below hb, h.2.below hb⟩
theorem err_at {w w1 : World} (e : Int) (p : Nat) (hb : Below w.heap.size w w1) : (∃ t v, Value.iface 108 (.pointer (some ⟨w1.heap.size, 0, none⟩)) = .iface t v) ∧ Below w.heap.size w (w1.alloc (.cells #[.int .i64 e, .int .i64 (p : Int)] 110)) :=
  ⟨⟨_, _, rfl⟩, hb.alloc hb.size _⟩

/-- what the program's Split tells, with the room -/
def SplitTo2 (s : ByteArray) (w : World) (e : Ending) (w' : World) : Prop :=
  ∃ a n c E, e = .returned (.tuple #[.slice a n c, E]) ∧ ((∃ (k : Int) (p : Nat), lexS s = .error (k, p) ∧ n = 0 ∧ ∃ t v, E = .iface t v) ∨ (∃ L, lexS s = .ok L ∧ n = L.length ∧ (n ≤ c ∧ RowT w' a L) ∧ E = .nilIface)) ∧ Below w.heap.size w w'
theorem rowT_of_own2 {w : World} {B : Nat} {ty : TypeId} {v : Value} {L : List Tok} (h : w.ownsRow B ty 3 v L.length (tc L)) (hl : L.length ≤ 5000) : ∃ a c, v = .slice a L.length c ∧ L.length ≤ c ∧ RowT w a L := by
  obtain ⟨a, c, e, hr⟩ := rowT_of_own h hl
  refine ⟨a, c, e, ?_, hr⟩
  rcases h.2 with ⟨e2, h0⟩ | ⟨g, cap, cur, e2, _, _, hc, _⟩
  · rw [h0]; exact Nat.zero_le _
  · rw [e2] at e; injection e with _ _ e; rw [← e]; exact hc

set_option maxRecDepth 100000 in
set_option maxHeartbeats 16000000 in
theorem split_any (s : ByteArray) (w : World) (hs : s.size ≤ 4000) (hv : VarsAt w) : Calls Tryz.prog 36 #[.string s] w fun e w' => SplitTo2 s w e w' := by
  obtain ⟨i0, hi, hz0, hz1, hz2⟩ := info_parts infoLTok
  have HV : Hid (VarsAt w) := hv
  obtain ⟨R, hR⟩ : ∃ R, lexS s = R := ⟨_, rfl⟩
  obtain ⟨f0, hf0⟩ := lx_skip s.size (by omega) (by rw [← hR]; exact lx_start s : Lx s R 0 s.size [])
  obtain ⟨E0, hE0⟩ : ∃ E0, endW blankC s 0 = E0 := ⟨_, rfl⟩
  have HN : Hid (∀ h : E0 < s.size, blankC s[E0] = false) := by
    show ∀ h : E0 < s.size, blankC s[E0] = false
    subst hE0
    exact fun h => endW_not s.size (by omega) h
  have hE0l : E0 ≤ s.size := by rw [← hE0]; exact endW_le (Nat.zero_le _)
  rw [hE0] at hf0
  have HR : Hid (Lx s R E0 f0 []) := hf0
  have HE0 : Hid (endW blankC s 0 = E0) := hE0
  show Calls _ _ _ _ fun e w' => SplitTo2 s w e w'
  unfold SplitTo2
  rw [hR]
  clear hR hv hf0 hE0
  go_enter Tryz.func36, Tryz.ntmps36
  go_wp2_with fail
  refine (blanks_any s E0 HE0.out _ (by omega)).mono ?_
  rintro _ wq ⟨rfl, rfl⟩
  clear HE0
  go_wp2
  go_loopw [4, 5] (fun v iv wr => ∃ (i f : Nat) (L : List Tok), i ≤ s.size ∧ L.length ≤ 200 ∧ iv = .int .i64 i ∧ Hid (Lx s R i f L ∧ ∀ h : i < s.size, blankC s[i] = false) ∧ Hid (wr.ownsRow wq.heap.size 113 3 v L.length (tc L)) ∧ Hid (Below wq.heap.size wq wr)) (fun _ iv _ => s.size - (intOf iv).toNat)
  case atStart => exact ⟨E0, f0, [], hE0l, Nat.zero_le _, rfl, ⟨HR.out, HN.out⟩, World.ownsRow_nil _ _ _ _, Below.refl _ _⟩
  case round =>
    clear HR HN hE0l
    obtain ⟨i, f, L, hi1, hLi, rfl, HX, HO, HB⟩ := hrel
    obtain ⟨wo, rfl⟩ : ∃ wo, wo = wr := ⟨_, rfl⟩
    obtain ⟨vo, rfl⟩ : ∃ vo, vo = u4 := ⟨_, rfl⟩
    obtain ⟨a4, n4, c4, rfl⟩ : ∃ a n c, vo = .slice a n c := by
      rcases HO.out.2 with ⟨rfl, _⟩ | ⟨g, cap, cur, rfl, _⟩
      · exact ⟨none, 0, 0, rfl⟩
      · exact ⟨_, _, cap, rfl⟩
    have hn4 : n4 = L.length := by
      rcases HO.out.2 with ⟨e, h0⟩ | ⟨g, cap, cur, e, _⟩
      · cases e; exact h0.symm
      · cases e; rfl
    subst hn4
    have hsw := HB.out.size
    by_cases hlt : i < s.size
    · obtain ⟨f', rfl⟩ := lx_more HX.out.1 hlt
      have hlt' : (i : Int) < (s.size : Int) := by omega
      have hbl := HX.out.2 hlt
      have hdr : (s.extract i s.size).data.toList = s[i] :: s.data.toList.drop (i + 1) := by rw [drop_all, drop_at s i hlt]
      have hexs : 0 < (s.extract i s.size).size := by simp; omega
      have HVo : Hid (VarsAt wo) := HV.out.below HB.out
      cases hnx : nextT (s[i] :: s.data.toList.drop (i + 1)) with
      | none =>
        skip
        as_aux_lemma =>
          obtain ⟨K, hK⟩ : ∃ K, (firstT (s.extract i s.size).data.toList).1 = K := ⟨_, rfl⟩
          have HF : Hid (firstT (s.extract i s.size).data.toList = (K, 0)) := by
            show _ = _
            rw [← hK]
            have := first_none hnx
            rw [← hdr] at this
            exact Prod.ext rfl this
          have HE : Hid (R = .error (3, i)) := lx_none HX.out.1 hlt hbl hnx
          clear HX HO hbl hdr hnx hK
          go_wp2_with fail
          refine (first_any _ K 0 HF.out _ hexs (by simp; omega) HVo.out.1).mono ?_
          rintro _ w1 ⟨rfl, rfl⟩
          go_wp2_with fail
          refine (wrong_any K 0 L.length _).mono ?_
          rintro _ w2 ⟨rfl, rfl⟩
          rw [if_pos rfl]
          go_wp2
          go_ret2
          have he := err_at 3 i HB.out
          exact ⟨none, 0, 0, _, rfl, .inl ⟨3, i, HE.out, rfl, he.1⟩, he.2⟩
      | some y =>
        obtain ⟨K, t, m⟩ := y
        have hfs := first_some hnx
        have hp := nextT_pos hnx
        rw [List.length_cons, List.length_drop, ba_len] at hp
        have HF : Hid (firstT (s.extract i s.size).data.toList = (K, m)) := by show _ = _; rw [hdr]; exact hfs.1
        by_cases hlim : (K = 2 ∧ 19 < m) ∨ L.length = 200
        · skip
          as_aux_lemma =>
            have HE : Hid (R = .error (4, i)) := lx_lim HX.out.1 hlt hbl hnx hlim
            have hif : (if m = 0 then (3 : Int) else if (K = 2 ∧ 19 < m) ∨ 200 ≤ L.length then 4 else 0) = 4 := by rw [if_neg (by omega), if_pos (by omega)]
            have HIf : Hid ((if m = 0 then (3 : Int) else if (K = 2 ∧ 19 < m) ∨ 200 ≤ L.length then 4 else 0) = 4) := hif
            clear HX HO hbl hdr hnx hfs hlim hif
            go_wp2_with fail
            refine (first_any _ K m HF.out _ hexs (by simp; omega) HVo.out.1).mono ?_
            rintro _ w1 ⟨rfl, rfl⟩
            go_wp2_with fail
            refine (wrong_any K m L.length _).mono ?_
            rintro _ w2 ⟨rfl, rfl⟩
            rw [HIf.out]
            go_wp2
            go_ret2
            have he := err_at 4 i HB.out
            exact ⟨none, 0, 0, _, rfl, .inl ⟨4, i, HE.out, rfl, he.1⟩, he.2⟩
        · skip
          as_aux_lemma =>
            have hlk := lx_tok HX.out.1 hlt hbl hnx hlim
            have hif : (if m = 0 then (3 : Int) else if (K = 2 ∧ 19 < m) ∨ 200 ≤ L.length then 4 else 0) = 0 := by rw [if_neg (by omega), if_neg (by omega)]
            have HIf : Hid ((if m = 0 then (3 : Int) else if (K = 2 ∧ 19 < m) ∨ 200 ≤ L.length then 4 else 0) = 0) := hif
            have hL2 : L.length < 200 := by omega
            obtain ⟨b, hb⟩ : ∃ b, s.extract i (i + m) = b := ⟨_, rfl⟩
            have HBx : Hid (s.extract i (i + m) = b) := hb
            have hbs : b.size = m := by rw [← hb]; simp; omega
            have hbd : b.data.toList = (s[i] :: s.data.toList.drop (i + 1)).take m := by
              rw [← hb, ba_extract, List.drop_take, drop_at s i hlt, show i + m - i = m by omega]
            obtain ⟨tb, htb⟩ : ∃ tb, (⟨t.toArray⟩ : ByteArray) = tb := ⟨_, rfl⟩
            have HTx : Hid ((⟨(textT K b.data.toList).toArray⟩ : ByteArray) = tb) := by show _ = _; rw [hbd, hfs.2.1]; exact htb
            have HK3 : Hid (K = 3 → 2 ≤ b.size) := by
              show K = 3 → 2 ≤ b.size
              rw [hbs]; exact hfs.2.2.1
            rw [htb] at hlk
            obtain ⟨g0, hg0⟩ := lx_skip (s.size - (i + m)) rfl hlk.1
            obtain ⟨j, hj⟩ : ∃ j, endW blankC s (i + m) = j := ⟨_, rfl⟩
            have hji : i + m ≤ j := by rw [← hj]; exact endW_ge _ _ _
            have hjs : j ≤ s.size := by rw [← hj]; exact endW_le hlk.2.1
            have HX2 : Hid (Lx s R j g0 (L ++ [⟨K, tb, i⟩]) ∧ ∀ h : j < s.size, blankC s[j] = false) := by
              show _ ∧ _
              subst hj
              exact ⟨hg0, fun h => endW_not _ rfl h⟩
            have HEn : Hid (endW blankC (s.extract (i + m) s.size) 0 = j - (i + m)) := by
              show _ = _
              have := endW_tail blankC s (i + m)
              omega
            have hm1 : 0 < m := hp.1
            have him : i + m ≤ s.size := hlk.2.1
            clear HX hbl hdr hnx hfs hlim hif hlk hp hbd hb htb hg0 hj
            go_wp2_with fail
            refine (first_any _ K m HF.out _ hexs (by simp; omega) HVo.out.1).mono ?_
            rintro _ w1 ⟨rfl, rfl⟩
            go_wp2_with fail
            refine (wrong_any K m L.length _).mono ?_
            rintro _ w2 ⟨rfl, rfl⟩
            rw [HIf.out]
            have hin : ((i : Int) + (m : Int)).toNat = i + m := by omega
            go_wp2_with fail
            rw [HBx.out]
            refine (ltext_any clone_ok rep_ok K b _ HK3.out (by omega) HVo.out.2).mono ?_
            rintro _ w3 ⟨rfl, hb3⟩
            rw [HTx.out]
            have HB3 : Hid (Below wq.heap.size wq w3) := HB.out.trans (hb3.mono hsw)
            have HO3 : Hid (w3.ownsRow wq.heap.size 113 3 (.slice a4 L.length c4) L.length (tc L)) := own_below HO.out hb3
            have hsw3 := HB3.out.size
            clear hb3 HB HO
            go_wp2_with (at_builtin; refine wpList_append_own _ rfl _ _ 86 rfl wq.heap.size 113 i0 (.agg #[.int .i64 0, .string ⟨#[]⟩, .int .i64 0]) 3 32 Tryz.underlying86 hi hz0 hz1 hz2 rfl (by decide) _ _ _ rfl (HO3.out.alloc _) ⟨w3.heap.size, 0, none⟩ 1 1 (tc [⟨K, tb, i⟩]) rfl rfl (news_tok w3 ⟨K, tb, i⟩ 113) (one_tok _) (by simp [maxLen]; omega) (by omega) (by simp; omega) ?_)
            intro v4 w4 ho4 hg4 _
            have HB4 : Hid (Below wq.heap.size wq w4) := (HB3.out.alloc hsw3 _).grown hg4 (by simp; omega) (fun g hg => (HO3.out.lt g hg).1)
            have HO4 : Hid (w4.ownsRow wq.heap.size 113 3 v4 (L ++ [(⟨K, tb, i⟩ : Tok)]).length (tc (L ++ [(⟨K, tb, i⟩ : Tok)]))) := own_eq ho4 (by simp) (by rw [tc_append])
            clear ho4 hg4 HB3 HO3
            go_wp2_with fail
            refine (blanks_any _ (j - (i + m)) HEn.out _ (by simp; omega)).mono ?_
            rintro _ w5 ⟨rfl, rfl⟩
            go_wp2
            go_roundw
            case rel => exact ⟨j, g0, L ++ [⟨K, tb, i⟩], hjs, by simp; omega, by go_num, HX2, HO4, HB4⟩
            case measure => simp [intOf]; omega
    · skip
      as_aux_lemma =>
        obtain rfl : i = s.size := by omega
        have hlt' : ¬ ((s.size : Int) < (s.size : Int)) := by omega
        have HF : Hid (R = .ok (L ++ [⟨5, ⟨#[]⟩, s.size⟩])) := lx_end HX.out.1
        clear HX
        go_wp2_with (at_builtin; refine wpList_append_own _ rfl _ _ 86 rfl wq.heap.size 113 i0 (.agg #[.int .i64 0, .string ⟨#[]⟩, .int .i64 0]) 3 32 Tryz.underlying86 hi hz0 hz1 hz2 rfl (by decide) _ _ _ rfl (HO.out.alloc _) ⟨wo.heap.size, 0, none⟩ 1 1 (tc [⟨5, ⟨#[]⟩, s.size⟩]) rfl rfl (news_tok wo ⟨5, ⟨#[]⟩, s.size⟩ 113) (one_tok _) (by simp [maxLen]; omega) (by omega) (by simp; omega) ?_)
        intro v3 w3 ho3 hg3 _
        have HB3 : Hid (Below wq.heap.size wq w3) := (HB.out.alloc hsw _).grown hg3 (by simp; omega) (fun g hg => (HO.out.lt g hg).1)
        have HO3 : Hid (w3.ownsRow wq.heap.size 113 3 v3 (L ++ [(⟨5, ⟨#[]⟩, s.size⟩ : Tok)]).length (tc (L ++ [(⟨5, ⟨#[]⟩, s.size⟩ : Tok)]))) := own_eq ho3 (by simp) (by rw [tc_append])
        clear ho3 hg3
        go_wp2
        go_ret2
        obtain ⟨a, c, e, hrow⟩ := rowT_of_own2 HO3.out (by simp; omega)
        subst e
        exact ⟨a, _, c, _, rfl, .inr ⟨_, HF.out, rfl, hrow, rfl⟩, HB3.out⟩
end Go.Proofs.YtmabfbffpedfnaaGreatDoor
namespace Go.Proofs.YtmabfbffpedfnaaGreatDoor
open Go.RowKit

/-- what lies in memory before the program -/
structure PAt (w : World) : Prop where
  va : VarsAt w
  vr : VrAt w
  lo : 12 ≤ w.heap.size
theorem PAt.below {w w' : World} (h : PAt w) (hb : Below w.heap.size w w') : PAt w' := ⟨h.va.below hb, h.vr.keep (fun k hk => hb.block k (by have := h.lo; omega)), by have := hb.size; have := h.lo; omega⟩
/-- what Parse tells -/
def ToldP (s : ByteArray) (w : World) (e : Ending) (w' : World) : Prop :=
  Below w.heap.size w w' ∧ ∃ sv E, e = .returned (.tuple #[.agg sv.cells, E]) ∧ ((∃ st, parseS s = some st ∧ E = .nilIface ∧ SVIs w.heap.size sv st w') ∨ (parseS s = none ∧ sv = svZ ∧ ∃ t v, E = .iface t v))
theorem results_cc {P : Program} {fn : Func} {p q : Tmp} {tp tq : TypeId} {v u : Value} (h : fn.results = #[.cell p tp, .cell q tq]) (tmps : Array Value) (w : World) (a b : Addr) (hp : tmps.getD p undef = .pointer (some a)) (hq : tmps.getD q undef = .pointer (some b)) (hl : (loadVar tp a).run P w = .ok v w) (hm : (loadVar tq b).run P w = .ok u w) :
    (results fn tmps).run P w = .ok (.tuple #[v, u]) w := by
  have hp' : tmps[p]?.getD undef = .pointer (some a) := by simpa [Array.getD_eq_getD_getElem?] using hp
  have hq' : tmps[q]?.getD undef = .pointer (some b) := by simpa [Array.getD_eq_getD_getElem?] using hq
  simp [results, h, hp', hq', asAddr, hl, hm]
theorem loadE {b : Nat} {v : Value} {w : World} (h : w.cell? ⟨b, 0, none⟩ = some v) : (loadVar 41 ⟨b, 0, none⟩).run Tryz.prog w = .ok v w := by simp [go_sem, h]
/-- an exit that is no panic -/
def NoP (Q : Exit → Act → World → Prop) : Exit → Act → World → Prop := fun e a w => (∀ c, e ≠ .panic c) ∧ Q e a w
set_option maxRecDepth 100000 in
set_option maxHeartbeats 8000000 in
theorem parse_any (s : ByteArray) (w : World) (hs : s.size ≤ 4000) (h : PAt w) : Calls Tryz.prog 18 #[.string s] w fun e w' => ToldP s w e w' := by
  have hmf : ∀ (fn : Fn) (first cap : Array Value) (w : World), (Instr.makeFunc fn first cap).run Tryz.prog w = .ok (.func fn first cap) w := fun _ _ _ _ => rfl
  obtain ⟨W, hW⟩ : ∃ W, (w.alloc (.cells #[.int .i64 0, .string ⟨#[]⟩, .string ⟨#[]⟩, .slice none 0 0, .string ⟨#[]⟩, .slice none 0 0, .slice none 0 0, .pointer none, .pointer none, .slice none 0 0, .pointer none, .slice none 0 0, .int .i64 0] 62)).alloc (.cells #[.nilIface] 41) = W := ⟨_, rfl⟩
  have hb : Below w.heap.size w W := by rw [← hW]; exact ((Below.refl _ _).alloc (Nat.le_refl _) _).alloc (by simp) _
  have hWs : W.heap.size = w.heap.size + 2 := by rw [← hW]; simp
  have hk0 : Blk w.heap.size svZ.cells 62 W := by rw [← hW]; exact (Blk.new _ _ _).below ((Below.refl _ _).alloc (Nat.le_refl _) _)
  have hk1 : Blk (w.heap.size + 1) #[.nilIface] 41 W := by
    have := Blk.new (w.alloc (.cells #[.int .i64 0, .string ⟨#[]⟩, .string ⟨#[]⟩, .slice none 0 0, .string ⟨#[]⟩, .slice none 0 0, .slice none 0 0, .pointer none, .pointer none, .slice none 0 0, .pointer none, .slice none 0 0, .int .i64 0] 62)) #[.nilIface] 41
    rw [hW, World.size_alloc] at this
    exact this
  have HW : Hid (PAt W ∧ Below w.heap.size w W ∧ Blk w.heap.size svZ.cells 62 W ∧ Blk (w.heap.size + 1) #[.nilIface] 41 W ∧ W.heap.size = w.heap.size + 2) := ⟨h.below hb, hb, hk0, hk1, hWs⟩
  have HW0 : Hid (PAt w) := h
  clear h hb hk0 hk1 hWs
  unfold ToldP
  go_enter_defers Tryz.func18, Tryz.ntmps18
  go_wp2_with fail
  refine (split_any s W hs HW.out.1.va).mono ?_
  rintro e w1 ⟨a, n, c, E, rfl, hcase, hb1⟩
  have hsz := hb1.size
  have hk1 : Blk (w.heap.size + 1) #[.nilIface] 41 w1 := HW.out.2.2.2.1.below hb1
  have z1 : w1.cell? ⟨w.heap.size + 1, 0, none⟩ = some .nilIface := by rw [hk1.cell 0]; rfl
  have f1 : w1.frozen? ⟨w.heap.size + 1, 0, none⟩ = false := hk1.free 0
  obtain ⟨V, hV⟩ : ∃ V, w1.setCell ⟨w.heap.size + 1, 0, none⟩ E = V := ⟨_, rfl⟩
  have hbV : Below w.heap.size w V := by rw [← hV]; exact (HW.out.2.1.trans (hb1.mono (by have := HW.out.2.2.2.2; omega))).setCell (Nat.le_succ _) _
  have hkV : Blk w.heap.size svZ.cells 62 V := by rw [← hV]; exact (HW.out.2.2.1.below hb1).other (by omega) 0 _
  have hkE : Blk (w.heap.size + 1) #[E] 41 V := by rw [← hV]; exact hk1.set 0 E
  have y1 : V.cell? ⟨w.heap.size + 1, 0, none⟩ = some E := by rw [hkE.cell 0]; rfl
  have g1 : V.frozen? ⟨w.heap.size + 1, 0, none⟩ = false := hkE.free 0
  have hVs : V.heap.size = w1.heap.size := by rw [← hV]; simp [World.setCell]
  have hVb : ∀ k, k ≠ w.heap.size + 1 → V.heap[k]? = w1.heap[k]? := fun k hk => by rw [← hV]; exact Below.heap_setCell _ ⟨w.heap.size + 1, 0, none⟩ _ k (fun e => hk (by simpa using e))
  rcases hcase with ⟨ke, pe, hlex, rfl, ty, ve, rfl⟩ | ⟨L, hlex, rfl, ⟨hcap, hrow⟩, rfl⟩
  · have HN : Hid (parseS s = none) := by show _ = _; unfold parseS; rw [hlex]
    have HV : Hid (Below w.heap.size w V ∧ Blk w.heap.size svZ.cells 62 V ∧ Blk (w.heap.size + 1) #[.iface ty ve] 41 V) := ⟨hbV, hkV, hkE⟩
    clear hlex hb1 hbV hkV hkE hVs hVb hsz hk1
    go_wp2_with fail
    have HV : Hid (Below w.heap.size w V.drew ∧ Blk w.heap.size svZ.cells 62 V.drew ∧ Blk (w.heap.size + 1) #[.iface ty ve] 41 V.drew) := ⟨HV.out.1.drew, HV.out.2.1, HV.out.2.2⟩
    refine Code.wp_mono (Q := NoP _) (fun _ _ _ h => h.2) ?_
    refine wp_region_held_drew (S := fun w' => w'.cell? ⟨w.heap.size + 1, 0, none⟩ = some (.iface ty ve)) (by kernel_rfl) (by rw [HV.out.2.2.cell 0]; rfl) (fun hHeld => ?_)
    refine wpAnyH_take (i := 0) (oi := { dst := some 12, op := Op.build 62 #[], type := 62, pos := "parse.go:17", after := #[], guard := none }) (v := .agg svZ.cells) rfl (by kernel_rfl) (by kernel_rfl) (by kernel_rfl) (fun c _ _ h => absurd rfl (h.1 c)) (Or.inl ⟨by rfl, fun w' hSw => ?_⟩) hHeld ?_
    · go_simp
      rfl
    simp only [Act.put, List.setIfInBounds_toArray, List.set_cons_zero, List.set_cons_succ]
    refine wpAnyH_take (i := 1) (oi := { dst := some 13, op := Op.load 41 (Operand.tmp 3), type := 41, pos := "parse.go:17", after := #[], guard := none }) (v := .iface ty ve) rfl (by kernel_rfl) (by kernel_rfl) (by kernel_rfl) (fun c _ _ h => absurd rfl (h.1 c)) (Or.inl ⟨by rfl, fun w' hSw => ?_⟩) hHeld ?_
    · (try dsimp only at hSw)
      go_simp
    simp only [Act.put, List.setIfInBounds_toArray, List.set_cons_zero, List.set_cons_succ]
    refine wpAnyH_ready (rs := [2]) (by kernel_rfl) (by simp) ?_
    refine AllReadyH.cons (o := { dst := none, op := Op.store 62 (Operand.tmp 2) (Operand.tmp 12), type := 0, pos := "parse.go:17", after := #[{ on := 0, ground := Ground.data }, { on := 0, ground := Ground.phase }, { on := 1, ground := Ground.textOnly Departure.lateStoresUnsure }], guard := none }) rfl (fun K hK => ?_) AllReadyH.nil
    clear hHeld
    rw [if_pos (by rfl)]
    obtain ⟨X, hX⟩ : ∃ X, V.drew.setCells w.heap.size 0 svZ.cells.toList = X := ⟨_, rfl⟩
    have hkX : Blk (w.heap.size + 1) #[.iface ty ve] 41 X := by rw [← hX]; exact Blk.othersN _ 0 HV.out.2.2 (by omega)
    have x1 : X.cell? ⟨w.heap.size + 1, 0, none⟩ = some (.iface ty ve) := by rw [hkX.cell 0]; rfl
    have q1 : X.frozen? ⟨w.heap.size + 1, 0, none⟩ = false := hkX.free 0
    have HX : Hid (Blk w.heap.size svZ.cells 62 X ∧ Below w.heap.size w X ∧ Blk (w.heap.size + 1) #[.iface ty ve] 41 X) := by rw [← hX]; exact ⟨HV.out.2.1.stored, below_sets _ 0 HV.out.1 (Nat.le_refl _), by rw [hX]; exact hkX⟩
    refine wp_store_mid 62 _ _ rfl w.heap.size 0 svZ.cells rfl rfl (HV.out.2.1.there rfl) (s30 _) svZ_rows.one ?_
    rw [hX]
    refine hK.out _ _ x1 (fun hHeld => ?_)
    clear hK K hkX
    refine wpAnyH_ready (rs := [3]) (by kernel_rfl) (by simp) ?_
    refine AllReadyH.cons (o := { dst := none, op := Op.store 41 (Operand.tmp 3) (Operand.tmp 13), type := 0, pos := "parse.go:17", after := #[{ on := 1, ground := Ground.data }, { on := 2, ground := Ground.chain }, { on := 0, ground := Ground.phase }, { on := 1, ground := Ground.phase }, { on := 2, ground := Ground.phase }], guard := none }) rfl (fun K hK => ?_) AllReadyH.nil
    clear hHeld
    go_simp
    refine hK.out _ _ (World.cell?_setCell_same _ _ _ x1) (fun hHeld => ?_)
    clear hK K
    refine wpAnyH_done (by kernel_rfl) ⟨fun c h => Exit.noConfusion h, ?_⟩ _
    go_wp2
    show ∃ v, _ ∧ _
    refine ⟨.tuple #[.agg svZ.cells, .iface ty ve], results_cc Tryz.results18 _ _ ⟨w.heap.size, 0, none⟩ ⟨w.heap.size + 1, 0, none⟩ rfl rfl (load30 (HX.out.1.other (by omega) 0 _)) (loadE (World.cell?_setCell_same _ _ _ x1)), HX.out.2.1.setCell (Nat.le_succ _) _, svZ, _, rfl, .inr ⟨HN.out, rfl, ty, ve, rfl⟩⟩
  · have HP : Hid (parseS s = readF (L.map Tok.kt) ∧ OkT (L.map Tok.kt) ∧ L.length ≤ c) := ⟨by unfold parseS; rw [hlex], lexS_ok hlex hs, hcap⟩
    have HR : Hid (RowK V.heap.size V a L ∧ PAt V) := by
      refine ⟨?_, HW0.out.below hbV⟩
      rcases hrow.2 with h0 | ⟨b, off, e, hlt, hcells⟩
      · exact .inl h0
      · refine (Nat.eq_zero_or_pos L.length).elim (fun h0 => .inl (List.length_eq_zero_iff.1 h0)) fun hL => .inr ⟨b, off, e, by rw [hVs]; exact hlt, fun j hj => ?_⟩
        have hne : b ≠ w.heap.size + 1 := by
          intro e2
          have h0 := (hcells 0 hL).1
          rw [e2, hk1.cell] at h0
          rcases Nat.eq_zero_or_pos (off + 0 * 3) with h3 | h3
          · rw [h3] at h0; cases h0
          · rw [Array.getElem?_eq_none (by simp only [List.size_toArray, List.length_cons, List.length_nil]; omega)] at h0; cases h0
        obtain ⟨h1, h2, h3⟩ := hcells j hj
        exact ⟨(World.cell?_of_block (w := w1) (a := ⟨b, _, none⟩) (hVb b hne)).trans h1, (World.cell?_of_block (w := w1) (a := ⟨b, _, none⟩) (hVb b hne)).trans h2, (World.cell?_of_block (w := w1) (a := ⟨b, _, none⟩) (hVb b hne)).trans h3⟩
    have HV : Hid (Below w.heap.size w V ∧ Blk w.heap.size svZ.cells 62 V ∧ Blk (w.heap.size + 1) #[.nilIface] 41 V) := ⟨hbV, hkV, hkE⟩
    have HVs : Hid (w.heap.size + 2 ≤ V.heap.size) := by show _ ≤ _; have := HW.out.2.2.2.2; omega
    clear hlex hb1 hbV hkV hkE hVs hVb hsz hk1 hrow hcap
    go_wp2_with fail
    refine (read_any (Ef_of pint_ok) L a c V HR.out.1 HP.out.2.2 HP.out.2.1 HR.out.2.vr HR.out.2.lo).mono ?_
    rintro _ w2 ⟨hb2, ⟨st, sv, hn, rfl, hv⟩ | ⟨hn, n1, m1, rfl⟩⟩
    · have HQ : Hid (parseS s = some st ∧ SVIs V.heap.size sv st w2) := ⟨by rw [HP.out.1]; exact hn, hv⟩
      have hk2 := HV.out.2.2.below hb2
      have HK2 : Hid (Blk w.heap.size svZ.cells 62 w2 ∧ Below w.heap.size w w2) := ⟨HV.out.2.1.below hb2, HV.out.1.trans (hb2.mono HV.out.1.size)⟩
      obtain ⟨X, hX⟩ : ∃ X, w2.setCells w.heap.size 0 sv.cells.toList = X := ⟨_, rfl⟩
      have hkX : Blk (w.heap.size + 1) #[.nilIface] 41 X := by rw [← hX]; exact Blk.othersN _ 0 hk2 (by omega)
      have x1 : X.cell? ⟨w.heap.size + 1, 0, none⟩ = some .nilIface := by rw [hkX.cell 0]; rfl
      have q1 : X.frozen? ⟨w.heap.size + 1, 0, none⟩ = false := hkX.free 0
      have HX : Hid (Blk w.heap.size sv.cells 62 X ∧ Below w.heap.size w X ∧ SVIs V.heap.size sv st X ∧ Blk (w.heap.size + 1) #[.nilIface] 41 X) := by rw [← hX]; exact ⟨HK2.out.1.stored, below_sets _ 0 HK2.out.2 (Nat.le_refl _), HQ.out.2.st (by have := HVs.out; omega) (fr_sets _ 0 HK2.out.1), by rw [hX]; exact hkX⟩
      clear hb2 hn hv hk2 hkX
      go_wp2_with (refine wpList_store_mid rfl 62 _ _ rfl _ 0 sv.cells rfl rfl (HK2.out.1.there rfl) (s30 _) HQ.out.2.rowsOk.one ?_; rw [hX])
      refine leaves_cons (f := 37) (args := #[.pointer (some ⟨w.heap.size, 0, none⟩), .pointer (some ⟨w.heap.size + 1, 0, none⟩)]) (by simp) (by simp [go_sem]) ?_
      refine (catch_idle ⟨w.heap.size, 0, none⟩ ⟨w.heap.size + 1, 0, none⟩ _).mono ?_
      rintro e u' w'' ⟨rfl, rfl, rfl⟩
      show ∃ v, _ ∧ _
      refine ⟨.tuple #[.agg sv.cells, .nilIface], results_cc Tryz.results18 _ _ ⟨w.heap.size, 0, none⟩ ⟨w.heap.size + 1, 0, none⟩ rfl rfl ?_ ?_, HX.out.2.1.setCell (Nat.le_succ _) _, sv, .nilIface, rfl, .inl ⟨st, HQ.out.1, rfl, ?_⟩⟩
      · exact load30 (HX.out.1.other (by omega) 0 _)
      · exact loadE (World.cell?_setCell_same _ _ _ x1)
      · exact (HX.out.2.2.1.grown (A := w.heap.size + 1) (by have := HVs.out; omega) (grownA_set _ _ _ _)).low (by have := HVs.out; omega)
    · have HN : Hid (parseS s = none) := by show _ = _; rw [HP.out.1]; exact hn
      have HK2 : Hid (Blk w.heap.size svZ.cells 62 w2 ∧ Blk (w.heap.size + 1) #[.nilIface] 41 w2 ∧ Below w.heap.size w w2) := ⟨HV.out.2.1.below hb2, HV.out.2.2.below hb2, HV.out.1.trans (hb2.mono HV.out.1.size)⟩
      clear hb2 hn
      go_wp2
      refine leaves_cons (f := 37) (args := #[.pointer (some ⟨w.heap.size, 0, none⟩), .pointer (some ⟨w.heap.size + 1, 0, none⟩)]) (by simp) (by simp [go_sem]) ?_
      refine (catch_thrown w.heap.size n1 m1 w2 HK2.out.1 HK2.out.2.1).mono ?_
      rintro e u' w3 ⟨rfl, rfl, c0, ⟨ty, ve, c1⟩, hb3⟩
      show ∃ v, _ ∧ _
      refine ⟨.tuple #[.agg svZ.cells, .iface ty ve], results_cc Tryz.results18 _ _ ⟨w.heap.size, 0, none⟩ ⟨w.heap.size + 1, 0, none⟩ rfl rfl (load30 c0) (loadE c1), HK2.out.2.2.trans hb3, svZ, _, rfl, .inr ⟨HN.out, rfl, ty, ve, rfl⟩⟩
end Go.Proofs.YtmabfbffpedfnaaGreatDoor
namespace Go.Proofs.YtmabfbffpedfnaaGreatDoor
open Go.RowKit

theorem stm_ok {l : List KT} (h : OkT l) {x : Stm × List KT} (he : stmF l = some x) : OkT x.2 := by
  rw [stmF] at he
  split at he
  · rename_i k; cases he; exact h.seen k
  split at he
  · rename_i k; cases he; exact h.seen k
  split at he
  · rename_i k; cases he; exact h.seen k
  split at he
  · rename_i k
    have h0 := h.seen k
    rw [createF] at he
    split at he
    · rename_i ki
      obtain ⟨l1, h1, he⟩ := Option.bind_eq_some_iff.1 he
      obtain ⟨y2, h2, he⟩ := Option.bind_eq_some_iff.1 he
      obtain ⟨y3, h3, he⟩ := Option.map_eq_some_iff.1 he
      cases he
      exact (inside_reads name_reads _ (name_reads _ (need_reads (h0.seen ki) h1).1 _ h2).1 _ h3).1
    · obtain ⟨l1, h1, he⟩ := Option.bind_eq_some_iff.1 he
      obtain ⟨y2, h2, he⟩ := Option.bind_eq_some_iff.1 he
      obtain ⟨y3, h3, he⟩ := Option.map_eq_some_iff.1 he
      cases he
      exact (inside_reads (listF_reads colmF_reads) _ (name_reads _ (need_reads h0 h1).1 _ h2).1 _ h3).1
  split at he
  · rename_i k
    obtain ⟨l1, h1, he⟩ := Option.bind_eq_some_iff.1 he
    obtain ⟨y2, h2, he⟩ := Option.map_eq_some_iff.1 he
    cases he
    exact (name_reads _ (need_reads (h.seen k) h1).1 _ h2).1
  split at he
  · rename_i k
    obtain ⟨l1, h1, he⟩ := Option.bind_eq_some_iff.1 he
    obtain ⟨y2, h2, he⟩ := Option.bind_eq_some_iff.1 he
    obtain ⟨l3, h3, he⟩ := Option.bind_eq_some_iff.1 he
    obtain ⟨y4, h4, he⟩ := Option.map_eq_some_iff.1 he
    cases he
    exact (listF_reads rowF_reads _ (need_reads (name_reads _ (need_reads (h.seen k) h1).1 _ h2).1 h3).1 _ h4).1
  split at he
  · rename_i k
    obtain ⟨l1, h1, he⟩ := Option.bind_eq_some_iff.1 he
    obtain ⟨y2, h2, he⟩ := Option.bind_eq_some_iff.1 he
    obtain ⟨y4, h4, he⟩ := Option.map_eq_some_iff.1 he
    cases he
    exact (whereF_reads _ _ (name_reads _ (need_reads (h.seen k) h1).1 _ h2).1 _ h4).1
  split at he
  · rename_i k
    obtain ⟨y1, h1, he⟩ := Option.bind_eq_some_iff.1 he
    obtain ⟨l2, h2, he⟩ := Option.bind_eq_some_iff.1 he
    obtain ⟨y3, h3, he⟩ := Option.bind_eq_some_iff.1 he
    obtain ⟨y4, h4, he⟩ := Option.map_eq_some_iff.1 he
    cases he
    exact (whereF_reads _ _ (listF_reads setF_reads _ (need_reads (name_reads _ (h.seen k) _ h1).1 h2).1 _ h3).1 _ h4).1
  · obtain ⟨l0, h0, he⟩ := Option.bind_eq_some_iff.1 he
    obtain ⟨y1, h1, he⟩ := Option.bind_eq_some_iff.1 he
    obtain ⟨y2, h2, he⟩ := Option.bind_eq_some_iff.1 he
    obtain ⟨y3, h3, he⟩ := Option.bind_eq_some_iff.1 he
    obtain ⟨y4, h4, he⟩ := Option.bind_eq_some_iff.1 he
    obtain ⟨y5, h5, he⟩ := Option.bind_eq_some_iff.1 he
    obtain ⟨y6, h6, he⟩ := Option.bind_eq_some_iff.1 he
    obtain ⟨y7, h7, he⟩ := Option.map_eq_some_iff.1 he
    cases he
    have o0 := (need_reads h h0).1
    have o1 : OkT y1.2 := by
      rw [selItems] at h1
      split at h1
      · rename_i k; cases h1; exact o0.seen k
      · exact (listF_reads itemF_reads _ o0 _ h1).1
    obtain ⟨lf, hf, h2⟩ := Option.bind_eq_some_iff.1 h2
    have o2 := (name_reads _ (need_reads o1 hf).1 _ h2).1
    have o3 : OkT y3.2 := by
      rw [selJoin] at h3
      split at h3
      · rename_i k
        obtain ⟨a, b, h3⟩ := Option.bind_eq_some_iff.1 h3
        obtain ⟨c, d, h3⟩ := Option.bind_eq_some_iff.1 h3
        obtain ⟨e, f, h3⟩ := Option.map_eq_some_iff.1 h3
        cases h3
        exact (Ef_reads _ (need_reads (name_reads _ (o2.seen k) _ b).1 d).1 _ f).1
      · cases h3; exact o2
    have o4 := (whereF_reads _ _ o3 _ h4).1
    have o5 : OkT y5.2 := by
      rw [selGroup] at h5
      split at h5
      · rename_i k
        obtain ⟨a, b, h5⟩ := Option.bind_eq_some_iff.1 h5
        exact (Ef_reads _ (need_reads (o4.seen k) b).1 _ h5).1
      · cases h5; exact o4
    have o6 : OkT y6.2 := by
      rw [selOrder] at h6
      split at h6
      · rename_i k
        obtain ⟨a, b, h6⟩ := Option.bind_eq_some_iff.1 h6
        exact (listF_reads rankF_reads _ (need_reads (o5.seen k) b).1 _ h6).1
      · cases h6; exact o5
    rw [selLimit] at h7
    split at h7
    · rename_i k
      rw [limitF] at h7
      split at h7
      · rename_i hk; cases h7; exact (o6.seen k).adv (by rw [hk.1]; decide)
      · cases h7
    · cases h7; exact o6
theorem next_src {l : List UInt8} {k : Int} {t : List UInt8} {m : Nat} (h : nextT l = some (k, t, m)) : (k = 1 → wordB ⟨t.toArray⟩) ∧ wr1 (k, ⟨t.toArray⟩) ≤ m := by
  cases l with
  | nil => cases h
  | cons c l =>
    rw [nextT] at h
    split at h
    · rename_i hc
      cases h
      have hw : ∀ d ∈ l.takeWhile wordC, wordC d = true := by
        have := List.all_takeWhile (p := wordC) (l := l)
        rw [List.all_eq_true] at this
        exact this
      have hcw : wordC c = true := by rw [wordC, hc]; rfl
      refine ⟨fun _ => ⟨low c, (l.takeWhile wordC).map low, rfl, ((byte_at c).2.2.1 hc).1, ?_, ?_⟩, ?_⟩
      · intro d hd
        obtain ⟨e, he, rfl⟩ := List.mem_map.1 hd
        exact ((byte_at e).2.1 (hw e he)).2.1
      · unfold smallL
        rw [List.map_cons, ((byte_at c).2.1 hcw).2.2.2.1, List.map_map]
        congr 1
        exact List.map_congr_left fun d hd => ((byte_at d).2.1 (hw d hd)).2.2.2.1
      · show ByteArray.size _ ≤ _
        rw [← ba_len]
        simp [smallL]
    · split at h
      · cases h
        refine ⟨fun e => absurd e (by decide), ?_⟩
        show ByteArray.size _ ≤ _
        rw [← ba_len]; simp
      · split at h
        · rw [Option.map_eq_some_iff] at h
          obtain ⟨x, hx, e⟩ := h
          cases e
          refine ⟨fun e => absurd e (by decide), ?_⟩
          show (esc x.1).length + 2 ≤ x.2 + 1
          have key : ∀ l x, strL l = some x → (esc x.1).length + 1 ≤ x.2 := by
            intro l
            induction l using strL.induct with
            | case1 => intro x h; cases h
            | case2 c h => intro x hx; rw [strL, if_pos h] at hx; cases hx; decide
            | case3 c h => intro x hx; rw [strL, if_neg h] at hx; cases hx
            | case4 c d r h1 h2 ih =>
              intro x hx
              rw [strL, if_pos h1, if_pos h2, Option.map_eq_some_iff] at hx
              obtain ⟨y, hy, rfl⟩ := hx
              have := ih y hy
              rw [esc, if_pos h2]
              simp only [List.length_cons]
              omega
            | case5 c d r h1 h2 => intro x hx; rw [strL, if_pos h1, if_neg h2] at hx; cases hx; decide
            | case6 c d r h1 ih =>
              intro x hx
              rw [strL, if_neg h1, Option.map_eq_some_iff] at hx
              obtain ⟨y, hy, rfl⟩ := hx
              have := ih y hy
              rw [esc, if_neg h1]
              simp only [List.length_cons]
              omega
          have := key l x hx
          omega
        · split at h
          · have e := Option.some.inj h
            cases l with
            | nil => rw [markT] at e; cases e; exact ⟨fun e => absurd e (by decide), Nat.le_refl _⟩
            | cons d r =>
              rw [markT] at e
              split at e
              · cases e; exact ⟨fun e => absurd e (by decide), Nat.le_refl _⟩
              · cases e; exact ⟨fun e => absurd e (by decide), Nat.le_refl _⟩
          · cases h
theorem lex_src (f : Nat) : ∀ i n l L, lexL f i n l = .ok L → (∀ x ∈ L, x.k = 1 → wordB x.t) ∧ wt wr1 (L.map Tok.kt) ≤ l.length := by
  induction f with
  | zero => intro i n l L h; cases h; exact ⟨fun x hx e => by rw [List.mem_singleton] at hx; subst hx; exact absurd e (by show ¬ (5 : Int) = 1; decide), Nat.zero_le _⟩
  | succ f ih =>
    intro i n l L h
    cases l with
    | nil => cases h; exact ⟨fun x hx e => by rw [List.mem_singleton] at hx; subst hx; exact absurd e (by show ¬ (5 : Int) = 1; decide), Nat.zero_le _⟩
    | cons c l =>
      rw [lexL] at h
      split at h
      · have := ih _ _ _ _ h
        exact ⟨this.1, by rw [List.length_cons]; omega⟩
      · split at h
        · cases h
        · rename_i k t m hm
          have hp := nextT_pos hm
          have hn := next_src hm
          split at h
          · cases h
          · cases ho : lexL f (i + m) (n + 1) ((c :: l).drop m) with
            | error e => rw [ho] at h; cases h
            | ok M =>
              rw [ho] at h
              have e : L = ⟨k, ⟨t.toArray⟩, i⟩ :: M := by
                have : Except.ok (ε := Int × Nat) (⟨k, ⟨t.toArray⟩, i⟩ :: M) = .ok L := h
                exact (Except.ok.inj this).symm
              have hi := ih _ _ _ _ ho
              subst e
              refine ⟨fun x hx => ?_, ?_⟩
              · rcases List.mem_cons.1 hx with rfl | hx
                · exact hn.1
                · exact hi.1 x hx
              · rw [List.map_cons, wt_cons]
                have h2 := hi.2
                rw [List.length_drop] at h2
                have h3 : wr1 (Tok.kt ⟨k, ⟨t.toArray⟩, i⟩) ≤ m := hn.2
                omega
theorem mu_one : MuOk (fun _ => 1) := ⟨fun _ => rfl, fun _ _ _ _ => Nat.le_refl _⟩
theorem wt_one (l : List KT) : wt (fun _ => 1) l = l.length := by
  induction l with
  | nil => rfl
  | cons x l ih => rw [wt_cons, ih, List.length_cons]; omega
/-- what is read is a statement of these tokens -/
theorem parse_stt {s : ByteArray} {x : Stm} (hs : s.size ≤ 1000) (h : parseS s = some x) : ∃ ts, StT x ts ∧ ts.length ≤ 200 := by
  rw [parseS] at h
  split at h
  · rename_i L hL
    have hlen : s.data.toList.length ≤ 4000 := by rw [ba_len]; omega
    obtain ⟨C, p, e1, h1, h2⟩ := lexL_ok _ _ _ _ _ hL (by decide) hlen
    obtain ⟨w1, w2⟩ := lex_src _ _ _ _ _ hL
    rw [ba_len] at w2
    have hok : OkT (L.map Tok.kt) := by
      refine ⟨⟨C.map Tok.kt, by rw [e1, List.map_append]; rfl, ?_⟩, ?_⟩
      · intro y hy
        obtain ⟨z, hz, rfl⟩ := List.mem_map.1 hy
        exact h1 z hz
      · rw [e1]; simp only [List.map_append, List.length_append, List.length_map, List.length_cons, List.length_nil]; omega
    have hsrc : Src (L.map Tok.kt) := by
      intro y hy
      obtain ⟨z, hz, rfl⟩ := List.mem_map.1 hy
      refine ⟨w1 z hz, fun hk => ?_⟩
      rw [e1, List.mem_append] at hz
      rcases hz with hz | hz
      · exact (h1 z hz).2.2 hk
      · rw [List.mem_singleton] at hz; subst hz; exact absurd hk (by show ¬ (5 : Int) = 2; decide)
    rw [readF] at h
    obtain ⟨⟨y, l'⟩, hy, h⟩ := Option.bind_eq_some_iff.1 h
    have hx : y = x := by
      split at h
      · exact Option.some.inj h
      · cases h
    subst hx
    obtain ⟨_, ts, ht, hw⟩ := rdp_stm _ hsrc _ _ hy
    have hl' : 1 ≤ l'.length := by
      have := (stm_ok hok hy).cons
      have h3 : l' = hdT l' :: l'.tail := this
      rw [h3]; simp
    have c1 := hw _ mu_one
    rw [wt_one, wt_one, wt_one, e1] at c1
    simp only [List.map_append, List.length_append, List.length_map, List.length_cons, List.length_nil] at c1
    exact ⟨ts, ht, by omega⟩
  · cases h
end Go.Proofs.YtmabfbffpedfnaaGreatDoor
namespace Go.Proofs.YtmabfbffpedfnaaGreatDoor
open Go.RowKit

theorem Ls.len {α : Type} {P : α → List KT → Prop} {L : List α} {ts : List KT} (h : Ls P L ts) : L.length ≤ ts.length + 1 ∧ ∀ a ∈ L, ∃ us, P a us ∧ us.length ≤ ts.length := by
  induction h with
  | one h => exact ⟨by simp, fun a ha => by rw [List.mem_singleton] at ha; subst ha; exact ⟨_, h, Nat.le_refl _⟩⟩
  | more _ h ih =>
    refine ⟨by have := ih.1; simp only [List.length_append, List.length_cons, List.length_nil]; omega, fun a ha => ?_⟩
    rw [List.mem_append, List.mem_singleton] at ha
    rcases ha with ha | rfl
    · obtain ⟨us, h1, h2⟩ := ih.2 a ha
      exact ⟨us, h1, by rw [List.length_append]; omega⟩
    · exact ⟨_, h, by rw [List.length_append, List.length_cons]; omega⟩
theorem BhT.tree {w : List KT} {x : Ex} {ts : List KT} (h : BhT w x ts) : TreeOk x := by
  cases h with
  | no => exact trivial
  | yes h => exact h.tree
theorem ofS_ok (k : Int) (a : ByteArray) : StOk (ofS k a) := ⟨fun L h => (List.not_mem_nil h).elim, fun L h => (List.not_mem_nil h).elim, fun L h => (List.not_mem_nil h).elim, fun L h => (List.not_mem_nil h).elim, trivial, trivial, trivial, (by show (-1 : Int) ≤ _; decide), Nat.zero_le _, Nat.zero_le _, Nat.zero_le _, Nat.zero_le _, Nat.zero_le _⟩
theorem StT.ok {x : Stm} {ts : List KT} (h : StT x ts) (hl : ts.length ≤ 200) : StOk x ∧ 1 ≤ x.kind ∧ x.kind ≤ 10 := by
  cases h with
  | begin => exact ⟨ofS_ok _ _, by decide, by decide⟩
  | commit => exact ⟨ofS_ok _ _, by decide, by decide⟩
  | rollback => exact ⟨ofS_ok _ _, by decide, by decide⟩
  | @index a b _ _ => exact ⟨{ ofS_ok 2 a with }, by show (1 : Int) ≤ 2; decide, by show (2 : Int) ≤ 10; decide⟩
  | drop _ => exact ⟨ofS_ok _ _, by show (1 : Int) ≤ 3; decide, by show (3 : Int) ≤ 10; decide⟩
  | @create a L us _ hL =>
    have := hL.len.1
    simp only [List.length_cons, List.length_append, List.length_nil] at hl
    exact ⟨{ ofS_ok 1 a with n1 := by show L.length ≤ _; omega }, by show (1 : Int) ≤ 1; decide, by show (1 : Int) ≤ 10; decide⟩
  | @insert a L us _ hL =>
    have h1 := hL.len
    simp only [List.length_cons] at hl
    refine ⟨{ ofS_ok 4 a with n2 := by show L.length ≤ _; have := h1.1; omega, rows := fun M hM => ?_ }, by show (1 : Int) ≤ 4; decide, by show (4 : Int) ≤ 10; decide⟩
    obtain ⟨vs, ⟨us2, h2, rfl⟩, h3⟩ := h1.2 M hM
    have h4 := h2.len
    simp only [List.length_cons, List.length_append, List.length_nil] at h3
    refine ⟨fun e he => ?_, by have := h4.1; omega⟩
    obtain ⟨ws, h5, _⟩ := h4.2 e he
    exact h5.tree
  | @delete a x us _ hx => exact ⟨{ ofS_ok 5 a with wh := hx.tree }, by show (1 : Int) ≤ 5; decide, by show (5 : Int) ≤ 10; decide⟩
  | @update a L x us vs _ hL hx =>
    have h1 := hL.len
    simp only [List.length_cons, List.length_append] at hl
    refine ⟨{ ofS_ok 6 a with wh := hx.tree, n3 := by show L.length ≤ _; have := h1.1; omega, sets := fun e he => ?_ }, by show (1 : Int) ≤ 6; decide, by show (6 : Int) ≤ 10; decide⟩
    obtain ⟨ws, h5, _⟩ := h1.2 e he
    cases h5 with
    | mk _ k => exact ⟨none_ok, k.tree, trivial⟩
  | @select I a b on wh gr O n t1 t2 t3 t4 t5 t6 h1 _ h2 h3 h4 h5 h6 =>
    simp only [List.length_cons, List.length_append] at hl
    have hI : I.length ≤ t1.length + 1 ∧ ∀ e ∈ I, TreeOk e.2 := by
      cases h1 with
      | star => exact ⟨by simp, fun e he => (List.not_mem_nil he).elim⟩
      | list h =>
        refine ⟨h.len.1, fun e he => ?_⟩
        obtain ⟨ws, h5, _⟩ := h.len.2 e he
        cases h5 with
        | plain k => exact k.tree
        | star => exact trivial
        | agg _ k => exact k.tree
    have hO : O.length ≤ t5.length + 1 ∧ ∀ e ∈ O, TreeOk e.1 := by
      cases h5 with
      | no => exact ⟨by simp, fun e he => (List.not_mem_nil he).elim⟩
      | yes h =>
        refine ⟨by have := h.len.1; simp only [List.length_cons]; omega, fun e he => ?_⟩
        obtain ⟨ws, h5, _⟩ := h.len.2 e he
        cases h5 with
        | rank => exact trivial
        | expr k => exact k.tree
    have hon : TreeOk on := by
      cases h2 with
      | no => exact trivial
      | yes _ k => exact k.tree
    have hn : n ≤ 9223372036854775807 := by
      cases h6 with
      | no => decide
      | yes _ k => omega
    exact ⟨⟨fun L h => (List.not_mem_nil h).elim, fun L h => (List.not_mem_nil h).elim, hI.2, hO.2, hon, h3.tree, h4.tree, hn, Nat.zero_le _, Nat.zero_le _, Nat.zero_le _, by show I.length ≤ _; have := hI.1; omega, by show O.length ≤ _; have := hO.1; omega⟩, by show (1 : Int) ≤ 7; decide, by show (7 : Int) ≤ 10; decide⟩
structure Wrt (x : Stm) : Prop where
  ok : StOk x
  k1 : 1 ≤ x.kind
  k10 : x.kind ≤ 10
  ne : stT x ≠ []
  len : (stT x).length ≤ 1400
  again : parseS ⟨(stT x).toArray⟩ = some x
end Go.Proofs.YtmabfbffpedfnaaGreatDoor
