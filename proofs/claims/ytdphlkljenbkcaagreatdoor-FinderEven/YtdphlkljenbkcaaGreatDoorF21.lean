/- Texts of the proof of FinderEven: Fl1, Fsw, Fl2. -/
import Derived.Test.YtdphlkljenbkcaaGreatDoorF20
namespace Go.Proofs.YtdphlkljenbkcaaGreatDoor
open Go.RowKit Go.Maps

structure Bks (f1 f2 f3 f4 f5 g1 g2 g3 g4 g5 s0 s2 s3 : Nat) : Prop where
  lo : 3 ≤ s0
  fl : s0 ≤ f1 ∧ s0 ≤ f2 ∧ s0 ≤ f3 ∧ s0 ≤ f4 ∧ s0 ≤ f5
  fh : f1 < s2 ∧ f2 < s2 ∧ f3 < s2 ∧ f4 < s2 ∧ f5 < s2
  gl : s2 ≤ g1 ∧ s2 ≤ g2 ∧ s2 ≤ g3 ∧ s2 ≤ g4 ∧ s2 ≤ g5
  gh : g1 < s3 ∧ g2 < s3 ∧ g3 < s3 ∧ g4 < s3 ∧ g5 < s3
structure Fg (f1 f2 f3 f4 f5 g1 g2 g3 g4 g5 Nf Zf Ng Zg : Nat) (Rf Rg : List Nt) (w0 w : World) : Prop where
  f : PrS f1 f2 f3 f4 f5 Nf Zf (InF Rf) w
  g : PrS g1 g2 g3 g4 g5 Ng Zg (InF Rg) w
  b : Below w0.heap.size w0 w
section
variable {f1 f2 f3 f4 f5 g1 g2 g3 g4 g5 Nf Zf Ng Zg s2 s3 : Nat} {Rf Rg R' : List Nt} {w0 w w' : World} {N' Z' : Nat}
theorem Fg.below (h : Fg f1 f2 f3 f4 f5 g1 g2 g3 g4 g5 Nf Zf Ng Zg Rf Rg w0 w) (hb : Below w.heap.size w w') : Fg f1 f2 f3 f4 f5 g1 g2 g3 g4 g5 Nf Zf Ng Zg Rf Rg w0 w' :=
  ⟨h.f.below hb, h.g.below hb, h.b.trans (hb.mono h.b.size)⟩
theorem Fg.above (h : Fg f1 f2 f3 f4 f5 g1 g2 g3 g4 g5 Nf Zf Ng Zg Rf Rg w0 w) (hB : Bks f1 f2 f3 f4 f5 g1 g2 g3 g4 g5 w0.heap.size s2 s3) (ho : Only (fun b => s3 ≤ b) w w') : Fg f1 f2 f3 f4 f5 g1 g2 g3 g4 g5 Nf Zf Ng Zg Rf Rg w0 w' := by
  obtain ⟨l0, ⟨a1, a2, a3, a4, a5⟩, ⟨b1, b2, b3, b4, b5⟩, ⟨c1, c2, c3, c4, c5⟩, ⟨d1, d2, d3, d4, d5⟩⟩ := hB
  exact ⟨h.f.above ho ⟨by omega, by omega, by omega, by omega, by omega⟩, h.g.above ho ⟨d1, d2, d3, d5, d4⟩, Only.below h.b ho h.b.size (fun i hi => by omega)⟩
theorem Fg.turnF (h : Fg f1 f2 f3 f4 f5 g1 g2 g3 g4 g5 Nf Zf Ng Zg Rf Rg w0 w) (hB : Bks f1 f2 f3 f4 f5 g1 g2 g3 g4 g5 w0.heap.size s2 s3) (hp : PrS f1 f2 f3 f4 f5 N' Z' (InF R') w') (ho : Only (fun b => b = f3 ∨ b = f5) w w') : Fg f1 f2 f3 f4 f5 g1 g2 g3 g4 g5 N' Z' Ng Zg R' Rg w0 w' := by
  obtain ⟨l0, ⟨a1, a2, a3, a4, a5⟩, ⟨b1, b2, b3, b4, b5⟩, ⟨c1, c2, c3, c4, c5⟩, ⟨d1, d2, d3, d4, d5⟩⟩ := hB
  exact ⟨hp, h.g.only ho (by omega) (by omega) (by omega) (by omega) (by omega), Only.below h.b ho h.b.size (fun i hi => by rcases hi with hi | hi <;> omega)⟩
theorem Fg.turnG (h : Fg f1 f2 f3 f4 f5 g1 g2 g3 g4 g5 Nf Zf Ng Zg Rf Rg w0 w) (hB : Bks f1 f2 f3 f4 f5 g1 g2 g3 g4 g5 w0.heap.size s2 s3) (hp : PrS g1 g2 g3 g4 g5 N' Z' (InF R') w') (ho : Only (fun b => b = g3 ∨ b = g5) w w') : Fg f1 f2 f3 f4 f5 g1 g2 g3 g4 g5 Nf Zf N' Z' Rf R' w0 w' := by
  obtain ⟨l0, ⟨a1, a2, a3, a4, a5⟩, ⟨b1, b2, b3, b4, b5⟩, ⟨c1, c2, c3, c4, c5⟩, ⟨d1, d2, d3, d4, d5⟩⟩ := hB
  exact ⟨h.f.only ho (by omega) (by omega) (by omega) (by omega) (by omega), hp, Only.below h.b ho h.b.size (fun i hi => by rcases hi with hi | hi <;> omega)⟩
variable {tx : Nat → ByteArray} {n : Nat}
theorem addF (h : Fg f1 f2 f3 f4 f5 g1 g2 g3 g4 g5 Nf Zf Ng Zg Rf Rg w0 w) (hB : Bks f1 f2 f3 f4 f5 g1 g2 g3 g4 g5 w0.heap.size s2 s3) (hG : Gl w0) (j : Nat) (hj : j < 20) (hs : (tx j).size ≤ 40) (hR : RsOk Rf) (hne : ∀ s ∈ Rf, s.r ≠ (ntT tx j).r) (hl : Rf.length ≤ 23) (hZ : Zf + 860 ≤ 30000) (hN : Nf + 1000 < 1000000) :
    Calls Tryz.prog 6 #[.pointer (some ⟨f1, 0, none⟩), .string ⟨#[110]⟩, .int .i64 ((j : Int) + 1), .string (tx j)] w fun e w' => e = .returned .nilIface ∧ Fg f1 f2 f3 f4 f5 g1 g2 g3 g4 g5 (Nf + 800) (Zf + 860) Ng Zg (Rf ++ [ntT tx j]) Rg w0 w' ∧ Only (fun b => b < s3) w w' := by
  have hq := add_any (t := ntT tx j) (tx j) hs (r := j + 1) rfl (by omega) (by omega) hR hne hl h.f (hG.below h.b) hZ hN
  rw [show ((j + 1 : Nat) : Int) = (j : Int) + 1 by omega] at hq
  refine hq.mono ?_
  rintro e w' ⟨rfl, g1, g2⟩
  obtain ⟨_, _, ⟨b1, b2, b3, b4, b5⟩, ⟨c1, _⟩, ⟨d1, _⟩⟩ := id hB
  exact ⟨rfl, h.turnF hB g1 g2, g2.mono (fun b e => by rcases e with e | e <;> omega)⟩
theorem addG (h : Fg f1 f2 f3 f4 f5 g1 g2 g3 g4 g5 Nf Zf Ng Zg Rf Rg w0 w) (hB : Bks f1 f2 f3 f4 f5 g1 g2 g3 g4 g5 w0.heap.size s2 s3) (hG : Gl w0) (j : Nat) (hj : j < 20) (hs : (tx j).size ≤ 40) (hR : RsOk Rg) (hne : ∀ s ∈ Rg, s.r ≠ (ntT tx j).r) (hl : Rg.length ≤ 23) (hZ : Zg + 860 ≤ 30000) (hN : Ng + 1000 < 1000000) :
    Calls Tryz.prog 6 #[.pointer (some ⟨g1, 0, none⟩), .string ⟨#[110]⟩, .int .i64 ((j : Int) + 1), .string (tx j)] w fun e w' => e = .returned .nilIface ∧ Fg f1 f2 f3 f4 f5 g1 g2 g3 g4 g5 Nf Zf (Ng + 800) (Zg + 860) Rf (Rg ++ [ntT tx j]) w0 w' ∧ Only (fun b => b < s3) w w' := by
  have hq := add_any (t := ntT tx j) (tx j) hs (r := j + 1) rfl (by omega) (by omega) hR hne hl h.g (hG.below h.b) hZ hN
  rw [show ((j + 1 : Nat) : Int) = (j : Int) + 1 by omega] at hq
  refine hq.mono ?_
  rintro e w' ⟨rfl, k1, k2⟩
  obtain ⟨d1, d2, d3, d4, d5⟩ := hB.gh
  exact ⟨rfl, h.turnG hB k1 k2, k2.mono (fun b e => by rcases e with e | e <;> omega)⟩
theorem addM (h : Fg f1 f2 f3 f4 f5 g1 g2 g3 g4 g5 Nf Zf Ng Zg Rf Rg w0 w) (hB : Bks f1 f2 f3 f4 f5 g1 g2 g3 g4 g5 w0.heap.size s2 s3) (hG : Gl w0) (more : ByteArray) (i : Nat) (hi : i < 20) (hs : more.size ≤ 40) (hR : RsOk Rg) (hne : ∀ s ∈ Rg, s.r ≠ (mtT more i).r) (hl : Rg.length ≤ 23) (hZ : Zg + 860 ≤ 30000) (hN : Ng + 1000 < 1000000) :
    Calls Tryz.prog 6 #[.pointer (some ⟨g1, 0, none⟩), .string ⟨#[110]⟩, .int .i64 (1000 + (i : Int)), .string more] w fun e w' => e = .returned .nilIface ∧ Fg f1 f2 f3 f4 f5 g1 g2 g3 g4 g5 Nf Zf (Ng + 800) (Zg + 860) Rf (Rg ++ [mtT more i]) w0 w' ∧ Only (fun b => b < s3) w w' := by
  have hq := add_any (t := mtT more i) more hs (r := 1000 + i) rfl (by omega) (by omega) hR hne hl h.g (hG.below h.b) hZ hN
  rw [show ((1000 + i : Nat) : Int) = 1000 + (i : Int) by omega] at hq
  refine hq.mono ?_
  rintro e w' ⟨rfl, k1, k2⟩
  obtain ⟨d1, d2, d3, d4, d5⟩ := hB.gh
  exact ⟨rfl, h.turnG hB k1 k2, k2.mono (fun b e => by rcases e with e | e <;> omega)⟩
theorem dropM {more : ByteArray} {i : Nat} (h : Fg f1 f2 f3 f4 f5 g1 g2 g3 g4 g5 Nf Zf Ng Zg Rf (Rg ++ [mtT more i]) w0 w) (hB : Bks f1 f2 f3 f4 f5 g1 g2 g3 g4 g5 w0.heap.size s2 s3) (hG : Gl w0) (hi : i < 20) (hs : more.size ≤ 40) (hR : RsOk Rg) (hne : ∀ s ∈ Rg, s.r ≠ (mtT more i).r) (hN : Ng + 1000 < 1000000) :
    Calls Tryz.prog 8 #[.pointer (some ⟨g1, 0, none⟩), .string ⟨#[110]⟩, .int .i64 (1000 + (i : Int)), .string more] w fun e w' => e = .returned .nilIface ∧ Fg f1 f2 f3 f4 f5 g1 g2 g3 g4 g5 Nf Zf (Ng + 800) Zg Rf Rg w0 w' ∧ Only (fun b => b < s3) w w' := by
  have hq := drop_fin (t := mtT more i) more hs (r := 1000 + i) rfl (by omega) (by omega) hR hne h.g (hG.below h.b) hN
  rw [show ((1000 + i : Nat) : Int) = 1000 + (i : Int) by omega] at hq
  refine hq.mono ?_
  rintro e w' ⟨rfl, k1, k2⟩
  obtain ⟨d1, d2, d3, d4, d5⟩ := hB.gh
  exact ⟨rfl, h.turnG hB k1 k2, k2.mono (fun b e => by rcases e with e | e <;> omega)⟩
/-- what is noted, and forgotten, leaves all as it was -/
theorem Fg.back {wa : World} {Na Za : Nat} (h : Fg f1 f2 f3 f4 f5 g1 g2 g3 g4 g5 Nf Zf Ng Zg Rf Rg w0 w) (ha : Fg f1 f2 f3 f4 f5 g1 g2 g3 g4 g5 Nf Zf Na Za Rf Rg w0 wa) : Fg f1 f2 f3 f4 f5 g1 g2 g3 g4 g5 Nf Zf Ng Za Rf Rg w0 w :=
  ⟨h.f, ha.g.same h.g, h.b⟩
theorem Fg.mono (h : Fg f1 f2 f3 f4 f5 g1 g2 g3 g4 g5 Nf Zf Ng Zg Rf Rg w0 w) {Nf' Zf' Ng' Zg' : Nat} (a : Nf ≤ Nf') (b : Zf ≤ Zf') (c : Ng ≤ Ng') (d : Zg ≤ Zg') : Fg f1 f2 f3 f4 f5 g1 g2 g3 g4 g5 Nf' Zf' Ng' Zg' Rf Rg w0 w := ⟨h.f.mono a b, h.g.mono c d, h.b⟩
end
/-- the row of numbers -/
theorem irow_at {w : World} {B : Nat} {v : Value} {ks : List Nat} (h : IRow B v ks w) {i : Nat} (hi : i < ks.length) : ∃ g cap, v = .slice (some ⟨g, 0, none⟩) ks.length cap ∧ B ≤ g ∧ w.cell? ⟨g, i, none⟩ = some (.int .i64 (ks[i] : Nat)) ∧ w.frozen? ⟨g, i, none⟩ = false := by
  obtain ⟨g, cap, rfl, h1, h2⟩ := World.ownsRow.form h (by omega)
  refine ⟨g, cap, rfl, h1, ?_, ?_⟩
  · have := World.ownsRow.cells h (g := g) rfl i (.int .i64 (ks[i] : Nat)) (by rw [List.getElem?_map, List.getElem?_eq_getElem hi]; rfl)
    rw [add_pl, Nat.zero_add] at this
    exact this
  · rcases h.2 with ⟨e, _⟩ | ⟨g', c', cur, e, _, hb, _⟩
    · cases e
    · cases e
      simp [World.frozen?, hb]
theorem irow_set {w : World} {B g cap n : Nat} {ks : List Nat} (h : IRow B (.slice (some ⟨g, 0, none⟩) n cap) ks w) (i x : Nat) : IRow B (.slice (some ⟨g, 0, none⟩) n cap) (ks.set i x) (w.setCell ⟨g, i, none⟩ (.int .i64 (x : Nat))) := by
  rcases h.2 with ⟨e, _⟩ | ⟨g', c', cur, e, h1, hb, h3, h4, h5, h6⟩
  · cases e
  · cases e
    refine ⟨by simp, .inr ⟨g, cap, cur.setIfInBounds i (.int .i64 (x : Nat)), by simp, h1, ?_, by simpa using h3, h4, by simpa using h5, ?_⟩⟩
    · simp [World.setCell, Array.getElem?_modify, hb]
    · rw [Nat.mul_one] at h6 ⊢
      rw [List.length_set, Array.toList_setIfInBounds, List.take_set, h6, ← List.map_set]
end Go.Proofs.YtdphlkljenbkcaaGreatDoor
namespace Go.Proofs.YtdphlkljenbkcaaGreatDoor
open Go

theorem wpAnyH_two {P : Program} {ops : Array Oper} {Q : Exit → Act → World → Prop} {md : Region.Mode} {S : World → Prop} {i j fuel : Nat} {oi oj : Oper} {vi vj : Value} {listed : Array Bool} {a : Act} {w : World} (hr : Region.ready md ops listed = [i, j]) (hri : Region.ready md ops (listed.setIfInBounds i true) = [j]) (hrj : Region.ready md ops (listed.setIfInBounds j true) = [i]) (hoi : ops[i]? = some oi) (hoj : ops[j]? = some oj) (hne : i ≠ j)
    (hyi : YieldsIf P ops (fun wx => wx = w) oi vi a) (hyj : YieldsIf P ops (fun wx => wx = w) oj vj a) (hyij : YieldsIf P ops (fun wx => wx = w) oj vj (a.put oi.dst vi)) (hyji : YieldsIf P ops (fun wx => wx = w) oi vi (a.put oj.dst vj)) (hcm : (a.put oj.dst vj).put oi.dst vi = (a.put oi.dst vi).put oj.dst vj) (hS : S w)
    (h : wpAnyH P md ops Q S fuel ((listed.setIfInBounds i true).setIfInBounds j true) ((a.put oi.dst vi).put oj.dst vj) w) : wpAnyH P md ops Q S (fuel + 2) listed a w := by
  refine ⟨fun h0 => (by rw [hr] at h0; cases h0), fun k hk => ?_⟩
  rw [hr] at hk
  rcases List.mem_cons.1 hk with rfl | hk
  · refine hyi.wpOp hoi rfl ⟨hS, ⟨fun h0 => (by rw [hri] at h0; cases h0), fun m hm => ?_⟩⟩
    rw [hri] at hm
    obtain rfl := List.mem_singleton.1 hm
    exact hyij.wpOp hoj rfl ⟨hS, h⟩
  · obtain rfl := List.mem_singleton.1 hk
    refine hyj.wpOp hoj rfl ⟨hS, ⟨fun h0 => (by rw [hrj] at h0; cases h0), fun m hm => ?_⟩⟩
    rw [hrj] at hm
    obtain rfl := List.mem_singleton.1 hm
    refine hyji.wpOp hoi rfl ⟨hS, ?_⟩
    rw [hcm, Array.setIfInBounds_comm _ _ (Ne.symm hne)]
    exact h
end Go.Proofs.YtdphlkljenbkcaaGreatDoor
namespace Go.Proofs.YtdphlkljenbkcaaGreatDoor
open Go.RowKit Go.Maps

/-- what is known of all pieces -/
structure Pcs (L : List Pc) : Prop where
  ok : ∀ c ∈ L, c.Ok
  len : L.length ≤ 400
  cnt : cntL L ≤ 400
  right : ∀ wd, rightL (plsW wd L) = true
  sum : sumW (begL L) L = cntL L
  pos : ∀ x ∈ begL L, 0 < (plsW x L).length
  sz : ∀ x ∈ begL L, x.size ≤ 100
  bl : (begL L).length ≤ 400
theorem begL_len (L : List Pc) : (begL L).length ≤ L.length := by
  unfold begL
  rw [List.length_map]
  exact Nat.le_trans (compact_le _) (by rw [List.length_map]; exact Nat.le_refl _)
theorem Pcs.of {R : List Nt} {L : List Pc} (h : LsF R L) (hR : RsOk R) (hl : R.length ≤ 20) : Pcs L := by
  have h1 := h.len hR
  have h2 := h.cnt hR
  have h3 := begL_len L
  have ho := h.ord hR
  refine ⟨h.ok hR, by omega, by omega, fun wd => h.right hR wd, begL_sum ho, fun x hx => plsW_pos x L (h.ok hR) ((begL_mem ho x).1 hx), fun x hx => ?_, by omega⟩
  obtain ⟨c, hc, rfl⟩ := (begL_mem ho x).1 hx
  have := (h.ok hR c hc).w.le
  omega
theorem pls_le {L : List Pc} (h : Pcs L) (x : ByteArray) : (plsW x L).length ≤ 400 := Nat.le_trans (plsW_len x L) h.cnt
section
variable {bf bt bp bd bm : Nat} {L : List Pc} {w : World}
theorem beginL (hP : Pcs L) (hF : FsL bf bt bp bd bm L w) (hg : Gl w) :
    Calls Tryz.prog 9 #[.pointer (some ⟨bf, 0, none⟩), .string ⟨#[110]⟩, .string ⟨#[]⟩] w fun e w' => ∃ a c, e = .returned (.tuple #[.slice a (begL L).length c, .nilIface]) ∧ RowS w' a (begL L).length (begL L) ∧ Below w.heap.size w w' := by
  obtain ⟨N, up, V, T, k1, k2⟩ := hF
  obtain ⟨m, hm⟩ := hg.m
  refine (begin_any k1 hm hP.ok k2 (by have := hP.len; omega)).mono ?_
  rintro e w' ⟨v, rfl, hr, hb⟩
  obtain ⟨a, c, rfl, h1, _⟩ := row_of_own hr (by have := hP.bl; omega)
  exact ⟨a, c, rfl, h1, hb⟩
theorem manyL (hP : Pcs L) (hF : FsL bf bt bp bd bm L w) (hg : Gl w) :
    Calls Tryz.prog 10 #[.pointer (some ⟨bf, 0, none⟩)] w fun e w' => e = .returned (.tuple #[.int .i64 (cntL L : Nat), .nilIface]) ∧ Below w.heap.size w w' := by
  obtain ⟨N, up, V, T, k1, k2⟩ := hF
  obtain ⟨m, hm⟩ := hg.m
  exact many_any k1 hm hP.ok k2 (by have := hP.len; omega)
theorem placesL (hP : Pcs L) (hF : FsL bf bt bp bd bm L w) (hg : Gl w) {x : ByteArray} (hx : x ∈ begL L) :
    Calls Tryz.prog 12 #[.pointer (some ⟨bf, 0, none⟩), .string ⟨#[110]⟩, .string x] w fun e w' => ∃ a c, e = .returned (.tuple #[.slice a (plsW x L).length c, .nilIface]) ∧ RowP w' a (plsW x L).length (plsW x L) ∧ Below w.heap.size w w' := by
  obtain ⟨N, up, V, T, k1, k2⟩ := hF
  obtain ⟨m, hm⟩ := hg.m
  refine (places_any k1 hm hP.ok k2 (by have := hP.len; omega) x (hP.sz x hx)).mono ?_
  rintro e w' ⟨v, rfl, hr, hb⟩
  obtain ⟨a, c, rfl, h1, _⟩ := rowP_of_own hr (by have := pls_le hP x; omega)
  exact ⟨a, c, rfl, h1, hb⟩
end
theorem sumW_take {A : List ByteArray} {L : List Pc} {k : Nat} (hk : k < A.length) : sumW (A.take (k + 1)) L = sumW (A.take k) L + (plsW A[k] L).length := by
  rw [List.take_succ_eq_append_getElem hk, sumW_append]
  simp [sumW]
theorem sumW_take_le {A : List ByteArray} {L : List Pc} (k : Nat) : sumW (A.take k) L ≤ sumW A L := by
  conv => rhs; rw [← List.take_append_drop k A, sumW_append]
  omega
theorem rowS_at {w : World} {a : Option Addr} {xs : List ByteArray} (h : RowS w a xs.length xs) {i : Nat} (hi : i < xs.length) : ∃ b off, a = some ⟨b, off, none⟩ ∧ b < w.heap.size ∧ w.cell? ⟨b, off + i, none⟩ = some (.string xs[i]) := by
  rcases h.2.2 with e | ⟨b, off, e, h1, h2⟩
  · rw [e] at hi; exact absurd hi (by simp)
  · exact ⟨b, off, e, h1, h2 i hi⟩
end Go.Proofs.YtdphlkljenbkcaaGreatDoor
