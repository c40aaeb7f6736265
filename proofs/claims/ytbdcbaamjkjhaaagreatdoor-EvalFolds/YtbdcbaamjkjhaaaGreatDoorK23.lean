/- Part 23 of 29. -/
import Derived.Test.YtbdcbaamjkjhaaaGreatDoorK22
import Derived.Laws.EntriesVeiled
import Derived.Deep.RegionHeld3
import Derived.LaidEql
import Derived.Stop.Asserts
import Derived.RowKitTokens
namespace Go.Proofs.YtbdcbaamjkjhaaaGreatDoor
open Go.RowKit

theorem s45 : (Tryz.prog.info? 45).map (·.size) = some 2 := by kernel_rfl
theorem load45 {b : Nat} {x y : Value} {w : World} (h : Blk b #[x, y] 45 w) : (loadVar 45 ⟨b, 0, none⟩).run Tryz.prog w = .ok (.agg #[x, y]) w := by
  have := run_loadVar_mid (P := Tryz.prog) w b 0 45 [x, y] _ h.range Tryz.underlying45 rfl s45
  simpa using this
def put45 (w : World) (b : Nat) (x y : Value) : World := (w.setCell ⟨b, 0, none⟩ x).setCell ⟨b, 1, none⟩ y
theorem put45_blk {w : World} {b : Nat} {x0 y0 : Value} (x y : Value) (h : Blk b #[x0, y0] 45 w) : Blk b #[x, y] 45 (put45 w b x y) := by
  have := (h.set 0 x).set 1 y
  unfold put45
  simpa using this
set_option maxRecDepth 100000 in
set_option maxHeartbeats 2000000 in
theorem whole_any (ba bb bc bf : Nat) (w : World) : Calls Tryz.prog 35 #[.agg #[.func (.func 33) #[] #[.pointer (some ⟨ba, 0, none⟩), .pointer (some ⟨bb, 0, none⟩), .pointer (some ⟨bc, 0, none⟩)], .func (.func 34) #[] #[.pointer (some ⟨bf, 0, none⟩)]]] w fun e w' => e = .returned (.agg #[.func (.func 33) #[] #[.pointer (some ⟨ba, 0, none⟩), .pointer (some ⟨bb, 0, none⟩), .pointer (some ⟨bc, 0, none⟩)], .func (.func 34) #[] #[.pointer (some ⟨bf, 0, none⟩)]]) ∧ Below w.heap.size w w' := by
  obtain ⟨W, hW⟩ : ∃ W, (w.alloc (.cells #[.func (.func 33) #[] #[.pointer (some ⟨ba, 0, none⟩), .pointer (some ⟨bb, 0, none⟩), .pointer (some ⟨bc, 0, none⟩)], .func (.func 34) #[] #[.pointer (some ⟨bf, 0, none⟩)]] 45)).alloc (.cells #[.nilFunc, .nilFunc] 45) = W := ⟨_, rfl⟩
  have hbW : Below w.heap.size w W := by rw [← hW]; exact ((Below.refl _ _).alloc (Nat.le_refl _) _).alloc (by simp only [World.size_alloc]; omega) _
  have hkE : Blk w.heap.size #[.func (.func 33) #[] #[.pointer (some ⟨ba, 0, none⟩), .pointer (some ⟨bb, 0, none⟩), .pointer (some ⟨bc, 0, none⟩)], .func (.func 34) #[] #[.pointer (some ⟨bf, 0, none⟩)]] 45 W := by rw [← hW]; exact (Blk.new _ _ _).below ((Below.refl _ _).alloc (Nat.le_refl _) _)
  have hkR : Blk (w.heap.size + 1) #[.nilFunc, .nilFunc] 45 W := by
    have hq := Blk.new (w.alloc (.cells #[.func (.func 33) #[] #[.pointer (some ⟨ba, 0, none⟩), .pointer (some ⟨bb, 0, none⟩), .pointer (some ⟨bc, 0, none⟩)], .func (.func 34) #[] #[.pointer (some ⟨bf, 0, none⟩)]] 45)) #[.nilFunc, .nilFunc] 45
    simp only [World.size_alloc] at hq
    rw [← hW]
    exact hq
  have G0 : Hid (Blk (w.heap.size + 1) #[.nilFunc, .nilFunc] 45 W ∧ Below w.heap.size w W) := ⟨hkR, hbW⟩
  have e0 : W.cell? ⟨w.heap.size, 0, none⟩ = some (.func (.func 33) #[] #[.pointer (some ⟨ba, 0, none⟩), .pointer (some ⟨bb, 0, none⟩), .pointer (some ⟨bc, 0, none⟩)]) := by rw [hkE.cell 0]; rfl
  have e1 : W.cell? ⟨w.heap.size, 1, none⟩ = some (.func (.func 34) #[] #[.pointer (some ⟨bf, 0, none⟩)]) := by rw [hkE.cell 1]; rfl
  have r0 : W.cell? ⟨w.heap.size + 1, 0, none⟩ = some .nilFunc := by rw [hkR.cell 0]; rfl
  have r1 : W.cell? ⟨w.heap.size + 1, 1, none⟩ = some .nilFunc := by rw [hkR.cell 1]; rfl
  have rf : ∀ i, W.frozen? ⟨w.heap.size + 1, i, none⟩ = false := fun i => hkR.free i
  have q1 : ∀ u, Sem.run Tryz.prog (binOp BinOp.eql 42 (.func (.func 33) #[] #[.pointer (some ⟨ba, 0, none⟩), .pointer (some ⟨bb, 0, none⟩), .pointer (some ⟨bc, 0, none⟩)]) Value.nilFunc) u = .ok (.bool false) u := fun u => by kernel_rfl
  have q2 : ∀ u, Sem.run Tryz.prog (binOp BinOp.eql 43 (.func (.func 34) #[] #[.pointer (some ⟨bf, 0, none⟩)]) Value.nilFunc) u = .ok (.bool false) u := fun u => by kernel_rfl
  clear hkE hkR hbW
  go_enter Tryz.func35, Tryz.ntmps35
  go_wp2
  refine bodyPost_ret (v := .agg #[.func (.func 33) #[] #[.pointer (some ⟨ba, 0, none⟩), .pointer (some ⟨bb, 0, none⟩), .pointer (some ⟨bc, 0, none⟩)], .func (.func 34) #[] #[.pointer (some ⟨bf, 0, none⟩)]]) (results_c Tryz.results35 _ _ ⟨w.heap.size + 1, 0, none⟩ rfl (load45 (put45_blk (.func (.func 33) #[] #[.pointer (some ⟨ba, 0, none⟩), .pointer (some ⟨bb, 0, none⟩), .pointer (some ⟨bc, 0, none⟩)]) (.func (.func 34) #[] #[.pointer (some ⟨bf, 0, none⟩)]) G0.out.1))) rfl ?_
  exact ⟨rfl, (G0.out.2.setCell (show w.heap.size ≤ w.heap.size + 1 by omega) _).setCell (show w.heap.size ≤ w.heap.size + 1 by omega) _⟩
def SmV (v : Vl) : Prop := v.t.size ≤ 100000
set_option maxRecDepth 100000 in
set_option maxHeartbeats 4000000 in
theorem eval_any (a b c : Vl) (e : Ex) (hsm : ∀ x, evF a b c e = .ok x → SmV x) (ba bb bc bf : Nat) (p : Option Addr) (w : World) (hE : EnvW ba bb bc bf a b c w) (hX : ExAt w p e) : Calls Tryz.prog 17 #[.pointer p, .agg #[.func (.func 33) #[] #[.pointer (some ⟨ba, 0, none⟩), .pointer (some ⟨bb, 0, none⟩), .pointer (some ⟨bc, 0, none⟩)], .func (.func 34) #[] #[.pointer (some ⟨bf, 0, none⟩)]]] w fun r w' => r = .returned (tupR (evF a b c e)) ∧ Below w.heap.size w w' := by
  obtain ⟨W, hW⟩ : ∃ W, (w.alloc (.cells #[.func (.func 33) #[] #[.pointer (some ⟨ba, 0, none⟩), .pointer (some ⟨bb, 0, none⟩), .pointer (some ⟨bc, 0, none⟩)], .func (.func 34) #[] #[.pointer (some ⟨bf, 0, none⟩)]] 45)).alloc (.cells #[.int .i64 0, .int .i64 0, .string ⟨#[]⟩] 39) = W := ⟨_, rfl⟩
  have hbW : Below w.heap.size w W := by rw [← hW]; exact ((Below.refl _ _).alloc (Nat.le_refl _) _).alloc (by simp only [World.size_alloc]; omega) _
  have hkE : Blk w.heap.size #[.func (.func 33) #[] #[.pointer (some ⟨ba, 0, none⟩), .pointer (some ⟨bb, 0, none⟩), .pointer (some ⟨bc, 0, none⟩)], .func (.func 34) #[] #[.pointer (some ⟨bf, 0, none⟩)]] 45 W := by rw [← hW]; exact (Blk.new _ _ _).below ((Below.refl _ _).alloc (Nat.le_refl _) _)
  have hkR : Blk (w.heap.size + 1) Vl.none.cells 39 W := by
    have hq := Blk.new (w.alloc (.cells #[.func (.func 33) #[] #[.pointer (some ⟨ba, 0, none⟩), .pointer (some ⟨bb, 0, none⟩), .pointer (some ⟨bc, 0, none⟩)], .func (.func 34) #[] #[.pointer (some ⟨bf, 0, none⟩)]] 45)) Vl.none.cells 39
    simp only [World.size_alloc] at hq
    rw [← hW]
    exact hq
  have G0 : Hid (Blk (w.heap.size + 1) Vl.none.cells 39 W ∧ Below w.heap.size w W ∧ EnvW ba bb bc bf a b c W ∧ ExAt W p e) := ⟨hkR, hbW, hE.below hbW, hX.below hbW⟩
  have e0 : W.cell? ⟨w.heap.size, 0, none⟩ = some (.func (.func 33) #[] #[.pointer (some ⟨ba, 0, none⟩), .pointer (some ⟨bb, 0, none⟩), .pointer (some ⟨bc, 0, none⟩)]) := by rw [hkE.cell 0]; rfl
  have e1 : W.cell? ⟨w.heap.size, 1, none⟩ = some (.func (.func 34) #[] #[.pointer (some ⟨bf, 0, none⟩)]) := by rw [hkE.cell 1]; rfl
  obtain ⟨R, hR⟩ : ∃ R, evF a b c e = R := ⟨_, rfl⟩
  have HR : Hid (evF a b c e = R ∧ ∀ x, R = .ok x → SmV x) := ⟨hR, fun x hx => hsm x (hR.trans hx)⟩
  rw [hR]
  clear hkE hkR hbW hE hX hR hsm
  go_enter Tryz.func17, Tryz.ntmps17
  go_wp2_with fail
  refine (whole_any ba bb bc bf W).mono ?_
  rintro _ w1 ⟨rfl, hb⟩
  have H1 : Hid (Blk (w.heap.size + 1) Vl.none.cells 39 w1 ∧ Below w.heap.size w w1 ∧ EnvW ba bb bc bf a b c w1 ∧ ExAt w1 p e) := ⟨G0.out.1.below hb, G0.out.2.1.trans (hb.mono G0.out.2.1.size), G0.out.2.2.1.below hb, G0.out.2.2.2.below hb⟩
  clear hb
  go_wp2_with fail
  have h8 := come_all a b c e ba bb bc bf p w1 H1.out.2.2.1 H1.out.2.2.2
  rw [HR.out.1] at h8
  refine h8.mono ?_
  clear h8
  rintro _ w2 ⟨⟨v, rfl, hv⟩, hb⟩
  obtain ⟨V, hV⟩ : ∃ V, w2.alloc (.cells #[.int .i64 v.k, .int .i64 v.n, .string v.t] 39) = V := ⟨_, rfl⟩
  have hbV : Below w2.heap.size w2 V := by rw [← hV]; exact (Below.refl _ _).alloc (Nat.le_refl _) _
  have hkV : Blk w2.heap.size v.cells 39 V := by rw [← hV]; exact Blk.new _ _ _
  have H2 : Hid (Blk (w.heap.size + 1) Vl.none.cells 39 V ∧ Below w.heap.size w V ∧ ∀ x, R = .ok x → v = x) := ⟨(H1.out.1.below hb).below hbV, (H1.out.2.1.trans (hb.mono H1.out.2.1.size)).trans (hbV.mono (Nat.le_trans H1.out.2.1.size hb.size)), hv⟩
  obtain ⟨u0, u1, u2, uf⟩ := hkV.vc
  obtain ⟨r0, r1, r2, rf⟩ := H2.out.1.vc
  clear hb hbV hkV hv
  unfold vv
  cases R with
  | error n =>
    simp only [errOf]
    go_wp2
    refine bodyPost_ret (v := .tuple #[vv .none, .iface 53 (.int .i64 n)]) (results_ct Tryz.results17 _ _ ⟨w.heap.size + 1, 0, none⟩ rfl (load39 (put39_blk .none H2.out.1))) rfl ?_
    exact ⟨rfl, put39_below .none H2.out.2.1 (by omega)⟩
  | ok x =>
    obtain rfl : v = x := H2.out.2.2 x rfl
    simp only [errOf]
    go_wp2_with fail
    refine (own_any v V (HR.out.2 v rfl)).mono ?_
    rintro _ w3 ⟨rfl, hb⟩
    have H3 : Hid (Blk (w.heap.size + 1) Vl.none.cells 39 w3 ∧ Below w.heap.size w w3) := ⟨H2.out.1.below hb, H2.out.2.1.trans (hb.mono H2.out.2.1.size)⟩
    obtain ⟨t0, t1, t2, tf⟩ := H3.out.1.vc
    clear hb
    unfold vv
    go_wp2
    refine bodyPost_ret (v := .tuple #[vv v, .nilIface]) (results_ct Tryz.results17 _ _ ⟨w.heap.size + 1, 0, none⟩ rfl (load39 (put39_blk v H3.out.1))) rfl ?_
    exact ⟨rfl, put39_below v H3.out.2 (by omega)⟩
set_option maxRecDepth 100000 in
set_option maxHeartbeats 4000000 in
theorem env_any (a b c : Vl) (w : World) (hv : w.rangeAt 0 0 askCells) (hlo : 13 ≤ w.heap.size) : Calls Tryz.prog 13 #[vv a, vv b, vv c] w fun r w' => r = .returned (.agg #[.func (.func 33) #[] #[.pointer (some ⟨w.heap.size, 0, none⟩), .pointer (some ⟨w.heap.size + 1, 0, none⟩), .pointer (some ⟨w.heap.size + 1 + 1, 0, none⟩)], .func (.func 34) #[] #[.pointer (some ⟨w.heap.size + 4, 0, none⟩)]]) ∧ EnvW (w.heap.size) (w.heap.size + 1) (w.heap.size + 1 + 1) (w.heap.size + 4) a b c w' ∧ Below w.heap.size w w' := by
  obtain ⟨W, hW⟩ : ∃ W, ((w.alloc (.cells #[.int .i64 a.k, .int .i64 a.n, .string a.t] 39)).alloc (.cells #[.int .i64 b.k, .int .i64 b.n, .string b.t] 39)).alloc (.cells #[.int .i64 c.k, .int .i64 c.n, .string c.t] 39) = W := ⟨_, rfl⟩
  have hbW : Below w.heap.size w W := by rw [← hW]; exact (((Below.refl _ _).alloc (Nat.le_refl _) _).alloc (by simp only [World.size_alloc]; omega) _).alloc (by simp only [World.size_alloc]; omega) _
  have hk0W : Blk (w.heap.size) a.cells 39 W := by
      have hq := Blk.new w a.cells 39
      rw [← hW]
      exact hq.below (((Below.refl _ _).alloc (Nat.le_refl _) _).alloc (by simp only [World.size_alloc]; omega) _)
  have hk1W : Blk (w.heap.size + 1) b.cells 39 W := by
      have hq := Blk.new (w.alloc (.cells a.cells 39)) b.cells 39
      simp only [World.size_alloc] at hq
      rw [← hW]
      exact hq.below ((Below.refl _ _).alloc (Nat.le_refl _) _)
  have hk2W : Blk (w.heap.size + 2) c.cells 39 W := by
      have hq := Blk.new ((w.alloc (.cells a.cells 39)).alloc (.cells b.cells 39)) c.cells 39
      simp only [World.size_alloc, Nat.add_assoc, Nat.reduceAdd] at hq
      rw [← hW]
      exact hq
  have G0 : Hid (Blk (w.heap.size) a.cells 39 W ∧ Blk (w.heap.size + 1) b.cells 39 W ∧ Blk (w.heap.size + 2) c.cells 39 W ∧ Below w.heap.size w W) := ⟨hk0W, hk1W, hk2W, hbW⟩
  clear hbW
  have hzW : W.heap.size = w.heap.size + 3 := by rw [← hW]; simp only [World.size_alloc]
  obtain ⟨U, hU⟩ : ∃ U, W.alloc (.cells #[.nilFunc, .nilFunc] 45) = U := ⟨_, rfl⟩
  obtain ⟨U2, hU2⟩ : ∃ V, U.alloc (.cells #[.nilFunc] 42) = V := ⟨_, rfl⟩
  obtain ⟨V, hV⟩ : ∃ V, U2.setCell ⟨w.heap.size + 4, 0, none⟩ (.func (.func 33) #[] #[.pointer (some ⟨w.heap.size, 0, none⟩), .pointer (some ⟨w.heap.size + 1, 0, none⟩), .pointer (some ⟨w.heap.size + 1 + 1, 0, none⟩)]) = V := ⟨_, rfl⟩
  have hbU : Below W.heap.size W U := by rw [← hU]; exact (Below.refl _ _).alloc (Nat.le_refl _) _
  have hzU : U.heap.size = w.heap.size + 4 := by rw [← hU]; simp only [World.size_alloc]; omega
  have hbV : Below U.heap.size U V := by rw [← hV, ← hU2]; exact ((Below.refl _ _).alloc (Nat.le_refl _) _).setCell (by show U.heap.size ≤ w.heap.size + 4; omega) _
  have hkU2 : Blk (w.heap.size + 4) #[.nilFunc] 42 U2 := by
    have := (Blk.new U #[.nilFunc] 42)
    rw [hzU, hU2] at this
    exact this
  have hkU : Blk (w.heap.size + 3) #[.nilFunc, .nilFunc] 45 V := by
    have := (Blk.new W #[.nilFunc, .nilFunc] 45)
    rw [hzW, hU] at this
    exact this.below hbV
  have hkV : Blk (w.heap.size + 4) #[.func (.func 33) #[] #[.pointer (some ⟨w.heap.size, 0, none⟩), .pointer (some ⟨w.heap.size + 1, 0, none⟩), .pointer (some ⟨w.heap.size + 1 + 1, 0, none⟩)]] 42 V := by
    have := hkU2.set 0 (.func (.func 33) #[] #[.pointer (some ⟨w.heap.size, 0, none⟩), .pointer (some ⟨w.heap.size + 1, 0, none⟩), .pointer (some ⟨w.heap.size + 1 + 1, 0, none⟩)])
    rw [hV] at this
    simpa using this
  have y0 : U2.cell? ⟨w.heap.size + 4, 0, none⟩ = some .nilFunc := by rw [hkU2.cell 0]; rfl
  have yf : ∀ i, U2.frozen? ⟨w.heap.size + 4, i, none⟩ = false := fun i => hkU2.free i
  have G1 : Hid (Blk w.heap.size a.cells 39 V ∧ Blk (w.heap.size + 1) b.cells 39 V ∧ Blk (w.heap.size + 2) c.cells 39 V ∧ Blk (w.heap.size + 3) #[.nilFunc, .nilFunc] 45 V ∧ Blk (w.heap.size + 4) #[.func (.func 33) #[] #[.pointer (some ⟨w.heap.size, 0, none⟩), .pointer (some ⟨w.heap.size + 1, 0, none⟩), .pointer (some ⟨w.heap.size + 1 + 1, 0, none⟩)]] 42 V ∧ Below w.heap.size w V) := ⟨(G0.out.1.below hbU).below hbV, (G0.out.2.1.below hbU).below hbV, (G0.out.2.2.1.below hbU).below hbV, hkU, hkV, (G0.out.2.2.2.trans (hbU.mono G0.out.2.2.2.size)).trans (hbV.mono (Nat.le_trans G0.out.2.2.2.size hbU.size))⟩
  have HV : Hid (w.rangeAt 0 0 askCells ∧ 13 ≤ w.heap.size) := ⟨hv, hlo⟩
  have k0 : V.cell? ⟨w.heap.size + 4, 0, none⟩ = some (.func (.func 33) #[] #[.pointer (some ⟨w.heap.size, 0, none⟩), .pointer (some ⟨w.heap.size + 1, 0, none⟩), .pointer (some ⟨w.heap.size + 1 + 1, 0, none⟩)]) := by rw [hkV.cell 0]; rfl
  have r0 : V.cell? ⟨w.heap.size + 3, 0, none⟩ = some .nilFunc := by rw [hkU.cell 0]; rfl
  have r1 : V.cell? ⟨w.heap.size + 3, 1, none⟩ = some .nilFunc := by rw [hkU.cell 1]; rfl
  have rf : ∀ i, V.frozen? ⟨w.heap.size + 3, i, none⟩ = false := fun i => hkU.free i
  have hmf : ∀ (fn : Fn) (first cap : Array Value) (w : World), (Instr.makeFunc fn first cap).run Tryz.prog w = .ok (.func fn first cap) w := fun _ _ _ _ => rfl
  clear hk0W hk1W hk2W hbU hbV hkU hkV hkU2 hv hlo
  show Calls _ _ #[.agg #[.int .i64 a.k, .int .i64 a.n, .string a.t], .agg #[.int .i64 b.k, .int .i64 b.n, .string b.t], .agg #[.int .i64 c.k, .int .i64 c.n, .string c.t]] _ _
  go_enter Tryz.func13, Tryz.ntmps13
  go_wp2
  refine bodyPost_ret (v := .agg #[.func (.func 33) #[] #[.pointer (some ⟨w.heap.size, 0, none⟩), .pointer (some ⟨w.heap.size + 1, 0, none⟩), .pointer (some ⟨w.heap.size + 1 + 1, 0, none⟩)], .func (.func 34) #[] #[.pointer (some ⟨w.heap.size + 4, 0, none⟩)]]) (results_c Tryz.results13 _ _ ⟨w.heap.size + 3, 0, none⟩ rfl (load45 (put45_blk (.func (.func 33) #[] #[.pointer (some ⟨w.heap.size, 0, none⟩), .pointer (some ⟨w.heap.size + 1, 0, none⟩), .pointer (some ⟨w.heap.size + 1 + 1, 0, none⟩)]) (.func (.func 34) #[] #[.pointer (some ⟨w.heap.size + 4, 0, none⟩)]) G1.out.2.2.2.1))) rfl ?_
  have hbF : Below w.heap.size w (put45 V (w.heap.size + 3) (.func (.func 33) #[] #[.pointer (some ⟨w.heap.size, 0, none⟩), .pointer (some ⟨w.heap.size + 1, 0, none⟩), .pointer (some ⟨w.heap.size + 1 + 1, 0, none⟩)]) (.func (.func 34) #[] #[.pointer (some ⟨w.heap.size + 4, 0, none⟩)])) := (G1.out.2.2.2.2.2.setCell (show w.heap.size ≤ w.heap.size + 3 by omega) _).setCell (show w.heap.size ≤ w.heap.size + 3 by omega) _
  refine ⟨rfl, ⟨(G1.out.1.other (by omega) 0 _).other (by omega) 1 _, (G1.out.2.1.other (by omega) 0 _).other (by omega) 1 _, (G1.out.2.2.1.other (by omega) 0 _).other (by omega) 1 _, ?_, ?_, range_keep HV.out.1 (fun q => World.cell?_of_block (w := w) (a := ⟨0, q, none⟩) (hbF.block 0 (by have := HV.out.2; omega))), Nat.le_trans HV.out.2 hbF.size⟩, hbF⟩
  · have := (G1.out.2.2.2.2.1.other (show w.heap.size + 3 ≠ w.heap.size + 4 by omega) 0 (.func (.func 33) #[] #[.pointer (some ⟨w.heap.size, 0, none⟩), .pointer (some ⟨w.heap.size + 1, 0, none⟩), .pointer (some ⟨w.heap.size + 1 + 1, 0, none⟩)])).other (show w.heap.size + 3 ≠ w.heap.size + 4 by omega) 1 (.func (.func 34) #[] #[.pointer (some ⟨w.heap.size + 4, 0, none⟩)])
    rw [this.cell 0]; rfl
  · have := (G1.out.2.2.2.2.1.other (show w.heap.size + 3 ≠ w.heap.size + 4 by omega) 0 (.func (.func 33) #[] #[.pointer (some ⟨w.heap.size, 0, none⟩), .pointer (some ⟨w.heap.size + 1, 0, none⟩), .pointer (some ⟨w.heap.size + 1 + 1, 0, none⟩)])).other (show w.heap.size + 3 ≠ w.heap.size + 4 by omega) 1 (.func (.func 34) #[] #[.pointer (some ⟨w.heap.size + 4, 0, none⟩)])
    exact (Array.getElem?_eq_some_iff.1 this).1
end Go.Proofs.YtbdcbaamjkjhaaaGreatDoor
namespace Go.Proofs.YtbdcbaamjkjhaaaGreatDoor
open Go.RowKit

def TreeSm : Ex → Prop
  | .nil => True
  | .node _ v _ l r => v.t.size ≤ 40 ∧ TreeSm l ∧ TreeSm r
theorem LitV.sm {v : Vl} {t : KT} (h : LitV v t) : v.t.size ≤ 40 := by
  cases h with
  | null => exact Nat.zero_le _
  | num h0 h1 => exact Nat.zero_le _
  | txt h =>
    simp only [rightT, Bool.and_eq_true, decide_eq_true_eq] at h
    exact h.1
theorem none_sm : Vl.none.t.size ≤ 40 := Nat.zero_le _
theorem Ft.sm {d : Nat} {n : Int} {e : Ex} {ts : List KT} (h : Ft d n e ts) : TreeSm e := by
  induction h with
  | par _ _ ih => exact ih
  | lit _ b => exact ⟨b.sm, trivial, trivial⟩
  | col _ _ => exact ⟨none_sm, trivial, trivial⟩
  | neg _ _ ih => exact ⟨none_sm, ih, trivial⟩
  | not _ _ _ ih => exact ⟨none_sm, ih, trivial⟩
  | nnul _ _ ih => exact ⟨none_sm, ⟨none_sm, ih, trivial⟩, trivial⟩
  | nul _ _ ih => exact ⟨none_sm, ih, trivial⟩
  | mat _ _ c => exact ⟨LitV.sm (.txt c), ⟨none_sm, trivial, trivial⟩, trivial⟩
  | ask _ _ _ _ i j => exact ⟨none_sm, i, j⟩
  | sum _ _ _ _ i j => exact ⟨none_sm, i, j⟩
  | mul _ _ _ _ i j => exact ⟨none_sm, i, j⟩
  | and _ _ _ _ i j => exact ⟨none_sm, i, j⟩
  | or _ _ _ _ i j => exact ⟨none_sm, i, j⟩
theorem StT.sm {x : Stm} {ts : List KT} (h : StT x ts) : TreeSm x.wh := by
  have hb : ∀ {w : List KT} {x : Ex} {us : List KT}, BhT w x us → TreeSm x := by
    intro w x us h
    cases h with
    | no => exact trivial
    | yes h => exact h.sm
  cases h with
  | delete _ hx => exact hb hx
  | update _ _ hx => exact hb hx
  | select _ _ _ h3 _ _ _ => exact hb h3
  | begin => exact trivial
  | commit => exact trivial
  | rollback => exact trivial
  | index _ _ => exact trivial
  | create _ _ => exact trivial
  | drop _ => exact trivial
  | insert _ _ => exact trivial
def Sm (v : Vl) : Prop := v.t.size ≤ 40
theorem Sm.big {v : Vl} (h : Sm v) : SmV v := by unfold Sm at h; unfold SmV; omega
theorem truthV_sm (b : Bool) : Sm (truthV b) := by cases b <;> exact Nat.zero_le _
theorem numV_sm (n : Int) : Sm (numV n) := Nat.zero_le _
theorem countR_sm {c : Int} {a b x : Vl} (h : countR c a b = .ok x) : Sm x := by
  unfold countR at h
  split at h
  · cases h
  · split at h
    · cases h; exact Nat.zero_le _
    · split at h
      · cases h; exact numV_sm _
      · cases h
theorem bothR_sm {c : Int} {a b x : Vl} (h : bothR c a b = .ok x) : Sm x := by
  unfold bothR at h
  generalize holdsR a = p at h
  generalize holdsR b = q at h
  obtain ⟨p1, p2, p3⟩ := p
  obtain ⟨q1, q2, q3⟩ := q
  cases p3 with
  | some n => cases h
  | none =>
    cases q3 with
    | some n => cases h
    | none =>
      simp only [bothB] at h
      split at h
      · cases h; exact truthV_sm _
      · split at h
        · cases h; exact Nat.zero_le _
        · cases h; exact truthV_sm _
theorem notR_sm {a x : Vl} (h : notR a = .ok x) : Sm x := by
  unfold notR at h
  split at h
  · cases h; exact truthV_sm _
  · split at h
    · cases h
    · cases h; exact Nat.zero_le _
theorem cmpR_sm (c : Int) (a b : Vl) : Sm (cmpR c a b) := by
  unfold cmpR
  split
  · exact Nat.zero_le _
  · unfold askR2
    split
    · exact truthV_sm _
    · exact Nat.zero_le _
theorem oneR_sm {c : Int} {a x : Vl} (h : oneR c a = .ok x) : Sm x := by
  unfold oneR at h
  split at h
  · exact countR_sm h
  · split at h
    · exact notR_sm h
    · cases h; exact truthV_sm _
theorem twoR_sm {c : Int} {a b x : Vl} (h : twoR c a b = .ok x) : Sm x := by
  unfold twoR at h
  split at h
  · exact countR_sm h
  · split at h
    · exact bothR_sm h
    · cases h; exact cmpR_sm _ _ _
theorem colR_sm {a b c x : Vl} {nm : ByteArray} (ha : Sm a) (hb : Sm b) (hc : Sm c) (h : colR a b c nm = .ok x) : Sm x := by
  unfold colR at h
  split at h
  · cases h; exact ha
  · split at h
    · cases h; exact hb
    · split at h
      · cases h; exact hc
      · cases h
theorem evF_sm {a b c : Vl} (ha : Sm a) (hb : Sm b) (hc : Sm c) : ∀ {e : Ex}, TreeSm e → ∀ x, evF a b c e = .ok x → Sm x
  | .nil, _, x, h => by cases h
  | .node cd v nm l r, hT, x, h => by
    unfold evF at h
    split at h
    · cases h
    split at h
    · cases h; exact hT.1
    split at h
    · exact colR_sm ha hb hc h
    split at h
    · unfold matR at h
      split at h
      · cases h; exact truthV_sm _
      · cases h
    unfold bindR at h
    split at h
    · split at h
      · exact oneR_sm h
      · split at h
        · exact twoR_sm h
        · cases h
    · cases h
/-- not, and, or: what the built ones come to -/
def notE (x : Ex) : Ex := .two 4 x .nil
theorem TreeSm.two {c : Int} {x y : Ex} (hx : TreeSm x) (hy : TreeSm y) : TreeSm (.two c x y) := ⟨none_sm, hx, hy⟩
theorem TreeSm.not {x : Ex} (hx : TreeSm x) : TreeSm (notE x) := ⟨none_sm, hx, trivial⟩
end Go.Proofs.YtbdcbaamjkjhaaaGreatDoor
namespace Go.Proofs.YtbdcbaamjkjhaaaGreatDoor
open Go.RowKit

def condP : ByteArray := ⟨#[100, 101, 108, 101, 116, 101, 32, 102, 114, 111, 109, 32, 116, 32, 119, 104, 101, 114, 101, 32]⟩
/-- what a text asks behind where -/
def condF (s : ByteArray) : Ex := if 200 < s.size then .nil else match parseS (condP ++ s) with
  | some st => st.wh
  | none => .nil
theorem cond_size {s : ByteArray} (h : ¬ 200 < s.size) : (condP ++ s).size ≤ 1000 := by
  rw [ByteArray.size_append]
  have : condP.size = 20 := rfl
  omega
theorem condF_sm (s : ByteArray) : TreeSm (condF s) := by
  unfold condF
  split
  · exact trivial
  · rename_i h
    split
    · rename_i st hs
      obtain ⟨ts, ht, _⟩ := parse_stt (cond_size h) hs
      exact ht.sm
    · exact trivial
set_option maxRecDepth 100000 in
set_option maxHeartbeats 4000000 in
theorem cond_any (s : ByteArray) (w : World) (h : BAt w) (hs : s.size ≤ maxLen) : Calls Tryz.prog 12 #[.string s] w fun e w' => ∃ p, e = .returned (.pointer p) ∧ ExAt w' p (condF s) ∧ Below w.heap.size w w' := by
  unfold maxLen at hs
  by_cases hl : 200 < s.size
  · have d1 : decide ((200 : Int) < (s.size : Int)) = true := decide_eq_true (by omega)
    have HC : Hid (condF s = .nil) := by show _ = _; unfold condF; rw [if_pos hl]
    clear hl
    go_enter Tryz.func12, Tryz.ntmps12
    go_wp2
    go_ret
    exact ⟨none, rfl, by rw [HC.out]; rfl, Below.refl _ _⟩
  have d1 : decide ((200 : Int) < (s.size : Int)) = false := decide_eq_false (by omega)
  obtain ⟨t, ht⟩ : ∃ t, condP ++ s = t := ⟨_, rfl⟩
  have HC : Hid (t.size ≤ 1000 ∧ condF s = match parseS t with | some st => st.wh | none => .nil) := by
    refine ⟨by rw [← ht]; exact cond_size hl, ?_⟩
    unfold condF; rw [if_neg hl, ht]
  have e2 := str_add (⟨#[100, 101, 108, 101, 116, 101, 32, 102, 114, 111, 109, 32, 116, 32, 119, 104, 101, 114, 101, 32]⟩) s (by have : (⟨#[100, 101, 108, 101, 116, 101, 32, 102, 114, 111, 109, 32, 116, 32, 119, 104, 101, 114, 101, 32]⟩ : ByteArray).size = 20 := rfl; omega)
  rw [show ⟨#[100, 101, 108, 101, 116, 101, 32, 102, 114, 111, 109, 32, 116, 32, 119, 104, 101, 114, 101, 32]⟩ ++ s = t from ht] at e2
  have H : Hid (BAt w) := h
  clear hl hs h ht
  go_enter Tryz.func12, Tryz.ntmps12
  go_wp2_with fail
  refine (parse_any t w (by have := HC.out.1; omega) H.out.pa).mono ?_
  rintro _ w2 ⟨hb, sv, E, rfl, ⟨st, hp, rfl, hv⟩ | ⟨hn, rfl, t9, v9, rfl⟩⟩
  rotate_left
  · have HN : Hid (condF s = .nil) := by show _ = _; rw [HC.out.2, hn]
    obtain ⟨V, hV⟩ : ∃ V, (w2.alloc (.cells #[.int .i64 0, .string ⟨#[]⟩, .string ⟨#[]⟩, .slice none 0 0, .string ⟨#[]⟩, .slice none 0 0, .slice none 0 0, .pointer none, .pointer none, .slice none 0 0, .pointer none, .slice none 0 0, .int .i64 0] 30)).setCells w2.heap.size 0 svZ.cells.toList = V := ⟨_, rfl⟩
    have HKA : Hid (Blk w2.heap.size svZ.cells 30 (w2.alloc (.cells #[.int .i64 0, .string ⟨#[]⟩, .string ⟨#[]⟩, .slice none 0 0, .string ⟨#[]⟩, .slice none 0 0, .slice none 0 0, .pointer none, .pointer none, .slice none 0 0, .pointer none, .slice none 0 0, .int .i64 0] 30))) := Blk.new _ _ _
    have HVb : Hid (Below w.heap.size w V) := hb.trans (by rw [← hV]; exact (stored_below w2 svZ).mono hb.size)
    clear hb hn HC
    go_wp2_with (refine wpList_store_mid rfl 30 _ _ rfl _ 0 svZ.cells rfl rfl (HKA.out.there rfl) (s30 _) svZ_rows.one ?_; rw [hV])
    go_ret
    exact ⟨none, rfl, by rw [HN.out]; rfl, HVb.out⟩
  · have HN : Hid (condF s = st.wh) := by show _ = _; rw [HC.out.2, hp]
    obtain ⟨V, hV⟩ : ∃ V, (w2.alloc (.cells #[.int .i64 0, .string ⟨#[]⟩, .string ⟨#[]⟩, .slice none 0 0, .string ⟨#[]⟩, .slice none 0 0, .slice none 0 0, .pointer none, .pointer none, .slice none 0 0, .pointer none, .slice none 0 0, .int .i64 0] 30)).setCells w2.heap.size 0 sv.cells.toList = V := ⟨_, rfl⟩
    have hkA : Blk w2.heap.size svZ.cells 30 (w2.alloc (.cells #[.int .i64 0, .string ⟨#[]⟩, .string ⟨#[]⟩, .slice none 0 0, .string ⟨#[]⟩, .slice none 0 0, .slice none 0 0, .pointer none, .pointer none, .slice none 0 0, .pointer none, .slice none 0 0, .int .i64 0] 30)) := Blk.new _ _ _
    have hbV : Below w2.heap.size w2 V := by rw [← hV]; exact stored_below w2 sv
    have HKA : Hid (Blk w2.heap.size svZ.cells 30 (w2.alloc (.cells #[.int .i64 0, .string ⟨#[]⟩, .string ⟨#[]⟩, .slice none 0 0, .string ⟨#[]⟩, .slice none 0 0, .slice none 0 0, .pointer none, .pointer none, .slice none 0 0, .pointer none, .slice none 0 0, .int .i64 0] 30)) ∧ sv.Rows) := ⟨hkA, hv.rowsOk⟩
    have hk : Blk w2.heap.size sv.cells 30 V := by rw [← hV]; exact hkA.stored
    have HV : Hid (ExAt V sv.wh (condF s) ∧ Below w.heap.size w V) := ⟨by rw [HN.out]; exact ((PS.of hv).below hbV).wh, hb.trans (hbV.mono hb.size)⟩
    have z8 : V.cell? ⟨w2.heap.size, 8, none⟩ = some (.pointer sv.wh) := by rw [hk.cell 8]; rfl
    clear hb hp hv hkA hbV hk HC HN
    go_wp2_with (refine wpList_store_mid rfl 30 _ _ rfl _ 0 sv.cells rfl rfl (HKA.out.1.there rfl) (s30 _) HKA.out.2.one ?_; rw [hV])
    go_ret
    exact ⟨_, rfl, HV.out.1, HV.out.2⟩
end Go.Proofs.YtbdcbaamjkjhaaaGreatDoor
namespace Go.Proofs.YtbdcbaamjkjhaaaGreatDoor
open Go.RowKit Go.Extern.Stop Go.Stop Go.Extern

theorem Tryz.valueOf68 (t : Addr) (w : World) : (ReflectliteValue.unpack (.iface 83 (.pointer (some t)))).run Tryz.prog w
    = .ok (.agg #[.pointer (some ⟨13, 83, none⟩), .pointer (some ⟨w.heap.size, 0, none⟩), .int .u64 150]) (w.alloc (.cells #[.pointer (some t)] 83)) := by kernel_rfl
theorem Tryz.type68 (a : Addr) (w : World) : (ReflectliteValue.methodAny (ReflectliteValue.valueError "reflectlite.Value.Type" 0) (fun t _ _ _ => ReflectliteType.toType t) #[.agg #[.pointer (some ⟨13, 83, none⟩), .pointer (some a), .int .u64 150]]).run Tryz.prog w
    = .ok (.iface 156 (.agg #[.pointer (some ⟨13, 83, none⟩)])) w := by kernel_rfl
theorem Tryz.methodKind (h : Value) (w : World) : (Go.method 363 156 (.agg #[h]) "Kind").run Tryz.prog w = .ok (223, h) w := by kernel_rfl
theorem Tryz.kind68 (w : World) : ((ReflectliteType.abiMethod fun t => Functor.map (fun a : Nat => Value.int IntKind.u8 (a : Int)) (Rtype.kind t)) #[.pointer (some ⟨13, 83, none⟩)]).run Tryz.prog w = .ok (.int .u8 22) w := by kernel_rfl
theorem Tryz.kind24 (w : World) : ((ReflectliteType.abiMethod fun t => Functor.map (fun a : Nat => Value.int IntKind.u8 (a : Int)) (Rtype.kind t)) #[.pointer (some ⟨13, 53, none⟩)]).run Tryz.prog w = .ok (.int .u8 2) w := by kernel_rfl
theorem Tryz.parts68 (a : Addr) (w : World) : (ReflectliteValue.parts (.agg #[.pointer (some ⟨13, 83, none⟩), .pointer (some a), .int .u64 150])).run Tryz.prog w = .ok (some (83, a, 150)) w := by kernel_rfl
theorem Tryz.isNil68 (a p : Addr) (W : World) (ha : W.cell? a = some (.pointer (some p))) :
    (ReflectliteValue.method (ReflectliteValue.valueError "reflectlite.Value.IsNil" 0) ReflectliteValue.isNil #[.agg #[.pointer (some ⟨13, 83, none⟩), .pointer (some a), .int .u64 150]]).run Tryz.prog W = .ok (.bool false) W := by
  change Sem.run Tryz.prog (ReflectliteValue.parts (.agg #[.pointer (some ⟨13, 83, none⟩), .pointer (some a), .int .u64 150]) >>= _) W = _
  simp only [Sem.run_bind, Tryz.parts68, Result.andThen]
  simp [ReflectliteValue.isNil, loadVar, isAgg, underlying, Tryz.underlying83, ha, Result.andThen]
theorem Tryz.methodElem (h : Value) (w : World) : (Go.method 363 156 (.agg #[h]) "Elem").run Tryz.prog w = .ok (236, .agg #[h]) w := by kernel_rfl
theorem Tryz.methodImplements (h : Value) (w : World) : (Go.method 363 156 (.agg #[h]) "Implements").run Tryz.prog w = .ok (237, .agg #[h]) w := by kernel_rfl
theorem Tryz.methodAssignableTo (h : Value) (w : World) : (Go.method 363 156 (.agg #[h]) "AssignableTo").run Tryz.prog w = .ok (234, .agg #[h]) w := by kernel_rfl
theorem Tryz.elem68 (w : World) : (ReflectliteType.method ReflectliteType.elem #[.agg #[.pointer (some ⟨13, 83, none⟩)]]).run Tryz.prog w = .ok (.iface 156 (.agg #[.pointer (some ⟨13, 53, none⟩)])) w := by kernel_rfl
theorem Tryz.implements24 (w : World) : (ReflectliteType.relation "Implements" ReflectliteType.implements_ #[.agg #[.pointer (some ⟨13, 53, none⟩)], .iface 156 (.agg #[.pointer (some ⟨13, 32, none⟩)])]).run Tryz.prog w = .ok (.bool true) w := by kernel_rfl
theorem Tryz.typeOf24 (v : Value) (w : World) : (ReflectliteType.typeOf #[.iface 53 v]).run Tryz.prog w = .ok (.iface 156 (.agg #[.pointer (some ⟨13, 53, none⟩)])) w := by kernel_rfl
theorem Tryz.assignable24 (w : World) : (ReflectliteType.relation "AssignableTo" ReflectliteType.assignableTo #[.agg #[.pointer (some ⟨13, 53, none⟩)], .iface 156 (.agg #[.pointer (some ⟨13, 53, none⟩)])]).run Tryz.prog w = .ok (.bool true) w := by kernel_rfl
theorem Tryz.valueOf24 (n : Int) (w : World) : (ReflectliteValue.unpack (.iface 53 (.int .i64 n))).run Tryz.prog w
    = .ok (.agg #[.pointer (some ⟨13, 53, none⟩), .pointer (some ⟨w.heap.size, 0, none⟩), .int .u64 130]) (w.alloc (.cells #[.int .i64 n] 53)) := by kernel_rfl
theorem Tryz.elemOf68 (w : World) : (Rtype.elem? 83).run Tryz.prog w = .ok (some 53) w := by kernel_rfl
theorem Tryz.mk24 (p : Addr) (w : World) : (ReflectliteValue.mk 53 p ReflectliteValue.flagAddr).run Tryz.prog w = .ok (.agg #[.pointer (some ⟨13, 53, none⟩), .pointer (some p), .int .u64 386]) w := by kernel_rfl
theorem Tryz.elemV68 (a p : Addr) (W : World) (ha : W.cell? a = some (.pointer (some p))) :
    (ReflectliteValue.method (ReflectliteValue.valueError "reflectlite.Value.Elem" 0) ReflectliteValue.elem #[.agg #[.pointer (some ⟨13, 83, none⟩), .pointer (some a), .int .u64 150]]).run Tryz.prog W
      = .ok (.agg #[.pointer (some ⟨13, 53, none⟩), .pointer (some p), .int .u64 386]) W := by
  change Sem.run Tryz.prog (ReflectliteValue.parts (.agg #[.pointer (some ⟨13, 83, none⟩), .pointer (some a), .int .u64 150]) >>= _) W = _
  simp only [Sem.run_bind, Tryz.parts68, Result.andThen]
  simp [ReflectliteValue.elem, loadVar, isAgg, underlying, Tryz.underlying83, ha, Result.andThen, Tryz.elemOf68, Tryz.mk24]
end Go.Proofs.YtbdcbaamjkjhaaaGreatDoor
namespace Go.Proofs.YtbdcbaamjkjhaaaGreatDoor
open Go.RowKit Go.Extern.Stop Go.Stop Go.Extern

theorem Tryz.parts24a (a : Addr) (w : World) : (ReflectliteValue.parts (.agg #[.pointer (some ⟨13, 53, none⟩), .pointer (some a), .int .u64 386])).run Tryz.prog w = .ok (some (53, a, 386)) w := by kernel_rfl
theorem Tryz.parts24 (a : Addr) (w : World) : (ReflectliteValue.parts (.agg #[.pointer (some ⟨13, 53, none⟩), .pointer (some a), .int .u64 130])).run Tryz.prog w = .ok (some (53, a, 130)) w := by kernel_rfl
theorem Tryz.direct24 (w : World) : (Rtype.directlyAssignable 53 53).run Tryz.prog w = .ok true w := by kernel_rfl
theorem Tryz.set24 (ta b : Addr) (n : Int) (old : Value) (W : World) (hb : W.cell? b = some (.int .i64 n)) (ht : W.cell? ta = some old) (hf : W.frozen? ta = false) :
    (ReflectliteValue.set #[.agg #[.pointer (some ⟨13, 53, none⟩), .pointer (some ta), .int .u64 386], .agg #[.pointer (some ⟨13, 53, none⟩), .pointer (some b), .int .u64 130]]).run Tryz.prog W
      = .ok (.tuple #[]) (W.setCell ta (.int .i64 n)) := by
  change Sem.run Tryz.prog (ReflectliteValue.parts (.agg #[.pointer (some ⟨13, 53, none⟩), .pointer (some ta), .int .u64 386]) >>= fun p => ReflectliteValue.parts (.agg #[.pointer (some ⟨13, 53, none⟩), .pointer (some b), .int .u64 130]) >>= _) W = _
  simp only [Sem.run_bind, Tryz.parts24a, Tryz.parts24, Result.andThen]
  simp [ReflectliteValue.flagAddr, loadVar, isAgg, underlying, Tryz.underlying53, hb, Result.andThen, Tryz.direct24, storeVar, Value.cells, storeCells, Addr.add]
  rw [run_store Tryz.prog W ta _ _ (by rfl)]
  simp [ht, hf]
end Go.Proofs.YtbdcbaamjkjhaaaGreatDoor
namespace Go.Proofs.YtbdcbaamjkjhaaaGreatDoor
open Go.RowKit Go.Extern.Stop Go.Stop Go.Extern

set_option maxRecDepth 100000 in
set_option maxHeartbeats 2000000 in
theorem as37_hit (n : Int) (t a : Addr) (old : Value) (w : World) (ha : w.cell? a = some (.pointer (some t))) (ht0 : w.cell? t = some old) (hf0 : w.frozen? t = false) :
    Calls Tryz.prog 74 #[.iface 53 (.int .i64 n), .iface 83 (.pointer (some t)), .agg #[.pointer (some ⟨13, 83, none⟩), .pointer (some a), .int .u64 150], .iface 156 (.agg #[.pointer (some ⟨13, 53, none⟩)])] w
      fun ev w' => ev = .returned (.bool true) ∧ w'.cell? t = some (.int .i64 n) ∧ Below t.block w w' := by
  have h34 := @run_callFunc_extern Tryz.prog 71 _ (fun args => ReflectliteValue.unpack (args.getD 0 (.tuple #[]))) Tryz.func71 (by kernel_rfl) (by kernel_rfl) (by kernel_rfl) (by kernel_rfl)
  have h38 := @run_callFunc_extern Tryz.prog 107 _ ReflectliteType.typeOf Tryz.func107 (by kernel_rfl) (by kernel_rfl) (by kernel_rfl) (by kernel_rfl)
  have h65 := @run_callFunc_extern Tryz.prog 234 _ (ReflectliteType.relation "AssignableTo" ReflectliteType.assignableTo) Tryz.func234 (by kernel_rfl) (by kernel_rfl) (by kernel_rfl) (by kernel_rfl)
  have h39 := @run_callFunc_extern Tryz.prog 108 _ (ReflectliteValue.method (ReflectliteValue.valueError "reflectlite.Value.Elem" 0) ReflectliteValue.elem) Tryz.func108 (by kernel_rfl) (by kernel_rfl) (by kernel_rfl) (by kernel_rfl)
  have h40 := @run_callFunc_extern Tryz.prog 109 _ ReflectliteValue.set Tryz.func109 (by kernel_rfl) (by kernel_rfl) (by kernel_rfl) (by kernel_rfl)
  have tO := Tryz.typeOf24
  have mA := Tryz.methodAssignableTo
  have a24 := Tryz.assignable24
  have v24 := Tryz.valueOf24
  have htl : t.block < w.heap.size := World.block_lt_of_cell? w _ ht0
  have hal : a.block < w.heap.size := World.block_lt_of_cell? w _ ha
  have el := Tryz.elemV68 a t (w.alloc (.cells #[.pointer (some ⟨13, 83, none⟩), .pointer (some a), .int .u64 150] 126)) (by rw [World.cell?_alloc_lt _ _ a hal]; exact ha)
  have st := Tryz.set24 t ⟨w.heap.size + 1, 0, none⟩ n old ((w.alloc (.cells #[.pointer (some ⟨13, 83, none⟩), .pointer (some a), .int .u64 150] 126)).alloc (.cells #[.int .i64 n] 53))
    (by rw [World.cell?_alloc_at _ _ _ _ (by simp)]; rfl)
    (by rw [World.cell?_alloc_lt _ _ t (by simp; omega), World.cell?_alloc_lt _ _ t htl]; exact ht0)
    (by rw [World.frozen?_alloc_old _ _ t (by simp; omega), World.frozen?_alloc_old _ _ t (Nat.ne_of_lt htl)]; exact hf0)
  go_enter Tryz.func74, Tryz.ntmps74
  go_wp2
  refine wp_loop_rounds 1 ?_
  rw [rounds_succ]
  go_wp2
  go_ret
  refine ⟨rfl, World.cell?_setCell_same _ _ _ (u := old) (by rw [World.cell?_alloc_lt _ _ t (by simp; omega), World.cell?_alloc_lt _ _ t htl]; exact ht0), ?_⟩
  exact (((Below.refl t.block w).alloc (Nat.le_of_lt htl) _).alloc (by simp; omega) _).setCell (Nat.le_refl _) _

end Go.Proofs.YtbdcbaamjkjhaaaGreatDoor
namespace Go.Proofs.YtbdcbaamjkjhaaaGreatDoor
open Go.RowKit Go.Extern.Stop Go.Stop Go.Extern

set_option maxRecDepth 100000 in
set_option maxHeartbeats 2000000 in
theorem as31_hit  (n : Int) (t : Addr) (old : Value) (w : World) (hg : w.cell? ⟨1, 0, none⟩ = some (.iface 156 (.agg #[.pointer (some ⟨13, 32, none⟩)]))) (ht0 : w.cell? t = some old) (hf0 : w.frozen? t = false) :
    Calls Tryz.prog 38 #[.iface 53 (.int .i64 n), .iface 83 (.pointer (some t))] w fun ev w' => ev = .returned (.bool true) ∧ w'.cell? t = some (.int .i64 n) ∧ Below t.block w w' := by
  have h34 := @run_callFunc_extern Tryz.prog 71 _ (fun args => ReflectliteValue.unpack (args.getD 0 (.tuple #[]))) Tryz.func71 (by kernel_rfl) (by kernel_rfl) (by kernel_rfl) (by kernel_rfl)
  have h35 := @run_callFunc_extern Tryz.prog 72 _ (ReflectliteValue.methodAny (ReflectliteValue.valueError "reflectlite.Value.Type" 0) (fun t _ _ _ => ReflectliteType.toType t)) Tryz.func72 (by kernel_rfl) (by kernel_rfl) (by kernel_rfl) (by kernel_rfl)
  have h36 := @run_callFunc_extern Tryz.prog 73 _ (ReflectliteValue.method (ReflectliteValue.valueError "reflectlite.Value.IsNil" 0) ReflectliteValue.isNil) Tryz.func73 (by kernel_rfl) (by kernel_rfl) (by kernel_rfl) (by kernel_rfl)
  have h55 := @run_callFunc_extern Tryz.prog 223 _ (ReflectliteType.abiMethod fun t => do pure (.int .u8 (← Rtype.kind t))) Tryz.func223 (by kernel_rfl) (by kernel_rfl) (by kernel_rfl) (by kernel_rfl)
  have h67 := @run_callFunc_extern Tryz.prog 236 _ (ReflectliteType.method ReflectliteType.elem) Tryz.func236 (by kernel_rfl) (by kernel_rfl) (by kernel_rfl) (by kernel_rfl)
  have h68 := @run_callFunc_extern Tryz.prog 237 _ (ReflectliteType.relation "Implements" ReflectliteType.implements_) Tryz.func237 (by kernel_rfl) (by kernel_rfl) (by kernel_rfl) (by kernel_rfl)
  have f34 := Tryz.valueOf68
  have f35 := Tryz.type68
  have mK := Tryz.methodKind
  have mE := Tryz.methodElem
  have mI := Tryz.methodImplements
  have k68 := Tryz.kind68
  have k24 := Tryz.kind24
  have e68 := Tryz.elem68
  have i24 := Tryz.implements24
  have htl : t.block < w.heap.size := World.block_lt_of_cell? w _ ht0
  have hlt : 1 < w.heap.size := World.block_lt_of_cell? w _ hg
  have n36 := Tryz.isNil68 ⟨w.heap.size, 0, none⟩ t ((w.alloc (.cells #[.pointer (some t)] 83)).alloc (.cells #[.pointer (some ⟨13, 83, none⟩), .pointer (some ⟨w.heap.size, 0, none⟩), .int .u64 150] 126)) (by simp)
  have hg2 : ((w.alloc (.cells #[.pointer (some t)] 83)).alloc (.cells #[.pointer (some ⟨13, 83, none⟩), .pointer (some ⟨w.heap.size, 0, none⟩), .int .u64 150] 126)).cell? ⟨1, 0, none⟩ = some (.iface 156 (.agg #[.pointer (some ⟨13, 32, none⟩)])) := by
    rw [World.cell?_alloc_lt _ _ ⟨1, 0, none⟩ (by simp; omega), World.cell?_alloc_lt _ _ ⟨1, 0, none⟩ hlt]; exact hg
  go_enter Tryz.func38, Tryz.ntmps38
  go_wp2_with fail
  refine (as37_hit n t ⟨w.heap.size, 0, none⟩ old _
    (by rw [World.cell?_alloc_lt _ _ ⟨w.heap.size, 0, none⟩ (by simp)]; simp)
    (by rw [World.cell?_alloc_lt _ _ t (by simp; omega), World.cell?_alloc_lt _ _ t htl]; exact ht0)
    (by rw [World.frozen?_alloc_old _ _ t (by simp; omega), World.frozen?_alloc_old _ _ t (Nat.ne_of_lt htl)]; exact hf0)).mono ?_
  rintro _ w1 ⟨rfl, hc, hb1⟩
  go_wp2
  go_ret
  exact ⟨rfl, hc, (((Below.refl t.block w).alloc (Nat.le_of_lt htl) _).alloc (by simp; omega) _).trans hb1⟩

end Go.Proofs.YtbdcbaamjkjhaaaGreatDoor
namespace Go.Proofs.YtbdcbaamjkjhaaaGreatDoor
open Go.RowKit Go.Extern.Stop Go.Stop Go.Extern

def HG (w : World) : Prop := w.cell? ⟨1, 0, none⟩ = some (.iface 156 (.agg #[.pointer (some ⟨13, 32, none⟩)]))
theorem HG.lt {w : World} (h : HG w) : 1 < w.heap.size := World.block_lt_of_cell? w _ h
theorem HG.below {w w' : World} {B : Nat} (h : HG w) (hb : Below B w w') (hB : 1 < B) : HG w' := (hb.cell (p := ⟨1, 0, none⟩) hB).trans h

theorem tell_nil (w : World) : Calls Tryz.prog 18 #[.nilIface] w fun e w' => e = .returned (.int .i64 0) ∧ w' = w := by
  go_enter Tryz.func18, Tryz.ntmps18
  go_wp2
  go_ret
  exact ⟨rfl, rfl⟩

set_option maxRecDepth 100000 in
set_option maxHeartbeats 1000000 in
theorem tell_hit (n : Int) (w : World) (hg : HG w) : Calls Tryz.prog 18 #[.iface 53 (.int .i64 n)] w fun e w' => e = .returned (.int .i64 n) ∧ Below w.heap.size w w' := by
  have hg2 : (w.alloc (.cells #[.int .i64 0] 53)).cell? ⟨1, 0, none⟩ = some (.iface 156 (.agg #[.pointer (some ⟨13, 32, none⟩)])) := by
    rw [World.cell?_alloc_lt _ _ ⟨1, 0, none⟩ hg.lt]; exact hg
  have HGH : Hid _ := hg2
  clear hg2 hg
  go_enter Tryz.func18, Tryz.ntmps18
  go_wp2_with fail
  refine (as31_hit n ⟨w.heap.size, 0, none⟩ (.int .i64 0) _ HGH.out (by simp) (by simp)).mono ?_
  rintro _ w1 ⟨rfl, hc, hb1⟩
  have hb : Below w.heap.size w w1 := ((Below.refl _ w).alloc (Nat.le_refl _) _).trans hb1
  clear hb1
  go_wp2
  go_ret
  exact ⟨rfl, hb⟩

end Go.Proofs.YtbdcbaamjkjhaaaGreatDoor
namespace Go.Proofs.YtbdcbaamjkjhaaaGreatDoor
open Go.RowKit

theorem rightText_big (s : ByteArray) (h : 40 < s.size) (hs : s.size ≤ maxLen) (w : World) : Calls Tryz.prog 32 #[.string s] w fun e w' => e = .returned (.bool false) ∧ w' = w := by
  unfold maxLen at hs
  have d1 : decide ((s.size : Int) ≤ 40) = false := decide_eq_false (by omega)
  clear h hs
  go_enter Tryz.func32, Tryz.ntmps32
  go_wp2
  go_ret
  exact ⟨rfl, rfl⟩
theorem rightText_sm (s : ByteArray) (hs : s.size ≤ maxLen) (w : World) : Calls Tryz.prog 32 #[.string s] w fun e w' => ∃ b, e = .returned (.bool b) ∧ (b = true → s.size ≤ 40) ∧ w' = w := by
  by_cases h : s.size ≤ 40
  · exact (rightText_any s _ rfl w (by omega)).mono fun e w' ⟨h1, h2⟩ => ⟨_, h1, fun _ => h, h2⟩
  · exact (rightText_big s (by omega) hs w).mono fun e w' ⟨h1, h2⟩ => ⟨_, h1, (fun hh => by cases hh), h2⟩
theorem empty_sm {t : ByteArray} (h : (t.toList == []) = true) : t.size ≤ 40 := by
  have h1 : t.toList = [] := by simpa using h
  rw [← ba_len]
  have h2 : t.data.toList = [] := by rw [← ByteArray.toList_eq]; exact h1
  rw [h2]; decide
/-- what Right tells -/
def RightTo (v : Vl) (w : World) (e : Ending) (w' : World) : Prop := ∃ b, e = .returned (.bool b) ∧ (b = true → Sm v) ∧ Below w.heap.size w w'
set_option maxRecDepth 100000 in
set_option maxHeartbeats 4000000 in
theorem right_any (v : Vl) (w : World) (hs : v.t.size ≤ maxLen) : Calls Tryz.prog 11 #[vv v] w fun e w' => RightTo v w e w' := by
  obtain ⟨W, hW⟩ : ∃ W, w.alloc (.cells #[.int .i64 v.k, .int .i64 v.n, .string v.t] 39) = W := ⟨_, rfl⟩
  have hbW : Below w.heap.size w W := by rw [← hW]; exact (Below.refl _ _).alloc (Nat.le_refl _) _
  have hk0W : Blk (w.heap.size) v.cells 39 W := by
      have hq := Blk.new w v.cells 39
      rw [← hW]
      exact hq
  have G0 : Hid (Blk (w.heap.size) v.cells 39 W ∧ Below w.heap.size w W) := ⟨hk0W, hbW⟩
  clear hbW
  obtain ⟨a0, a1, a2, af⟩ := hk0W.vc
  have HS : Hid (v.t.size ≤ maxLen) := hs
  clear hk0W hs
  unfold vv
  obtain ⟨q1, hq1⟩ : ∃ q, (v.n == 0) = q := ⟨_, rfl⟩
  obtain ⟨q2, hq2⟩ : ∃ q, (v.t.toList == []) = q := ⟨_, rfl⟩
  have HQ : Hid (q2 = true → Sm v) := fun h => empty_sm (hq2.trans h)
  by_cases h0 : v.k = 0
  · have e0 : (v.k == 0) = true := by simp [h0]
    clear h0
    cases q1 <;> cases q2
    all_goals
      go_enter Tryz.func11, Tryz.ntmps11
      go_wp2
      go_ret
    · exact ⟨_, rfl, fun h => (by cases h), G0.out.2⟩
    · exact ⟨_, rfl, fun h => (by cases h), G0.out.2⟩
    · exact ⟨_, rfl, fun h => (by cases h), G0.out.2⟩
    · exact ⟨_, rfl, fun _ => HQ.out trivial, G0.out.2⟩
  by_cases h1 : v.k = 1
  · have e0 : (v.k == 0) = false := by simp [h0]
    have e1 : (v.k == 1) = true := by simp [h1]
    clear h0 h1
    cases q2
    all_goals
      go_enter Tryz.func11, Tryz.ntmps11
      go_wp2
      go_ret
    · exact ⟨_, rfl, fun h => (by cases h), G0.out.2⟩
    · exact ⟨_, rfl, fun _ => HQ.out trivial, G0.out.2⟩
  by_cases h2 : v.k = 2
  · have e0 : (v.k == 0) = false := by simp [h0]
    have e1 : (v.k == 1) = false := by simp [h1]
    have e2 : (v.k == 2) = true := by simp [h2]
    clear hq2 h0 h1 h2
    cases q1
    · go_enter Tryz.func11, Tryz.ntmps11
      go_wp2
      go_ret
      exact ⟨_, rfl, fun h => (by cases h), G0.out.2⟩
    · go_enter Tryz.func11, Tryz.ntmps11
      go_wp2_with fail
      refine (rightText_sm v.t HS.out W).mono ?_
      rintro _ _ ⟨b, rfl, hb, rfl⟩
      have HB : Hid (b = true → v.t.size ≤ 40) := hb
      clear hb
      go_wp2
      go_ret
      exact ⟨_, rfl, HB.out, G0.out.2⟩
  · have e0 : (v.k == 0) = false := by simp [h0]
    have e1 : (v.k == 1) = false := by simp [h1]
    have e2 : (v.k == 2) = false := by simp [h2]
    clear hq1 hq2 h0 h1 h2
    go_enter Tryz.func11, Tryz.ntmps11
    go_wp2
    go_ret
    exact ⟨_, rfl, fun h => (by cases h), G0.out.2⟩
end Go.Proofs.YtbdcbaamjkjhaaaGreatDoor
namespace Go.Proofs.YtbdcbaamjkjhaaaGreatDoor
open Go.RowKit

/-- a tree that was built -/
def BuiltTo (x : Ex) (w : World) (e : Ending) (w' : World) : Prop := ∃ q, e = .returned (.pointer q) ∧ ExAt w' q x ∧ Below w.heap.size w w'
/-- what the law's closures look at -/
structure SW (ba bb bc bf be : Nat) (a b c : Vl) (w : World) : Prop where
  ev : EnvW ba bb bc bf a b c w
  ke : Blk be #[.func (.func 33) #[] #[.pointer (some ⟨ba, 0, none⟩), .pointer (some ⟨bb, 0, none⟩), .pointer (some ⟨bc, 0, none⟩)], .func (.func 34) #[] #[.pointer (some ⟨bf, 0, none⟩)]] 45 w
  hg : HG w
theorem SW.below {ba bb bc bf be : Nat} {a b c : Vl} {w w' : World} (h : SW ba bb bc bf be a b c w) (hb : Below w.heap.size w w') : SW ba bb bc bf be a b c w' :=
  ⟨h.ev.below hb, h.ke.below hb, h.hg.below hb (by have := h.ev.lo; omega)⟩
theorem SW.env {ba bb bc bf be : Nat} {a b c : Vl} {w : World} (h : SW ba bb bc bf be a b c w) : w.cell? ⟨be, 0, none⟩ = some (.func (.func 33) #[] #[.pointer (some ⟨ba, 0, none⟩), .pointer (some ⟨bb, 0, none⟩), .pointer (some ⟨bc, 0, none⟩)]) ∧ w.cell? ⟨be, 1, none⟩ = some (.func (.func 34) #[] #[.pointer (some ⟨bf, 0, none⟩)]) := ⟨by rw [h.ke.cell 0]; rfl, by rw [h.ke.cell 1]; rfl⟩
/-- what columns have is small -/
structure Sms (a b c : Vl) : Prop where
  a : Sm a
  b : Sm b
  c : Sm c
def numOf : Except Int Vl → Int
  | .ok _ => 0
  | .error n => n
theorem tell_any (r : Except Int Vl) (w : World) (hg : HG w) : Calls Tryz.prog 18 #[errOf r] w fun e w' => e = .returned (.int .i64 (numOf r)) ∧ Below w.heap.size w w' := by
  cases r with
  | ok v => exact (tell_nil w).mono fun e w' ⟨h1, h2⟩ => ⟨h1, by rw [h2]; exact Below.refl _ _⟩
  | error n => exact tell_hit n w hg
theorem ok_of {R : Except Int Vl} (h : errOf R = .nilIface) : R = .ok (valOf R) := by
  cases R with
  | ok v => rfl
  | error n => cases h
theorem exAt_cases {w : World} {p : Option Addr} {X : Ex} (h : ExAt w p X) : p = none ∨ ∃ B, p = some ⟨B, 0, none⟩ := by
  cases X with
  | nil => exact Or.inl h
  | node c v nm l r => obtain ⟨B, _, _, e, _⟩ := h; exact Or.inr ⟨B, e⟩
end Go.Proofs.YtbdcbaamjkjhaaaGreatDoor
namespace Go.Proofs.YtbdcbaamjkjhaaaGreatDoor
open Go.RowKit

/-- what lies in memory ahead of the law -/
structure LAt (w : World) : Prop where
  b : BAt w
  ask : w.rangeAt 0 0 askCells
  hg : HG w
theorem LAt.below {w w' : World} (h : LAt w) (hb : Below w.heap.size w w') : LAt w' :=
  ⟨h.b.below hb, range_keep h.ask (fun q => World.cell?_of_block (w := w) (a := ⟨0, q, none⟩) (hb.block 0 (by have := h.b.g.lo; omega))), h.hg.below hb (by have := h.b.g.lo; omega)⟩
def knT : ByteArray := ⟨#[97, 32, 62, 32, 49, 32, 111, 114, 32, 98, 32, 105, 115, 32, 110, 117, 108, 108]⟩
def kn0 : Ex := .two 16 (.two 13 (colE ⟨#[97]⟩) (numE 1)) (.two 5 (colE ⟨#[98]⟩) .nil)
theorem kn_cond : condF knT = kn0 := by kernel_rfl
theorem kn_ev : evF (numV 1) .none .none kn0 = .ok (numV 1) := by kernel_rfl
theorem kn_both : bothR 15 .none (numV 0) = .ok (numV 0) := by kernel_rfl
set_option maxRecDepth 100000 in
set_option maxHeartbeats 8000000 in
theorem known_any (w : World) (h : LAt w) : Calls Tryz.prog 10 #[] w fun e w' => e = .returned (.bool true) ∧ Below w.heap.size w w' := by
  have H : Hid (LAt w) := h
  clear h
  go_enter Tryz.func10, Tryz.ntmps10
  go_wp2_with fail
  have h8 := cond_any knT w H.out.b (by decide)
  rw [kn_cond] at h8
  refine h8.mono ?_
  clear h8
  rintro _ w1 ⟨p, rfl, hX, hb⟩
  obtain ⟨B, pl, pr, rfl, hlt, hcs, hl, hr⟩ := hX
  have H1 : Hid (LAt w1 ∧ ExAt w1 (some ⟨B, 0, none⟩) kn0 ∧ Below w.heap.size w w1) := ⟨H.out.below hb, ⟨B, pl, pr, rfl, hlt, hcs, hl, hr⟩, hb⟩
  clear hb hlt hcs hl hr
  go_wp2_with fail
  refine (knumber_any 1 w1).mono ?_
  rintro _ w2 ⟨rfl, hb⟩
  have H2 : Hid (LAt w2 ∧ ExAt w2 (some ⟨B, 0, none⟩) kn0 ∧ Below w.heap.size w w2) := ⟨H1.out.1.below hb, H1.out.2.1.below hb, H1.out.2.2.trans (hb.mono H1.out.2.2.size)⟩
  clear hb
  go_wp2_with fail
  refine (env_any (numV 1) .none .none w2 H2.out.1.ask H2.out.1.b.g.lo).mono ?_
  rintro _ w3 ⟨rfl, hE, hb⟩
  have H3 : Hid (LAt w3 ∧ ExAt w3 (some ⟨B, 0, none⟩) kn0 ∧ Below w.heap.size w w3 ∧ EnvW (w2.heap.size) (w2.heap.size + 1) (w2.heap.size + 1 + 1) (w2.heap.size + 4) (numV 1) .none .none w3) := ⟨H2.out.1.below hb, H2.out.2.1.below hb, H2.out.2.2.trans (hb.mono H2.out.2.2.size), hE⟩
  clear hb hE
  go_wp2_with fail
  have h8 := eval_any (numV 1) .none .none kn0 (fun x hx => by rw [kn_ev] at hx; cases hx; exact (numV_sm 1).big) _ _ _ _ _ w3 H3.out.2.2.2 H3.out.2.1
  obtain ⟨v1, hv1⟩ : ∃ v, numV 1 = v := ⟨_, rfl⟩
  have HV1 : Hid (numV 1 = v1) := hv1
  rw [kn_ev, hv1] at h8
  clear hv1
  refine h8.mono ?_
  clear h8
  rintro _ w4 ⟨rfl, hb⟩
  obtain ⟨V, hV⟩ : ∃ V, w4.alloc (.cells #[.int .i64 v1.k, .int .i64 v1.n, .string v1.t] 39) = V := ⟨_, rfl⟩
  have hbV : Below w4.heap.size w4 V := by rw [← hV]; exact (Below.refl _ _).alloc (Nat.le_refl _) _
  have hkV : Blk w4.heap.size (numV 1).cells 39 V := by rw [← hV, HV1.out]; exact Blk.new _ _ _
  have H4 : Hid (Below w.heap.size w V ∧ Blk w4.heap.size (numV 1).cells 39 V) := ⟨(H3.out.2.2.1.trans (hb.mono H3.out.2.2.1.size)).trans (hbV.mono (Nat.le_trans H3.out.2.2.1.size hb.size)), hkV⟩
  clear hb hbV hkV
  simp only [tupR, vv]
  go_wp2_with fail
  refine (knumber_any 0 V).mono ?_
  rintro _ w5 ⟨rfl, hb⟩
  have H5 : Hid (Below w.heap.size w w5 ∧ Blk w4.heap.size (numV 1).cells 39 w5) := ⟨H4.out.1.trans (hb.mono H4.out.1.size), H4.out.2.below hb⟩
  clear hb
  go_wp2_with fail
  have h8 := both_any 15 .none (numV 0) w5
  obtain ⟨v2, hv2⟩ : ∃ v, numV 0 = v := ⟨_, rfl⟩
  have HV2 : Hid (numV 0 = v2) := hv2
  rw [kn_both] at h8
  have h8 : Calls Tryz.prog 31 #[.int .i64 15, vv .none, vv (numV 0)] w5 fun e w' => e = .returned (tupR (.ok v2)) ∧ Below w5.heap.size w5 w' := by rw [← hv2]; exact h8
  clear hv2
  refine h8.mono ?_
  clear h8
  rintro _ w6 ⟨rfl, hb⟩
  obtain ⟨U, hU⟩ : ∃ V, w6.alloc (.cells #[.int .i64 v2.k, .int .i64 v2.n, .string v2.t] 39) = V := ⟨_, rfl⟩
  have hbU : Below w6.heap.size w6 U := by rw [← hU]; exact (Below.refl _ _).alloc (Nat.le_refl _) _
  have hkU : Blk w6.heap.size (numV 0).cells 39 U := by rw [← hU, HV2.out]; exact Blk.new _ _ _
  have H6 : Hid (Below w.heap.size w U ∧ Blk w4.heap.size (numV 1).cells 39 U ∧ Blk w6.heap.size (numV 0).cells 39 U) := ⟨(H5.out.1.trans (hb.mono H5.out.1.size)).trans (hbU.mono (Nat.le_trans H5.out.1.size hb.size)), (H5.out.2.below hb).below hbU, hkU⟩
  clear hb hbU hkU
  simp only [tupR, vv]
  go_upto_region 4 with fail
  have d : Below U.heap.size U U.drew := (Below.refl _ _).drew
  obtain ⟨a0, a1, a2, af⟩ := (H6.out.2.1.below d).vc
  obtain ⟨b0, b1, b2, bf⟩ := (H6.out.2.2.below d).vc
  have HK : Hid (∀ wx, Below U.drew.heap.size U.drew wx → wx.cell? ⟨w4.heap.size, 0, none⟩ = some (.int .i64 1) ∧ wx.cell? ⟨w4.heap.size, 1, none⟩ = some (.int .i64 1) ∧ wx.cell? ⟨w4.heap.size, 2, none⟩ = some (.string ⟨#[]⟩) ∧ wx.cell? ⟨w6.heap.size, 0, none⟩ = some (.int .i64 1) ∧ wx.cell? ⟨w6.heap.size, 1, none⟩ = some (.int .i64 0) ∧ wx.cell? ⟨w6.heap.size, 2, none⟩ = some (.string ⟨#[]⟩)) := fun wx hb => by
    obtain ⟨x0, x1, x2, _⟩ := ((H6.out.2.1.below d).below hb).vc
    obtain ⟨y0, y1, y2, _⟩ := ((H6.out.2.2.below d).below hb).vc
    exact ⟨x0, x1, x2, y0, y1, y2⟩
  have HBx : Hid (Below U.drew.heap.size U.drew U.drew) := Below.refl _ _
  have HF : Hid (Below w.heap.size w U.drew) := H6.out.1.drew
  clear d
  go_region_held3 (fun wx => wx.cell? ⟨w4.heap.size, 0, none⟩ = some (.int .i64 1) ∧ wx.cell? ⟨w4.heap.size, 1, none⟩ = some (.int .i64 1) ∧ wx.cell? ⟨w4.heap.size, 2, none⟩ = some (.string ⟨#[]⟩) ∧ wx.cell? ⟨w6.heap.size, 0, none⟩ = some (.int .i64 1) ∧ wx.cell? ⟨w6.heap.size, 1, none⟩ = some (.int .i64 0) ∧ wx.cell? ⟨w6.heap.size, 2, none⟩ = some (.string ⟨#[]⟩)) (exact HK.out _ HBx.out) ((go_at_call 24; refine Calls.mono (knumber_any _ _) ?_; rintro _ w7 ⟨rfl, hb⟩; have HBx : Hid (Below U.drew.heap.size U.drew w7) := HBx.out.trans (hb.mono HBx.out.size); clear hb; simp only [vv, numV]))
  go_wp2
  go_ret
  exact ⟨rfl, HF.out.trans (HBx.out.mono HF.out.size)⟩
/-- the law's three values in memory -/
structure T0 (a b c : Vl) (w wx : World) : Prop where
  ka : Blk w.heap.size a.cells 39 wx
  kb : Blk (w.heap.size + 1) b.cells 39 wx
  kc : Blk (w.heap.size + 2) c.cells 39 wx
  l : LAt wx
  be : Below w.heap.size w wx
theorem T0.below {a b c : Vl} {w wx wy : World} (h : T0 a b c w wx) (hb : Below wx.heap.size wx wy) : T0 a b c w wy := ⟨h.ka.below hb, h.kb.below hb, h.kc.below hb, h.l.below hb, h.be.trans (hb.mono h.be.size)⟩
end Go.Proofs.YtbdcbaamjkjhaaaGreatDoor
