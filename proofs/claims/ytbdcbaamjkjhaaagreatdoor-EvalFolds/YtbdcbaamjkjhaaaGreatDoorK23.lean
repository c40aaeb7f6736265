/- Part 23 of 29. -/
import Derived.Test.YtbdcbaamjkjhaaaGreatDoorK22
import Derived.Laws.EntriesVeiled
namespace Go.Proofs.YtbdcbaamjkjhaaaGreatDoor
open Go.RowKit

theorem s45 : (Tryz.prog.info? 45).map (·.size) = some 2 := by kernel_rfl
theorem load45 {b : Nat} {x y : Value} {w : World} (h : Blk b #[x, y] 45 w) : (loadVar 45 ⟨b, 0, none⟩).run Tryz.prog w = .ok (.agg #[x, y]) w := by
  have := run_loadVar_mid (P := Tryz.prog) w b 0 45 [x, y] _ h.range Tryz.underlying45 rfl s45
  simpa using this
def put45 (w : World) (b : Nat) (x y : Value) : World := (w.setCell ⟨b, 0, none⟩ x).setCell ⟨b, 1, none⟩ y
theorem put45_blk {w : World} {b : Nat} {x0 y0 : Value} (x y : Value) (h : Blk b #[x0, y0] 45 w) : Blk b #[x, y] 45 (put45 w b x y) := by
  have := (h.set 0 x).set 1 y
  unfold put45
  simpa using this
set_option maxRecDepth 100000 in
set_option maxHeartbeats 2000000 in
theorem whole_any (ba bb bc bf : Nat) (w : World) : Calls Tryz.prog 35 #[.agg #[.func (.func 33) #[] #[.pointer (some ⟨ba, 0, none⟩), .pointer (some ⟨bb, 0, none⟩), .pointer (some ⟨bc, 0, none⟩)], .func (.func 34) #[] #[.pointer (some ⟨bf, 0, none⟩)]]] w fun e w' => e = .returned (.agg #[.func (.func 33) #[] #[.pointer (some ⟨ba, 0, none⟩), .pointer (some ⟨bb, 0, none⟩), .pointer (some ⟨bc, 0, none⟩)], .func (.func 34) #[] #[.pointer (some ⟨bf, 0, none⟩)]]) ∧ Below w.heap.size w w' := by
  obtain ⟨W, hW⟩ : ∃ W, (w.alloc (.cells #[.func (.func 33) #[] #[.pointer (some ⟨ba, 0, none⟩), .pointer (some ⟨bb, 0, none⟩), .pointer (some ⟨bc, 0, none⟩)], .func (.func 34) #[] #[.pointer (some ⟨bf, 0, none⟩)]] 45)).alloc (.cells #[.nilFunc, .nilFunc] 45) = W := ⟨_, rfl⟩
  have hbW : Below w.heap.size w W := by rw [← hW]; exact ((Below.refl _ _).alloc (Nat.le_refl _) _).alloc (by simp only [World.size_alloc]; omega) _
  have hkE : Blk w.heap.size #[.func (.func 33) #[] #[.pointer (some ⟨ba, 0, none⟩), .pointer (some ⟨bb, 0, none⟩), .pointer (some ⟨bc, 0, none⟩)], .func (.func 34) #[] #[.pointer (some ⟨bf, 0, none⟩)]] 45 W := by rw [← hW]; exact (Blk.new _ _ _).below ((Below.refl _ _).alloc (Nat.le_refl _) _)
  have hkR : Blk (w.heap.size + 1) #[.nilFunc, .nilFunc] 45 W := by
    have hq := Blk.new (w.alloc (.cells #[.func (.func 33) #[] #[.pointer (some ⟨ba, 0, none⟩), .pointer (some ⟨bb, 0, none⟩), .pointer (some ⟨bc, 0, none⟩)], .func (.func 34) #[] #[.pointer (some ⟨bf, 0, none⟩)]] 45)) #[.nilFunc, .nilFunc] 45
    simp only [World.size_alloc] at hq
    rw [← hW]
    exact hq
  have G0 : Hid (Blk (w.heap.size + 1) #[.nilFunc, .nilFunc] 45 W ∧ Below w.heap.size w W) := ⟨hkR, hbW⟩
  have e0 : W.cell? ⟨w.heap.size, 0, none⟩ = some (.func (.func 33) #[] #[.pointer (some ⟨ba, 0, none⟩), .pointer (some ⟨bb, 0, none⟩), .pointer (some ⟨bc, 0, none⟩)]) := by rw [hkE.cell 0]; rfl
  have e1 : W.cell? ⟨w.heap.size, 1, none⟩ = some (.func (.func 34) #[] #[.pointer (some ⟨bf, 0, none⟩)]) := by rw [hkE.cell 1]; rfl
  have r0 : W.cell? ⟨w.heap.size + 1, 0, none⟩ = some .nilFunc := by rw [hkR.cell 0]; rfl
  have r1 : W.cell? ⟨w.heap.size + 1, 1, none⟩ = some .nilFunc := by rw [hkR.cell 1]; rfl
  have rf : ∀ i, W.frozen? ⟨w.heap.size + 1, i, none⟩ = false := fun i => hkR.free i
  have q1 : ∀ u, Sem.run Tryz.prog (binOp BinOp.eql 42 (.func (.func 33) #[] #[.pointer (some ⟨ba, 0, none⟩), .pointer (some ⟨bb, 0, none⟩), .pointer (some ⟨bc, 0, none⟩)]) Value.nilFunc) u = .ok (.bool false) u := fun u => by kernel_rfl
  have q2 : ∀ u, Sem.run Tryz.prog (binOp BinOp.eql 43 (.func (.func 34) #[] #[.pointer (some ⟨bf, 0, none⟩)]) Value.nilFunc) u = .ok (.bool false) u := fun u => by kernel_rfl
  clear hkE hkR hbW
  go_enter Tryz.func35, Tryz.ntmps35
  go_wp2
  refine bodyPost_ret (v := .agg #[.func (.func 33) #[] #[.pointer (some ⟨ba, 0, none⟩), .pointer (some ⟨bb, 0, none⟩), .pointer (some ⟨bc, 0, none⟩)], .func (.func 34) #[] #[.pointer (some ⟨bf, 0, none⟩)]]) (results_c Tryz.results35 _ _ ⟨w.heap.size + 1, 0, none⟩ rfl (load45 (put45_blk (.func (.func 33) #[] #[.pointer (some ⟨ba, 0, none⟩), .pointer (some ⟨bb, 0, none⟩), .pointer (some ⟨bc, 0, none⟩)]) (.func (.func 34) #[] #[.pointer (some ⟨bf, 0, none⟩)]) G0.out.1))) rfl ?_
  exact ⟨rfl, (G0.out.2.setCell (show w.heap.size ≤ w.heap.size + 1 by omega) _).setCell (show w.heap.size ≤ w.heap.size + 1 by omega) _⟩
def SmV (v : Vl) : Prop := v.t.size ≤ 100000
set_option maxRecDepth 100000 in
set_option maxHeartbeats 4000000 in
theorem eval_any (a b c : Vl) (e : Ex) (hsm : ∀ x, evF a b c e = .ok x → SmV x) (ba bb bc bf : Nat) (p : Option Addr) (w : World) (hE : EnvW ba bb bc bf a b c w) (hX : ExAt w p e) : Calls Tryz.prog 17 #[.pointer p, .agg #[.func (.func 33) #[] #[.pointer (some ⟨ba, 0, none⟩), .pointer (some ⟨bb, 0, none⟩), .pointer (some ⟨bc, 0, none⟩)], .func (.func 34) #[] #[.pointer (some ⟨bf, 0, none⟩)]]] w fun r w' => r = .returned (tupR (evF a b c e)) ∧ Below w.heap.size w w' := by
  obtain ⟨W, hW⟩ : ∃ W, (w.alloc (.cells #[.func (.func 33) #[] #[.pointer (some ⟨ba, 0, none⟩), .pointer (some ⟨bb, 0, none⟩), .pointer (some ⟨bc, 0, none⟩)], .func (.func 34) #[] #[.pointer (some ⟨bf, 0, none⟩)]] 45)).alloc (.cells #[.int .i64 0, .int .i64 0, .string ⟨#[]⟩] 39) = W := ⟨_, rfl⟩
  have hbW : Below w.heap.size w W := by rw [← hW]; exact ((Below.refl _ _).alloc (Nat.le_refl _) _).alloc (by simp only [World.size_alloc]; omega) _
  have hkE : Blk w.heap.size #[.func (.func 33) #[] #[.pointer (some ⟨ba, 0, none⟩), .pointer (some ⟨bb, 0, none⟩), .pointer (some ⟨bc, 0, none⟩)], .func (.func 34) #[] #[.pointer (some ⟨bf, 0, none⟩)]] 45 W := by rw [← hW]; exact (Blk.new _ _ _).below ((Below.refl _ _).alloc (Nat.le_refl _) _)
  have hkR : Blk (w.heap.size + 1) Vl.none.cells 39 W := by
    have hq := Blk.new (w.alloc (.cells #[.func (.func 33) #[] #[.pointer (some ⟨ba, 0, none⟩), .pointer (some ⟨bb, 0, none⟩), .pointer (some ⟨bc, 0, none⟩)], .func (.func 34) #[] #[.pointer (some ⟨bf, 0, none⟩)]] 45)) Vl.none.cells 39
    simp only [World.size_alloc] at hq
    rw [← hW]
    exact hq
  have G0 : Hid (Blk (w.heap.size + 1) Vl.none.cells 39 W ∧ Below w.heap.size w W ∧ EnvW ba bb bc bf a b c W ∧ ExAt W p e) := ⟨hkR, hbW, hE.below hbW, hX.below hbW⟩
  have e0 : W.cell? ⟨w.heap.size, 0, none⟩ = some (.func (.func 33) #[] #[.pointer (some ⟨ba, 0, none⟩), .pointer (some ⟨bb, 0, none⟩), .pointer (some ⟨bc, 0, none⟩)]) := by rw [hkE.cell 0]; rfl
  have e1 : W.cell? ⟨w.heap.size, 1, none⟩ = some (.func (.func 34) #[] #[.pointer (some ⟨bf, 0, none⟩)]) := by rw [hkE.cell 1]; rfl
  obtain ⟨R, hR⟩ : ∃ R, evF a b c e = R := ⟨_, rfl⟩
  have HR : Hid (evF a b c e = R ∧ ∀ x, R = .ok x → SmV x) := ⟨hR, fun x hx => hsm x (hR.trans hx)⟩
  rw [hR]
  clear hkE hkR hbW hE hX hR hsm
  go_enter Tryz.func17, Tryz.ntmps17
  go_wp2_with fail
  refine (whole_any ba bb bc bf W).mono ?_
  rintro _ w1 ⟨rfl, hb⟩
  have H1 : Hid (Blk (w.heap.size + 1) Vl.none.cells 39 w1 ∧ Below w.heap.size w w1 ∧ EnvW ba bb bc bf a b c w1 ∧ ExAt w1 p e) := ⟨G0.out.1.below hb, G0.out.2.1.trans (hb.mono G0.out.2.1.size), G0.out.2.2.1.below hb, G0.out.2.2.2.below hb⟩
  clear hb
  go_wp2_with fail
  have h8 := come_all a b c e ba bb bc bf p w1 H1.out.2.2.1 H1.out.2.2.2
  rw [HR.out.1] at h8
  refine h8.mono ?_
  clear h8
  rintro _ w2 ⟨⟨v, rfl, hv⟩, hb⟩
  obtain ⟨V, hV⟩ : ∃ V, w2.alloc (.cells #[.int .i64 v.k, .int .i64 v.n, .string v.t] 39) = V := ⟨_, rfl⟩
  have hbV : Below w2.heap.size w2 V := by rw [← hV]; exact (Below.refl _ _).alloc (Nat.le_refl _) _
  have hkV : Blk w2.heap.size v.cells 39 V := by rw [← hV]; exact Blk.new _ _ _
  have H2 : Hid (Blk (w.heap.size + 1) Vl.none.cells 39 V ∧ Below w.heap.size w V ∧ ∀ x, R = .ok x → v = x) := ⟨(H1.out.1.below hb).below hbV, (H1.out.2.1.trans (hb.mono H1.out.2.1.size)).trans (hbV.mono (Nat.le_trans H1.out.2.1.size hb.size)), hv⟩
  obtain ⟨u0, u1, u2, uf⟩ := hkV.vc
  obtain ⟨r0, r1, r2, rf⟩ := H2.out.1.vc
  clear hb hbV hkV hv
  unfold vv
  cases R with
  | error n =>
    simp only [errOf]
    go_wp2
    refine bodyPost_ret (v := .tuple #[vv .none, .iface 53 (.int .i64 n)]) (results_ct Tryz.results17 _ _ ⟨w.heap.size + 1, 0, none⟩ rfl (load39 (put39_blk .none H2.out.1))) rfl ?_
    exact ⟨rfl, put39_below .none H2.out.2.1 (by omega)⟩
  | ok x =>
    obtain rfl : v = x := H2.out.2.2 x rfl
    simp only [errOf]
    go_wp2_with fail
    refine (own_any v V (HR.out.2 v rfl)).mono ?_
    rintro _ w3 ⟨rfl, hb⟩
    have H3 : Hid (Blk (w.heap.size + 1) Vl.none.cells 39 w3 ∧ Below w.heap.size w w3) := ⟨H2.out.1.below hb, H2.out.2.1.trans (hb.mono H2.out.2.1.size)⟩
    obtain ⟨t0, t1, t2, tf⟩ := H3.out.1.vc
    clear hb
    unfold vv
    go_wp2
    refine bodyPost_ret (v := .tuple #[vv v, .nilIface]) (results_ct Tryz.results17 _ _ ⟨w.heap.size + 1, 0, none⟩ rfl (load39 (put39_blk v H3.out.1))) rfl ?_
    exact ⟨rfl, put39_below v H3.out.2 (by omega)⟩
set_option maxRecDepth 100000 in
set_option maxHeartbeats 4000000 in
theorem env_any (a b c : Vl) (w : World) (hv : w.rangeAt 0 0 askCells) (hlo : 13 ≤ w.heap.size) : Calls Tryz.prog 13 #[vv a, vv b, vv c] w fun r w' => r = .returned (.agg #[.func (.func 33) #[] #[.pointer (some ⟨w.heap.size, 0, none⟩), .pointer (some ⟨w.heap.size + 1, 0, none⟩), .pointer (some ⟨w.heap.size + 1 + 1, 0, none⟩)], .func (.func 34) #[] #[.pointer (some ⟨w.heap.size + 4, 0, none⟩)]]) ∧ EnvW (w.heap.size) (w.heap.size + 1) (w.heap.size + 1 + 1) (w.heap.size + 4) a b c w' ∧ Below w.heap.size w w' := by
  obtain ⟨W, hW⟩ : ∃ W, ((w.alloc (.cells #[.int .i64 a.k, .int .i64 a.n, .string a.t] 39)).alloc (.cells #[.int .i64 b.k, .int .i64 b.n, .string b.t] 39)).alloc (.cells #[.int .i64 c.k, .int .i64 c.n, .string c.t] 39) = W := ⟨_, rfl⟩
  have hbW : Below w.heap.size w W := by rw [← hW]; exact (((Below.refl _ _).alloc (Nat.le_refl _) _).alloc (by simp only [World.size_alloc]; omega) _).alloc (by simp only [World.size_alloc]; omega) _
  have hk0W : Blk (w.heap.size) a.cells 39 W := by
      have hq := Blk.new w a.cells 39
      rw [← hW]
      exact hq.below (((Below.refl _ _).alloc (Nat.le_refl _) _).alloc (by simp only [World.size_alloc]; omega) _)
  have hk1W : Blk (w.heap.size + 1) b.cells 39 W := by
      have hq := Blk.new (w.alloc (.cells a.cells 39)) b.cells 39
      simp only [World.size_alloc] at hq
      rw [← hW]
      exact hq.below ((Below.refl _ _).alloc (Nat.le_refl _) _)
  have hk2W : Blk (w.heap.size + 2) c.cells 39 W := by
      have hq := Blk.new ((w.alloc (.cells a.cells 39)).alloc (.cells b.cells 39)) c.cells 39
      simp only [World.size_alloc, Nat.add_assoc, Nat.reduceAdd] at hq
      rw [← hW]
      exact hq
  have G0 : Hid (Blk (w.heap.size) a.cells 39 W ∧ Blk (w.heap.size + 1) b.cells 39 W ∧ Blk (w.heap.size + 2) c.cells 39 W ∧ Below w.heap.size w W) := ⟨hk0W, hk1W, hk2W, hbW⟩
  clear hbW
  have hzW : W.heap.size = w.heap.size + 3 := by rw [← hW]; simp only [World.size_alloc]
  obtain ⟨U, hU⟩ : ∃ U, W.alloc (.cells #[.nilFunc, .nilFunc] 45) = U := ⟨_, rfl⟩
  obtain ⟨U2, hU2⟩ : ∃ V, U.alloc (.cells #[.nilFunc] 42) = V := ⟨_, rfl⟩
  obtain ⟨V, hV⟩ : ∃ V, U2.setCell ⟨w.heap.size + 4, 0, none⟩ (.func (.func 33) #[] #[.pointer (some ⟨w.heap.size, 0, none⟩), .pointer (some ⟨w.heap.size + 1, 0, none⟩), .pointer (some ⟨w.heap.size + 1 + 1, 0, none⟩)]) = V := ⟨_, rfl⟩
  have hbU : Below W.heap.size W U := by rw [← hU]; exact (Below.refl _ _).alloc (Nat.le_refl _) _
  have hzU : U.heap.size = w.heap.size + 4 := by rw [← hU]; simp only [World.size_alloc]; omega
  have hbV : Below U.heap.size U V := by rw [← hV, ← hU2]; exact ((Below.refl _ _).alloc (Nat.le_refl _) _).setCell (by show U.heap.size ≤ w.heap.size + 4; omega) _
  have hkU2 : Blk (w.heap.size + 4) #[.nilFunc] 42 U2 := by
    have := (Blk.new U #[.nilFunc] 42)
    rw [hzU, hU2] at this
    exact this
  have hkU : Blk (w.heap.size + 3) #[.nilFunc, .nilFunc] 45 V := by
    have := (Blk.new W #[.nilFunc, .nilFunc] 45)
    rw [hzW, hU] at this
    exact this.below hbV
  have hkV : Blk (w.heap.size + 4) #[.func (.func 33) #[] #[.pointer (some ⟨w.heap.size, 0, none⟩), .pointer (some ⟨w.heap.size + 1, 0, none⟩), .pointer (some ⟨w.heap.size + 1 + 1, 0, none⟩)]] 42 V := by
    have := hkU2.set 0 (.func (.func 33) #[] #[.pointer (some ⟨w.heap.size, 0, none⟩), .pointer (some ⟨w.heap.size + 1, 0, none⟩), .pointer (some ⟨w.heap.size + 1 + 1, 0, none⟩)])
    rw [hV] at this
    simpa using this
  have y0 : U2.cell? ⟨w.heap.size + 4, 0, none⟩ = some .nilFunc := by rw [hkU2.cell 0]; rfl
  have yf : ∀ i, U2.frozen? ⟨w.heap.size + 4, i, none⟩ = false := fun i => hkU2.free i
  have G1 : Hid (Blk w.heap.size a.cells 39 V ∧ Blk (w.heap.size + 1) b.cells 39 V ∧ Blk (w.heap.size + 2) c.cells 39 V ∧ Blk (w.heap.size + 3) #[.nilFunc, .nilFunc] 45 V ∧ Blk (w.heap.size + 4) #[.func (.func 33) #[] #[.pointer (some ⟨w.heap.size, 0, none⟩), .pointer (some ⟨w.heap.size + 1, 0, none⟩), .pointer (some ⟨w.heap.size + 1 + 1, 0, none⟩)]] 42 V ∧ Below w.heap.size w V) := ⟨(G0.out.1.below hbU).below hbV, (G0.out.2.1.below hbU).below hbV, (G0.out.2.2.1.below hbU).below hbV, hkU, hkV, (G0.out.2.2.2.trans (hbU.mono G0.out.2.2.2.size)).trans (hbV.mono (Nat.le_trans G0.out.2.2.2.size hbU.size))⟩
  have HV : Hid (w.rangeAt 0 0 askCells ∧ 13 ≤ w.heap.size) := ⟨hv, hlo⟩
  have k0 : V.cell? ⟨w.heap.size + 4, 0, none⟩ = some (.func (.func 33) #[] #[.pointer (some ⟨w.heap.size, 0, none⟩), .pointer (some ⟨w.heap.size + 1, 0, none⟩), .pointer (some ⟨w.heap.size + 1 + 1, 0, none⟩)]) := by rw [hkV.cell 0]; rfl
  have r0 : V.cell? ⟨w.heap.size + 3, 0, none⟩ = some .nilFunc := by rw [hkU.cell 0]; rfl
  have r1 : V.cell? ⟨w.heap.size + 3, 1, none⟩ = some .nilFunc := by rw [hkU.cell 1]; rfl
  have rf : ∀ i, V.frozen? ⟨w.heap.size + 3, i, none⟩ = false := fun i => hkU.free i
  have hmf : ∀ (fn : Fn) (first cap : Array Value) (w : World), (Instr.makeFunc fn first cap).run Tryz.prog w = .ok (.func fn first cap) w := fun _ _ _ _ => rfl
  clear hk0W hk1W hk2W hbU hbV hkU hkV hkU2 hv hlo
  show Calls _ _ #[.agg #[.int .i64 a.k, .int .i64 a.n, .string a.t], .agg #[.int .i64 b.k, .int .i64 b.n, .string b.t], .agg #[.int .i64 c.k, .int .i64 c.n, .string c.t]] _ _
  go_enter Tryz.func13, Tryz.ntmps13
  go_wp2
  refine bodyPost_ret (v := .agg #[.func (.func 33) #[] #[.pointer (some ⟨w.heap.size, 0, none⟩), .pointer (some ⟨w.heap.size + 1, 0, none⟩), .pointer (some ⟨w.heap.size + 1 + 1, 0, none⟩)], .func (.func 34) #[] #[.pointer (some ⟨w.heap.size + 4, 0, none⟩)]]) (results_c Tryz.results13 _ _ ⟨w.heap.size + 3, 0, none⟩ rfl (load45 (put45_blk (.func (.func 33) #[] #[.pointer (some ⟨w.heap.size, 0, none⟩), .pointer (some ⟨w.heap.size + 1, 0, none⟩), .pointer (some ⟨w.heap.size + 1 + 1, 0, none⟩)]) (.func (.func 34) #[] #[.pointer (some ⟨w.heap.size + 4, 0, none⟩)]) G1.out.2.2.2.1))) rfl ?_
  have hbF : Below w.heap.size w (put45 V (w.heap.size + 3) (.func (.func 33) #[] #[.pointer (some ⟨w.heap.size, 0, none⟩), .pointer (some ⟨w.heap.size + 1, 0, none⟩), .pointer (some ⟨w.heap.size + 1 + 1, 0, none⟩)]) (.func (.func 34) #[] #[.pointer (some ⟨w.heap.size + 4, 0, none⟩)])) := (G1.out.2.2.2.2.2.setCell (show w.heap.size ≤ w.heap.size + 3 by omega) _).setCell (show w.heap.size ≤ w.heap.size + 3 by omega) _
  refine ⟨rfl, ⟨(G1.out.1.other (by omega) 0 _).other (by omega) 1 _, (G1.out.2.1.other (by omega) 0 _).other (by omega) 1 _, (G1.out.2.2.1.other (by omega) 0 _).other (by omega) 1 _, ?_, ?_, range_keep HV.out.1 (fun q => World.cell?_of_block (w := w) (a := ⟨0, q, none⟩) (hbF.block 0 (by have := HV.out.2; omega))), Nat.le_trans HV.out.2 hbF.size⟩, hbF⟩
  · have := (G1.out.2.2.2.2.1.other (show w.heap.size + 3 ≠ w.heap.size + 4 by omega) 0 (.func (.func 33) #[] #[.pointer (some ⟨w.heap.size, 0, none⟩), .pointer (some ⟨w.heap.size + 1, 0, none⟩), .pointer (some ⟨w.heap.size + 1 + 1, 0, none⟩)])).other (show w.heap.size + 3 ≠ w.heap.size + 4 by omega) 1 (.func (.func 34) #[] #[.pointer (some ⟨w.heap.size + 4, 0, none⟩)])
    rw [this.cell 0]; rfl
  · have := (G1.out.2.2.2.2.1.other (show w.heap.size + 3 ≠ w.heap.size + 4 by omega) 0 (.func (.func 33) #[] #[.pointer (some ⟨w.heap.size, 0, none⟩), .pointer (some ⟨w.heap.size + 1, 0, none⟩), .pointer (some ⟨w.heap.size + 1 + 1, 0, none⟩)])).other (show w.heap.size + 3 ≠ w.heap.size + 4 by omega) 1 (.func (.func 34) #[] #[.pointer (some ⟨w.heap.size + 4, 0, none⟩)])
    exact (Array.getElem?_eq_some_iff.1 this).1
end Go.Proofs.YtbdcbaamjkjhaaaGreatDoor
namespace Go.Proofs.YtbdcbaamjkjhaaaGreatDoor
open Go.RowKit

def TreeSm : Ex → Prop
  | .nil => True
  | .node _ v _ l r => v.t.size ≤ 40 ∧ TreeSm l ∧ TreeSm r
theorem LitV.sm {v : Vl} {t : KT} (h : LitV v t) : v.t.size ≤ 40 := by
  cases h with
  | null => exact Nat.zero_le _
  | num h0 h1 => exact Nat.zero_le _
  | txt h =>
    simp only [rightT, Bool.and_eq_true, decide_eq_true_eq] at h
    exact h.1
theorem none_sm : Vl.none.t.size ≤ 40 := Nat.zero_le _
theorem Ft.sm {d : Nat} {n : Int} {e : Ex} {ts : List KT} (h : Ft d n e ts) : TreeSm e := by
  induction h with
  | par _ _ ih => exact ih
  | lit _ b => exact ⟨b.sm, trivial, trivial⟩
  | col _ _ => exact ⟨none_sm, trivial, trivial⟩
  | neg _ _ ih => exact ⟨none_sm, ih, trivial⟩
  | not _ _ _ ih => exact ⟨none_sm, ih, trivial⟩
  | nnul _ _ ih => exact ⟨none_sm, ⟨none_sm, ih, trivial⟩, trivial⟩
  | nul _ _ ih => exact ⟨none_sm, ih, trivial⟩
  | mat _ _ c => exact ⟨LitV.sm (.txt c), ⟨none_sm, trivial, trivial⟩, trivial⟩
  | ask _ _ _ _ i j => exact ⟨none_sm, i, j⟩
  | sum _ _ _ _ i j => exact ⟨none_sm, i, j⟩
  | mul _ _ _ _ i j => exact ⟨none_sm, i, j⟩
  | and _ _ _ _ i j => exact ⟨none_sm, i, j⟩
  | or _ _ _ _ i j => exact ⟨none_sm, i, j⟩
theorem StT.sm {x : Stm} {ts : List KT} (h : StT x ts) : TreeSm x.wh := by
  have hb : ∀ {w : List KT} {x : Ex} {us : List KT}, BhT w x us → TreeSm x := by
    intro w x us h
    cases h with
    | no => exact trivial
    | yes h => exact h.sm
  cases h with
  | delete _ hx => exact hb hx
  | update _ _ hx => exact hb hx
  | select _ _ _ h3 _ _ _ => exact hb h3
  | begin => exact trivial
  | commit => exact trivial
  | rollback => exact trivial
  | index _ _ => exact trivial
  | create _ _ => exact trivial
  | drop _ => exact trivial
  | insert _ _ => exact trivial
def Sm (v : Vl) : Prop := v.t.size ≤ 40
theorem Sm.big {v : Vl} (h : Sm v) : SmV v := by unfold Sm at h; unfold SmV; omega
theorem truthV_sm (b : Bool) : Sm (truthV b) := by cases b <;> exact Nat.zero_le _
theorem numV_sm (n : Int) : Sm (numV n) := Nat.zero_le _
theorem countR_sm {c : Int} {a b x : Vl} (h : countR c a b = .ok x) : Sm x := by
  unfold countR at h
  split at h
  · cases h
  · split at h
    · cases h; exact Nat.zero_le _
    · split at h
      · cases h; exact numV_sm _
      · cases h
theorem bothR_sm {c : Int} {a b x : Vl} (h : bothR c a b = .ok x) : Sm x := by
  unfold bothR at h
  generalize holdsR a = p at h
  generalize holdsR b = q at h
  obtain ⟨p1, p2, p3⟩ := p
  obtain ⟨q1, q2, q3⟩ := q
  cases p3 with
  | some n => cases h
  | none =>
    cases q3 with
    | some n => cases h
    | none =>
      simp only [bothB] at h
      split at h
      · cases h; exact truthV_sm _
      · split at h
        · cases h; exact Nat.zero_le _
        · cases h; exact truthV_sm _
theorem notR_sm {a x : Vl} (h : notR a = .ok x) : Sm x := by
  unfold notR at h
  split at h
  · cases h; exact truthV_sm _
  · split at h
    · cases h
    · cases h; exact Nat.zero_le _
theorem cmpR_sm (c : Int) (a b : Vl) : Sm (cmpR c a b) := by
  unfold cmpR
  split
  · exact Nat.zero_le _
  · unfold askR2
    split
    · exact truthV_sm _
    · exact Nat.zero_le _
theorem oneR_sm {c : Int} {a x : Vl} (h : oneR c a = .ok x) : Sm x := by
  unfold oneR at h
  split at h
  · exact countR_sm h
  · split at h
    · exact notR_sm h
    · cases h; exact truthV_sm _
theorem twoR_sm {c : Int} {a b x : Vl} (h : twoR c a b = .ok x) : Sm x := by
  unfold twoR at h
  split at h
  · exact countR_sm h
  · split at h
    · exact bothR_sm h
    · cases h; exact cmpR_sm _ _ _
theorem colR_sm {a b c x : Vl} {nm : ByteArray} (ha : Sm a) (hb : Sm b) (hc : Sm c) (h : colR a b c nm = .ok x) : Sm x := by
  unfold colR at h
  split at h
  · cases h; exact ha
  · split at h
    · cases h; exact hb
    · split at h
      · cases h; exact hc
      · cases h
theorem evF_sm {a b c : Vl} (ha : Sm a) (hb : Sm b) (hc : Sm c) : ∀ {e : Ex}, TreeSm e → ∀ x, evF a b c e = .ok x → Sm x
  | .nil, _, x, h => by cases h
  | .node cd v nm l r, hT, x, h => by
    unfold evF at h
    split at h
    · cases h
    split at h
    · cases h; exact hT.1
    split at h
    · exact colR_sm ha hb hc h
    split at h
    · unfold matR at h
      split at h
      · cases h; exact truthV_sm _
      · cases h
    unfold bindR at h
    split at h
    · split at h
      · exact oneR_sm h
      · split at h
        · exact twoR_sm h
        · cases h
    · cases h
/-- not, and, or: what the built ones come to -/
def notE (x : Ex) : Ex := .two 4 x .nil
theorem TreeSm.two {c : Int} {x y : Ex} (hx : TreeSm x) (hy : TreeSm y) : TreeSm (.two c x y) := ⟨none_sm, hx, hy⟩
theorem TreeSm.not {x : Ex} (hx : TreeSm x) : TreeSm (notE x) := ⟨none_sm, hx, trivial⟩
end Go.Proofs.YtbdcbaamjkjhaaaGreatDoor
namespace Go.Proofs.YtbdcbaamjkjhaaaGreatDoor
open Go.RowKit

/-- a side that is a value, or not there -/
def litB : Ex → Bool
  | .nil => true
  | .node c _ _ _ _ => decide (c = 1)
/-- a part that may be folded -/
def foldsB : Ex → Bool
  | .nil => false
  | .node c _ _ l r => decide (c ≠ 1 ∧ c ≠ 2 ∧ c ≠ 17) && (litB l && litB r)
/-- a part, folded -/
def foldP (p : Ex) : Ex := if foldsB p then (match evF .none .none .none p with | .ok x => .node 1 x ⟨#[]⟩ .nil .nil | .error _ => p) else p
def foldF : Ex → Ex
  | .nil => .nil
  | .node c v nm l r => foldP (.node c v nm (foldF l) (foldF r))
theorem foldP_cases (p : Ex) : foldP p = p ∨ (foldsB p = true ∧ ∃ x, evF .none .none .none p = .ok x ∧ foldP p = .node 1 x ⟨#[]⟩ .nil .nil) := by
  unfold foldP
  cases h : foldsB p with
  | false => exact Or.inl (if_neg (by decide))
  | true =>
    rw [if_pos rfl]
    cases e : evF .none .none .none p with
    | ok x => exact Or.inr ⟨rfl, x, rfl, rfl⟩
    | error n => exact Or.inl rfl
theorem ev_lit {e : Ex} (h : litB e = true) (a b c a' b' c' : Vl) : evF a b c e = evF a' b' c' e := by
  cases e with
  | nil => rfl
  | node cd v nm l r =>
    obtain rfl : cd = 1 := by simpa [litB] using h
    unfold evF
    rfl
theorem ev_node (a b c : Vl) (cd : Int) (v : Vl) (nm : ByteArray) (l r : Ex) : evF a b c (.node cd v nm l r) = if formB (.node cd v nm l r) = false then .error 3 else if cd = 1 then .ok v else if cd = 2 then colR a b c nm else if cd = 17 then matR (colR a b c (nameOf l)) v.t else bindR (evF a b c l) fun x => if cd = 3 ∨ cd = 4 ∨ cd = 5 then oneR cd x else bindR (evF a b c r) fun y => twoR cd x y := by
  conv => lhs; unfold evF
theorem ev_folds {p : Ex} (h : foldsB p = true) (a b c a' b' c' : Vl) : evF a b c p = evF a' b' c' p := by
  cases p with
  | nil => cases h
  | node cd v nm l r =>
    simp only [foldsB, Bool.and_eq_true, decide_eq_true_eq] at h
    obtain ⟨⟨h1, h2, h3⟩, hl, hr⟩ := h
    rw [ev_node, ev_node, if_neg h1, if_neg h2, if_neg h3, if_neg h1, if_neg h2, if_neg h3, ev_lit hl a b c a' b' c', ev_lit hr a b c a' b' c']
theorem ev_lit1 (a b c x : Vl) : evF a b c (.node 1 x ⟨#[]⟩ .nil .nil) = .ok x := by
  unfold evF
  rfl
theorem ev_foldP (a b c : Vl) (p : Ex) : evF a b c (foldP p) = evF a b c p := by
  rcases foldP_cases p with h | ⟨h, x, e, h2⟩
  · rw [h]
  · rw [h2, ev_lit1, ev_folds h a b c .none .none .none, e]
theorem foldF_code (e : Ex) : (foldF e).code = 2 ↔ e.code = 2 := by
  cases e with
  | nil => exact Iff.rfl
  | node cd v nm l r =>
    rw [foldF]
    rcases foldP_cases (.node cd v nm (foldF l) (foldF r)) with h | ⟨h, x, _, h2⟩
    · rw [h]; exact Iff.rfl
    · rw [h2]
      simp only [foldsB, Bool.and_eq_true, decide_eq_true_eq] at h
      show (1 : Int) = 2 ↔ cd = 2
      have := h.1.2.1
      constructor
      · intro q; exact absurd q (by decide)
      · intro q; exact absurd q this
theorem foldF_name {e : Ex} (h : e.code = 2) : nameOf (foldF e) = nameOf e := by
  cases e with
  | nil => rfl
  | node cd v nm l r =>
    obtain rfl : cd = 2 := h
    rw [foldF]
    rcases foldP_cases (.node 2 v nm (foldF l) (foldF r)) with h | ⟨h, x, _, h2⟩
    · rw [h]; rfl
    · simp [foldsB] at h
/-- folded, it comes to the same -/
theorem ev_fold (a b c : Vl) : ∀ e : Ex, evF a b c (foldF e) = evF a b c e
  | .nil => rfl
  | .node cd v nm l r => by
    rw [foldF, ev_foldP, ev_node, ev_node, ev_fold a b c l, ev_fold a b c r]
    have hf : formB (.node cd v nm (foldF l) (foldF r)) = formB (.node cd v nm l r) := by
      simp only [formB]
      rw [show decide ((foldF l).code = 2) = decide (l.code = 2) from decide_eq_decide.2 (foldF_code l)]
    rw [hf]
    by_cases h17 : cd = 17
    · subst h17
      cases h : formB (.node 17 v nm l r) with
      | false => rfl
      | true =>
        have hc : l.code = 2 := by simpa [formB] using h
        rw [foldF_name hc]
    · rw [if_neg h17, if_neg h17]
theorem foldP_idem {c : Int} {v : Vl} {nm : ByteArray} {l r : Ex} (hl : foldF l = l) (hr : foldF r = r) : foldF (foldP (.node c v nm l r)) = foldP (.node c v nm l r) := by
  rcases foldP_cases (.node c v nm l r) with h | ⟨h, x, _, h2⟩
  · rw [h, foldF, hl, hr, h]
  · rw [h2]
    rfl
/-- and it is folded then -/
theorem fold_idem : ∀ e : Ex, foldF (foldF e) = foldF e
  | .nil => rfl
  | .node c v nm l r => by
    rw [foldF]
    exact foldP_idem (fold_idem l) (fold_idem r)
/-- the columns that are asked -/
def colsF : Ex → List ByteArray
  | .nil => []
  | .node c _ nm l r => (if c = 2 then [nm] else []) ++ (colsF l ++ colsF r)
/-- beneath a value there is nothing -/
def Bare : Ex → Prop
  | .nil => True
  | .node c _ _ l r => (c = 1 → l = .nil ∧ r = .nil) ∧ Bare l ∧ Bare r
theorem lit_cols {e : Ex} (hb : Bare e) (h : litB e = true) : colsF e = [] := by
  cases e with
  | nil => rfl
  | node c v nm l r =>
    obtain rfl : c = 1 := by simpa [litB] using h
    obtain ⟨rfl, rfl⟩ := hb.1 rfl
    rfl
theorem foldF_bare : ∀ {e : Ex}, Bare e → Bare (foldF e)
  | .nil, _ => trivial
  | .node c v nm l r, h => by
    rw [foldF]
    rcases foldP_cases (.node c v nm (foldF l) (foldF r)) with q | ⟨_, x, _, q⟩
    · rw [q]
      refine ⟨fun hc => ?_, foldF_bare h.2.1, foldF_bare h.2.2⟩
      obtain ⟨rfl, rfl⟩ := h.1 hc
      exact ⟨rfl, rfl⟩
    · rw [q]; exact ⟨fun _ => ⟨rfl, rfl⟩, trivial, trivial⟩
theorem cols_fold : ∀ {e : Ex}, Bare e → colsF (foldF e) = colsF e
  | .nil, _ => rfl
  | .node c v nm l r, h => by
    have hl := cols_fold h.2.1
    have hr := cols_fold h.2.2
    rw [foldF]
    rcases foldP_cases (.node c v nm (foldF l) (foldF r)) with q | ⟨hf, x, _, q⟩
    · rw [q, colsF, colsF, hl, hr]
    · rw [q]
      simp only [foldsB, Bool.and_eq_true, decide_eq_true_eq] at hf
      show [] ++ ([] ++ []) = (if c = 2 then [nm] else []) ++ (colsF l ++ colsF r)
      rw [← hl, ← hr, lit_cols (foldF_bare h.2.1) hf.2.1, lit_cols (foldF_bare h.2.2) hf.2.2, if_neg hf.1.2.1]
/-- nothing is asked of a column that it does not name -/
theorem ev_free {a a' b c : Vl} : ∀ {e : Ex}, (∀ n ∈ colsF e, (n.toList == [97]) = false) → evF a b c e = evF a' b c e
  | .nil, _ => rfl
  | .node cd v nm l r, h => by
    have hl : ∀ n ∈ colsF l, (n.toList == [97]) = false := fun n hn => h n (by rw [colsF]; exact List.mem_append_right _ (List.mem_append_left _ hn))
    have hr : ∀ n ∈ colsF r, (n.toList == [97]) = false := fun n hn => h n (by rw [colsF]; exact List.mem_append_right _ (List.mem_append_right _ hn))
    have key : ∀ n : ByteArray, (n.toList == [97]) = false → colR a b c n = colR a' b c n := fun n hn => by unfold colR; rw [hn]; rfl
    rw [ev_node, ev_node, ev_free hl, ev_free hr]
    by_cases h2 : cd = 2
    · rw [if_pos h2, if_pos h2, key nm (h nm (by rw [colsF, if_pos h2]; exact List.mem_append_left _ (List.mem_singleton.2 rfl)))]
    · rw [if_neg h2, if_neg h2]
      by_cases h17 : cd = 17
      · subst h17
        cases hf : formB (.node 17 v nm l r) with
        | false => rfl
        | true =>
          have hc : l.code = 2 := by simpa [formB] using hf
          cases l with
          | nil => cases hc
          | node c2 v2 nm2 l2 r2 =>
            obtain rfl : c2 = 2 := hc
            rw [show nameOf (.node 2 v2 nm2 l2 r2) = nm2 from rfl, key nm2 (hl nm2 (by rw [colsF, if_pos rfl]; exact List.mem_append_left _ (List.mem_singleton.2 rfl)))]
      · rw [if_neg h17, if_neg h17]
theorem Ft.bare {d : Nat} {n : Int} {e : Ex} {ts : List KT} (h : Ft d n e ts) : Bare e := by
  have no : ∀ {c : Int} {x y : Ex}, c ≠ 1 → Bare x → Bare y → Bare (.two c x y) := fun hc hx hy => ⟨fun e => absurd e hc, hx, hy⟩
  have ne : ∀ {L : List (ByteArray × Int)}, (∀ s ∈ L, s.2 ≠ 1) → ∀ {s : ByteArray × Int}, s ∈ L → s.2 ≠ 1 := fun h s hs => h _ hs
  induction h with
  | par _ _ ih => exact ih
  | lit _ b => exact ⟨fun _ => ⟨rfl, rfl⟩, trivial, trivial⟩
  | col _ _ => exact ⟨fun _ => ⟨rfl, rfl⟩, trivial, trivial⟩
  | neg _ _ ih => exact no (by decide) ih trivial
  | not _ _ _ ih => exact no (by decide) ih trivial
  | nnul _ _ ih => exact no (by decide) (no (by decide) ih trivial) trivial
  | nul _ _ ih => exact no (by decide) ih trivial
  | mat _ _ c => exact ⟨fun e => absurd e (by decide), ⟨fun _ => ⟨rfl, rfl⟩, trivial, trivial⟩, trivial⟩
  | ask _ hs _ _ i j => exact no (ne (by decide) hs) i j
  | sum _ hs _ _ i j => exact no (ne (by decide) hs) i j
  | mul _ hs _ _ i j => exact no (ne (by decide) hs) i j
  | and _ hs _ _ i j => exact no (ne (by decide) hs) i j
  | or _ hs _ _ i j => exact no (ne (by decide) hs) i j
end Go.Proofs.YtbdcbaamjkjhaaaGreatDoor
namespace Go.Proofs.YtbdcbaamjkjhaaaGreatDoor
open Go.RowKit

structure EnvN (w : World) : Prop where
  ask : w.rangeAt 0 0 askCells
  lo : 13 ≤ w.heap.size
theorem EnvN.below {w w' : World} (h : EnvN w) (hb : Below w.heap.size w w') : EnvN w' :=
  ⟨range_keep h.ask (fun q => World.cell?_of_block (w := w) (a := ⟨0, q, none⟩) (hb.block 0 (by have := h.lo; omega))), Nat.le_trans h.lo hb.size⟩
def ComeN (a b c : Vl) (e : Ex) : Prop := ∀ (p : Option Addr) (w : World), EnvN w → ExAt w p e → Calls Tryz.prog 36 #[.agg #[.func (.func 64) #[] #[], .func (.func 65) #[] #[]], .pointer p] w fun r w' => ToldE (evF a b c e) w r w'
/-- come at work -/
structure CN (p : Option Addr) (e : Ex) (w0 w : World) : Prop where
  kE : Blk w0.heap.size #[.func (.func 64) #[] #[], .func (.func 65) #[] #[]] 45 w
  kR : Blk (w0.heap.size + 1) Vl.none.cells 39 w
  env : EnvN w
  ex : ExAt w p e
  be : Below w0.heap.size w0 w
theorem CN.below {p : Option Addr} {e : Ex} {w0 w w' : World} (h : CN p e w0 w) (hb : Below w.heap.size w w') : CN p e w0 w' :=
  ⟨h.kE.below hb, h.kR.below hb, h.env.below hb, h.ex.below hb, h.be.trans (hb.mono h.be.size)⟩
theorem CN.e0 {p : Option Addr} {e : Ex} {w0 w : World} (h : CN p e w0 w) : w.cell? ⟨w0.heap.size, 0, none⟩ = some (.func (.func 64) #[] #[]) ∧ w.cell? ⟨w0.heap.size, 1, none⟩ = some (.func (.func 65) #[] #[]) := ⟨by rw [h.kE.cell 0]; rfl, by rw [h.kE.cell 1]; rfl⟩
set_option maxRecDepth 100000 in
set_option maxHeartbeats 4000000 in
theorem nome_bad (a b c : Vl) (E : Ex) (hF : formB E = false) : ComeN a b c E := by
  intro p w hE hX
  obtain ⟨W, hW⟩ : ∃ W, (w.alloc (.cells #[.func (.func 64) #[] #[], .func (.func 65) #[] #[]] 45)).alloc (.cells #[.int .i64 0, .int .i64 0, .string ⟨#[]⟩] 39) = W := ⟨_, rfl⟩
  have hbW : Below w.heap.size w W := by rw [← hW]; exact ((Below.refl _ _).alloc (Nat.le_refl _) _).alloc (by simp only [World.size_alloc]; omega) _
  have hkE : Blk w.heap.size #[.func (.func 64) #[] #[], .func (.func 65) #[] #[]] 45 W := by rw [← hW]; exact (Blk.new _ _ _).below ((Below.refl _ _).alloc (Nat.le_refl _) _)
  have hkR : Blk (w.heap.size + 1) Vl.none.cells 39 W := by
    have hq := Blk.new (w.alloc (.cells #[.func (.func 64) #[] #[], .func (.func 65) #[] #[]] 45)) Vl.none.cells 39
    simp only [World.size_alloc] at hq
    rw [← hW]
    exact hq
  have G0 : Hid (CN p E w W) := ⟨hkE, hkR, hE.below hbW, hX.below hbW, hbW⟩
  clear hbW hkE hkR hE hX
  have he : evF a b c E = .error 3 := by
    cases E with
    | nil => rfl
    | node cd v nm l r => rw [evF, if_pos hF]
  rw [he]
  have HF : Hid (formB E = false) := hF
  clear he hF
  obtain ⟨c0, c1, c2, cf⟩ := G0.out.kR.vc
  go_enter Tryz.func36, Tryz.ntmps36
  go_wp2_with fail
  have h8 := formed_any E p W G0.out.ex
  rw [HF.out] at h8
  refine h8.mono ?_
  clear h8
  rintro _ w1 ⟨rfl, rfl⟩
  go_wp2
  refine bodyPost_ret (v := .tuple #[vv .none, .iface 53 (.int .i64 3)]) (results_ct Tryz.results36 _ _ ⟨w.heap.size + 1, 0, none⟩ rfl (load39 (put39_blk .none G0.out.kR))) rfl ?_
  exact ⟨⟨.none, rfl, fun x hx => by cases hx⟩, put39_below .none G0.out.be (by omega)⟩
set_option maxRecDepth 100000 in
set_option maxHeartbeats 4000000 in
theorem nome_lit (a b c : Vl) (v : Vl) (nm : ByteArray) (l r : Ex) : ComeN a b c (.node 1 v nm l r) := by
  intro p w hE hX
  obtain ⟨W, hW⟩ : ∃ W, (w.alloc (.cells #[.func (.func 64) #[] #[], .func (.func 65) #[] #[]] 45)).alloc (.cells #[.int .i64 0, .int .i64 0, .string ⟨#[]⟩] 39) = W := ⟨_, rfl⟩
  have hbW : Below w.heap.size w W := by rw [← hW]; exact ((Below.refl _ _).alloc (Nat.le_refl _) _).alloc (by simp only [World.size_alloc]; omega) _
  have hkE : Blk w.heap.size #[.func (.func 64) #[] #[], .func (.func 65) #[] #[]] 45 W := by rw [← hW]; exact (Blk.new _ _ _).below ((Below.refl _ _).alloc (Nat.le_refl _) _)
  have hkR : Blk (w.heap.size + 1) Vl.none.cells 39 W := by
    have hq := Blk.new (w.alloc (.cells #[.func (.func 64) #[] #[], .func (.func 65) #[] #[]] 45)) Vl.none.cells 39
    simp only [World.size_alloc] at hq
    rw [← hW]
    exact hq
  have G0 : Hid (CN p (.node 1 v nm l r) w W) := ⟨hkE, hkR, hE.below hbW, hX.below hbW, hbW⟩
  clear hbW hkE hkR hE hX
  have hF : formB (.node 1 v nm l r) = true := rfl
  have he : evF a b c (.node 1 v nm l r) = .ok v := by rw [evF, if_neg (by rw [hF]; decide), if_pos rfl]
  rw [he]
  have HF : Hid (formB (.node 1 v nm l r) = true) := hF
  clear he hF
  obtain ⟨c0, c1, c2, cf⟩ := G0.out.kR.vc
  obtain ⟨B, pl, pr, rfl, hlt, ⟨n0, n1, n2, n3, n4, n5, n6⟩, ql, qr⟩ := G0.out.ex
  go_enter Tryz.func36, Tryz.ntmps36
  go_wp2_with fail
  have h8 := formed_any (.node 1 v nm l r) _ W G0.out.ex
  rw [HF.out] at h8
  refine h8.mono ?_
  clear h8
  rintro _ w1 ⟨rfl, rfl⟩
  go_wp2
  refine bodyPost_ret (v := .tuple #[vv v, .nilIface]) (results_ct Tryz.results36 _ _ ⟨w.heap.size + 1, 0, none⟩ rfl (load39 (put39_blk v G0.out.kR))) rfl ?_
  exact ⟨⟨v, rfl, fun x hx => by cases hx; rfl⟩, put39_below v G0.out.be (by omega)⟩
end Go.Proofs.YtbdcbaamjkjhaaaGreatDoor
namespace Go.Proofs.YtbdcbaamjkjhaaaGreatDoor
open Go.RowKit


set_option maxRecDepth 100000 in
set_option maxHeartbeats 8000000 in
theorem nome_3 (a b c : Vl) (v : Vl) (nm : ByteArray) (l r : Ex) (hI : ComeN a b c l) : ComeN a b c (.node 3 v nm l r) := by
  have HI : Hid (ComeN a b c l) := hI
  clear hI
  intro p w hE hX
  obtain ⟨W, hW⟩ : ∃ W, (w.alloc (.cells #[.func (.func 64) #[] #[], .func (.func 65) #[] #[]] 45)).alloc (.cells #[.int .i64 0, .int .i64 0, .string ⟨#[]⟩] 39) = W := ⟨_, rfl⟩
  have hbW : Below w.heap.size w W := by rw [← hW]; exact ((Below.refl _ _).alloc (Nat.le_refl _) _).alloc (by simp only [World.size_alloc]; omega) _
  have hkE : Blk w.heap.size #[.func (.func 64) #[] #[], .func (.func 65) #[] #[]] 45 W := by rw [← hW]; exact (Blk.new _ _ _).below ((Below.refl _ _).alloc (Nat.le_refl _) _)
  have hkR : Blk (w.heap.size + 1) Vl.none.cells 39 W := by
    have hq := Blk.new (w.alloc (.cells #[.func (.func 64) #[] #[], .func (.func 65) #[] #[]] 45)) Vl.none.cells 39
    simp only [World.size_alloc] at hq
    rw [← hW]
    exact hq
  have G0 : Hid (CN p (.node 3 v nm l r) w W) := ⟨hkE, hkR, hE.below hbW, hX.below hbW, hbW⟩
  clear hbW hkE hkR hE hX
  have hF : formB (.node 3 v nm l r) = true := rfl
  obtain ⟨L, hL⟩ : ∃ L, evF a b c l = L := ⟨_, rfl⟩
  have HL : Hid (evF a b c l = L) := hL
  have he : evF a b c (.node 3 v nm l r) = bindR L fun x => oneR 3 x := by rw [evF, if_neg (by rw [hF]; decide), if_neg (by decide), if_neg (by decide), if_neg (by decide), hL]; rfl
  rw [he]
  have HF : Hid (formB (.node 3 v nm l r) = true) := hF
  clear he hF hL
  obtain ⟨B, pl, pr, rfl, hlt, ⟨n0, n1, n2, n3, n4, n5, n6⟩, ql, qr⟩ := G0.out.ex
  go_enter Tryz.func36, Tryz.ntmps36
  go_wp2_with fail
  have h8 := formed_any (.node 3 v nm l r) _ W G0.out.ex
  rw [HF.out] at h8
  refine h8.mono ?_
  clear h8
  rintro _ w1 ⟨rfl, rfl⟩
  go_upto_region 11 with fail
  go_cut [8, 9] (fun a8 a9 wx => ∃ (v1 : Vl) (bl : Nat), a8 = .pointer (some ⟨bl, 0, none⟩) ∧ a9 = errOf L ∧ Hid (CN (some ⟨B, 0, none⟩) (.node 3 v nm l r) w wx ∧ Blk bl v1.cells 39 wx ∧ (∀ x, L = .ok x → v1 = x) ∧ w.heap.size + 2 ≤ bl))
  case first =>
    have hsz : w.heap.size + 2 ≤ w1.heap.size := (Array.getElem?_eq_some_iff.1 G0.out.kR).1
    have HSZ : Hid (w.heap.size + 2 ≤ w1.heap.size) := hsz
    have HQ : Hid (ExAt w1 pl l) := ql
    have HKE : Hid (∀ wx, Below w1.heap.size w1 wx → Calls Tryz.prog 36 #[.agg #[.func (.func 64) #[] #[], .func (.func 65) #[] #[]], .pointer pl] wx fun r w' => ToldE L wx r w') := fun wx hb => by
      have h8 := HI.out pl wx (G0.out.env.below hb) (HQ.out.below hb)
      rw [HL.out] at h8
      exact h8
    have HA : Hid (Below w1.heap.size w1 w1.drew) := (Below.refl _ _).drew
    have HBB : Hid (Below w1.heap.size w1 (w1.alloc (.cells #[.int .i64 0, .int .i64 0, .string ⟨#[]⟩] 39)).drew) := ((Below.refl _ _).alloc (Nat.le_refl _) _).drew
    have HK : Hid (∀ wx, Below w1.heap.size w1 wx → wx.cell? ⟨w.heap.size, 0, none⟩ = some (.func (.func 64) #[] #[]) ∧ wx.cell? ⟨w.heap.size, 1, none⟩ = some (.func (.func 65) #[] #[]) ∧ wx.cell? ⟨B, 5, none⟩ = some (.pointer pl)) := fun wx hb => ⟨(G0.out.below hb).e0.1, (G0.out.below hb).e0.2, (hb.cell (p := ⟨B, 5, none⟩) hlt).trans n5⟩
    clear hsz
    go_region_held3 (fun wx => wx.cell? ⟨w.heap.size, 0, none⟩ = some (.func (.func 64) #[] #[]) ∧ wx.cell? ⟨w.heap.size, 1, none⟩ = some (.func (.func 65) #[] #[]) ∧ wx.cell? ⟨B, 5, none⟩ = some (.pointer pl)) (first | exact HK.out _ HA.out | exact HK.out _ HBB.out | exact HK.out _ HVb.out | exact HK.out _ (HA.out.alloc HA.out.size _) | exact HK.out _ (put39_below _ HA.out (by first | exact Nat.le_refl _ | exact HA.out.size))) ((go_at_call 36; refine Calls.mono (HKE.out _ (by first | exact HA.out | exact HBB.out)) ?_; rintro _ w2 ⟨⟨v1, rfl, hv1⟩, hb⟩; have HV1 : Hid (∀ x, L = .ok x → v1 = x) := hv1; clear hv1; first
      | (have hkB : Blk w1.heap.size Vl.none.cells 39 w2 := ((Blk.new w1 Vl.none.cells 39).below ((Below.refl _ _).drew)).below hb; obtain ⟨k0, k1, k2, kf⟩ := hkB.vc; have HA : Hid (Below w1.heap.size w1 w2) := HBB.out.trans (hb.mono HBB.out.size); have GY : Hid (CN (some ⟨B, 0, none⟩) (.node 3 v nm l r) w (put39 w2 w1.heap.size v1) ∧ Blk w1.heap.size v1.cells 39 (put39 w2 w1.heap.size v1) ∧ (∀ x, L = .ok x → v1 = x) ∧ w.heap.size + 2 ≤ w1.heap.size) := ⟨G0.out.below (put39_below v1 HA.out (Nat.le_refl _)), put39_blk v1 hkB, HV1.out, HSZ.out⟩; clear hb hkB; unfold vv)
      | (have hbs : w1.heap.size ≤ w2.heap.size := hb.size; have HA : Hid (Below w1.heap.size w1 w2) := HA.out.trans (hb.mono HA.out.size); obtain ⟨V, hV⟩ : ∃ V, w2.alloc (.cells #[.int .i64 v1.k, .int .i64 v1.n, .string v1.t] 39) = V := ⟨_, rfl⟩; have hbV : Below w2.heap.size w2 V := (by rw [← hV]; exact (Below.refl _ _).alloc (Nat.le_refl _) _); have HVb : Hid (Below w1.heap.size w1 V) := HA.out.trans (hbV.mono hbs); have GY : Hid (CN (some ⟨B, 0, none⟩) (.node 3 v nm l r) w V ∧ Blk w2.heap.size v1.cells 39 V ∧ (∀ x, L = .ok x → v1 = x) ∧ w.heap.size + 2 ≤ w2.heap.size) := ⟨(G0.out.below HA.out).below hbV, (by rw [← hV]; exact Blk.new _ _ _), HV1.out, Nat.le_trans HSZ.out hbs⟩; clear hb hbV hbs; unfold vv)))
    all_goals
      go_wp2_with fail
      go_meet
      case rel => exact ⟨v1, _, rfl, rfl, GY⟩
  case rest =>
  obtain ⟨v1, bl, rfl, rfl, GL⟩ := hcut
  obtain ⟨w3, hw3⟩ : ∃ u, u = wc := ⟨_, rfl⟩
  subst hw3
  clear n0 n1 n2 n3 n4 n5 n6 hlt ql qr
  obtain ⟨r0, r1, r2, rf⟩ := GL.out.1.kR.vc
  obtain ⟨B', pl', pr', e, hlt, ⟨n0, n1, n2, n3, n4, n5, n6⟩, ql, qr⟩ := GL.out.1.ex
  cases e
  cases L with
  | error n =>
    have HEv : Hid (bindR (.error n) (fun x => oneR 3 x) = .error n) := rfl
    simp only [errOf]
    go_wp2
    refine bodyPost_ret (v := .tuple #[vv .none, .iface 53 (.int .i64 n)]) (results_ct Tryz.results36 _ _ ⟨w.heap.size + 1, 0, none⟩ rfl (load39 (put39_blk .none GL.out.1.kR))) rfl ?_
    exact ⟨⟨.none, by rw [HEv.out]; rfl, fun x hx => by rw [HEv.out] at hx; cases hx⟩, put39_below .none GL.out.1.be (by omega)⟩
  | ok x1 =>
    obtain rfl : v1 = x1 := GL.out.2.2.1 x1 rfl
    have HEv : Hid (bindR (.ok v1) (fun x => oneR 3 x) = countR 7 (numV 0) v1) := rfl
    obtain ⟨y0, y1, y2, yf⟩ := GL.out.2.1.vc
    simp only [errOf]
    obtain ⟨R, hR⟩ : ∃ R, countR 7 (numV 0) v1 = R := ⟨_, rfl⟩
    have HR : Hid (countR 7 (numV 0) v1 = R) := hR
    clear hR
    go_upto_region 16 with fail
    have HB0 : Hid (Blk bl v1.cells 39 w3 ∧ bl < w3.heap.size ∧ w.heap.size + 2 ≤ bl) := ⟨GL.out.2.1, (Array.getElem?_eq_some_iff.1 GL.out.2.1).1, GL.out.2.2.2⟩
    have HK : Hid (∀ wx, Blk bl v1.cells 39 wx → wx.cell? ⟨bl, 0, none⟩ = some (.int .i64 v1.k) ∧ wx.cell? ⟨bl, 1, none⟩ = some (.int .i64 v1.n) ∧ wx.cell? ⟨bl, 2, none⟩ = some (.string v1.t)) := fun wx h => ⟨h.vc.1, h.vc.2.1, h.vc.2.2.1⟩
    have GX : Hid (CN (some ⟨B, 0, none⟩) (.node 3 v nm l r) w w3.drew ∧ Blk bl v1.cells 39 w3.drew) := ⟨GL.out.1.below ((Below.refl _ _).drew), GL.out.2.1⟩
    go_region_held3 (fun wx => wx.cell? ⟨bl, 0, none⟩ = some (.int .i64 v1.k) ∧ wx.cell? ⟨bl, 1, none⟩ = some (.int .i64 v1.n) ∧ wx.cell? ⟨bl, 2, none⟩ = some (.string v1.t)) (first | exact HK.out _ GX.out.2 | exact HK.out _ HP5.out) (first
      | (go_at_call 68; refine Calls.mono (enumber_any 0 _) ?_; rintro _ w4 ⟨rfl, hb⟩; have GX : Hid (CN (some ⟨B, 0, none⟩) (.node 3 v nm l r) w w4 ∧ Blk bl v1.cells 39 w4) := ⟨GX.out.1.below hb, GX.out.2.below hb⟩; clear hb; unfold vv numV)
      | (go_at_call 67; have h8 := count_any 7 (numV 0) v1 w4; rw [HR.out, tup_eq] at h8; refine Calls.mono h8 ?_; clear h8; rintro _ w5 ⟨rfl, hb⟩; have GX : Hid (CN (some ⟨B, 0, none⟩) (.node 3 v nm l r) w w5 ∧ Blk bl v1.cells 39 w5) := ⟨GX.out.1.below hb, GX.out.2.below hb⟩; have HP5 : Hid (Blk bl v1.cells 39 (put39 w5 (w.heap.size + 1) (valOf R))) := ((GX.out.2.other (by have := HB0.out.2.2; omega) 0 _).other (by have := HB0.out.2.2; omega) 1 _).other (by have := HB0.out.2.2; omega) 2 _; obtain ⟨t0, t1, t2, tf⟩ := GX.out.1.kR.vc; clear hb; unfold vv))
    all_goals
      go_wp2_with fail
      refine bodyPost_ret (v := .tuple #[vv (valOf R), errOf R]) (results_ct Tryz.results36 _ _ ⟨w.heap.size + 1, 0, none⟩ rfl (load39 (put39_blk (valOf R) GX.out.1.kR))) rfl ?_
      exact ⟨⟨valOf R, by rw [HEv.out, HR.out], fun x hx => by rw [HEv.out, HR.out] at hx; rw [hx]; rfl⟩, put39_below (valOf R) GX.out.1.be (by omega)⟩
set_option maxRecDepth 100000 in
set_option maxHeartbeats 8000000 in
theorem nome_4 (a b c : Vl) (v : Vl) (nm : ByteArray) (l r : Ex) (hI : ComeN a b c l) : ComeN a b c (.node 4 v nm l r) := by
  have HI : Hid (ComeN a b c l) := hI
  clear hI
  intro p w hE hX
  obtain ⟨W, hW⟩ : ∃ W, (w.alloc (.cells #[.func (.func 64) #[] #[], .func (.func 65) #[] #[]] 45)).alloc (.cells #[.int .i64 0, .int .i64 0, .string ⟨#[]⟩] 39) = W := ⟨_, rfl⟩
  have hbW : Below w.heap.size w W := by rw [← hW]; exact ((Below.refl _ _).alloc (Nat.le_refl _) _).alloc (by simp only [World.size_alloc]; omega) _
  have hkE : Blk w.heap.size #[.func (.func 64) #[] #[], .func (.func 65) #[] #[]] 45 W := by rw [← hW]; exact (Blk.new _ _ _).below ((Below.refl _ _).alloc (Nat.le_refl _) _)
  have hkR : Blk (w.heap.size + 1) Vl.none.cells 39 W := by
    have hq := Blk.new (w.alloc (.cells #[.func (.func 64) #[] #[], .func (.func 65) #[] #[]] 45)) Vl.none.cells 39
    simp only [World.size_alloc] at hq
    rw [← hW]
    exact hq
  have G0 : Hid (CN p (.node 4 v nm l r) w W) := ⟨hkE, hkR, hE.below hbW, hX.below hbW, hbW⟩
  clear hbW hkE hkR hE hX
  have hF : formB (.node 4 v nm l r) = true := rfl
  obtain ⟨L, hL⟩ : ∃ L, evF a b c l = L := ⟨_, rfl⟩
  have HL : Hid (evF a b c l = L) := hL
  have he : evF a b c (.node 4 v nm l r) = bindR L fun x => oneR 4 x := by rw [evF, if_neg (by rw [hF]; decide), if_neg (by decide), if_neg (by decide), if_neg (by decide), hL]; rfl
  rw [he]
  have HF : Hid (formB (.node 4 v nm l r) = true) := hF
  clear he hF hL
  obtain ⟨B, pl, pr, rfl, hlt, ⟨n0, n1, n2, n3, n4, n5, n6⟩, ql, qr⟩ := G0.out.ex
  go_enter Tryz.func36, Tryz.ntmps36
  go_wp2_with fail
  have h8 := formed_any (.node 4 v nm l r) _ W G0.out.ex
  rw [HF.out] at h8
  refine h8.mono ?_
  clear h8
  rintro _ w1 ⟨rfl, rfl⟩
  go_upto_region 11 with fail
  go_cut [8, 9] (fun a8 a9 wx => ∃ (v1 : Vl) (bl : Nat), a8 = .pointer (some ⟨bl, 0, none⟩) ∧ a9 = errOf L ∧ Hid (CN (some ⟨B, 0, none⟩) (.node 4 v nm l r) w wx ∧ Blk bl v1.cells 39 wx ∧ (∀ x, L = .ok x → v1 = x) ∧ w.heap.size + 2 ≤ bl))
  case first =>
    have hsz : w.heap.size + 2 ≤ w1.heap.size := (Array.getElem?_eq_some_iff.1 G0.out.kR).1
    have HSZ : Hid (w.heap.size + 2 ≤ w1.heap.size) := hsz
    have HQ : Hid (ExAt w1 pl l) := ql
    have HKE : Hid (∀ wx, Below w1.heap.size w1 wx → Calls Tryz.prog 36 #[.agg #[.func (.func 64) #[] #[], .func (.func 65) #[] #[]], .pointer pl] wx fun r w' => ToldE L wx r w') := fun wx hb => by
      have h8 := HI.out pl wx (G0.out.env.below hb) (HQ.out.below hb)
      rw [HL.out] at h8
      exact h8
    have HA : Hid (Below w1.heap.size w1 w1.drew) := (Below.refl _ _).drew
    have HBB : Hid (Below w1.heap.size w1 (w1.alloc (.cells #[.int .i64 0, .int .i64 0, .string ⟨#[]⟩] 39)).drew) := ((Below.refl _ _).alloc (Nat.le_refl _) _).drew
    have HK : Hid (∀ wx, Below w1.heap.size w1 wx → wx.cell? ⟨w.heap.size, 0, none⟩ = some (.func (.func 64) #[] #[]) ∧ wx.cell? ⟨w.heap.size, 1, none⟩ = some (.func (.func 65) #[] #[]) ∧ wx.cell? ⟨B, 5, none⟩ = some (.pointer pl)) := fun wx hb => ⟨(G0.out.below hb).e0.1, (G0.out.below hb).e0.2, (hb.cell (p := ⟨B, 5, none⟩) hlt).trans n5⟩
    clear hsz
    go_region_held3 (fun wx => wx.cell? ⟨w.heap.size, 0, none⟩ = some (.func (.func 64) #[] #[]) ∧ wx.cell? ⟨w.heap.size, 1, none⟩ = some (.func (.func 65) #[] #[]) ∧ wx.cell? ⟨B, 5, none⟩ = some (.pointer pl)) (first | exact HK.out _ HA.out | exact HK.out _ HBB.out | exact HK.out _ HVb.out | exact HK.out _ (HA.out.alloc HA.out.size _) | exact HK.out _ (put39_below _ HA.out (by first | exact Nat.le_refl _ | exact HA.out.size))) ((go_at_call 36; refine Calls.mono (HKE.out _ (by first | exact HA.out | exact HBB.out)) ?_; rintro _ w2 ⟨⟨v1, rfl, hv1⟩, hb⟩; have HV1 : Hid (∀ x, L = .ok x → v1 = x) := hv1; clear hv1; first
      | (have hkB : Blk w1.heap.size Vl.none.cells 39 w2 := ((Blk.new w1 Vl.none.cells 39).below ((Below.refl _ _).drew)).below hb; obtain ⟨k0, k1, k2, kf⟩ := hkB.vc; have HA : Hid (Below w1.heap.size w1 w2) := HBB.out.trans (hb.mono HBB.out.size); have GY : Hid (CN (some ⟨B, 0, none⟩) (.node 4 v nm l r) w (put39 w2 w1.heap.size v1) ∧ Blk w1.heap.size v1.cells 39 (put39 w2 w1.heap.size v1) ∧ (∀ x, L = .ok x → v1 = x) ∧ w.heap.size + 2 ≤ w1.heap.size) := ⟨G0.out.below (put39_below v1 HA.out (Nat.le_refl _)), put39_blk v1 hkB, HV1.out, HSZ.out⟩; clear hb hkB; unfold vv)
      | (have hbs : w1.heap.size ≤ w2.heap.size := hb.size; have HA : Hid (Below w1.heap.size w1 w2) := HA.out.trans (hb.mono HA.out.size); obtain ⟨V, hV⟩ : ∃ V, w2.alloc (.cells #[.int .i64 v1.k, .int .i64 v1.n, .string v1.t] 39) = V := ⟨_, rfl⟩; have hbV : Below w2.heap.size w2 V := (by rw [← hV]; exact (Below.refl _ _).alloc (Nat.le_refl _) _); have HVb : Hid (Below w1.heap.size w1 V) := HA.out.trans (hbV.mono hbs); have GY : Hid (CN (some ⟨B, 0, none⟩) (.node 4 v nm l r) w V ∧ Blk w2.heap.size v1.cells 39 V ∧ (∀ x, L = .ok x → v1 = x) ∧ w.heap.size + 2 ≤ w2.heap.size) := ⟨(G0.out.below HA.out).below hbV, (by rw [← hV]; exact Blk.new _ _ _), HV1.out, Nat.le_trans HSZ.out hbs⟩; clear hb hbV hbs; unfold vv)))
    all_goals
      go_wp2_with fail
      go_meet
      case rel => exact ⟨v1, _, rfl, rfl, GY⟩
  case rest =>
  obtain ⟨v1, bl, rfl, rfl, GL⟩ := hcut
  obtain ⟨w3, hw3⟩ : ∃ u, u = wc := ⟨_, rfl⟩
  subst hw3
  clear n0 n1 n2 n3 n4 n5 n6 hlt ql qr
  obtain ⟨r0, r1, r2, rf⟩ := GL.out.1.kR.vc
  obtain ⟨B', pl', pr', e, hlt, ⟨n0, n1, n2, n3, n4, n5, n6⟩, ql, qr⟩ := GL.out.1.ex
  cases e
  cases L with
  | error n =>
    have HEv : Hid (bindR (.error n) (fun x => oneR 4 x) = .error n) := rfl
    simp only [errOf]
    go_wp2
    refine bodyPost_ret (v := .tuple #[vv .none, .iface 53 (.int .i64 n)]) (results_ct Tryz.results36 _ _ ⟨w.heap.size + 1, 0, none⟩ rfl (load39 (put39_blk .none GL.out.1.kR))) rfl ?_
    exact ⟨⟨.none, by rw [HEv.out]; rfl, fun x hx => by rw [HEv.out] at hx; cases hx⟩, put39_below .none GL.out.1.be (by omega)⟩
  | ok x1 =>
    obtain rfl : v1 = x1 := GL.out.2.2.1 x1 rfl
    have HEv : Hid (bindR (.ok v1) (fun x => oneR 4 x) = notR v1) := rfl
    obtain ⟨y0, y1, y2, yf⟩ := GL.out.2.1.vc
    simp only [errOf]
    obtain ⟨R, hR⟩ : ∃ R, notR v1 = R := ⟨_, rfl⟩
    have HR : Hid (notR v1 = R) := hR
    clear hR
    go_wp2_with fail
    have h8 := enot_any v1 w3
    rw [HR.out, tup_eq] at h8
    refine h8.mono ?_
    clear h8
    rintro _ w4 ⟨rfl, hb⟩
    have GZ : Hid (CN (some ⟨B, 0, none⟩) (.node 4 v nm l r) w w4) := GL.out.1.below hb
    obtain ⟨t0, t1, t2, tf⟩ := GZ.out.kR.vc
    clear hb
    unfold vv
    go_wp2
    refine bodyPost_ret (v := .tuple #[vv (valOf R), errOf R]) (results_ct Tryz.results36 _ _ ⟨w.heap.size + 1, 0, none⟩ rfl (load39 (put39_blk (valOf R) GZ.out.kR))) rfl ?_
    exact ⟨⟨valOf R, by rw [HEv.out, HR.out], fun x hx => by rw [HEv.out, HR.out] at hx; rw [hx]; rfl⟩, put39_below (valOf R) GZ.out.be (by omega)⟩
set_option maxRecDepth 100000 in
set_option maxHeartbeats 8000000 in
theorem nome_5 (a b c : Vl) (v : Vl) (nm : ByteArray) (l r : Ex) (hI : ComeN a b c l) : ComeN a b c (.node 5 v nm l r) := by
  have HI : Hid (ComeN a b c l) := hI
  clear hI
  intro p w hE hX
  obtain ⟨W, hW⟩ : ∃ W, (w.alloc (.cells #[.func (.func 64) #[] #[], .func (.func 65) #[] #[]] 45)).alloc (.cells #[.int .i64 0, .int .i64 0, .string ⟨#[]⟩] 39) = W := ⟨_, rfl⟩
  have hbW : Below w.heap.size w W := by rw [← hW]; exact ((Below.refl _ _).alloc (Nat.le_refl _) _).alloc (by simp only [World.size_alloc]; omega) _
  have hkE : Blk w.heap.size #[.func (.func 64) #[] #[], .func (.func 65) #[] #[]] 45 W := by rw [← hW]; exact (Blk.new _ _ _).below ((Below.refl _ _).alloc (Nat.le_refl _) _)
  have hkR : Blk (w.heap.size + 1) Vl.none.cells 39 W := by
    have hq := Blk.new (w.alloc (.cells #[.func (.func 64) #[] #[], .func (.func 65) #[] #[]] 45)) Vl.none.cells 39
    simp only [World.size_alloc] at hq
    rw [← hW]
    exact hq
  have G0 : Hid (CN p (.node 5 v nm l r) w W) := ⟨hkE, hkR, hE.below hbW, hX.below hbW, hbW⟩
  clear hbW hkE hkR hE hX
  have hF : formB (.node 5 v nm l r) = true := rfl
  obtain ⟨L, hL⟩ : ∃ L, evF a b c l = L := ⟨_, rfl⟩
  have HL : Hid (evF a b c l = L) := hL
  have he : evF a b c (.node 5 v nm l r) = bindR L fun x => oneR 5 x := by rw [evF, if_neg (by rw [hF]; decide), if_neg (by decide), if_neg (by decide), if_neg (by decide), hL]; rfl
  rw [he]
  have HF : Hid (formB (.node 5 v nm l r) = true) := hF
  clear he hF hL
  obtain ⟨B, pl, pr, rfl, hlt, ⟨n0, n1, n2, n3, n4, n5, n6⟩, ql, qr⟩ := G0.out.ex
  go_enter Tryz.func36, Tryz.ntmps36
  go_wp2_with fail
  have h8 := formed_any (.node 5 v nm l r) _ W G0.out.ex
  rw [HF.out] at h8
  refine h8.mono ?_
  clear h8
  rintro _ w1 ⟨rfl, rfl⟩
  go_upto_region 11 with fail
  go_cut [8, 9] (fun a8 a9 wx => ∃ (v1 : Vl) (bl : Nat), a8 = .pointer (some ⟨bl, 0, none⟩) ∧ a9 = errOf L ∧ Hid (CN (some ⟨B, 0, none⟩) (.node 5 v nm l r) w wx ∧ Blk bl v1.cells 39 wx ∧ (∀ x, L = .ok x → v1 = x) ∧ w.heap.size + 2 ≤ bl))
  case first =>
    have hsz : w.heap.size + 2 ≤ w1.heap.size := (Array.getElem?_eq_some_iff.1 G0.out.kR).1
    have HSZ : Hid (w.heap.size + 2 ≤ w1.heap.size) := hsz
    have HQ : Hid (ExAt w1 pl l) := ql
    have HKE : Hid (∀ wx, Below w1.heap.size w1 wx → Calls Tryz.prog 36 #[.agg #[.func (.func 64) #[] #[], .func (.func 65) #[] #[]], .pointer pl] wx fun r w' => ToldE L wx r w') := fun wx hb => by
      have h8 := HI.out pl wx (G0.out.env.below hb) (HQ.out.below hb)
      rw [HL.out] at h8
      exact h8
    have HA : Hid (Below w1.heap.size w1 w1.drew) := (Below.refl _ _).drew
    have HBB : Hid (Below w1.heap.size w1 (w1.alloc (.cells #[.int .i64 0, .int .i64 0, .string ⟨#[]⟩] 39)).drew) := ((Below.refl _ _).alloc (Nat.le_refl _) _).drew
    have HK : Hid (∀ wx, Below w1.heap.size w1 wx → wx.cell? ⟨w.heap.size, 0, none⟩ = some (.func (.func 64) #[] #[]) ∧ wx.cell? ⟨w.heap.size, 1, none⟩ = some (.func (.func 65) #[] #[]) ∧ wx.cell? ⟨B, 5, none⟩ = some (.pointer pl)) := fun wx hb => ⟨(G0.out.below hb).e0.1, (G0.out.below hb).e0.2, (hb.cell (p := ⟨B, 5, none⟩) hlt).trans n5⟩
    clear hsz
    go_region_held3 (fun wx => wx.cell? ⟨w.heap.size, 0, none⟩ = some (.func (.func 64) #[] #[]) ∧ wx.cell? ⟨w.heap.size, 1, none⟩ = some (.func (.func 65) #[] #[]) ∧ wx.cell? ⟨B, 5, none⟩ = some (.pointer pl)) (first | exact HK.out _ HA.out | exact HK.out _ HBB.out | exact HK.out _ HVb.out | exact HK.out _ (HA.out.alloc HA.out.size _) | exact HK.out _ (put39_below _ HA.out (by first | exact Nat.le_refl _ | exact HA.out.size))) ((go_at_call 36; refine Calls.mono (HKE.out _ (by first | exact HA.out | exact HBB.out)) ?_; rintro _ w2 ⟨⟨v1, rfl, hv1⟩, hb⟩; have HV1 : Hid (∀ x, L = .ok x → v1 = x) := hv1; clear hv1; first
      | (have hkB : Blk w1.heap.size Vl.none.cells 39 w2 := ((Blk.new w1 Vl.none.cells 39).below ((Below.refl _ _).drew)).below hb; obtain ⟨k0, k1, k2, kf⟩ := hkB.vc; have HA : Hid (Below w1.heap.size w1 w2) := HBB.out.trans (hb.mono HBB.out.size); have GY : Hid (CN (some ⟨B, 0, none⟩) (.node 5 v nm l r) w (put39 w2 w1.heap.size v1) ∧ Blk w1.heap.size v1.cells 39 (put39 w2 w1.heap.size v1) ∧ (∀ x, L = .ok x → v1 = x) ∧ w.heap.size + 2 ≤ w1.heap.size) := ⟨G0.out.below (put39_below v1 HA.out (Nat.le_refl _)), put39_blk v1 hkB, HV1.out, HSZ.out⟩; clear hb hkB; unfold vv)
      | (have hbs : w1.heap.size ≤ w2.heap.size := hb.size; have HA : Hid (Below w1.heap.size w1 w2) := HA.out.trans (hb.mono HA.out.size); obtain ⟨V, hV⟩ : ∃ V, w2.alloc (.cells #[.int .i64 v1.k, .int .i64 v1.n, .string v1.t] 39) = V := ⟨_, rfl⟩; have hbV : Below w2.heap.size w2 V := (by rw [← hV]; exact (Below.refl _ _).alloc (Nat.le_refl _) _); have HVb : Hid (Below w1.heap.size w1 V) := HA.out.trans (hbV.mono hbs); have GY : Hid (CN (some ⟨B, 0, none⟩) (.node 5 v nm l r) w V ∧ Blk w2.heap.size v1.cells 39 V ∧ (∀ x, L = .ok x → v1 = x) ∧ w.heap.size + 2 ≤ w2.heap.size) := ⟨(G0.out.below HA.out).below hbV, (by rw [← hV]; exact Blk.new _ _ _), HV1.out, Nat.le_trans HSZ.out hbs⟩; clear hb hbV hbs; unfold vv)))
    all_goals
      go_wp2_with fail
      go_meet
      case rel => exact ⟨v1, _, rfl, rfl, GY⟩
  case rest =>
  obtain ⟨v1, bl, rfl, rfl, GL⟩ := hcut
  obtain ⟨w3, hw3⟩ : ∃ u, u = wc := ⟨_, rfl⟩
  subst hw3
  clear n0 n1 n2 n3 n4 n5 n6 hlt ql qr
  obtain ⟨r0, r1, r2, rf⟩ := GL.out.1.kR.vc
  obtain ⟨B', pl', pr', e, hlt, ⟨n0, n1, n2, n3, n4, n5, n6⟩, ql, qr⟩ := GL.out.1.ex
  cases e
  cases L with
  | error n =>
    have HEv : Hid (bindR (.error n) (fun x => oneR 5 x) = .error n) := rfl
    simp only [errOf]
    go_wp2
    refine bodyPost_ret (v := .tuple #[vv .none, .iface 53 (.int .i64 n)]) (results_ct Tryz.results36 _ _ ⟨w.heap.size + 1, 0, none⟩ rfl (load39 (put39_blk .none GL.out.1.kR))) rfl ?_
    exact ⟨⟨.none, by rw [HEv.out]; rfl, fun x hx => by rw [HEv.out] at hx; cases hx⟩, put39_below .none GL.out.1.be (by omega)⟩
  | ok x1 =>
    obtain rfl : v1 = x1 := GL.out.2.2.1 x1 rfl
    have HEv : Hid (bindR (.ok v1) (fun x => oneR 5 x) = .ok (truthV (v1.k == 0))) := rfl
    obtain ⟨y0, y1, y2, yf⟩ := GL.out.2.1.vc
    simp only [errOf]
    obtain ⟨q, hq⟩ : ∃ q, (v1.k == 0) = q := ⟨_, rfl⟩
    have HQ : Hid ((v1.k == 0) = q) := hq
    go_wp2_with fail
    refine (truth_any q w3).mono ?_
    rintro _ w4 ⟨rfl, hb⟩
    have GZ : Hid (CN (some ⟨B, 0, none⟩) (.node 5 v nm l r) w w4) := GL.out.1.below hb
    obtain ⟨t0, t1, t2, tf⟩ := GZ.out.kR.vc
    clear hb
    unfold vv
    go_wp2
    refine bodyPost_ret (v := .tuple #[vv (truthV q), .nilIface]) (results_ct Tryz.results36 _ _ ⟨w.heap.size + 1, 0, none⟩ rfl (load39 (put39_blk (truthV q) GZ.out.kR))) rfl ?_
    exact ⟨⟨truthV q, by rw [HEv.out]; rfl, fun x hx => by rw [HEv.out, HQ.out] at hx; cases hx; rfl⟩, put39_below (truthV q) GZ.out.be (by omega)⟩
end Go.Proofs.YtbdcbaamjkjhaaaGreatDoor
