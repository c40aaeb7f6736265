/- Part 20 of 30. -/
import Derived.Test.YtmabfbffpedfnaaGreatDoorK19
namespace Go.Proofs.YtmabfbffpedfnaaGreatDoor
open Go.RowKit

/-- what lies in memory ahead of reading and writing -/
structure BAt (w : World) : Prop where
  pa : PAt w
  g : GAt w
theorem BAt.below {w w' : World} (h : BAt w) (hb : Below w.heap.size w w') : BAt w' := ⟨h.pa.below hb, h.g.below hb h.g.lo⟩
/-- a statement that was read, in memory -/
structure PS (sv : SV) (st : Stm) (w : World) : Prop where
  sb : StB w.heap.size sv st w
  wh : ExAt w sv.wh st.wh
  on : ExAt w sv.on st.on
  grp : ExAt w sv.grp st.grp
theorem PS.of {N : Nat} {sv : SV} {st : Stm} {w : World} (h : SVIs N sv st w) : PS sv st w := ⟨StB.of h (Nat.le_refl _), exAt_of _ h.wh, exAt_of _ h.on, exAt_of _ h.grp⟩
theorem PS.below {sv : SV} {st : Stm} {w w' : World} (h : PS sv st w) (hb : Below w.heap.size w w') : PS sv st w' := ⟨(h.sb.keep hb).up hb.size, h.wh.below hb, h.on.below hb, h.grp.below hb⟩
/-- a statement that is stored -/
theorem stored_below (w : World) (sv : SV) : Below w.heap.size w ((w.alloc (.cells svZ.cells 62)).setCells w.heap.size 0 sv.cells.toList) := by
  have key : ∀ (l : List Value) (o : Nat) (u : World), Below w.heap.size w u → Below w.heap.size w (u.setCells w.heap.size o l) := by
    intro l
    induction l with
    | nil => intro o u h; exact h
    | cons v l ih => intro o u h; exact ih (o + 1) _ (h.setCell (Nat.le_refl _) _)
  exact key _ _ _ ((Below.refl _ _).alloc (Nat.le_refl _) _)
end Go.Proofs.YtmabfbffpedfnaaGreatDoor
namespace Go.Proofs.YtmabfbffpedfnaaGreatDoor
open Go.RowKit

def Vl.cells (v : Vl) : Array Value := #[.int .i64 v.k, .int .i64 v.n, .string v.t]
/-- a value, handed on -/
def vv (v : Vl) : Value := .agg #[.int .i64 v.k, .int .i64 v.n, .string v.t]
theorem s39 : (Tryz.prog.info? 23).map (·.size) = some 3 := by kernel_rfl
theorem results_ct {P : Program} {fn : Func} {p t : Tmp} {ty : TypeId} {v : Value} (h : fn.results = #[.cell p ty, .tmp t]) (tmps : Array Value) (w : World) (a : Addr) (hp : tmps.getD p undef = .pointer (some a)) (hl : (loadVar ty a).run P w = .ok v w) :
    (results fn tmps).run P w = .ok (.tuple #[v, tmps.getD t undef]) w := by
  have hp' : tmps[p]?.getD undef = .pointer (some a) := by simpa [Array.getD_eq_getD_getElem?] using hp
  simp [results, h, hp', asAddr, hl]
theorem load39 {b : Nat} {v : Vl} {w : World} (h : Blk b v.cells 23 w) : (loadVar 23 ⟨b, 0, none⟩).run Tryz.prog w = .ok (vv v) w := by
  have := run_loadVar_mid (P := Tryz.prog) w b 0 23 v.cells.toList _ h.range Tryz.underlying23 rfl s39
  show _ = Result.ok (Value.agg v.cells) w
  simpa using this
/-- three cells, one by one -/
def put39 (w : World) (b : Nat) (v : Vl) : World := ((w.setCell ⟨b, 0, none⟩ (.int .i64 v.k)).setCell ⟨b, 1, none⟩ (.int .i64 v.n)).setCell ⟨b, 2, none⟩ (.string v.t)
theorem put39_blk {w : World} {b : Nat} {u : Vl} (v : Vl) (h : Blk b u.cells 23 w) : Blk b v.cells 23 (put39 w b v) := by
  have := ((h.set 0 (.int .i64 v.k)).set 1 (.int .i64 v.n)).set 2 (.string v.t)
  unfold put39
  simpa [Vl.cells] using this
theorem put39_below {w w' : World} {n b : Nat} (v : Vl) (h : Below n w w') (hb : n ≤ b) : Below n w (put39 w' b v) := ((h.setCell hb _).setCell hb _).setCell hb _
theorem Blk.vc {w : World} {b : Nat} {v : Vl} (h : Blk b v.cells 23 w) : w.cell? ⟨b, 0, none⟩ = some (.int .i64 v.k) ∧ w.cell? ⟨b, 1, none⟩ = some (.int .i64 v.n) ∧ w.cell? ⟨b, 2, none⟩ = some (.string v.t) ∧ ∀ i, w.frozen? ⟨b, i, none⟩ = false :=
  ⟨by rw [h.cell 0]; rfl, by rw [h.cell 1]; rfl, by rw [h.cell 2]; rfl, fun i => h.free i⟩
def numV (n : Int) : Vl := ⟨1, n, ⟨#[]⟩⟩
def truthV (b : Bool) : Vl := if b then numV 1 else numV 0
/-- an error, or none -/
def errV (e : Option Int) : Value := match e with
  | some n => .iface 82 (.int .i64 n)
  | none => .nilIface
set_option maxRecDepth 100000 in
set_option maxHeartbeats 1000000 in
theorem enumber_any (n : Int) (w : World) : Calls Tryz.prog 56 #[.int .i64 n] w fun e w' => e = .returned (vv (numV n)) ∧ Below w.heap.size w w' := by
  obtain ⟨W, hW⟩ : ∃ W, w.alloc (.cells #[.int .i64 0, .int .i64 0, .string ⟨#[]⟩] 23) = W := ⟨_, rfl⟩
  have hk : Blk w.heap.size Vl.none.cells 23 W := by rw [← hW]; exact Blk.new _ _ _
  have HK : Hid (Blk w.heap.size Vl.none.cells 23 W ∧ Below w.heap.size w W) := ⟨hk, by rw [← hW]; exact (Below.refl _ _).alloc (Nat.le_refl _) _⟩
  obtain ⟨c0, c1, c2, f0⟩ := hk.vc
  clear hk
  go_enter Tryz.func56, Tryz.ntmps56
  go_wp2
  refine bodyPost_ret (v := vv (numV n)) (results_c Tryz.results56 _ _ ⟨w.heap.size, 0, none⟩ rfl (load39 (put39_blk (numV n) HK.out.1))) rfl ?_
  exact ⟨rfl, put39_below (numV n) HK.out.2 (Nat.le_refl _)⟩
set_option maxRecDepth 100000 in
set_option maxHeartbeats 1000000 in
theorem knumber_any (n : Int) (w : World) : Calls Tryz.prog 16 #[.int .i64 n] w fun e w' => e = .returned (vv (numV n)) ∧ Below w.heap.size w w' := by
  obtain ⟨W, hW⟩ : ∃ W, w.alloc (.cells #[.int .i64 0, .int .i64 0, .string ⟨#[]⟩] 23) = W := ⟨_, rfl⟩
  have hk : Blk w.heap.size Vl.none.cells 23 W := by rw [← hW]; exact Blk.new _ _ _
  have HK : Hid (Blk w.heap.size Vl.none.cells 23 W ∧ Below w.heap.size w W) := ⟨hk, by rw [← hW]; exact (Below.refl _ _).alloc (Nat.le_refl _) _⟩
  obtain ⟨c0, c1, c2, f0⟩ := hk.vc
  clear hk
  go_enter Tryz.func16, Tryz.ntmps16
  go_wp2
  refine bodyPost_ret (v := vv (numV n)) (results_c Tryz.results16 _ _ ⟨w.heap.size, 0, none⟩ rfl (load39 (put39_blk (numV n) HK.out.1))) rfl ?_
  exact ⟨rfl, put39_below (numV n) HK.out.2 (Nat.le_refl _)⟩
end Go.Proofs.YtmabfbffpedfnaaGreatDoor
namespace Go.Proofs.YtmabfbffpedfnaaGreatDoor
open Go.RowKit

/-- whether a value is so, whether it is known; or an error -/
def holdsR (v : Vl) : Bool × Bool × Option Int := if v.k = 1 then (v.n != 0, true, none) else if v.k = 2 then (false, false, some 1) else (false, false, none)
/-- a value, or an error -/
def tupR : Except Int Vl → Value
  | .ok v => .tuple #[vv v, .nilIface]
  | .error n => .tuple #[vv .none, .iface 82 (.int .i64 n)]
def notR (v : Vl) : Except Int Vl := if v.k = 1 then .ok (truthV (v.n == 0)) else if v.k = 2 then .error 1 else .ok .none
set_option maxRecDepth 100000 in
set_option maxHeartbeats 1000000 in
theorem holds_any (v : Vl) (w : World) : Calls Tryz.prog 14 #[vv v] w fun e w' => e = .returned (.tuple #[.bool (holdsR v).1, .bool (holdsR v).2.1, errV (holdsR v).2.2]) ∧ Below w.heap.size w w' := by
  obtain ⟨W, hW⟩ : ∃ W, w.alloc (.cells #[.int .i64 v.k, .int .i64 v.n, .string v.t] 23) = W := ⟨_, rfl⟩
  have hbW : Below w.heap.size w W := by rw [← hW]; exact (Below.refl _ _).alloc (Nat.le_refl _) _
  have hk0W : Blk (w.heap.size) v.cells 23 W := by
      have hq := Blk.new w v.cells 23
      rw [← hW]
      exact hq
  have G0 : Hid (Blk (w.heap.size) v.cells 23 W ∧ Below w.heap.size w W) := ⟨hk0W, hbW⟩
  clear hbW
  obtain ⟨x0, x1, x2, xf⟩ := hk0W.vc
  clear hk0W
  show Calls _ _ #[.agg #[.int .i64 v.k, .int .i64 v.n, .string v.t]] _ _
  by_cases h1 : v.k = 1
  · have e : holdsR v = (v.n != 0, true, none) := by rw [holdsR, if_pos h1]
    have HE : Hid (holdsR v = (v.n != 0, true, none)) := e
    have b1 : (v.k == 1) = true := beq_iff_eq.2 h1
    rw [e]
    clear e h1
    go_enter Tryz.func14, Tryz.ntmps14
    go_wp2
    go_ret3
    exact ⟨rfl, G0.out.2⟩
  · have b1 : (v.k == 1) = false := beq_f h1
    by_cases h2 : v.k = 2
    · have e : holdsR v = (false, false, some 1) := by rw [holdsR, if_neg h1, if_pos h2]
      have b2 : (v.k == 2) = true := beq_iff_eq.2 h2
      rw [e]
      clear e h1 h2
      go_enter Tryz.func14, Tryz.ntmps14
      go_wp2
      go_ret3
      exact ⟨rfl, G0.out.2⟩
    · have e : holdsR v = (false, false, none) := by rw [holdsR, if_neg h1, if_neg h2]
      have b2 : (v.k == 2) = false := beq_f h2
      rw [e]
      clear e h1 h2
      go_enter Tryz.func14, Tryz.ntmps14
      go_wp2
      go_ret3
      exact ⟨rfl, G0.out.2⟩
set_option maxRecDepth 100000 in
set_option maxHeartbeats 1000000 in
theorem truth_any (b : Bool) (w : World) : Calls Tryz.prog 54 #[.bool b] w fun e w' => e = .returned (vv (truthV b)) ∧ Below w.heap.size w w' := by
  obtain ⟨W, hW⟩ : ∃ W, w.alloc (.cells #[.int .i64 0, .int .i64 0, .string ⟨#[]⟩] 23) = W := ⟨_, rfl⟩
  have hbW : Below w.heap.size w W := by rw [← hW]; exact (Below.refl _ _).alloc (Nat.le_refl _) _
  have hk0W : Blk (w.heap.size) Vl.none.cells 23 W := by
      have hq := Blk.new w Vl.none.cells 23
      rw [← hW]
      exact hq
  have G0 : Hid (Blk (w.heap.size) Vl.none.cells 23 W ∧ Below w.heap.size w W) := ⟨hk0W, hbW⟩
  clear hbW
  clear hk0W
  cases b
  · go_enter Tryz.func54, Tryz.ntmps54
    go_wp2_with fail
    refine (enumber_any 0 W).mono ?_
    rintro _ w1 ⟨rfl, hb⟩
    have H1 : Hid (Blk w.heap.size Vl.none.cells 23 w1 ∧ Below w.heap.size w w1) := ⟨G0.out.1.below hb, G0.out.2.trans (hb.mono G0.out.2.size)⟩
    obtain ⟨c0, c1, c2, f0⟩ := H1.out.1.vc
    clear hb
    unfold vv
    go_wp2
    refine bodyPost_ret (v := vv (numV 0)) (results_c Tryz.results54 _ _ ⟨w.heap.size, 0, none⟩ rfl (load39 (put39_blk (numV 0) H1.out.1))) rfl ?_
    exact ⟨rfl, put39_below (numV 0) H1.out.2 (Nat.le_refl _)⟩
  · go_enter Tryz.func54, Tryz.ntmps54
    go_wp2_with fail
    refine (enumber_any 1 W).mono ?_
    rintro _ w1 ⟨rfl, hb⟩
    have H1 : Hid (Blk w.heap.size Vl.none.cells 23 w1 ∧ Below w.heap.size w w1) := ⟨G0.out.1.below hb, G0.out.2.trans (hb.mono G0.out.2.size)⟩
    obtain ⟨c0, c1, c2, f0⟩ := H1.out.1.vc
    clear hb
    unfold vv
    go_wp2
    refine bodyPost_ret (v := vv (numV 1)) (results_c Tryz.results54 _ _ ⟨w.heap.size, 0, none⟩ rfl (load39 (put39_blk (numV 1) H1.out.1))) rfl ?_
    exact ⟨rfl, put39_below (numV 1) H1.out.2 (Nat.le_refl _)⟩
set_option maxRecDepth 100000 in
set_option maxHeartbeats 1000000 in
theorem enot_any (v : Vl) (w : World) : Calls Tryz.prog 57 #[vv v] w fun e w' => e = .returned (tupR (notR v)) ∧ Below w.heap.size w w' := by
  obtain ⟨W, hW⟩ : ∃ W, (w.alloc (.cells #[.int .i64 v.k, .int .i64 v.n, .string v.t] 23)).alloc (.cells #[.int .i64 0, .int .i64 0, .string ⟨#[]⟩] 23) = W := ⟨_, rfl⟩
  have hbW : Below w.heap.size w W := by rw [← hW]; exact ((Below.refl _ _).alloc (Nat.le_refl _) _).alloc (by simp only [World.size_alloc]; omega) _
  have hk0W : Blk (w.heap.size) v.cells 23 W := by
      have hq := Blk.new w v.cells 23
      rw [← hW]
      exact hq.below ((Below.refl _ _).alloc (Nat.le_refl _) _)
  have hk1W : Blk (w.heap.size + 1) Vl.none.cells 23 W := by
      have hq := Blk.new (w.alloc (.cells v.cells 23)) Vl.none.cells 23
      simp only [World.size_alloc] at hq
      rw [← hW]
      exact hq
  have G0 : Hid (Blk (w.heap.size) v.cells 23 W ∧ Blk (w.heap.size + 1) Vl.none.cells 23 W ∧ Below w.heap.size w W) := ⟨hk0W, hk1W, hbW⟩
  clear hbW
  obtain ⟨x0, x1, x2, xf⟩ := hk0W.vc
  clear hk0W hk1W
  show Calls _ _ #[.agg #[.int .i64 v.k, .int .i64 v.n, .string v.t]] _ _
  by_cases h1 : v.k = 1
  · obtain ⟨bt, hbt⟩ : ∃ bt, (v.n == 0) = bt := ⟨_, rfl⟩
    have HE : Hid (notR v = .ok (truthV bt) ∧ holdsR v = (!bt, true, none)) := ⟨by rw [notR, if_pos h1, hbt], by rw [holdsR, if_pos h1, ← hbt]; rfl⟩
    clear hbt
    rw [HE.out.1]
    clear h1
    go_enter Tryz.func57, Tryz.ntmps57
    go_wp2_with fail
    have hh := holds_any v W
    rw [HE.out.2] at hh
    refine hh.mono ?_
    clear hh
    rintro _ w1 ⟨rfl, hb⟩
    have H1 : Hid (Blk (w.heap.size + 1) Vl.none.cells 23 w1 ∧ Below w.heap.size w w1) := ⟨G0.out.2.1.below hb, G0.out.2.2.trans (hb.mono G0.out.2.2.size)⟩
    clear hb
    simp only [errV]
    go_wp2_with fail
    refine (truth_any _ w1).mono ?_
    rintro _ w2 ⟨rfl, hb⟩
    have H2 : Hid (Blk (w.heap.size + 1) Vl.none.cells 23 w2 ∧ Below w.heap.size w w2) := ⟨H1.out.1.below hb, H1.out.2.trans (hb.mono H1.out.2.size)⟩
    obtain ⟨c0, c1, c2, f0⟩ := H2.out.1.vc
    clear hb
    unfold vv
    go_wp2
    refine bodyPost_ret (v := .tuple #[vv (truthV bt), .nilIface]) (results_ct Tryz.results57 _ _ ⟨w.heap.size + 1, 0, none⟩ rfl ?_) rfl ?_
    · exact load39 (put39_blk (truthV bt) H2.out.1)
    · exact ⟨rfl, put39_below (truthV _) H2.out.2 (by omega)⟩
  · by_cases h2 : v.k = 2
    · have HE : Hid (notR v = .error 1 ∧ holdsR v = (false, false, some 1)) := ⟨by rw [notR, if_neg h1, if_pos h2], by rw [holdsR, if_neg h1, if_pos h2]⟩
      rw [HE.out.1]
      clear h1 h2
      go_enter Tryz.func57, Tryz.ntmps57
      go_wp2_with fail
      have hh := holds_any v W
      rw [HE.out.2] at hh
      refine hh.mono ?_
      clear hh
      rintro _ w1 ⟨rfl, hb⟩
      have H1 : Hid (Blk (w.heap.size + 1) Vl.none.cells 23 w1 ∧ Below w.heap.size w w1) := ⟨G0.out.2.1.below hb, G0.out.2.2.trans (hb.mono G0.out.2.2.size)⟩
      obtain ⟨c0, c1, c2, f0⟩ := H1.out.1.vc
      clear hb
      simp only [errV]
      go_wp2
      refine bodyPost_ret (v := .tuple #[vv .none, .iface 82 (.int .i64 1)]) (results_ct Tryz.results57 _ _ ⟨w.heap.size + 1, 0, none⟩ rfl (load39 (put39_blk .none H1.out.1))) rfl ?_
      exact ⟨rfl, put39_below .none H1.out.2 (by omega)⟩
    · have HE : Hid (notR v = .ok .none ∧ holdsR v = (false, false, none)) := ⟨by rw [notR, if_neg h1, if_neg h2], by rw [holdsR, if_neg h1, if_neg h2]⟩
      rw [HE.out.1]
      clear h1 h2
      go_enter Tryz.func57, Tryz.ntmps57
      go_wp2_with fail
      have hh := holds_any v W
      rw [HE.out.2] at hh
      refine hh.mono ?_
      clear hh
      rintro _ w1 ⟨rfl, hb⟩
      have H1 : Hid (Blk (w.heap.size + 1) Vl.none.cells 23 w1 ∧ Below w.heap.size w w1) := ⟨G0.out.2.1.below hb, G0.out.2.2.trans (hb.mono G0.out.2.2.size)⟩
      obtain ⟨c0, c1, c2, f0⟩ := H1.out.1.vc
      clear hb
      simp only [errV]
      go_wp2
      refine bodyPost_ret (v := .tuple #[vv .none, .nilIface]) (results_ct Tryz.results57 _ _ ⟨w.heap.size + 1, 0, none⟩ rfl (load39 (put39_blk .none H1.out.1))) rfl ?_
      exact ⟨rfl, put39_below .none H1.out.2 (by omega)⟩
end Go.Proofs.YtmabfbffpedfnaaGreatDoor
namespace Go.Proofs.YtmabfbffpedfnaaGreatDoor
open Go.RowKit

def prodR (a b : Int) : Int × Bool := if a = 0 ∨ b = 0 then (0, true) else (IntKind.i64.wrap (a * b), if (IntKind.i64.wrap (Int.tdiv (IntKind.i64.wrap (a * b)) b) == a) then (decide (IntKind.i64.wrap (a * b) < 0) == (decide (a < 0) != decide (b < 0))) else false)
def cntR (c a b : Int) : Int × Bool := if c = 6 then (IntKind.i64.wrap (a + b), decide (IntKind.i64.wrap (a + b) < a) == decide (b < 0)) else if c = 7 then (IntKind.i64.wrap (a - b), decide (IntKind.i64.wrap (a - b) < a) == decide (0 < b)) else prodR a b
set_option maxRecDepth 100000 in
set_option maxHeartbeats 1000000 in
theorem product_any (a b : Int) (w : World) : Calls Tryz.prog 93 #[.int .i64 a, .int .i64 b] w fun e w' => e = .returned (.tuple #[.int .i64 (prodR a b).1, .bool (prodR a b).2]) ∧ w' = w := by
  by_cases ha : a = 0
  · subst ha
    rw [show prodR 0 b = (0, true) from if_pos (Or.inl rfl)]
    go_enter Tryz.func93, Tryz.ntmps93
    go_wp2
    go_ret2
    exact ⟨rfl, rfl⟩
  · have b1 : (a == 0) = false := beq_f ha
    by_cases hb : b = 0
    · subst hb
      rw [show prodR a 0 = (0, true) from if_pos (Or.inr rfl)]
      clear ha
      go_enter Tryz.func93, Tryz.ntmps93
      go_wp2
      go_ret2
      exact ⟨rfl, rfl⟩
    · have b2 : (b == 0) = false := beq_f hb
      obtain ⟨n, hn⟩ : ∃ n, IntKind.i64.wrap (a * b) = n := ⟨_, rfl⟩
      obtain ⟨d, hd⟩ : ∃ d, IntKind.i64.wrap (Int.tdiv n b) = d := ⟨_, rfl⟩
      obtain ⟨p, hp⟩ : ∃ p, (d == a) = p := ⟨_, rfl⟩
      have e : prodR a b = (n, if p then (decide (n < 0) == (decide (a < 0) != decide (b < 0))) else false) := by rw [prodR, if_neg (by omega), hn, hd, hp]
      rw [e]
      obtain ⟨x1, hx1⟩ : ∃ q, decide (n < 0) = q := ⟨_, rfl⟩
      obtain ⟨x2, hx2⟩ : ∃ q, decide (a < 0) = q := ⟨_, rfl⟩
      obtain ⟨x3, hx3⟩ : ∃ q, decide (b < 0) = q := ⟨_, rfl⟩
      rw [hx1, hx2, hx3]
      clear e ha
      cases p
      · go_enter Tryz.func93, Tryz.ntmps93
        go_wp2
        go_ret2
        exact ⟨rfl, rfl⟩
      · go_enter Tryz.func93, Tryz.ntmps93
        go_wp2
        go_ret2
        exact ⟨rfl, rfl⟩
set_option maxRecDepth 100000 in
set_option maxHeartbeats 1000000 in
theorem counted_any (c a b : Int) (w : World) : Calls Tryz.prog 72 #[.int .i64 c, .int .i64 a, .int .i64 b] w fun e w' => e = .returned (.tuple #[.int .i64 (cntR c a b).1, .bool (cntR c a b).2]) ∧ w' = w := by
  by_cases h6 : c = 6
  · subst h6
    obtain ⟨n, hn⟩ : ∃ n, IntKind.i64.wrap (a + b) = n := ⟨_, rfl⟩
    have e : cntR 6 a b = (n, decide (n < a) == decide (b < 0)) := by rw [cntR, if_pos rfl, hn]
    rw [e]
    clear e
    obtain ⟨x1, hx1⟩ : ∃ q, decide (n < a) = q := ⟨_, rfl⟩
    obtain ⟨x2, hx2⟩ : ∃ q, decide (b < 0) = q := ⟨_, rfl⟩
    rw [hx1, hx2]
    go_enter Tryz.func72, Tryz.ntmps72
    go_wp2
    go_ret2
    exact ⟨rfl, rfl⟩
  · have b1 : (c == 6) = false := beq_f h6
    by_cases h7 : c = 7
    · subst h7
      obtain ⟨n, hn⟩ : ∃ n, IntKind.i64.wrap (a - b) = n := ⟨_, rfl⟩
      have e : cntR 7 a b = (n, decide (n < a) == decide (0 < b)) := by rw [cntR, if_neg h6, if_pos rfl, hn]
      rw [e]
      clear e h6
      obtain ⟨x1, hx1⟩ : ∃ q, decide (n < a) = q := ⟨_, rfl⟩
      obtain ⟨x2, hx2⟩ : ∃ q, decide (0 < b) = q := ⟨_, rfl⟩
      rw [hx1, hx2]
      go_enter Tryz.func72, Tryz.ntmps72
      go_wp2
      go_ret2
      exact ⟨rfl, rfl⟩
    · have b2 : (c == 7) = false := beq_f h7
      rw [show cntR c a b = prodR a b by rw [cntR, if_neg h6, if_neg h7]]
      clear h6 h7
      go_enter Tryz.func72, Tryz.ntmps72
      go_wp2_with fail
      refine (product_any a b w).mono ?_
      rintro _ w1 ⟨rfl, rfl⟩
      go_wp2
      go_ret2
      exact ⟨rfl, rfl⟩
def countR (c : Int) (a b : Vl) : Except Int Vl := if a.k = 2 ∨ b.k = 2 then .error 1 else if a.k ≠ 1 ∨ b.k ≠ 1 then .ok .none else if (cntR c a.n b.n).2 then .ok (numV (cntR c a.n b.n).1) else .error 2
theorem bne_f {a b : Int} (h : a = b) : (a != b) = false := by rw [h]; simp
theorem bne_t {a b : Int} (h : a ≠ b) : (a != b) = true := by simp [h]
set_option maxRecDepth 100000 in
set_option maxHeartbeats 2000000 in
theorem count_any (c : Int) (a b : Vl) (w : World) : Calls Tryz.prog 55 #[.int .i64 c, vv a, vv b] w fun e w' => e = .returned (tupR (countR c a b)) ∧ Below w.heap.size w w' := by
  obtain ⟨W, hW⟩ : ∃ W, ((w.alloc (.cells #[.int .i64 a.k, .int .i64 a.n, .string a.t] 23)).alloc (.cells #[.int .i64 b.k, .int .i64 b.n, .string b.t] 23)).alloc (.cells #[.int .i64 0, .int .i64 0, .string ⟨#[]⟩] 23) = W := ⟨_, rfl⟩
  have hbW : Below w.heap.size w W := by rw [← hW]; exact (((Below.refl _ _).alloc (Nat.le_refl _) _).alloc (by simp only [World.size_alloc]; omega) _).alloc (by simp only [World.size_alloc]; omega) _
  have hk0W : Blk (w.heap.size) a.cells 23 W := by
      have hq := Blk.new w a.cells 23
      rw [← hW]
      exact hq.below (((Below.refl _ _).alloc (Nat.le_refl _) _).alloc (by simp only [World.size_alloc]; omega) _)
  have hk1W : Blk (w.heap.size + 1) b.cells 23 W := by
      have hq := Blk.new (w.alloc (.cells a.cells 23)) b.cells 23
      simp only [World.size_alloc] at hq
      rw [← hW]
      exact hq.below ((Below.refl _ _).alloc (Nat.le_refl _) _)
  have hk2W : Blk (w.heap.size + 2) Vl.none.cells 23 W := by
      have hq := Blk.new ((w.alloc (.cells a.cells 23)).alloc (.cells b.cells 23)) Vl.none.cells 23
      simp only [World.size_alloc, Nat.add_assoc, Nat.reduceAdd] at hq
      rw [← hW]
      exact hq
  have G0 : Hid (Blk (w.heap.size) a.cells 23 W ∧ Blk (w.heap.size + 1) b.cells 23 W ∧ Blk (w.heap.size + 2) Vl.none.cells 23 W ∧ Below w.heap.size w W) := ⟨hk0W, hk1W, hk2W, hbW⟩
  clear hbW
  obtain ⟨x0, x1, x2, xf⟩ := hk0W.vc
  obtain ⟨y0, y1, y2, yf⟩ := hk1W.vc
  obtain ⟨z0, z1, z2, zf⟩ := hk2W.vc
  clear hk0W hk1W hk2W
  show Calls _ _ #[_, .agg #[.int .i64 a.k, .int .i64 a.n, .string a.t], .agg #[.int .i64 b.k, .int .i64 b.n, .string b.t]] _ _
  by_cases ha2 : a.k = 2
  · rw [show countR c a b = .error 1 from if_pos (Or.inl ha2)]
    have b1 : (a.k == 2) = true := beq_iff_eq.2 ha2
    clear ha2
    go_enter Tryz.func55, Tryz.ntmps55
    go_wp2
    refine bodyPost_ret (v := .tuple #[vv .none, .iface 82 (.int .i64 1)]) (results_ct Tryz.results55 _ _ ⟨w.heap.size + 2, 0, none⟩ rfl (load39 (put39_blk .none (And.intro G0.out.2.2.1 G0.out.2.2.2).1))) rfl ?_
    exact ⟨rfl, put39_below .none (And.intro G0.out.2.2.1 G0.out.2.2.2).2 (by omega)⟩
  have b1 : (a.k == 2) = false := beq_f ha2
  by_cases hb2 : b.k = 2
  · rw [show countR c a b = .error 1 from if_pos (Or.inr hb2)]
    have b2 : (b.k == 2) = true := beq_iff_eq.2 hb2
    clear ha2 hb2
    go_enter Tryz.func55, Tryz.ntmps55
    go_wp2
    refine bodyPost_ret (v := .tuple #[vv .none, .iface 82 (.int .i64 1)]) (results_ct Tryz.results55 _ _ ⟨w.heap.size + 2, 0, none⟩ rfl (load39 (put39_blk .none (And.intro G0.out.2.2.1 G0.out.2.2.2).1))) rfl ?_
    exact ⟨rfl, put39_below .none (And.intro G0.out.2.2.1 G0.out.2.2.2).2 (by omega)⟩
  have b2 : (b.k == 2) = false := beq_f hb2
  by_cases ha1 : a.k = 1
  rotate_left
  · rw [show countR c a b = .ok .none by rw [countR, if_neg (by omega), if_pos (Or.inl ha1)]]
    have b3 : (a.k != 1) = true := bne_t ha1
    clear ha2 hb2 ha1
    go_enter Tryz.func55, Tryz.ntmps55
    go_wp2
    refine bodyPost_ret (v := .tuple #[vv .none, .nilIface]) (results_ct Tryz.results55 _ _ ⟨w.heap.size + 2, 0, none⟩ rfl (load39 (put39_blk .none (And.intro G0.out.2.2.1 G0.out.2.2.2).1))) rfl ?_
    exact ⟨rfl, put39_below .none (And.intro G0.out.2.2.1 G0.out.2.2.2).2 (by omega)⟩
  have b3 : (a.k != 1) = false := bne_f ha1
  by_cases hb1 : b.k = 1
  rotate_left
  · rw [show countR c a b = .ok .none by rw [countR, if_neg (by omega), if_pos (Or.inr hb1)]]
    have b4 : (b.k != 1) = true := bne_t hb1
    clear ha2 hb2 ha1 hb1
    go_enter Tryz.func55, Tryz.ntmps55
    go_wp2
    refine bodyPost_ret (v := .tuple #[vv .none, .nilIface]) (results_ct Tryz.results55 _ _ ⟨w.heap.size + 2, 0, none⟩ rfl (load39 (put39_blk .none (And.intro G0.out.2.2.1 G0.out.2.2.2).1))) rfl ?_
    exact ⟨rfl, put39_below .none (And.intro G0.out.2.2.1 G0.out.2.2.2).2 (by omega)⟩
  have b4 : (b.k != 1) = false := bne_f hb1
  have e0 : countR c a b = if (cntR c a.n b.n).2 then .ok (numV (cntR c a.n b.n).1) else .error 2 := by rw [countR, if_neg (by omega), if_neg (by omega)]
  rw [e0]
  obtain ⟨⟨n, f⟩, hr⟩ : ∃ r, cntR c a.n b.n = r := ⟨_, rfl⟩
  have HR : Hid (cntR c a.n b.n = (n, f)) := hr
  rw [hr]
  clear hr e0 ha1 hb1 ha2 hb2
  simp only
  cases f
  · go_enter Tryz.func55, Tryz.ntmps55
    go_wp2_with fail
    have hc := counted_any c a.n b.n W
    rw [HR.out] at hc
    refine hc.mono ?_
    clear hc
    rintro _ w1 ⟨rfl, rfl⟩
    go_wp2
    refine bodyPost_ret (v := .tuple #[vv .none, .iface 82 (.int .i64 2)]) (results_ct Tryz.results55 _ _ ⟨w.heap.size + 2, 0, none⟩ rfl (load39 (put39_blk .none (And.intro G0.out.2.2.1 G0.out.2.2.2).1))) rfl ?_
    exact ⟨rfl, put39_below .none (And.intro G0.out.2.2.1 G0.out.2.2.2).2 (by omega)⟩
  · go_enter Tryz.func55, Tryz.ntmps55
    go_wp2_with fail
    have hc := counted_any c a.n b.n W
    rw [HR.out] at hc
    refine hc.mono ?_
    clear hc
    rintro _ w1 ⟨rfl, rfl⟩
    go_wp2_with fail
    refine (enumber_any n w1).mono ?_
    rintro _ w2 ⟨rfl, hb⟩
    have H2 : Hid (Blk (w.heap.size + 2) Vl.none.cells 23 w2 ∧ Below w.heap.size w w2) := ⟨G0.out.2.2.1.below hb, G0.out.2.2.2.trans (hb.mono G0.out.2.2.2.size)⟩
    obtain ⟨u0, u1, u2, uf⟩ := H2.out.1.vc
    clear hb
    unfold vv
    go_wp2
    refine bodyPost_ret (v := .tuple #[vv (numV n), .nilIface]) (results_ct Tryz.results55 _ _ ⟨w.heap.size + 2, 0, none⟩ rfl (load39 (put39_blk (numV n) H2.out.1))) rfl ?_
    exact ⟨rfl, put39_below (numV n) H2.out.2 (by omega)⟩
end Go.Proofs.YtmabfbffpedfnaaGreatDoor
namespace Go.Proofs.YtmabfbffpedfnaaGreatDoor
open Go.RowKit

def bothB : Bool × Bool × Option Int → Bool × Bool × Option Int → Bool → Except Int Vl
  | (_, _, some n), _, _ => .error n
  | (_, _, none), (_, _, some n), _ => .error n
  | (l, lk, none), (r, rk, none), st => if (lk && (l == st)) || (rk && (r == st)) then .ok (truthV st) else if !lk || !rk then .ok .none else .ok (truthV (!st))
def bothR (c : Int) (a b : Vl) : Except Int Vl := bothB (holdsR a) (holdsR b) (c == 16)
set_option maxRecDepth 100000 in
set_option maxHeartbeats 8000000 in
theorem both_any (c : Int) (a b : Vl) (w : World) : Calls Tryz.prog 73 #[.int .i64 c, vv a, vv b] w fun e w' => e = .returned (tupR (bothR c a b)) ∧ Below w.heap.size w w' := by
  obtain ⟨W, hW⟩ : ∃ W, ((w.alloc (.cells #[.int .i64 a.k, .int .i64 a.n, .string a.t] 23)).alloc (.cells #[.int .i64 b.k, .int .i64 b.n, .string b.t] 23)).alloc (.cells #[.int .i64 0, .int .i64 0, .string ⟨#[]⟩] 23) = W := ⟨_, rfl⟩
  have hbW : Below w.heap.size w W := by rw [← hW]; exact (((Below.refl _ _).alloc (Nat.le_refl _) _).alloc (by simp only [World.size_alloc]; omega) _).alloc (by simp only [World.size_alloc]; omega) _
  have hk0W : Blk (w.heap.size) a.cells 23 W := by
      have hq := Blk.new w a.cells 23
      rw [← hW]
      exact hq.below (((Below.refl _ _).alloc (Nat.le_refl _) _).alloc (by simp only [World.size_alloc]; omega) _)
  have hk1W : Blk (w.heap.size + 1) b.cells 23 W := by
      have hq := Blk.new (w.alloc (.cells a.cells 23)) b.cells 23
      simp only [World.size_alloc] at hq
      rw [← hW]
      exact hq.below ((Below.refl _ _).alloc (Nat.le_refl _) _)
  have hk2W : Blk (w.heap.size + 2) Vl.none.cells 23 W := by
      have hq := Blk.new ((w.alloc (.cells a.cells 23)).alloc (.cells b.cells 23)) Vl.none.cells 23
      simp only [World.size_alloc, Nat.add_assoc, Nat.reduceAdd] at hq
      rw [← hW]
      exact hq
  have G0 : Hid (Blk (w.heap.size) a.cells 23 W ∧ Blk (w.heap.size + 1) b.cells 23 W ∧ Blk (w.heap.size + 2) Vl.none.cells 23 W ∧ Below w.heap.size w W) := ⟨hk0W, hk1W, hk2W, hbW⟩
  clear hbW
  obtain ⟨x0, x1, x2, xf⟩ := hk0W.vc
  clear hk0W hk1W hk2W
  show Calls _ _ #[_, .agg #[.int .i64 a.k, .int .i64 a.n, .string a.t], .agg #[.int .i64 b.k, .int .i64 b.n, .string b.t]] _ _
  obtain ⟨⟨l, lk, le⟩, hl⟩ : ∃ r, holdsR a = r := ⟨_, rfl⟩
  obtain ⟨⟨r, rk, re⟩, hr⟩ : ∃ r, holdsR b = r := ⟨_, rfl⟩
  obtain ⟨st, hst⟩ : ∃ q, (c == 16) = q := ⟨_, rfl⟩
  have HB : Hid (bothR c a b = bothB (l, lk, le) (r, rk, re) st) := by show _ = _; rw [bothR, hl, hr, hst]
  have HH : Hid (holdsR a = (l, lk, le) ∧ holdsR b = (r, rk, re)) := ⟨hl, hr⟩
  rw [HB.out]
  clear hl hr HB
  go_enter Tryz.func73, Tryz.ntmps73
  go_wp2_with fail
  have hc := holds_any a W
  rw [HH.out.1] at hc
  refine hc.mono ?_
  clear hc
  rintro _ w1 ⟨rfl, hb⟩
  have H1 : Hid (Blk (w.heap.size + 1) b.cells 23 w1 ∧ Blk (w.heap.size + 2) Vl.none.cells 23 w1 ∧ Below w.heap.size w w1) := ⟨G0.out.2.1.below hb, G0.out.2.2.1.below hb, G0.out.2.2.2.trans (hb.mono G0.out.2.2.2.size)⟩
  clear hb
  cases le with
  | some n =>
    obtain ⟨u0, u1, u2, uf⟩ := H1.out.2.1.vc
    simp only [errV]
    go_wp2
    refine bodyPost_ret (v := .tuple #[vv .none, .iface 82 (.int .i64 n)]) (results_ct Tryz.results73 _ _ ⟨w.heap.size + 2, 0, none⟩ rfl (load39 (put39_blk .none (And.intro H1.out.2.1 H1.out.2.2).1))) rfl ?_
    exact ⟨rfl, put39_below .none (And.intro H1.out.2.1 H1.out.2.2).2 (by omega)⟩
  | none =>
    obtain ⟨y0, y1, y2, yf⟩ := H1.out.1.vc
    simp only [errV]
    go_wp2_with fail
    have hc := holds_any b w1
    rw [HH.out.2] at hc
    refine hc.mono ?_
    clear hc
    rintro _ w2 ⟨rfl, hb⟩
    have H2 : Hid (Blk (w.heap.size + 2) Vl.none.cells 23 w2 ∧ Below w.heap.size w w2) := ⟨H1.out.2.1.below hb, H1.out.2.2.trans (hb.mono H1.out.2.2.size)⟩
    clear hb
    obtain ⟨u0, u1, u2, uf⟩ := H2.out.1.vc
    cases re with
    | some n =>
      simp only [errV]
      go_wp2
      refine bodyPost_ret (v := .tuple #[vv .none, .iface 82 (.int .i64 n)]) (results_ct Tryz.results73 _ _ ⟨w.heap.size + 2, 0, none⟩ rfl (load39 (put39_blk .none H2.out.1))) rfl ?_
      exact ⟨rfl, put39_below .none H2.out.2 (by omega)⟩
    | none =>
      simp only [errV]
      obtain ⟨p, hp⟩ : ∃ p, (l == st) = p := ⟨_, rfl⟩
      obtain ⟨q, hq⟩ : ∃ q, (r == st) = q := ⟨_, rfl⟩
      cases lk
      · cases rk
        · have HZ : Hid (bothB (l, false, none) (r, false, none) st = .ok .none) := by show _ = _; simp [bothB]
          go_wp2
          refine bodyPost_ret (v := .tuple #[vv .none, .nilIface]) (results_ct Tryz.results73 _ _ ⟨w.heap.size + 2, 0, none⟩ rfl (load39 (put39_blk .none H2.out.1))) rfl ?_
          exact ⟨by rw [HZ.out]; rfl, put39_below .none H2.out.2 (by omega)⟩
        · cases q
          · have HZ : Hid (bothB (l, false, none) (r, true, none) st = .ok .none) := by show _ = _; simp [bothB, hq]
            go_wp2
            refine bodyPost_ret (v := .tuple #[vv .none, .nilIface]) (results_ct Tryz.results73 _ _ ⟨w.heap.size + 2, 0, none⟩ rfl (load39 (put39_blk .none H2.out.1))) rfl ?_
            exact ⟨by rw [HZ.out]; rfl, put39_below .none H2.out.2 (by omega)⟩
          · have HZ : Hid (bothB (l, false, none) (r, true, none) st = .ok (truthV st)) := by show _ = _; simp [bothB, hq]
            go_wp2_with fail
            refine (truth_any st w2).mono ?_
            rintro _ w3 ⟨rfl, hb⟩
            have H3 : Hid (Blk (w.heap.size + 2) Vl.none.cells 23 w3 ∧ Below w.heap.size w w3) := ⟨H2.out.1.below hb, H2.out.2.trans (hb.mono H2.out.2.size)⟩
            obtain ⟨q0, q1, q2, qf⟩ := H3.out.1.vc
            clear hb
            unfold vv
            go_wp2
            refine bodyPost_ret (v := .tuple #[vv (truthV st), .nilIface]) (results_ct Tryz.results73 _ _ ⟨w.heap.size + 2, 0, none⟩ rfl (load39 (put39_blk (truthV st) H3.out.1))) rfl ?_
            exact ⟨by rw [HZ.out]; rfl, put39_below (truthV st) H3.out.2 (by omega)⟩
      · cases rk
        · cases p
          · have HZ : Hid (bothB (l, true, none) (r, false, none) st = .ok .none) := by show _ = _; simp [bothB, hp]
            go_wp2
            refine bodyPost_ret (v := .tuple #[vv .none, .nilIface]) (results_ct Tryz.results73 _ _ ⟨w.heap.size + 2, 0, none⟩ rfl (load39 (put39_blk .none H2.out.1))) rfl ?_
            exact ⟨by rw [HZ.out]; rfl, put39_below .none H2.out.2 (by omega)⟩
          · have HZ : Hid (bothB (l, true, none) (r, false, none) st = .ok (truthV st)) := by show _ = _; simp [bothB, hp]
            go_wp2_with fail
            refine (truth_any st w2).mono ?_
            rintro _ w3 ⟨rfl, hb⟩
            have H3 : Hid (Blk (w.heap.size + 2) Vl.none.cells 23 w3 ∧ Below w.heap.size w w3) := ⟨H2.out.1.below hb, H2.out.2.trans (hb.mono H2.out.2.size)⟩
            obtain ⟨q0, q1, q2, qf⟩ := H3.out.1.vc
            clear hb
            unfold vv
            go_wp2
            refine bodyPost_ret (v := .tuple #[vv (truthV st), .nilIface]) (results_ct Tryz.results73 _ _ ⟨w.heap.size + 2, 0, none⟩ rfl (load39 (put39_blk (truthV st) H3.out.1))) rfl ?_
            exact ⟨by rw [HZ.out]; rfl, put39_below (truthV st) H3.out.2 (by omega)⟩
        · cases p
          · cases q
            · have HZ : Hid (bothB (l, true, none) (r, true, none) st = .ok (truthV (!st))) := by show _ = _; simp [bothB, hp, hq]
              go_wp2_with fail
              refine (truth_any (!st) w2).mono ?_
              rintro _ w3 ⟨rfl, hb⟩
              have H3 : Hid (Blk (w.heap.size + 2) Vl.none.cells 23 w3 ∧ Below w.heap.size w w3) := ⟨H2.out.1.below hb, H2.out.2.trans (hb.mono H2.out.2.size)⟩
              obtain ⟨q0, q1, q2, qf⟩ := H3.out.1.vc
              clear hb
              unfold vv
              go_wp2
              refine bodyPost_ret (v := .tuple #[vv (truthV (!st)), .nilIface]) (results_ct Tryz.results73 _ _ ⟨w.heap.size + 2, 0, none⟩ rfl (load39 (put39_blk (truthV (!st)) H3.out.1))) rfl ?_
              exact ⟨by rw [HZ.out]; rfl, put39_below (truthV (!st)) H3.out.2 (by omega)⟩
            · have HZ : Hid (bothB (l, true, none) (r, true, none) st = .ok (truthV st)) := by show _ = _; simp [bothB, hp, hq]
              go_wp2_with fail
              refine (truth_any st w2).mono ?_
              rintro _ w3 ⟨rfl, hb⟩
              have H3 : Hid (Blk (w.heap.size + 2) Vl.none.cells 23 w3 ∧ Below w.heap.size w w3) := ⟨H2.out.1.below hb, H2.out.2.trans (hb.mono H2.out.2.size)⟩
              obtain ⟨q0, q1, q2, qf⟩ := H3.out.1.vc
              clear hb
              unfold vv
              go_wp2
              refine bodyPost_ret (v := .tuple #[vv (truthV st), .nilIface]) (results_ct Tryz.results73 _ _ ⟨w.heap.size + 2, 0, none⟩ rfl (load39 (put39_blk (truthV st) H3.out.1))) rfl ?_
              exact ⟨by rw [HZ.out]; rfl, put39_below (truthV st) H3.out.2 (by omega)⟩
          · have HZ : Hid (bothB (l, true, none) (r, true, none) st = .ok (truthV st)) := by show _ = _; simp [bothB, hp]
            go_wp2_with fail
            refine (truth_any st w2).mono ?_
            rintro _ w3 ⟨rfl, hb⟩
            have H3 : Hid (Blk (w.heap.size + 2) Vl.none.cells 23 w3 ∧ Below w.heap.size w w3) := ⟨H2.out.1.below hb, H2.out.2.trans (hb.mono H2.out.2.size)⟩
            obtain ⟨q0, q1, q2, qf⟩ := H3.out.1.vc
            clear hb
            unfold vv
            go_wp2
            refine bodyPost_ret (v := .tuple #[vv (truthV st), .nilIface]) (results_ct Tryz.results73 _ _ ⟨w.heap.size + 2, 0, none⟩ rfl (load39 (put39_blk (truthV st) H3.out.1))) rfl ?_
            exact ⟨by rw [HZ.out]; rfl, put39_below (truthV st) H3.out.2 (by omega)⟩
end Go.Proofs.YtmabfbffpedfnaaGreatDoor
namespace Go.Proofs.YtmabfbffpedfnaaGreatDoor
open Go.RowKit

def cmpI (a b : Int) : Int := if a < b then -1 else if b < a then 1 else 0
def cmpTx (a b : ByteArray) : Int := if Op.bytesLess a.toList b.toList then -1 else if (a.toList == b.toList) then 0 else 1
def compV (a b : Vl) : Int := if a.k ≠ b.k then cmpI a.k b.k else if a.n ≠ b.n then cmpI a.n b.n else cmpTx a.t b.t
theorem comp_cases (a b : Vl) : compV a b = -1 ∨ compV a b = 0 ∨ compV a b = 1 := by
  unfold compV cmpI cmpTx
  split
  · split
    · exact Or.inl rfl
    · split
      · exact Or.inr (Or.inr rfl)
      · exact Or.inr (Or.inl rfl)
  · split
    · split
      · exact Or.inl rfl
      · split
        · exact Or.inr (Or.inr rfl)
        · exact Or.inr (Or.inl rfl)
    · split
      · exact Or.inl rfl
      · split
        · exact Or.inr (Or.inl rfl)
        · exact Or.inr (Or.inr rfl)
set_option maxRecDepth 100000 in
set_option maxHeartbeats 1000000 in
theorem nancI_any (a : Int) (w : World) : Calls Tryz.prog 59 #[.int .i64 a] w fun e w' => e = .returned (.bool false) ∧ w' = w := by
  have h : (a != a) = false := by simp
  go_enter Tryz.func59, Tryz.ntmps59
  go_wp2
  go_ret
  exact ⟨rfl, rfl⟩
set_option maxRecDepth 100000 in
set_option maxHeartbeats 1000000 in
theorem cI_any (a b : Int) (w : World) : Calls Tryz.prog 32 #[.int .i64 a, .int .i64 b] w fun e w' => e = .returned (.int .i64 (cmpI a b)) ∧ w' = w := by
  by_cases h1 : a < b
  · have d1 : decide (a < b) = true := decide_eq_true h1
    rw [show cmpI a b = -1 from if_pos h1]
    clear h1
    go_enter Tryz.func32, Tryz.ntmps32
    go_wp2_with (go_at_call 59; refine Calls.mono (nancI_any _ _) ?_; rintro _ _ ⟨rfl, rfl⟩)
    go_wp2
    go_ret
    exact ⟨rfl, rfl⟩
  · have d1 : decide (a < b) = false := decide_eq_false h1
    by_cases h2 : b < a
    · have d2 : decide (b < a) = true := decide_eq_true h2
      rw [show cmpI a b = 1 by rw [cmpI, if_neg h1, if_pos h2]]
      clear h1 h2
      go_enter Tryz.func32, Tryz.ntmps32
      go_wp2_with (go_at_call 59; refine Calls.mono (nancI_any _ _) ?_; rintro _ _ ⟨rfl, rfl⟩)
      go_wp2
      go_ret
      exact ⟨rfl, rfl⟩
    · have d2 : decide (b < a) = false := decide_eq_false h2
      rw [show cmpI a b = 0 by rw [cmpI, if_neg h1, if_neg h2]]
      clear h1 h2
      go_enter Tryz.func32, Tryz.ntmps32
      go_wp2_with (go_at_call 59; refine Calls.mono (nancI_any _ _) ?_; rintro _ _ ⟨rfl, rfl⟩)
      go_wp2
      go_ret
      exact ⟨rfl, rfl⟩
set_option maxRecDepth 100000 in
set_option maxHeartbeats 1000000 in
theorem nancL_any (a : Int) (w : World) : Calls Tryz.prog 60 #[.int .i64 a] w fun e w' => e = .returned (.bool false) ∧ w' = w := by
  have h : (a != a) = false := by simp
  go_enter Tryz.func60, Tryz.ntmps60
  go_wp2
  go_ret
  exact ⟨rfl, rfl⟩
set_option maxRecDepth 100000 in
set_option maxHeartbeats 1000000 in
theorem cL_any (a b : Int) (w : World) : Calls Tryz.prog 33 #[.int .i64 a, .int .i64 b] w fun e w' => e = .returned (.int .i64 (cmpI a b)) ∧ w' = w := by
  by_cases h1 : a < b
  · have d1 : decide (a < b) = true := decide_eq_true h1
    rw [show cmpI a b = -1 from if_pos h1]
    clear h1
    go_enter Tryz.func33, Tryz.ntmps33
    go_wp2_with (go_at_call 60; refine Calls.mono (nancL_any _ _) ?_; rintro _ _ ⟨rfl, rfl⟩)
    go_wp2
    go_ret
    exact ⟨rfl, rfl⟩
  · have d1 : decide (a < b) = false := decide_eq_false h1
    by_cases h2 : b < a
    · have d2 : decide (b < a) = true := decide_eq_true h2
      rw [show cmpI a b = 1 by rw [cmpI, if_neg h1, if_pos h2]]
      clear h1 h2
      go_enter Tryz.func33, Tryz.ntmps33
      go_wp2_with (go_at_call 60; refine Calls.mono (nancL_any _ _) ?_; rintro _ _ ⟨rfl, rfl⟩)
      go_wp2
      go_ret
      exact ⟨rfl, rfl⟩
    · have d2 : decide (b < a) = false := decide_eq_false h2
      rw [show cmpI a b = 0 by rw [cmpI, if_neg h1, if_neg h2]]
      clear h1 h2
      go_enter Tryz.func33, Tryz.ntmps33
      go_wp2_with (go_at_call 60; refine Calls.mono (nancL_any _ _) ?_; rintro _ _ ⟨rfl, rfl⟩)
      go_wp2
      go_ret
      exact ⟨rfl, rfl⟩
set_option maxRecDepth 100000 in
set_option maxHeartbeats 1000000 in
theorem nanS_any (a : ByteArray) (w : World) : Calls Tryz.prog 61 #[.string a] w fun e w' => e = .returned (.bool false) ∧ w' = w := by
  go_enter Tryz.func61, Tryz.ntmps61
  go_wp2
  go_ret
  exact ⟨rfl, rfl⟩
set_option maxRecDepth 100000 in
set_option maxHeartbeats 1000000 in
theorem cS_any (a b : ByteArray) (w : World) : Calls Tryz.prog 34 #[.string a, .string b] w fun e w' => e = .returned (.int .i64 (cmpTx a b)) ∧ w' = w := by
  obtain ⟨p, hp⟩ : ∃ p, Op.bytesLess a.toList b.toList = p := ⟨_, rfl⟩
  obtain ⟨q, hq⟩ : ∃ q, (a.toList == b.toList) = q := ⟨_, rfl⟩
  have HE : Hid (cmpTx a b = if p then -1 else if q then 0 else 1) := by show _ = _; rw [cmpTx, hp, hq]
  rw [HE.out]
  clear HE
  cases p
  · cases q
    · go_enter Tryz.func34, Tryz.ntmps34
      go_wp2_with (go_at_call 61; refine Calls.mono (nanS_any _ _) ?_; rintro _ _ ⟨rfl, rfl⟩)
      go_wp2
      go_ret
      exact ⟨rfl, rfl⟩
    · go_enter Tryz.func34, Tryz.ntmps34
      go_wp2_with (go_at_call 61; refine Calls.mono (nanS_any _ _) ?_; rintro _ _ ⟨rfl, rfl⟩)
      go_wp2
      go_ret
      exact ⟨rfl, rfl⟩
  · go_enter Tryz.func34, Tryz.ntmps34
    go_wp2_with (go_at_call 61; refine Calls.mono (nanS_any _ _) ?_; rintro _ _ ⟨rfl, rfl⟩)
    go_wp2
    go_ret
    exact ⟨rfl, rfl⟩
theorem bne_ff {a b : Int} (h : a = b) : (a != b) = false := by rw [h]; simp
theorem bne_tt {a b : Int} (h : a ≠ b) : (a != b) = true := by simp [h]
set_option maxRecDepth 100000 in
set_option maxHeartbeats 1000000 in
theorem vcompare_any (a b : Vl) (w : World) : Calls Tryz.prog 15 #[vv a, vv b] w fun e w' => e = .returned (.int .i64 (compV a b)) ∧ Below w.heap.size w w' := by
  obtain ⟨W, hW⟩ : ∃ W, (w.alloc (.cells #[.int .i64 a.k, .int .i64 a.n, .string a.t] 23)).alloc (.cells #[.int .i64 b.k, .int .i64 b.n, .string b.t] 23) = W := ⟨_, rfl⟩
  have hbW : Below w.heap.size w W := by rw [← hW]; exact ((Below.refl _ _).alloc (Nat.le_refl _) _).alloc (by simp only [World.size_alloc]; omega) _
  have hk0W : Blk (w.heap.size) a.cells 23 W := by
      have hq := Blk.new w a.cells 23
      rw [← hW]
      exact hq.below ((Below.refl _ _).alloc (Nat.le_refl _) _)
  have hk1W : Blk (w.heap.size + 1) b.cells 23 W := by
      have hq := Blk.new (w.alloc (.cells a.cells 23)) b.cells 23
      simp only [World.size_alloc] at hq
      rw [← hW]
      exact hq
  have G0 : Hid (Blk (w.heap.size) a.cells 23 W ∧ Blk (w.heap.size + 1) b.cells 23 W ∧ Below w.heap.size w W) := ⟨hk0W, hk1W, hbW⟩
  clear hbW
  obtain ⟨x0, x1, x2, xf⟩ := hk0W.vc
  obtain ⟨y0, y1, y2, yf⟩ := hk1W.vc
  clear hk0W hk1W
  show Calls _ _ #[.agg #[.int .i64 a.k, .int .i64 a.n, .string a.t], .agg #[.int .i64 b.k, .int .i64 b.n, .string b.t]] _ _
  by_cases hk : a.k = b.k
  rotate_left
  · rw [show compV a b = cmpI a.k b.k from if_pos hk]
    have b1 : (a.k != b.k) = true := bne_tt hk
    clear hk
    go_enter Tryz.func15, Tryz.ntmps15
    go_wp2_with fail
    refine (cI_any a.k b.k W).mono ?_
    rintro _ w1 ⟨rfl, rfl⟩
    go_wp2
    go_ret
    exact ⟨rfl, G0.out.2.2⟩
  have b1 : (a.k != b.k) = false := bne_ff hk
  by_cases hn : a.n = b.n
  rotate_left
  · rw [show compV a b = cmpI a.n b.n by rw [compV, if_neg (by simp [hk]), if_pos hn]]
    have b2 : (a.n != b.n) = true := bne_tt hn
    clear hn hk
    go_enter Tryz.func15, Tryz.ntmps15
    go_wp2_with fail
    refine (cL_any a.n b.n W).mono ?_
    rintro _ w1 ⟨rfl, rfl⟩
    go_wp2
    go_ret
    exact ⟨rfl, G0.out.2.2⟩
  have b2 : (a.n != b.n) = false := bne_ff hn
  rw [show compV a b = cmpTx a.t b.t by rw [compV, if_neg (by simp [hk]), if_neg (by simp [hn])]]
  clear hn hk
  go_enter Tryz.func15, Tryz.ntmps15
  go_wp2_with fail
  refine (cS_any a.t b.t W).mono ?_
  rintro _ w1 ⟨rfl, rfl⟩
  go_wp2
  go_ret
  exact ⟨rfl, G0.out.2.2⟩
end Go.Proofs.YtmabfbffpedfnaaGreatDoor
namespace Go.Proofs.YtmabfbffpedfnaaGreatDoor
open Go.RowKit

/-- the questions -/
def askL : List (Int × Bool × Bool × Bool) := [(9, false, true, false), (10, true, false, true), (11, true, false, false), (12, true, true, false), (13, false, false, true), (14, false, true, true)]
def askCells : List Value := askL.flatMap fun x => [.int .i64 x.1, .bool x.2.1, .bool x.2.2.1, .bool x.2.2.2]
def askB (o : Int) (q : Int × Bool × Bool × Bool) : Bool := (decide (o < 0) && q.2.1) || ((o == 0) && q.2.2.1) || (decide (0 < o) && q.2.2.2)
def askR2 (ps : List (Int × Bool × Bool × Bool)) (c o : Int) : Vl := match ps.find? (fun p => decide (p.1 = c)) with
  | some q => truthV (askB o q)
  | none => .none
def cmpR (c : Int) (a b : Vl) : Vl := if a.k = 0 ∨ b.k = 0 then .none else askR2 askL c (compV a b)
theorem ixA (k : Nat) (hk : k < 6) (W : World) : (Instr.index 136 (.agg askCells.toArray) (.int .i64 (k : Int))).run Tryz.prog W = .ok (.agg #[.int .i64 (askL.getD k (0, false, false, false)).1, .bool (askL.getD k (0, false, false, false)).2.1, .bool (askL.getD k (0, false, false, false)).2.2.1, .bool (askL.getD k (0, false, false, false)).2.2.2]) W :=
  match k, hk with
  | 0, _ => by kernel_rfl
  | 1, _ => by kernel_rfl
  | 2, _ => by kernel_rfl
  | 3, _ => by kernel_rfl
  | 4, _ => by kernel_rfl
  | 5, _ => by kernel_rfl
  | n + 6, h => absurd h (by omega)
theorem ask_step (k : Nat) (hk : k < 6) (c o : Int) : askR2 (askL.drop k) c o = if decide ((askL.getD k (0, false, false, false)).1 = c) = true then truthV (askB o (askL.getD k (0, false, false, false))) else askR2 (askL.drop (k + 1)) c o := by
  have e : askL.getD k (0, false, false, false) = askL[k]'hk := by simp [List.getD, show k < askL.length from hk]; rfl
  unfold askR2
  rw [List.drop_eq_getElem_cons (show k < askL.length from hk), List.find?_cons, e]
  cases decide ((askL[k]'hk).1 = c) <;> rfl
set_option maxRecDepth 100000 in
set_option maxHeartbeats 8000000 in
theorem compare_any (c : Int) (a b : Vl) (w : World) (hv : w.rangeAt 0 0 askCells) (hlo : 12 ≤ w.heap.size) : Calls Tryz.prog 74 #[.int .i64 c, vv a, vv b] w fun e w' => e = .returned (vv (cmpR c a b)) ∧ Below w.heap.size w w' := by
  obtain ⟨W, hW⟩ : ∃ W, ((w.alloc (.cells #[.int .i64 a.k, .int .i64 a.n, .string a.t] 23)).alloc (.cells #[.int .i64 b.k, .int .i64 b.n, .string b.t] 23)).alloc (.cells #[.int .i64 0, .int .i64 0, .string ⟨#[]⟩] 23) = W := ⟨_, rfl⟩
  have hbW : Below w.heap.size w W := by rw [← hW]; exact (((Below.refl _ _).alloc (Nat.le_refl _) _).alloc (by simp only [World.size_alloc]; omega) _).alloc (by simp only [World.size_alloc]; omega) _
  have hk0W : Blk (w.heap.size) a.cells 23 W := by
      have hq := Blk.new w a.cells 23
      rw [← hW]
      exact hq.below (((Below.refl _ _).alloc (Nat.le_refl _) _).alloc (by simp only [World.size_alloc]; omega) _)
  have hk1W : Blk (w.heap.size + 1) b.cells 23 W := by
      have hq := Blk.new (w.alloc (.cells a.cells 23)) b.cells 23
      simp only [World.size_alloc] at hq
      rw [← hW]
      exact hq.below ((Below.refl _ _).alloc (Nat.le_refl _) _)
  have hk2W : Blk (w.heap.size + 2) Vl.none.cells 23 W := by
      have hq := Blk.new ((w.alloc (.cells a.cells 23)).alloc (.cells b.cells 23)) Vl.none.cells 23
      simp only [World.size_alloc, Nat.add_assoc, Nat.reduceAdd] at hq
      rw [← hW]
      exact hq
  have G0 : Hid (Blk (w.heap.size) a.cells 23 W ∧ Blk (w.heap.size + 1) b.cells 23 W ∧ Blk (w.heap.size + 2) Vl.none.cells 23 W ∧ Below w.heap.size w W) := ⟨hk0W, hk1W, hk2W, hbW⟩
  clear hbW
  obtain ⟨x0, x1, x2, xf⟩ := hk0W.vc
  obtain ⟨y0, y1, y2, yf⟩ := hk1W.vc
  obtain ⟨z0, z1, z2, zf⟩ := hk2W.vc
  clear hk0W hk1W hk2W
  show Calls _ _ #[_, .agg #[.int .i64 a.k, .int .i64 a.n, .string a.t], .agg #[.int .i64 b.k, .int .i64 b.n, .string b.t]] _ _
  by_cases ha : a.k = 0
  · rw [show cmpR c a b = .none from if_pos (Or.inl ha)]
    have b1 : (a.k == 0) = true := beq_iff_eq.2 ha
    clear ha hv
    go_enter Tryz.func74, Tryz.ntmps74
    go_wp2
    refine bodyPost_ret (v := vv .none) (results_c Tryz.results74 _ _ ⟨w.heap.size + 2, 0, none⟩ rfl (load39 (put39_blk .none G0.out.2.2.1))) rfl ?_
    exact ⟨rfl, put39_below .none G0.out.2.2.2 (by omega)⟩
  have b1 : (a.k == 0) = false := beq_f ha
  by_cases hb : b.k = 0
  · rw [show cmpR c a b = .none from if_pos (Or.inr hb)]
    have b2 : (b.k == 0) = true := beq_iff_eq.2 hb
    clear ha hb hv
    go_enter Tryz.func74, Tryz.ntmps74
    go_wp2
    refine bodyPost_ret (v := vv .none) (results_c Tryz.results74 _ _ ⟨w.heap.size + 2, 0, none⟩ rfl (load39 (put39_blk .none G0.out.2.2.1))) rfl ?_
    exact ⟨rfl, put39_below .none G0.out.2.2.2 (by omega)⟩
  have b2 : (b.k == 0) = false := beq_f hb
  rw [show cmpR c a b = askR2 askL c (compV a b) by rw [cmpR, if_neg (by omega)]]
  clear ha hb
  obtain ⟨o, ho⟩ : ∃ o, compV a b = o := ⟨_, rfl⟩
  have HO : Hid (compV a b = o) := ho
  rw [ho]
  obtain ⟨C, hC⟩ : ∃ C, askR2 askL c o = C := ⟨_, rfl⟩
  have HC : Hid (askR2 (askL.drop 0) c o = C) := hC
  rw [hC]
  have HV : Hid (W.rangeAt 0 0 askCells) := range_keep hv (fun q => World.cell?_of_block (w := w) (a := ⟨0, q, none⟩) (G0.out.2.2.2.block 0 (by omega)))
  have hsz : (Tryz.prog.info? 136).map (·.size) = some askCells.length := by kernel_rfl
  clear hv hC ho
  go_enter Tryz.func74, Tryz.ntmps74
  go_wp2_with fail
  have hc := vcompare_any a b W
  rw [HO.out] at hc
  refine hc.mono ?_
  clear hc
  rintro _ w1 ⟨rfl, hb⟩
  have HV1 : Hid (w1.rangeAt 0 0 askCells) := range_keep HV.out (fun q => World.cell?_of_block (w := W) (a := ⟨0, q, none⟩) (hb.block 0 (by have := G0.out.2.2.2.size; omega)))
  have H1 : Hid (Blk (w.heap.size + 2) Vl.none.cells 23 w1 ∧ Below w.heap.size w w1) := ⟨G0.out.2.2.1.below hb, G0.out.2.2.2.trans (hb.mono G0.out.2.2.2.size)⟩
  clear hb HV
  go_wp2_with (refine wpList_load_mid rfl 136 _ rfl _ 0 rfl askCells _ HV1.out Tryz.underlying136 rfl hsz ?_)
  clear hsz HV1
  obtain ⟨o1, ho1⟩ : ∃ q, decide (o < 0) = q := ⟨_, rfl⟩
  obtain ⟨o2, ho2⟩ : ∃ q, (o == 0) = q := ⟨_, rfl⟩
  obtain ⟨o3, ho3⟩ : ∃ q, decide (0 < o) = q := ⟨_, rfl⟩
  have H3 : Hid ((o1 = true ∧ o2 = false ∧ o3 = false) ∨ (o1 = false ∧ o2 = true ∧ o3 = false) ∨ (o1 = false ∧ o2 = false ∧ o3 = true)) := by
    show _ ∨ _
    have hc := comp_cases a b
    rw [HO.out] at hc
    rcases hc with rfl | rfl | rfl
    · left; subst ho1 ho2 ho3; decide
    · right; left; subst ho1 ho2 ho3; decide
    · right; right; subst ho1 ho2 ho3; decide
  have HQ : Hid (∀ q, askB o q = ((o1 && q.2.1) || (o2 && q.2.2.1) || (o3 && q.2.2.2))) := by intro q; rw [askB, ho1, ho2, ho3]
  go_loopw [23] (fun i wr => ∃ k : Nat, k ≤ 6 ∧ i = .int .i64 k ∧ Hid (askR2 (askL.drop k) c o = C) ∧ Hid (Blk (w.heap.size + 2) Vl.none.cells 23 wr ∧ Below w.heap.size w wr)) (fun i _ => 6 - (intOf i).toNat)
  case atStart => exact ⟨0, Nat.zero_le _, rfl, HC, H1⟩
  case round =>
    clear HC H1
    obtain ⟨k, hk, rfl, he, HR⟩ := hrel
    obtain ⟨wo, rfl⟩ : ∃ wo, wo = wr := ⟨_, rfl⟩
    by_cases hlt : k < 6
    · have hix := ixA k hlt wo
      have hst := he.out
      rw [ask_step k hlt] at hst
      generalize askL.getD k (0, false, false, false) = m at *
      obtain ⟨mc, m1, m2, m3⟩ := m
      simp only at *
      have hk' : (k : Int) < 6 := by omega
      obtain ⟨b3, hb3⟩ : ∃ b, (mc == c) = b := ⟨_, rfl⟩
      have hb3' : decide (mc = c) = b3 := hb3
      rw [hb3'] at hst
      obtain ⟨V, hV⟩ : ∃ W, wo.alloc (.cells #[.int .i64 mc, .bool m1, .bool m2, .bool m3] 135) = W := ⟨_, rfl⟩
      have hbV : Below wo.heap.size wo V := by rw [← hV]; exact (Below.refl _ _).alloc (Nat.le_refl _) _
      have v0 : V.cell? ⟨wo.heap.size, 0, none⟩ = some (.int .i64 mc) := by rw [← hV]; simp [go_sem]
      have v1 : V.cell? ⟨wo.heap.size, 1, none⟩ = some (.bool m1) := by rw [← hV]; simp [go_sem]
      have v2 : V.cell? ⟨wo.heap.size, 2, none⟩ = some (.bool m2) := by rw [← hV]; simp [go_sem]
      have v3 : V.cell? ⟨wo.heap.size, 3, none⟩ = some (.bool m3) := by rw [← hV]; simp [go_sem]
      have HW : Hid (Blk (w.heap.size + 2) Vl.none.cells 23 V ∧ Below w.heap.size w V) := ⟨HR.out.1.below hbV, HR.out.2.trans (hbV.mono HR.out.2.size)⟩
      clear hb3' he hbV
      cases b3
      · have HS : Hid (askR2 (askL.drop (k + 1)) c o = C) := by rw [if_neg (by decide)] at hst; exact hst
        clear hst HR
        go_wp2
        go_roundw
        case rel => exact ⟨k + 1, by omega, by go_num, HS, HW⟩
        case measure => simp [intOf]; omega
      · rw [if_pos rfl, HQ.out] at hst
        simp only at hst
        have HS : Hid (truthV ((o1 && m1) || (o2 && m2) || (o3 && m3)) = C) := hst
        clear hst HR
        go_upto_if 29 with fail
        clear hV
        rcases H3.out with ⟨rfl, rfl, rfl⟩ | ⟨rfl, rfl, rfl⟩ | ⟨rfl, rfl, rfl⟩
        · cases m1
          · have HS : Hid (truthV false = C) := by show _ = _; have h9 := HS.out; simpa using h9
            go_wp2_with fail
            refine (truth_any false V).mono ?_
            rintro _ w5 ⟨rfl, hb⟩
            have H5 : Hid (Blk (w.heap.size + 2) Vl.none.cells 23 w5 ∧ Below w.heap.size w w5) := ⟨HW.out.1.below hb, HW.out.2.trans (hb.mono HW.out.2.size)⟩
            obtain ⟨u0, u1, u2, uf⟩ := H5.out.1.vc
            clear hb
            unfold vv
            go_wp2
            refine bodyPost_ret (v := vv C) (results_c Tryz.results74 _ _ ⟨w.heap.size + 2, 0, none⟩ rfl (by rw [← HS.out]; exact load39 (put39_blk (truthV false) H5.out.1))) rfl ?_
            exact ⟨rfl, put39_below (truthV false) H5.out.2 (by omega)⟩
          · have HS : Hid (truthV true = C) := by show _ = _; have h9 := HS.out; simpa using h9
            go_wp2_with fail
            refine (truth_any true V).mono ?_
            rintro _ w5 ⟨rfl, hb⟩
            have H5 : Hid (Blk (w.heap.size + 2) Vl.none.cells 23 w5 ∧ Below w.heap.size w w5) := ⟨HW.out.1.below hb, HW.out.2.trans (hb.mono HW.out.2.size)⟩
            obtain ⟨u0, u1, u2, uf⟩ := H5.out.1.vc
            clear hb
            unfold vv
            go_wp2
            refine bodyPost_ret (v := vv C) (results_c Tryz.results74 _ _ ⟨w.heap.size + 2, 0, none⟩ rfl (by rw [← HS.out]; exact load39 (put39_blk (truthV true) H5.out.1))) rfl ?_
            exact ⟨rfl, put39_below (truthV true) H5.out.2 (by omega)⟩
        · cases m2
          · have HS : Hid (truthV false = C) := by show _ = _; have h9 := HS.out; simpa using h9
            go_wp2_with fail
            refine (truth_any false V).mono ?_
            rintro _ w5 ⟨rfl, hb⟩
            have H5 : Hid (Blk (w.heap.size + 2) Vl.none.cells 23 w5 ∧ Below w.heap.size w w5) := ⟨HW.out.1.below hb, HW.out.2.trans (hb.mono HW.out.2.size)⟩
            obtain ⟨u0, u1, u2, uf⟩ := H5.out.1.vc
            clear hb
            unfold vv
            go_wp2
            refine bodyPost_ret (v := vv C) (results_c Tryz.results74 _ _ ⟨w.heap.size + 2, 0, none⟩ rfl (by rw [← HS.out]; exact load39 (put39_blk (truthV false) H5.out.1))) rfl ?_
            exact ⟨rfl, put39_below (truthV false) H5.out.2 (by omega)⟩
          · have HS : Hid (truthV true = C) := by show _ = _; have h9 := HS.out; simpa using h9
            go_wp2_with fail
            refine (truth_any true V).mono ?_
            rintro _ w5 ⟨rfl, hb⟩
            have H5 : Hid (Blk (w.heap.size + 2) Vl.none.cells 23 w5 ∧ Below w.heap.size w w5) := ⟨HW.out.1.below hb, HW.out.2.trans (hb.mono HW.out.2.size)⟩
            obtain ⟨u0, u1, u2, uf⟩ := H5.out.1.vc
            clear hb
            unfold vv
            go_wp2
            refine bodyPost_ret (v := vv C) (results_c Tryz.results74 _ _ ⟨w.heap.size + 2, 0, none⟩ rfl (by rw [← HS.out]; exact load39 (put39_blk (truthV true) H5.out.1))) rfl ?_
            exact ⟨rfl, put39_below (truthV true) H5.out.2 (by omega)⟩
        · cases m3
          · have HS : Hid (truthV false = C) := by show _ = _; have h9 := HS.out; simpa using h9
            go_wp2_with fail
            refine (truth_any false V).mono ?_
            rintro _ w5 ⟨rfl, hb⟩
            have H5 : Hid (Blk (w.heap.size + 2) Vl.none.cells 23 w5 ∧ Below w.heap.size w w5) := ⟨HW.out.1.below hb, HW.out.2.trans (hb.mono HW.out.2.size)⟩
            obtain ⟨u0, u1, u2, uf⟩ := H5.out.1.vc
            clear hb
            unfold vv
            go_wp2
            refine bodyPost_ret (v := vv C) (results_c Tryz.results74 _ _ ⟨w.heap.size + 2, 0, none⟩ rfl (by rw [← HS.out]; exact load39 (put39_blk (truthV false) H5.out.1))) rfl ?_
            exact ⟨rfl, put39_below (truthV false) H5.out.2 (by omega)⟩
          · have HS : Hid (truthV true = C) := by show _ = _; have h9 := HS.out; simpa using h9
            go_wp2_with fail
            refine (truth_any true V).mono ?_
            rintro _ w5 ⟨rfl, hb⟩
            have H5 : Hid (Blk (w.heap.size + 2) Vl.none.cells 23 w5 ∧ Below w.heap.size w w5) := ⟨HW.out.1.below hb, HW.out.2.trans (hb.mono HW.out.2.size)⟩
            obtain ⟨u0, u1, u2, uf⟩ := H5.out.1.vc
            clear hb
            unfold vv
            go_wp2
            refine bodyPost_ret (v := vv C) (results_c Tryz.results74 _ _ ⟨w.heap.size + 2, 0, none⟩ rfl (by rw [← HS.out]; exact load39 (put39_blk (truthV true) H5.out.1))) rfl ?_
            exact ⟨rfl, put39_below (truthV true) H5.out.2 (by omega)⟩
    · obtain rfl : k = 6 := by omega
      have hst := he.out
      have e : askR2 (askL.drop 6) c o = .none := rfl
      rw [e] at hst
      subst hst
      obtain ⟨u0, u1, u2, uf⟩ := HR.out.1.vc
      clear he
      go_wp2
      refine bodyPost_ret (v := vv .none) (results_c Tryz.results74 _ _ ⟨w.heap.size + 2, 0, none⟩ rfl (load39 (put39_blk .none HR.out.1))) rfl ?_
      exact ⟨rfl, put39_below .none HR.out.2 (by omega)⟩
end Go.Proofs.YtmabfbffpedfnaaGreatDoor
