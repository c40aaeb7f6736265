/- Part 28 of 30. -/
import Derived.Test.YtmabfbffpedfnaaGreatDoorK27
import Derived.Laws.EntriesVeiled
import Derived.BigQuiet
namespace Go.Proofs.YtmabfbffpedfnaaGreatDoor
open Go.RowKit

/-- what columns have is small -/
structure Sms (a b c : Vl) : Prop where
  a : Sm a
  b : Sm b
  c : Sm c
theorem exAt_cases {w : World} {p : Option Addr} {X : Ex} (h : ExAt w p X) : (p = none ∧ X = .nil) ∨ ∃ B, p = some ⟨B, 0, none⟩ := by
  cases X with
  | nil => exact Or.inl ⟨h, rfl⟩
  | node c v nm l r => obtain ⟨B, _, _, e, _⟩ := h; exact Or.inr ⟨B, e⟩
/-- the law's three values in memory -/
structure T0 (a b c : Vl) (w wx : World) : Prop where
  ka : Blk w.heap.size a.cells 23 wx
  kb : Blk (w.heap.size + 1) b.cells 23 wx
  kc : Blk (w.heap.size + 2) c.cells 23 wx
  l : LAt wx
  be : Below w.heap.size w wx
theorem T0.below {a b c : Vl} {w wx wy : World} (h : T0 a b c w wx) (hb : Below wx.heap.size wx wy) : T0 a b c w wy := ⟨h.ka.below hb, h.kb.below hb, h.kc.below hb, h.l.below hb, h.be.trans (hb.mono h.be.size)⟩
/-- worlds that come later -/
structure Lat (w : World) where
  u : World
  h : Below w.heap.size w u
theorem wp_region_quiet_lat {P : Program} {id : Nat} {Q : Exit → Act → World → Prop} {a : Act} {w : World} {l : List Oper} (hm : P.follows .mixedOrders = true) (hB : Region.lexB .any l.toArray = true)
    (h : wpQuiet P l.toArray (fun w' => ∃ p : Lat w, w' = p.u) (fun a' => ∀ w', (∃ p : Lat w, w' = p.u) → Q .normal a' w') l a) : (Code.region id l.toArray true).wp P Q a w :=
  wp_region_quiet (C := fun w' => ∃ p : Lat w, w' = p.u) hm hB ⟨⟨w.drew, (Below.refl _ _).drew⟩, rfl⟩ (by simpa using h)
theorem lat_calls {P : Program} {f : FuncId} {args : Array Value} {w : World} {p : Lat w} {v : Value} (h : Calls P f args p.u fun e w' => e = .returned v ∧ Below p.u.heap.size p.u w') : Calls P f args p.u fun e w'' => e = .returned v ∧ ∃ q : Lat w, w'' = q.u :=
  h.mono fun _ w' ⟨h1, h2⟩ => ⟨h1, ⟨w', p.h.trans (h2.mono p.h.size)⟩, rfl⟩
theorem C3_sm : TabS C3 := ⟨fun c hc => by
  have h : c = ⟨⟨#[97]⟩, 1, false, false⟩ ∨ c = ⟨⟨#[98]⟩, 2, false, true⟩ ∨ c = ⟨⟨#[99]⟩, 1, false, false⟩ := by simpa [C3] using hc
  rcases h with rfl | rfl | rfl <;> decide⟩
theorem tab3 {bC bI : Nat} {w : World} (hkC : Blk bC #[.string ⟨#[97]⟩, .int .i64 1, .bool false, .bool false, .string ⟨#[98]⟩, .int .i64 2, .bool false, .bool true, .string ⟨#[99]⟩, .int .i64 1, .bool false, .bool false] 29 w) (hkI : Blk bI #[.string ⟨#[97]⟩, .string ⟨#[98]⟩, .string ⟨#[99]⟩] 9 w) : TabW bC bI C3 I3 w := by
  refine ⟨fun j hj => ?_, fun j hj => ?_, (Array.getElem?_eq_some_iff.1 hkC).1, (Array.getElem?_eq_some_iff.1 hkI).1, by decide, by decide⟩
  · have h3 : j = 0 ∨ j = 1 ∨ j = 2 := by have : j < 3 := hj; omega
    rcases h3 with rfl | rfl | rfl <;> exact ⟨by rw [hkC.cell]; rfl, by rw [hkC.cell]; rfl, by rw [hkC.cell]; rfl, by rw [hkC.cell]; rfl⟩
  · have h3 : j = 0 ∨ j = 1 ∨ j = 2 := by have : j < 3 := hj; omega
    rcases h3 with rfl | rfl | rfl <;> (rw [hkI.cell]; rfl)
set_option maxRecDepth 100000 in
set_option maxHeartbeats 80000000 in
theorem planFinds_any (s : ByteArray) (a b c : Vl) (w : World) (h : LAt w) (hs : s.size ≤ maxLen) (ha : a.t.size ≤ maxLen) (hb' : b.t.size ≤ maxLen) (hc : c.t.size ≤ maxLen) : Calls Tryz.prog 3 #[.string s, vv a, vv b, vv c] w fun e w' => e = .returned (.bool true) ∧ Below w.heap.size w w' := by
  obtain ⟨W, hW⟩ : ∃ W, ((w.alloc (.cells #[.int .i64 a.k, .int .i64 a.n, .string a.t] 23)).alloc (.cells #[.int .i64 b.k, .int .i64 b.n, .string b.t] 23)).alloc (.cells #[.int .i64 c.k, .int .i64 c.n, .string c.t] 23) = W := ⟨_, rfl⟩
  have hbW : Below w.heap.size w W := by rw [← hW]; exact (((Below.refl _ _).alloc (Nat.le_refl _) _).alloc (by simp only [World.size_alloc]; omega) _).alloc (by simp only [World.size_alloc]; omega) _
  have hk0W : Blk (w.heap.size) a.cells 23 W := by
      have hq := Blk.new w a.cells 23
      rw [← hW]
      exact hq.below (((Below.refl _ _).alloc (Nat.le_refl _) _).alloc (by simp only [World.size_alloc]; omega) _)
  have hk1W : Blk (w.heap.size + 1) b.cells 23 W := by
      have hq := Blk.new (w.alloc (.cells a.cells 23)) b.cells 23
      simp only [World.size_alloc] at hq
      rw [← hW]
      exact hq.below ((Below.refl _ _).alloc (Nat.le_refl _) _)
  have hk2W : Blk (w.heap.size + 2) c.cells 23 W := by
      have hq := Blk.new ((w.alloc (.cells a.cells 23)).alloc (.cells b.cells 23)) c.cells 23
      simp only [World.size_alloc, Nat.add_assoc, Nat.reduceAdd] at hq
      rw [← hW]
      exact hq
  have G0 : Hid (Blk (w.heap.size) a.cells 23 W ∧ Blk (w.heap.size + 1) b.cells 23 W ∧ Blk (w.heap.size + 2) c.cells 23 W ∧ Below w.heap.size w W) := ⟨hk0W, hk1W, hk2W, hbW⟩
  clear hbW
  have HS : Hid (s.size ≤ maxLen ∧ a.t.size ≤ maxLen ∧ b.t.size ≤ maxLen ∧ c.t.size ≤ maxLen) := ⟨hs, ha, hb', hc⟩
  have G1 : Hid (T0 a b c w W) := ⟨hk0W, hk1W, hk2W, h.below G0.out.2.2.2, G0.out.2.2.2⟩
  clear hk0W hk1W hk2W h hs ha hb' hc G0
  show Calls _ _ #[_, .agg #[.int .i64 a.k, .int .i64 a.n, .string a.t], .agg #[.int .i64 b.k, .int .i64 b.n, .string b.t], .agg #[.int .i64 c.k, .int .i64 c.n, .string c.t]] _ _
  go_enter Tryz.func3, Tryz.ntmps3
  go_wp2_with fail
  refine (planned_any W G1.out.l).mono ?_
  rintro _ w1 ⟨rfl, hb⟩
  have G2 : Hid (T0 a b c w w1) := G1.out.below hb
  obtain ⟨a0, a1, a2, af⟩ := G2.out.ka.vc
  clear hb G1 hW
  go_wp2_with fail
  refine (right_any a w1 HS.out.2.1).mono ?_
  rintro _ w2 ⟨r1, rfl, hr1, hb⟩
  have G3 : Hid (T0 a b c w w2) := G2.out.below hb
  have Ra : Hid (r1 = true → Sm a) := hr1
  clear hb hr1 a0 a1 a2 af
  cases r1
  · clear Ra
    go_wp2
    go_ret
    exact ⟨rfl, G3.out.be⟩
  have Sa : Hid (Sm a) := Ra.out rfl
  clear Ra
  obtain ⟨b0, b1, b2, bf⟩ := G3.out.kb.vc
  go_wp2_with fail
  refine (right_any b w2 HS.out.2.2.1).mono ?_
  rintro _ w3 ⟨r1, rfl, hr1, hb⟩
  have G4 : Hid (T0 a b c w w3) := G3.out.below hb
  have Rb : Hid (r1 = true → Sm b) := hr1
  clear hb hr1 b0 b1 b2 bf
  cases r1
  · clear Rb
    go_wp2
    go_ret
    exact ⟨rfl, G4.out.be⟩
  have Sb : Hid (Sm b) := Rb.out rfl
  clear Rb
  obtain ⟨c0, c1, c2, cf⟩ := G4.out.kc.vc
  go_wp2_with fail
  refine (right_any c w3 HS.out.2.2.2).mono ?_
  rintro _ w4 ⟨r1, rfl, hr1, hb⟩
  have G5 : Hid (T0 a b c w w4) := G4.out.below hb
  have Rc : Hid (r1 = true → Sm c) := hr1
  clear hb hr1 c0 c1 c2 cf
  cases r1
  · clear Rc
    go_wp2
    go_ret
    exact ⟨rfl, G5.out.be⟩
  have Sc : Hid (Sm c) := Rc.out rfl
  clear Rc
  have HM : Hid (Sms a b c) := ⟨Sa.out, Sb.out, Sc.out⟩
  clear Sa Sb Sc
  obtain ⟨a0, a1, a2, af⟩ := G5.out.ka.vc
  obtain ⟨b0, b1, b2, bf⟩ := G5.out.kb.vc
  obtain ⟨c0, c1, c2, cf⟩ := G5.out.kc.vc
  obtain ⟨q1, hq1⟩ : ∃ q, (a.k == 2) = q := ⟨_, rfl⟩
  obtain ⟨q2, hq2⟩ : ∃ q, (b.k == 1) = q := ⟨_, rfl⟩
  obtain ⟨q3, hq3⟩ : ∃ q, (c.k == 2) = q := ⟨_, rfl⟩
  cases q1
  rotate_left
  · go_wp2
    go_ret
    exact ⟨rfl, G5.out.be⟩
  cases q2
  rotate_left
  · go_wp2
    go_ret
    exact ⟨rfl, G5.out.be⟩
  cases q3
  rotate_left
  · go_wp2
    go_ret
    exact ⟨rfl, G5.out.be⟩
  obtain ⟨X, hX0⟩ : ∃ X, condF s = X := ⟨_, rfl⟩
  have TX : Hid (PK X ∧ condF s = X) := ⟨hX0 ▸ PK.of s, hX0⟩
  clear hX0
  go_wp2_with fail
  have h8 := cond_any s w4 G5.out.l.b HS.out.1
  rw [TX.out.2] at h8
  refine h8.mono ?_
  clear h8 a0 a1 a2 af b0 b1 b2 bf c0 c1 c2 cf hq1 hq2 hq3
  rintro _ w5 ⟨p, rfl, hx, hb⟩
  have G6 : Hid (T0 a b c w w5 ∧ ExAt w5 p X) := ⟨G5.out.below hb, hx⟩
  clear hb hx G2 G3 G4 G5
  rcases exAt_cases G6.out.2 with ⟨rfl, _⟩ | ⟨B1, rfl⟩
  · go_wp2
    go_ret
    exact ⟨rfl, G6.out.1.be⟩
  have HWF : Hid (Wf X) := by
    rcases TX.out.1.wf with h | h
    · have := G6.out.2; rw [h] at this; cases this
    · exact h
  obtain ⟨W6, hW6⟩ : ∃ W, (((w5.alloc (.cells #[.string ⟨#[97]⟩, .int .i64 1, .bool false, .bool false, .string ⟨#[98]⟩, .int .i64 2, .bool false, .bool true, .string ⟨#[99]⟩, .int .i64 1, .bool false, .bool false] 29)).alloc (.cells #[.string ⟨#[97]⟩, .string ⟨#[98]⟩, .string ⟨#[99]⟩] 9)).alloc (.cells #[.string ⟨#[116]⟩, .slice (some ⟨w5.heap.size, 0, none⟩) 3 3, .slice (some ⟨w5.heap.size + 1, 0, none⟩) 3 3] 33)).alloc (.cells #[.int .i64 1, .int .i64 1, .string ⟨#[116]⟩, .slice (some ⟨w5.heap.size, 0, none⟩) 3 3, .slice (some ⟨w5.heap.size + 1, 0, none⟩) 3 3] 35) = W := ⟨_, rfl⟩
  have hb6 : Below w5.heap.size w5 W6 := by rw [← hW6]; exact ((((Below.refl _ _).alloc (Nat.le_refl _) _).alloc (by simp only [World.size_alloc]; omega) _).alloc (by simp only [World.size_alloc]; omega) _).alloc (by simp only [World.size_alloc]; omega) _
  have hkC : Blk w5.heap.size #[.string ⟨#[97]⟩, .int .i64 1, .bool false, .bool false, .string ⟨#[98]⟩, .int .i64 2, .bool false, .bool true, .string ⟨#[99]⟩, .int .i64 1, .bool false, .bool false] 29 W6 := by rw [← hW6]; exact (Blk.new _ _ _).below ((((Below.refl _ _).alloc (Nat.le_refl _) _).alloc (by simp only [World.size_alloc]; omega) _).alloc (by simp only [World.size_alloc]; omega) _)
  have hkI : Blk (w5.heap.size + 1) #[.string ⟨#[97]⟩, .string ⟨#[98]⟩, .string ⟨#[99]⟩] 9 W6 := by
    have hq := Blk.new (w5.alloc (.cells #[.string ⟨#[97]⟩, .int .i64 1, .bool false, .bool false, .string ⟨#[98]⟩, .int .i64 2, .bool false, .bool true, .string ⟨#[99]⟩, .int .i64 1, .bool false, .bool false] 29)) #[.string ⟨#[97]⟩, .string ⟨#[98]⟩, .string ⟨#[99]⟩] 9
    simp only [World.size_alloc] at hq
    rw [← hW6]
    exact hq.below (((Below.refl _ _).alloc (Nat.le_refl _) _).alloc (by simp only [World.size_alloc]; omega) _)
  have hkE : Blk (w5.heap.size + 3) (entC w5.heap.size (w5.heap.size + 1) C3 I3) 35 W6 := by
    have hq := Blk.new (((w5.alloc (.cells #[.string ⟨#[97]⟩, .int .i64 1, .bool false, .bool false, .string ⟨#[98]⟩, .int .i64 2, .bool false, .bool true, .string ⟨#[99]⟩, .int .i64 1, .bool false, .bool false] 29)).alloc (.cells #[.string ⟨#[97]⟩, .string ⟨#[98]⟩, .string ⟨#[99]⟩] 9)).alloc (.cells #[.string ⟨#[116]⟩, .slice (some ⟨w5.heap.size, 0, none⟩) 3 3, .slice (some ⟨w5.heap.size + 1, 0, none⟩) 3 3] 33)) #[.int .i64 1, .int .i64 1, .string ⟨#[116]⟩, .slice (some ⟨w5.heap.size, 0, none⟩) 3 3, .slice (some ⟨w5.heap.size + 1, 0, none⟩) 3 3] 35
    simp only [World.size_alloc, Nat.add_assoc, Nat.reduceAdd] at hq
    rw [← hW6]
    exact hq
  obtain ⟨e0, e1, e2, e3, e4, ef⟩ := hkE.ec
  replace e3 : W6.cell? ⟨w5.heap.size + 3, 3, none⟩ = some (.slice (some ⟨w5.heap.size, 0, none⟩) 3 3) := e3
  replace e4 : W6.cell? ⟨w5.heap.size + 3, 4, none⟩ = some (.slice (some ⟨w5.heap.size + 1, 0, none⟩) 3 3) := e4
  have G7 : Hid (T0 a b c w W6 ∧ ExAt W6 (some ⟨B1, 0, none⟩) X ∧ TabW w5.heap.size (w5.heap.size + 1) C3 I3 W6 ∧ Blk (w5.heap.size + 3) (entC w5.heap.size (w5.heap.size + 1) C3 I3) 35 W6) := ⟨G6.out.1.below hb6, G6.out.2.below hb6, tab3 hkC hkI, hkE⟩
  clear hb6 hkC hkI hkE G6
  obtain ⟨pn, hpn⟩ : ∃ pn, chooseF C3 I3 X = pn := ⟨_, rfl⟩
  have HPN : Hid (chooseF C3 I3 X = pn) := hpn
  clear hpn
  go_wp2_with fail
  have h8 := choose_any w5.heap.size (w5.heap.size + 1) C3 I3 X _ W6 G7.out.2.2.1 C3_sm G7.out.2.1 TX.out.1
  rw [HPN.out] at h8
  refine h8.mono ?_
  clear h8 e0 e1 e2 e3 e4 ef hW6
  rintro _ w7 ⟨_, rfl, ⟨ql, qh, rfl, hl, hh⟩, hb⟩
  obtain ⟨V7, hV7⟩ : ∃ V, w7.alloc (.cells #[.int .i64 pn.kd, .string pn.cl, .pointer ql, .pointer qh, .string pn.tx] 38) = V := ⟨_, rfl⟩
  have hbV7 : Below w7.heap.size w7 V7 := by rw [← hV7]; exact (Below.refl _ _).alloc (Nat.le_refl _) _
  have hkP : Blk w7.heap.size #[.int .i64 pn.kd, .string pn.cl, .pointer ql, .pointer qh, .string pn.tx] 38 V7 := by rw [← hV7]; exact Blk.new _ _ _
  have hz7 : V7.heap.size = w7.heap.size + 1 := by rw [← hV7]; simp only [World.size_alloc]
  obtain ⟨U2, hU2⟩ : ∃ V, V7.alloc (.cells #[.nilFunc] 44) = V := ⟨_, rfl⟩
  obtain ⟨V8, hV8⟩ : ∃ V, U2.setCell ⟨w7.heap.size + 1, 0, none⟩ (.func (.func 8) #[] #[.pointer (some ⟨w5.heap.size + 1 + 1 + 1, 0, none⟩), .pointer (some ⟨w.heap.size, 0, none⟩), .pointer (some ⟨w.heap.size + 1, 0, none⟩), .pointer (some ⟨w.heap.size + 1 + 1, 0, none⟩)]) = V := ⟨_, rfl⟩
  have hkU2 : Blk (w7.heap.size + 1) #[.nilFunc] 44 U2 := by
    have := (Blk.new V7 #[.nilFunc] 44)
    rw [hz7, hU2] at this
    exact this
  have hbV8 : Below V7.heap.size V7 V8 := by rw [← hV8, ← hU2]; exact ((Below.refl _ _).alloc (Nat.le_refl _) _).setCell (by show V7.heap.size ≤ w7.heap.size + 1; omega) _
  have hkF : Blk (w7.heap.size + 1) #[.func (.func 8) #[] #[.pointer (some ⟨w5.heap.size + 1 + 1 + 1, 0, none⟩), .pointer (some ⟨w.heap.size, 0, none⟩), .pointer (some ⟨w.heap.size + 1, 0, none⟩), .pointer (some ⟨w.heap.size + 1 + 1, 0, none⟩)]] 44 V8 := by
    have := hkU2.set 0 (.func (.func 8) #[] #[.pointer (some ⟨w5.heap.size + 1 + 1 + 1, 0, none⟩), .pointer (some ⟨w.heap.size, 0, none⟩), .pointer (some ⟨w.heap.size + 1, 0, none⟩), .pointer (some ⟨w.heap.size + 1 + 1, 0, none⟩)])
    rw [← hV8]
    simpa using this
  have u0 : U2.cell? ⟨w7.heap.size + 1, 0, none⟩ = some .nilFunc := by rw [hkU2.cell 0]; rfl
  have uf : ∀ i, U2.frozen? ⟨w7.heap.size + 1, i, none⟩ = false := fun i => hkU2.free i
  have f0 : V8.cell? ⟨w7.heap.size + 1, 0, none⟩ = some (.func (.func 8) #[] #[.pointer (some ⟨w5.heap.size + 1 + 1 + 1, 0, none⟩), .pointer (some ⟨w.heap.size, 0, none⟩), .pointer (some ⟨w.heap.size + 1, 0, none⟩), .pointer (some ⟨w.heap.size + 1 + 1, 0, none⟩)]) := by rw [hkF.cell 0]; rfl
  have hb78 : Below W6.heap.size W6 V8 := hb.trans ((hbV7.trans (hbV8.mono hbV7.size)).mono hb.size)
  have G8 : Hid (T0 a b c w V8 ∧ ExAt V8 (some ⟨B1, 0, none⟩) X ∧ EnvW (w5.heap.size + 1 + 1 + 1) w.heap.size (w.heap.size + 1) (w.heap.size + 1 + 1) (w7.heap.size + 1) a b c V8 ∧ Blk w7.heap.size #[.int .i64 pn.kd, .string pn.cl, .pointer ql, .pointer qh, .string pn.tx] 38 V8 ∧ PtV V8 ql pn.lo ∧ PtV V8 qh pn.hi) := by
    have hT := G7.out.1.below hb78
    refine ⟨hT, G7.out.2.1.below hb78, ⟨⟨_, _, G7.out.2.2.2.below hb78, G7.out.2.2.1.below hb78⟩, hT.ka, hT.kb, hT.kc, f0, (Array.getElem?_eq_some_iff.1 hkF).1, hT.l.ask, hT.l.b.g.lo⟩, hkP.below hbV8, (hl.below hbV7).below hbV8, (hh.below hbV7).below hbV8⟩
  have hmf : ∀ (fn : Fn) (first cap : Array Value) (w : World), (Instr.makeFunc fn first cap).run Tryz.prog w = .ok (.func fn first cap) w := fun _ _ _ _ => rfl
  clear hb hl hh hbV7 hkP hkU2 hbV8 hkF hb78 G7
  obtain ⟨R, hR⟩ : ∃ R, evF a b c X = R := ⟨_, rfl⟩
  have HR : Hid (evF a b c X = R) := hR
  clear hR
  go_wp2_with fail
  have h8 := eval_any a b c X (fun x hx => Nat.le_trans (evF_sm HM.out.a HM.out.b HM.out.c TX.out.1.sm x hx) (by decide)) _ _ _ _ _ _ V8 G8.out.2.2.1 G8.out.2.1
  rw [HR.out, tup_eq] at h8
  refine h8.mono ?_
  clear h8 hV7 hU2 hV8 u0 uf f0 hz7
  rintro _ w8 ⟨rfl, hb⟩
  obtain ⟨v, hv⟩ : ∃ v, valOf R = v := ⟨_, rfl⟩
  obtain ⟨er, her⟩ : ∃ v, errOf R = v := ⟨_, rfl⟩
  have HA : Hid (valOf R = v ∧ errOf R = er) := ⟨hv, her⟩
  rw [hv, her]
  clear hv her
  obtain ⟨V9, hV9⟩ : ∃ V, w8.alloc (.cells #[.int .i64 v.k, .int .i64 v.n, .string v.t] 23) = V := ⟨_, rfl⟩
  have hbV : Below w8.heap.size w8 V9 := by rw [← hV9]; exact (Below.refl _ _).alloc (Nat.le_refl _) _
  have hkV : Blk w8.heap.size v.cells 23 V9 := by rw [← hV9]; exact Blk.new _ _ _
  have hb9 : Below V8.heap.size V8 V9 := hb.trans (hbV.mono hb.size)
  have G9 : Hid (T0 a b c w V9 ∧ ExAt V9 (some ⟨B1, 0, none⟩) X ∧ EnvW (w5.heap.size + 1 + 1 + 1) w.heap.size (w.heap.size + 1) (w.heap.size + 1 + 1) (w7.heap.size + 1) a b c V9 ∧ Blk w7.heap.size #[.int .i64 pn.kd, .string pn.cl, .pointer ql, .pointer qh, .string pn.tx] 38 V9 ∧ PtV V9 ql pn.lo ∧ PtV V9 qh pn.hi ∧ Blk w8.heap.size v.cells 23 V9) := ⟨G8.out.1.below hb9, G8.out.2.1.below hb9, G8.out.2.2.1.below hb9, G8.out.2.2.2.1.below hb9, G8.out.2.2.2.2.1.below hb9, G8.out.2.2.2.2.2.below hb9, hkV⟩
  clear hb hbV hkV hb9 G8
  obtain ⟨q, hq⟩ : ∃ q, safeB X = q := ⟨_, rfl⟩
  have HQ : Hid (safeB X = q) := hq
  clear hq
  obtain ⟨v0, v1, v2, vf⟩ := G9.out.2.2.2.2.2.2.vc
  unfold vv
  go_wp2_with fail
  have h8 := safe_any X _ V9 G9.out.2.1
  rw [HQ.out] at h8
  refine h8.mono ?_
  clear h8 hV9
  rintro _ V9 ⟨rfl, rfl⟩
  obtain ⟨p0, p1, p2, p3, p4, pf⟩ := G9.out.2.2.2.1.pc
  cases q
  · have e0 : (pn.kd == 0) = true := by rw [← HPN.out, chooseF, if_pos HQ.out]; rfl
    go_wp2
    go_ret
    exact ⟨rfl, G9.out.1.be⟩
  obtain ⟨x, hx, hxk⟩ := (safe_ok a b c X HWF.out).1 HQ.out
  obtain rfl : R = .ok x := HR.out.symm.trans hx
  obtain rfl : x = v := HA.out.1
  obtain rfl : er = .nilIface := HA.out.2.symm
  have HXE : Hid (evF a b c X = .ok x) := hx
  have HH3 : Hid ((holdsR x).2.2 = none) := by
    show _ = _
    unfold holdsR
    split
    · rfl
    · first | rfl | rw [if_neg hxk]
  clear hx hxk
  go_wp2_with fail
  have h8 := holds_any x V9
  obtain ⟨is, his⟩ : ∃ q, (holdsR x).1 = q := ⟨_, rfl⟩
  obtain ⟨kn, hkn⟩ : ∃ q, (holdsR x).2.1 = q := ⟨_, rfl⟩
  rw [HH3.out, his, hkn] at h8
  have HIS : Hid ((holdsR x).1 = is) := his
  clear his hkn
  refine h8.mono ?_
  clear h8
  rintro _ w9 ⟨rfl, hb⟩
  have H1 : Hid (T0 a b c w w9 ∧ EnvW (w5.heap.size + 1 + 1 + 1) w.heap.size (w.heap.size + 1) (w.heap.size + 1 + 1) (w7.heap.size + 1) a b c w9 ∧ Blk w7.heap.size #[.int .i64 pn.kd, .string pn.cl, .pointer ql, .pointer qh, .string pn.tx] 38 w9 ∧ PtV w9 ql pn.lo ∧ PtV w9 qh pn.hi) := ⟨G9.out.1.below hb, G9.out.2.2.1.below hb, G9.out.2.2.2.1.below hb, G9.out.2.2.2.2.1.below hb, G9.out.2.2.2.2.2.1.below hb⟩
  clear hb p0 p1 p2 p3 p4 pf v0 v1 v2 vf G9
  obtain ⟨p0, p1, p2, p3, p4, pf⟩ := H1.out.2.2.1.pc
  simp only [errV]
  cases is
  · go_wp2
    go_ret
    exact ⟨rfl, H1.out.1.be⟩
  have HFB : Hid (FoundBy a b c pn) := by
    show FoundBy a b c pn
    rw [← HPN.out]
    exact what_holds a b c X x HXE.out ((holds_iff x).1 HIS.out)
  by_cases h0 : pn.kd = 0
  · have e0 : (pn.kd == 0) = true := by simp [h0]
    clear h0
    go_wp2
    go_ret
    exact ⟨rfl, H1.out.1.be⟩
  have e0 : (pn.kd == 0) = false := by simp [h0]
  have f0 := H1.out.2.1.kf
  obtain ⟨wv, hwv⟩ : ∃ z, colV a b c pn.cl = z := ⟨_, rfl⟩
  have HWV : Hid (colV a b c pn.cl = wv) := hwv
  have HF2 : Hid (FoundBy a b c pn ∧ pn.kd ≠ 0) := ⟨HFB.out, h0⟩
  clear hwv h0 HFB
  go_wp2_with fail
  have h8 := ecol_any pn.cl w9 H1.out.2.1
  rw [colR, HWV.out, tupR] at h8
  refine h8.mono ?_
  clear h8 f0 p0 p1 p2 p3 p4 pf
  rintro _ w10 ⟨rfl, hb⟩
  obtain ⟨V11, hV11⟩ : ∃ V, w10.alloc (.cells #[.int .i64 wv.k, .int .i64 wv.n, .string wv.t] 23) = V := ⟨_, rfl⟩
  have hbV : Below w10.heap.size w10 V11 := by rw [← hV11]; exact (Below.refl _ _).alloc (Nat.le_refl _) _
  have hkV : Blk w10.heap.size wv.cells 23 V11 := by rw [← hV11]; exact Blk.new _ _ _
  have hb9 : Below w9.heap.size w9 V11 := hb.trans (hbV.mono hb.size)
  obtain ⟨bw, hbw⟩ : ∃ b, w10.heap.size = b := ⟨_, rfl⟩
  have H2 : Hid ((T0 a b c w V11 ∧ EnvW (w5.heap.size + 1 + 1 + 1) w.heap.size (w.heap.size + 1) (w.heap.size + 1 + 1) (w7.heap.size + 1) a b c V11 ∧ Blk w7.heap.size #[.int .i64 pn.kd, .string pn.cl, .pointer ql, .pointer qh, .string pn.tx] 38 V11 ∧ PtV V11 ql pn.lo ∧ PtV V11 qh pn.hi) ∧ Blk w10.heap.size wv.cells 23 V11) := ⟨⟨H1.out.1.below hb9, H1.out.2.1.below hb9, H1.out.2.2.1.below hb9, H1.out.2.2.2.1.below hb9, H1.out.2.2.2.2.below hb9⟩, hkV⟩
  clear hb hbV hkV hb9 H1 hbw
  obtain ⟨p0, p1, p2, p3, p4, pf⟩ := H2.out.1.2.2.1.pc
  obtain ⟨v0, v1, v2, vf⟩ := H2.out.2.vc
  unfold vv
  by_cases h2 : pn.kd = 2
  · have e2 : (pn.kd == 2) = true := by simp [h2]
    have et : (wv.t.toList == pn.tx.toList) = true := by
      rcases HF2.out.1 with h | h | h
      · rw [h2] at h; cases h
      · rw [← HWV.out]; exact h.2
      · rw [h2] at h; cases h.1
    clear h2
    go_wp2
    go_ret
    exact ⟨rfl, H2.out.1.1.be⟩
  have e2 : (pn.kd == 2) = false := by simp [h2]
  have HF : Hid (wv.k ≠ 0 ∧ (∀ z, pn.lo = some z → 0 ≤ compV wv z) ∧ (∀ z, pn.hi = some z → compV wv z ≤ 0)) := by
    rcases HF2.out.1 with h | h | h
    · exact absurd h HF2.out.2
    · exact absurd h.1 h2
    · rw [← HWV.out]; exact h.2
  have ek : (wv.k != 0) = true := by simpa using HF.out.1
  clear h2 HF2
  go_upto_region 25 with fail
  clear p0 p1 p2 p3 p4 pf v0 v1 v2 vf hV11
  have hne : Nonempty (Lat V11) := ⟨⟨V11, Below.refl _ _⟩⟩
  cases hlo : pn.lo with
  | none =>
    cases hhi : pn.hi with
    | none =>
      obtain rfl : ql = none := (by have h := H2.out.1.2.2.2.1; rw [hlo] at h; exact h)
      obtain rfl : qh = none := (by have h := H2.out.1.2.2.2.2; rw [hhi] at h; exact h)
      have c0 : ∀ p : Lat V11, p.u.cell? ⟨w10.heap.size, 0, none⟩ = some (.int .i64 wv.k) := fun p => (H2.out.2.below p.h).vc.1
      have c1 : ∀ p : Lat V11, p.u.cell? ⟨w10.heap.size, 1, none⟩ = some (.int .i64 wv.n) := fun p => (H2.out.2.below p.h).vc.2.1
      have c2 : ∀ p : Lat V11, p.u.cell? ⟨w10.heap.size, 2, none⟩ = some (.string wv.t) := fun p => (H2.out.2.below p.h).vc.2.2.1
      have c3 : ∀ p : Lat V11, p.u.cell? ⟨w7.heap.size, 2, none⟩ = some (.pointer none) := fun p => (H2.out.1.2.2.1.below p.h).pc.2.2.1
      have c4 : ∀ p : Lat V11, p.u.cell? ⟨w7.heap.size, 3, none⟩ = some (.pointer none) := fun p => (H2.out.1.2.2.1.below p.h).pc.2.2.2.1
      clear hlo hhi
      refine wp_region_quiet_lat (by kernel_rfl) (by kernel_rfl) ?_
      repeat (go_big_quiet_step (fail))
      refine wpQuiet_nil ?_
      intro _ hw'
      obtain ⟨pz, hw''⟩ := hw'
      subst hw''
      go_wp2
      go_ret
      exact ⟨rfl, H2.out.1.1.be.trans (pz.h.mono H2.out.1.1.be.size)⟩
    | some zh =>
      obtain rfl : ql = none := (by have h := H2.out.1.2.2.2.1; rw [hlo] at h; exact h)
      obtain ⟨bh, rfl, hbh⟩ : ∃ b, qh = some ⟨b, 0, none⟩ ∧ Blk b zh.cells 23 V11 := (by have h := H2.out.1.2.2.2.2; rw [hhi] at h; exact h)
      have dh : decide (compV wv zh ≤ 0) = true := decide_eq_true (HF.out.2.2 zh hhi)
      have c0 : ∀ p : Lat V11, p.u.cell? ⟨w10.heap.size, 0, none⟩ = some (.int .i64 wv.k) := fun p => (H2.out.2.below p.h).vc.1
      have c1 : ∀ p : Lat V11, p.u.cell? ⟨w10.heap.size, 1, none⟩ = some (.int .i64 wv.n) := fun p => (H2.out.2.below p.h).vc.2.1
      have c2 : ∀ p : Lat V11, p.u.cell? ⟨w10.heap.size, 2, none⟩ = some (.string wv.t) := fun p => (H2.out.2.below p.h).vc.2.2.1
      have c3 : ∀ p : Lat V11, p.u.cell? ⟨w7.heap.size, 2, none⟩ = some (.pointer none) := fun p => (H2.out.1.2.2.1.below p.h).pc.2.2.1
      have c4 : ∀ p : Lat V11, p.u.cell? ⟨w7.heap.size, 3, none⟩ = some (.pointer (some ⟨bh, 0, none⟩)) := fun p => (H2.out.1.2.2.1.below p.h).pc.2.2.2.1
      have zh0 : ∀ p : Lat V11, p.u.cell? ⟨bh, 0, none⟩ = some (.int .i64 zh.k) := fun p => (hbh.below p.h).vc.1
      have zh1 : ∀ p : Lat V11, p.u.cell? ⟨bh, 1, none⟩ = some (.int .i64 zh.n) := fun p => (hbh.below p.h).vc.2.1
      have zh2 : ∀ p : Lat V11, p.u.cell? ⟨bh, 2, none⟩ = some (.string zh.t) := fun p => (hbh.below p.h).vc.2.2.1
      clear hlo hhi hbh
      refine wp_region_quiet_lat (by kernel_rfl) (by kernel_rfl) ?_
      repeat (go_big_quiet_step (exact lat_calls (vcompare_any wv zh _)))
      refine wpQuiet_nil ?_
      intro _ hw'
      obtain ⟨pz, hw''⟩ := hw'
      subst hw''
      go_wp2
      go_ret
      exact ⟨rfl, H2.out.1.1.be.trans (pz.h.mono H2.out.1.1.be.size)⟩
  | some zl =>
    cases hhi : pn.hi with
    | none =>
      obtain ⟨bl, rfl, hbl⟩ : ∃ b, ql = some ⟨b, 0, none⟩ ∧ Blk b zl.cells 23 V11 := (by have h := H2.out.1.2.2.2.1; rw [hlo] at h; exact h)
      have dl : decide (0 ≤ compV wv zl) = true := decide_eq_true (HF.out.2.1 zl hlo)
      obtain rfl : qh = none := (by have h := H2.out.1.2.2.2.2; rw [hhi] at h; exact h)
      have c0 : ∀ p : Lat V11, p.u.cell? ⟨w10.heap.size, 0, none⟩ = some (.int .i64 wv.k) := fun p => (H2.out.2.below p.h).vc.1
      have c1 : ∀ p : Lat V11, p.u.cell? ⟨w10.heap.size, 1, none⟩ = some (.int .i64 wv.n) := fun p => (H2.out.2.below p.h).vc.2.1
      have c2 : ∀ p : Lat V11, p.u.cell? ⟨w10.heap.size, 2, none⟩ = some (.string wv.t) := fun p => (H2.out.2.below p.h).vc.2.2.1
      have c3 : ∀ p : Lat V11, p.u.cell? ⟨w7.heap.size, 2, none⟩ = some (.pointer (some ⟨bl, 0, none⟩)) := fun p => (H2.out.1.2.2.1.below p.h).pc.2.2.1
      have c4 : ∀ p : Lat V11, p.u.cell? ⟨w7.heap.size, 3, none⟩ = some (.pointer none) := fun p => (H2.out.1.2.2.1.below p.h).pc.2.2.2.1
      have zl0 : ∀ p : Lat V11, p.u.cell? ⟨bl, 0, none⟩ = some (.int .i64 zl.k) := fun p => (hbl.below p.h).vc.1
      have zl1 : ∀ p : Lat V11, p.u.cell? ⟨bl, 1, none⟩ = some (.int .i64 zl.n) := fun p => (hbl.below p.h).vc.2.1
      have zl2 : ∀ p : Lat V11, p.u.cell? ⟨bl, 2, none⟩ = some (.string zl.t) := fun p => (hbl.below p.h).vc.2.2.1
      clear hlo hhi hbl
      refine wp_region_quiet_lat (by kernel_rfl) (by kernel_rfl) ?_
      repeat (go_big_quiet_step (exact lat_calls (vcompare_any wv zl _)))
      refine wpQuiet_nil ?_
      intro _ hw'
      obtain ⟨pz, hw''⟩ := hw'
      subst hw''
      go_wp2
      go_ret
      exact ⟨rfl, H2.out.1.1.be.trans (pz.h.mono H2.out.1.1.be.size)⟩
    | some zh =>
      obtain ⟨bl, rfl, hbl⟩ : ∃ b, ql = some ⟨b, 0, none⟩ ∧ Blk b zl.cells 23 V11 := (by have h := H2.out.1.2.2.2.1; rw [hlo] at h; exact h)
      obtain ⟨bh, rfl, hbh⟩ : ∃ b, qh = some ⟨b, 0, none⟩ ∧ Blk b zh.cells 23 V11 := (by have h := H2.out.1.2.2.2.2; rw [hhi] at h; exact h)
      obtain ⟨ml, hml⟩ : ∃ z, compV wv zl = z := ⟨_, rfl⟩
      obtain ⟨mh, hmh⟩ : ∃ z, compV wv zh = z := ⟨_, rfl⟩
      have HML : Hid (compV wv zl = ml ∧ compV wv zh = mh) := ⟨hml, hmh⟩
      have dl : decide (0 ≤ ml) = true := decide_eq_true (by rw [← hml]; exact HF.out.2.1 zl hlo)
      have dh : decide (mh ≤ 0) = true := decide_eq_true (by rw [← hmh]; exact HF.out.2.2 zh hhi)
      have HBx : Hid (Below V11.drew.heap.size V11.drew V11.drew) := Below.refl _ _
      have HFin : Hid (Below w.heap.size w V11.drew) := H2.out.1.1.be.drew
      have HK : Hid (∀ wx, Below V11.drew.heap.size V11.drew wx → wx.cell? ⟨w10.heap.size, 0, none⟩ = some (.int .i64 wv.k) ∧ wx.cell? ⟨w10.heap.size, 1, none⟩ = some (.int .i64 wv.n) ∧ wx.cell? ⟨w10.heap.size, 2, none⟩ = some (.string wv.t) ∧ wx.cell? ⟨w7.heap.size, 2, none⟩ = some (.pointer (some ⟨bl, 0, none⟩)) ∧ wx.cell? ⟨w7.heap.size, 3, none⟩ = some (.pointer (some ⟨bh, 0, none⟩)) ∧ wx.cell? ⟨bl, 0, none⟩ = some (.int .i64 zl.k) ∧ wx.cell? ⟨bl, 1, none⟩ = some (.int .i64 zl.n) ∧ wx.cell? ⟨bl, 2, none⟩ = some (.string zl.t) ∧ wx.cell? ⟨bh, 0, none⟩ = some (.int .i64 zh.k) ∧ wx.cell? ⟨bh, 1, none⟩ = some (.int .i64 zh.n) ∧ wx.cell? ⟨bh, 2, none⟩ = some (.string zh.t)) := fun wx hb => by
        have d : Below V11.heap.size V11 V11.drew := (Below.refl _ _).drew
        obtain ⟨x0, x1, x2, _⟩ := ((H2.out.2.below d).below hb).vc
        obtain ⟨y0, y1, y2, y3, y4, _⟩ := ((H2.out.1.2.2.1.below d).below hb).pc
        obtain ⟨l0, l1, l2, _⟩ := ((hbl.below d).below hb).vc
        obtain ⟨g0, g1, g2, _⟩ := ((hbh.below d).below hb).vc
        exact ⟨x0, x1, x2, y2, y3, l0, l1, l2, g0, g1, g2⟩
      clear hlo hhi hbl hbh hml hmh hne
      go_region_held3 (fun wx => wx.cell? ⟨w10.heap.size, 0, none⟩ = some (.int .i64 wv.k) ∧ wx.cell? ⟨w10.heap.size, 1, none⟩ = some (.int .i64 wv.n) ∧ wx.cell? ⟨w10.heap.size, 2, none⟩ = some (.string wv.t) ∧ wx.cell? ⟨w7.heap.size, 2, none⟩ = some (.pointer (some ⟨bl, 0, none⟩)) ∧ wx.cell? ⟨w7.heap.size, 3, none⟩ = some (.pointer (some ⟨bh, 0, none⟩)) ∧ wx.cell? ⟨bl, 0, none⟩ = some (.int .i64 zl.k) ∧ wx.cell? ⟨bl, 1, none⟩ = some (.int .i64 zl.n) ∧ wx.cell? ⟨bl, 2, none⟩ = some (.string zl.t) ∧ wx.cell? ⟨bh, 0, none⟩ = some (.int .i64 zh.k) ∧ wx.cell? ⟨bh, 1, none⟩ = some (.int .i64 zh.n) ∧ wx.cell? ⟨bh, 2, none⟩ = some (.string zh.t)) (exact HK.out _ HBx.out) (first
        | (go_at_call 15; have hh := HWw12.out; refine Calls.mono (vcompare_any wv zh _) ?_; rintro _ w13 ⟨rfl, hb⟩; rw [HML.out.2]; have HBx : Hid (Below V11.drew.heap.size V11.drew w13) := HBx.out.trans (hb.mono HBx.out.size); clear hb hh)
        | (go_at_call 15; refine Calls.mono (vcompare_any wv zl _) ?_; rintro _ w12 ⟨rfl, hb⟩; rw [HML.out.1]; have HBx : Hid (Below V11.drew.heap.size V11.drew w12) := HBx.out.trans (hb.mono HBx.out.size); have HWw12 : Hid (True) := trivial; clear hb))
      all_goals
        go_wp2
        go_ret
        exact ⟨rfl, HFin.out.trans (HBx.out.mono HFin.out.size)⟩
end Go.Proofs.YtmabfbffpedfnaaGreatDoor
