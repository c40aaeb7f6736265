/- Part 32 of 35. -/
import Derived.Test.YtbdcbaamjkjhaaaGreatDoorH31
namespace Go.Proofs.YtbdcbaamjkjhaaaGreatDoor
open Go.RowKit

theorem morgan_ev {a b c v u : Vl} {X Y : Ex} (hx : evF a b c X = .ok v) (hy : evF a b c Y = .ok u) : evF a b c (notE (.two 15 X Y)) = evF a b c (.two 16 (notE X) (notE Y)) ∧ evF a b c (notE (.two 16 X Y)) = evF a b c (.two 15 (notE X) (notE Y)) ∧ evF a b c (.two 15 X Y) = evF a b c (.two 15 Y X) ∧ evF a b c (.two 16 X Y) = evF a b c (.two 16 Y X) := by
  refine ⟨?_, ?_, ?_, ?_⟩
  · rw [ev_not, ev_and, ev_or, ev_not, ev_not, hx, hy]; exact morgan v u 15 16 (Or.inl ⟨rfl, rfl⟩)
  · rw [ev_not, ev_or, ev_and, ev_not, ev_not, hx, hy]; exact morgan v u 16 15 (Or.inr ⟨rfl, rfl⟩)
  · rw [ev_and, ev_and, hx, hy]; exact both_comm v u 15
  · rw [ev_or, ev_or, hx, hy]; exact both_comm v u 16
theorem ok_of {R : Except Int Vl} (h : errOf R = .nilIface) : R = .ok (valOf R) := by
  cases R with
  | ok v => rfl
  | error n => cases h
theorem exAt_cases {w : World} {p : Option Addr} {X : Ex} (h : ExAt w p X) : p = none ∨ ∃ B, p = some ⟨B, 0, none⟩ := by
  cases X with
  | nil => exact Or.inl h
  | node c v nm l r => obtain ⟨B, _, _, e, _⟩ := h; exact Or.inr ⟨B, e⟩
/-- which codes are asked -/
def askK (k : Nat) : Int := match k with
  | 0 => 11
  | 1 => 9
  | _ => 13
theorem ixK (k : Nat) (hk : k < 3) (W : World) : (Instr.index 55 (.agg #[.int .i64 11, .int .i64 9, .int .i64 13]) (.int .i64 (k : Int))).run Tryz.prog W = .ok (.int .i64 (askK k)) W :=
  match k, hk with
  | 0, _ => by kernel_rfl
  | 1, _ => by kernel_rfl
  | 2, _ => by kernel_rfl
  | n + 3, h => absurd h (by omega)
/-- how many hold -/
def cntI (I : Nat → Bool) : Nat → Int
  | 0 => 0
  | k + 1 => cntI I k + (if I k then 1 else 0)
theorem cntI_le (I : Nat → Bool) : ∀ k : Nat, 0 ≤ cntI I k ∧ cntI I k ≤ k
  | 0 => ⟨Int.le_refl _, Int.le_refl _⟩
  | k + 1 => by
    have := cntI_le I k
    simp only [cntI]
    split <;> constructor <;> omega
theorem three (v u : Vl) : ∃ I : Nat → Bool, (∀ k, k < 3 → holdsR (cmpR (askK k) v u) = (I k, (v.k != 0) && (u.k != 0), none)) ∧ ((v.k != 0) = true → (u.k != 0) = true → cntI I 3 = 1) := by
  by_cases hv : v.k = 0
  · refine ⟨fun _ => false, fun k _ => ?_, fun h => by simp [hv] at h⟩
    rw [ask_none v u (Or.inl hv), hv]; rfl
  by_cases hu : u.k = 0
  · refine ⟨fun _ => false, fun k _ => ?_, fun _ h => by simp [hu] at h⟩
    rw [ask_none v u (Or.inr hu), hu]
    simp [holds_none]
  obtain ⟨p, q, r, h1, h2, h3, h4⟩ := ask_three v u hv hu
  refine ⟨fun k => if k = 0 then p else if k = 1 then q else r, fun k hk => ?_, fun _ _ => ?_⟩
  · have e : ((v.k != 0) && (u.k != 0)) = true := by simp [hv, hu]
    rw [e]
    match k, hk with
    | 0, _ => show holdsR (cmpR 11 v u) = _; rw [h1, holds_truth]; rfl
    | 1, _ => show holdsR (cmpR 9 v u) = _; rw [h2, holds_truth]; rfl
    | 2, _ => show holdsR (cmpR 13 v u) = _; rw [h3, holds_truth]; rfl
    | n + 3, h => exact absurd h (by omega)
  · rcases h4 with h | h | h <;> cases h <;> rfl
/-- the law's three values in memory -/
structure T0 (a b c : Vl) (w wx : World) : Prop where
  ka : Blk w.heap.size a.cells 39 wx
  kb : Blk (w.heap.size + 1) b.cells 39 wx
  kc : Blk (w.heap.size + 2) c.cells 39 wx
  l : LAt wx
  be : Below w.heap.size w wx
theorem T0.below {a b c : Vl} {w wx wy : World} (h : T0 a b c w wx) (hb : Below wx.heap.size wx wy) : T0 a b c w wy := ⟨h.ka.below hb, h.kb.below hb, h.kc.below hb, h.l.below hb, h.be.trans (hb.mono h.be.size)⟩
/-- both sides, and what they came to -/
structure TH (ba bb bc bf be : Nat) (a b c : Vl) (p q : Option Addr) (X Y : Ex) (bv bw : Nat) (v u : Vl) (w wx : World) : Prop where
  sw : SW ba bb bc bf be a b c wx
  hx : ExAt wx p X
  hy : ExAt wx q Y
  kv : Blk bv v.cells 39 wx
  kw : Blk bw u.cells 39 wx
  lo : Below w.heap.size w wx
  sm : Sms a b c
  tx : TreeSm X
  ty : TreeSm Y
  ex : evF a b c X = .ok v
  ey : evF a b c Y = .ok u
theorem TH.below {ba bb bc bf be : Nat} {a b c : Vl} {p q : Option Addr} {X Y : Ex} {bv bw : Nat} {v u : Vl} {w wx wy : World} (h : TH ba bb bc bf be a b c p q X Y bv bw v u w wx) (hb : Below wx.heap.size wx wy) : TH ba bb bc bf be a b c p q X Y bv bw v u w wy :=
  ⟨h.sw.below hb, h.hx.below hb, h.hy.below hb, h.kv.below hb, h.kw.below hb, h.lo.trans (hb.mono h.lo.size), h.sm, h.tx, h.ty, h.ex, h.ey⟩
set_option maxRecDepth 100000 in
set_option maxHeartbeats 40000000 in
theorem evalThree_any (s t : ByteArray) (a b c : Vl) (w : World) (h : LAt w) (hs : s.size ≤ maxLen) (ht : t.size ≤ maxLen) (ha : a.t.size ≤ maxLen) (hb' : b.t.size ≤ maxLen) (hc : c.t.size ≤ maxLen) : Calls Tryz.prog 4 #[.string s, .string t, vv a, vv b, vv c] w fun e w' => e = .returned (.bool true) ∧ Below w.heap.size w w' := by
  obtain ⟨W, hW⟩ : ∃ W, ((w.alloc (.cells #[.int .i64 a.k, .int .i64 a.n, .string a.t] 39)).alloc (.cells #[.int .i64 b.k, .int .i64 b.n, .string b.t] 39)).alloc (.cells #[.int .i64 c.k, .int .i64 c.n, .string c.t] 39) = W := ⟨_, rfl⟩
  have hbW : Below w.heap.size w W := by rw [← hW]; exact (((Below.refl _ _).alloc (Nat.le_refl _) _).alloc (by simp only [World.size_alloc]; omega) _).alloc (by simp only [World.size_alloc]; omega) _
  have hk0W : Blk (w.heap.size) a.cells 39 W := by
      have hq := Blk.new w a.cells 39
      rw [← hW]
      exact hq.below (((Below.refl _ _).alloc (Nat.le_refl _) _).alloc (by simp only [World.size_alloc]; omega) _)
  have hk1W : Blk (w.heap.size + 1) b.cells 39 W := by
      have hq := Blk.new (w.alloc (.cells a.cells 39)) b.cells 39
      simp only [World.size_alloc] at hq
      rw [← hW]
      exact hq.below ((Below.refl _ _).alloc (Nat.le_refl _) _)
  have hk2W : Blk (w.heap.size + 2) c.cells 39 W := by
      have hq := Blk.new ((w.alloc (.cells a.cells 39)).alloc (.cells b.cells 39)) c.cells 39
      simp only [World.size_alloc, Nat.add_assoc, Nat.reduceAdd] at hq
      rw [← hW]
      exact hq
  have G0 : Hid (Blk (w.heap.size) a.cells 39 W ∧ Blk (w.heap.size + 1) b.cells 39 W ∧ Blk (w.heap.size + 2) c.cells 39 W ∧ Below w.heap.size w W) := ⟨hk0W, hk1W, hk2W, hbW⟩
  clear hbW
  have HS : Hid (s.size ≤ maxLen ∧ t.size ≤ maxLen ∧ a.t.size ≤ maxLen ∧ b.t.size ≤ maxLen ∧ c.t.size ≤ maxLen) := ⟨hs, ht, ha, hb', hc⟩
  have G1 : Hid (T0 a b c w W) := ⟨hk0W, hk1W, hk2W, h.below G0.out.2.2.2, G0.out.2.2.2⟩
  clear hk0W hk1W hk2W h hs ht ha hb' hc G0
  show Calls _ _ #[_, _, .agg #[.int .i64 a.k, .int .i64 a.n, .string a.t], .agg #[.int .i64 b.k, .int .i64 b.n, .string b.t], .agg #[.int .i64 c.k, .int .i64 c.n, .string c.t]] _ _
  go_enter Tryz.func4, Tryz.ntmps4
  go_wp2_with fail
  refine (known_any W G1.out.l).mono ?_
  rintro _ w1 ⟨rfl, hb⟩
  have G2 : Hid (T0 a b c w w1) := G1.out.below hb
  obtain ⟨a0, a1, a2, af⟩ := G2.out.ka.vc
  clear hb G1 hW
  go_wp2_with fail
  refine (right_any a w1 HS.out.2.2.1).mono ?_
  rintro _ w2 ⟨r1, rfl, hr1, hb⟩
  have G3 : Hid (T0 a b c w w2) := G2.out.below hb
  have Ra : Hid (r1 = true → Sm a) := hr1
  clear hb hr1 a0 a1 a2 af
  cases r1
  · clear Ra
    go_wp2
    go_ret
    exact ⟨rfl, G3.out.be⟩
  have Sa : Hid (Sm a) := Ra.out rfl
  clear Ra
  obtain ⟨b0, b1, b2, bf⟩ := G3.out.kb.vc
  go_wp2_with fail
  refine (right_any b w2 HS.out.2.2.2.1).mono ?_
  rintro _ w3 ⟨r1, rfl, hr1, hb⟩
  have G4 : Hid (T0 a b c w w3) := G3.out.below hb
  have Rb : Hid (r1 = true → Sm b) := hr1
  clear hb hr1 b0 b1 b2 bf
  cases r1
  · clear Rb
    go_wp2
    go_ret
    exact ⟨rfl, G4.out.be⟩
  have Sb : Hid (Sm b) := Rb.out rfl
  clear Rb
  obtain ⟨c0, c1, c2, cf⟩ := G4.out.kc.vc
  go_wp2_with fail
  refine (right_any c w3 HS.out.2.2.2.2).mono ?_
  rintro _ w4 ⟨r1, rfl, hr1, hb⟩
  have G5 : Hid (T0 a b c w w4) := G4.out.below hb
  have Rc : Hid (r1 = true → Sm c) := hr1
  clear hb hr1 c0 c1 c2 cf
  cases r1
  · clear Rc
    go_wp2
    go_ret
    exact ⟨rfl, G5.out.be⟩
  have Sc : Hid (Sm c) := Rc.out rfl
  clear Rc
  have HM : Hid (Sms a b c) := ⟨Sa.out, Sb.out, Sc.out⟩
  clear Sa Sb Sc
  obtain ⟨X, hX0⟩ : ∃ X, condF s = X := ⟨_, rfl⟩
  obtain ⟨Y, hY0⟩ : ∃ Y, condF t = Y := ⟨_, rfl⟩
  have TX : Hid (TreeSm X ∧ TreeSm Y ∧ condF s = X ∧ condF t = Y) := ⟨hX0 ▸ condF_sm s, hY0 ▸ condF_sm t, hX0, hY0⟩
  clear hX0 hY0
  go_wp2_with fail
  have h8 := cond_any s w4 G5.out.l.b HS.out.1
  rw [TX.out.2.2.1] at h8
  refine h8.mono ?_
  clear h8
  rintro _ w5 ⟨p, rfl, hx, hb⟩
  have G6 : Hid (T0 a b c w w5 ∧ ExAt w5 p X) := ⟨G5.out.below hb, hx⟩
  clear hb hx G2 G3 G4 G5
  go_wp2_with fail
  have h8 := cond_any t w5 G6.out.1.l.b HS.out.2.1
  rw [TX.out.2.2.2] at h8
  refine h8.mono ?_
  clear h8
  rintro _ w6 ⟨q, rfl, hy, hb⟩
  have G7 : Hid (T0 a b c w w6 ∧ ExAt w6 p X ∧ ExAt w6 q Y) := ⟨G6.out.1.below hb, G6.out.2.below hb, hy⟩
  clear hb hy G6
  rcases exAt_cases G7.out.2.1 with rfl | ⟨B1, rfl⟩
  · go_wp2
    go_ret
    exact ⟨rfl, G7.out.1.be⟩
  rcases exAt_cases G7.out.2.2 with rfl | ⟨B2, rfl⟩
  · go_wp2
    go_ret
    exact ⟨rfl, G7.out.1.be⟩
  obtain ⟨a0, a1, a2, af⟩ := G7.out.1.ka.vc
  obtain ⟨b0, b1, b2, bf⟩ := G7.out.1.kb.vc
  obtain ⟨c0, c1, c2, cf⟩ := G7.out.1.kc.vc
  go_wp2_with fail
  refine (env_any a b c w6 G7.out.1.l.ask G7.out.1.l.b.g.lo).mono ?_
  rintro _ w7 ⟨rfl, hE, hb⟩
  clear a0 a1 a2 af b0 b1 b2 bf c0 c1 c2 cf
  obtain ⟨U, hU⟩ : ∃ U, w7.alloc (.cells #[.nilFunc, .nilFunc] 45) = U := ⟨_, rfl⟩
  obtain ⟨V, hV⟩ : ∃ V, (U.setCell ⟨w7.heap.size, 0, none⟩ (.func (.func 33) #[] #[.pointer (some ⟨w6.heap.size, 0, none⟩), .pointer (some ⟨w6.heap.size + 1, 0, none⟩), .pointer (some ⟨w6.heap.size + 1 + 1, 0, none⟩)])).setCell ⟨w7.heap.size, 1, none⟩ (.func (.func 34) #[] #[.pointer (some ⟨w6.heap.size + 4, 0, none⟩)]) = V := ⟨_, rfl⟩
  have hkU : Blk w7.heap.size #[.nilFunc, .nilFunc] 45 U := by rw [← hU]; exact Blk.new _ _ _
  have hbU : Below w7.heap.size w7 U := by rw [← hU]; exact (Below.refl _ _).alloc (Nat.le_refl _) _
  have hbV : Below w7.heap.size w7 V := by rw [← hV]; exact (hbU.setCell (Nat.le_refl _) _).setCell (Nat.le_refl _) _
  have hkV : Blk w7.heap.size #[.func (.func 33) #[] #[.pointer (some ⟨w6.heap.size, 0, none⟩), .pointer (some ⟨w6.heap.size + 1, 0, none⟩), .pointer (some ⟨w6.heap.size + 1 + 1, 0, none⟩)], .func (.func 34) #[] #[.pointer (some ⟨w6.heap.size + 4, 0, none⟩)]] 45 V := by
    have := put45_blk (.func (.func 33) #[] #[.pointer (some ⟨w6.heap.size, 0, none⟩), .pointer (some ⟨w6.heap.size + 1, 0, none⟩), .pointer (some ⟨w6.heap.size + 1 + 1, 0, none⟩)]) (.func (.func 34) #[] #[.pointer (some ⟨w6.heap.size + 4, 0, none⟩)]) hkU
    rw [← hV]; exact this
  have H7 : Hid (T0 a b c w w7) := G7.out.1.below hb
  have H8 : Hid (SW (w6.heap.size) (w6.heap.size + 1) (w6.heap.size + 1 + 1) (w6.heap.size + 4) w7.heap.size a b c V ∧ ExAt V (some ⟨B1, 0, none⟩) X ∧ ExAt V (some ⟨B2, 0, none⟩) Y ∧ Below w.heap.size w V) := ⟨⟨hE.below hbV, hkV, (H7.out.below hbV).l.hg⟩, (G7.out.2.1.below hb).below hbV, (G7.out.2.2.below hb).below hbV, (H7.out.below hbV).be⟩
  have r0 : U.cell? ⟨w7.heap.size, 0, none⟩ = some .nilFunc := by rw [hkU.cell 0]; rfl
  have r1 : U.cell? ⟨w7.heap.size, 1, none⟩ = some .nilFunc := by rw [hkU.cell 1]; rfl
  have rf : ∀ i, U.frozen? ⟨w7.heap.size, i, none⟩ = false := fun i => hkU.free i
  have hmf : ∀ (fn : Fn) (first cap : Array Value) (w : World), (Instr.makeFunc fn first cap).run Tryz.prog w = .ok (.func fn first cap) w := fun _ _ _ _ => rfl
  obtain ⟨f0, f1⟩ := H8.out.1.env
  obtain ⟨R1, hR1⟩ : ∃ R, evF a b c X = R := ⟨_, rfl⟩
  obtain ⟨R2, hR2⟩ : ∃ R, evF a b c Y = R := ⟨_, rfl⟩
  have HR : Hid (evF a b c X = R1 ∧ evF a b c Y = R2) := ⟨hR1, hR2⟩
  clear hb hE hkU hbU hbV hkV H7 G7 hR1 hR2
  go_wp2_with fail
  have h8 := ev_at H8.out.1 HM.out TX.out.1 H8.out.2.1
  rw [HR.out.1, tup_eq] at h8
  refine h8.mono ?_
  clear h8 r0 r1 rf hU hV
  rintro _ w8 ⟨rfl, hb⟩
  obtain ⟨v, hv⟩ : ∃ v, valOf R1 = v := ⟨_, rfl⟩
  obtain ⟨er, her⟩ : ∃ v, errOf R1 = v := ⟨_, rfl⟩
  rw [hv, her]
  obtain ⟨V2, hV2⟩ : ∃ V, w8.alloc (.cells #[.int .i64 v.k, .int .i64 v.n, .string v.t] 39) = V := ⟨_, rfl⟩
  have hbV : Below w8.heap.size w8 V2 := by rw [← hV2]; exact (Below.refl _ _).alloc (Nat.le_refl _) _
  have hkV : Blk w8.heap.size v.cells 39 V2 := by rw [← hV2]; exact Blk.new _ _ _
  have H9 : Hid (SW (w6.heap.size) (w6.heap.size + 1) (w6.heap.size + 1 + 1) (w6.heap.size + 4) w7.heap.size a b c V2 ∧ ExAt V2 (some ⟨B1, 0, none⟩) X ∧ ExAt V2 (some ⟨B2, 0, none⟩) Y ∧ Below w.heap.size w V2 ∧ Blk w8.heap.size v.cells 39 V2) := ⟨(H8.out.1.below hb).below hbV, (H8.out.2.1.below hb).below hbV, (H8.out.2.2.1.below hb).below hbV, (H8.out.2.2.2.trans (hb.mono H8.out.2.2.2.size)).trans (hbV.mono (Nat.le_trans H8.out.2.2.2.size hb.size)), hkV⟩
  have HA : Hid (valOf R1 = v ∧ errOf R1 = er) := ⟨hv, her⟩
  clear hb hbV hkV hv her f0 f1 H8
  obtain ⟨f0, f1⟩ := H9.out.1.env
  unfold vv
  go_wp2_with fail
  have h8 := ev_at H9.out.1 HM.out TX.out.2.1 H9.out.2.2.1
  rw [HR.out.2, tup_eq] at h8
  refine h8.mono ?_
  clear h8 hV2
  rintro _ w9 ⟨rfl, hb⟩
  obtain ⟨u, hv⟩ : ∃ v, valOf R2 = v := ⟨_, rfl⟩
  obtain ⟨er2, her⟩ : ∃ v, errOf R2 = v := ⟨_, rfl⟩
  rw [hv, her]
  obtain ⟨V3, hV3⟩ : ∃ V, w9.alloc (.cells #[.int .i64 u.k, .int .i64 u.n, .string u.t] 39) = V := ⟨_, rfl⟩
  have hbV : Below w9.heap.size w9 V3 := by rw [← hV3]; exact (Below.refl _ _).alloc (Nat.le_refl _) _
  have hkV : Blk w9.heap.size u.cells 39 V3 := by rw [← hV3]; exact Blk.new _ _ _
  have H10 : Hid (SW (w6.heap.size) (w6.heap.size + 1) (w6.heap.size + 1 + 1) (w6.heap.size + 4) w7.heap.size a b c V3 ∧ ExAt V3 (some ⟨B1, 0, none⟩) X ∧ ExAt V3 (some ⟨B2, 0, none⟩) Y ∧ Below w.heap.size w V3 ∧ Blk w8.heap.size v.cells 39 V3 ∧ Blk w9.heap.size u.cells 39 V3) := ⟨(H9.out.1.below hb).below hbV, (H9.out.2.1.below hb).below hbV, (H9.out.2.2.1.below hb).below hbV, (H9.out.2.2.2.1.trans (hb.mono H9.out.2.2.2.1.size)).trans (hbV.mono (Nat.le_trans H9.out.2.2.2.1.size hb.size)), (H9.out.2.2.2.2.below hb).below hbV, hkV⟩
  have HB : Hid (valOf R2 = u ∧ errOf R2 = er2) := ⟨hv, her⟩
  clear hb hbV hkV hv her f0 f1 H9
  unfold vv
  have HE1 := err_cases R1
  have HE2 := err_cases R2
  rw [HA.out.2] at HE1
  rw [HB.out.2] at HE2
  rcases HE1 with rfl | ⟨n1, rfl⟩
  rotate_left
  · clear HE2
    go_wp2
    go_ret
    exact ⟨rfl, H10.out.2.2.2.1⟩
  rcases HE2 with rfl | ⟨n2, rfl⟩
  rotate_left
  · go_wp2
    go_ret
    exact ⟨rfl, H10.out.2.2.2.1⟩
  have HT : Hid (TH (w6.heap.size) (w6.heap.size + 1) (w6.heap.size + 1 + 1) (w6.heap.size + 4) w7.heap.size a b c (some ⟨B1, 0, none⟩) (some ⟨B2, 0, none⟩) X Y w8.heap.size w9.heap.size v u w V3) := ⟨H10.out.1, H10.out.2.1, H10.out.2.2.1, H10.out.2.2.2.2.1, H10.out.2.2.2.2.2, H10.out.2.2.2.1, HM.out, TX.out.1, TX.out.2.1, HR.out.1.trans ((ok_of HA.out.2).trans (by rw [HA.out.1])), HR.out.2.trans ((ok_of HB.out.2).trans (by rw [HB.out.1]))⟩
  clear HA HB HR H10 HM TX HS
  go_wp2_with fail
  refine (btwo_any 15 V3 HT.out.hx HT.out.hy).mono ?_
  rintro _ w11 ⟨qta, rfl, ht, hb⟩
  have HT : Hid (TH (w6.heap.size) (w6.heap.size + 1) (w6.heap.size + 1 + 1) (w6.heap.size + 4) w7.heap.size a b c (some ⟨B1, 0, none⟩) (some ⟨B2, 0, none⟩) X Y w8.heap.size w9.heap.size v u w w11) := HT.out.below hb
  have Hta : Hid (ExAt w11 qta (.two 15 X Y)) := ht
  clear hb ht
  go_wp2_with fail
  refine (bnot_any w11 Hta.out).mono ?_
  rintro _ w12 ⟨qtb, rfl, ht, hb⟩
  have Hta : Hid (ExAt w12 qta (.two 15 X Y)) := Hta.out.below hb
  have HT : Hid (TH (w6.heap.size) (w6.heap.size + 1) (w6.heap.size + 1 + 1) (w6.heap.size + 4) w7.heap.size a b c (some ⟨B1, 0, none⟩) (some ⟨B2, 0, none⟩) X Y w8.heap.size w9.heap.size v u w w12) := HT.out.below hb
  have Htb : Hid (ExAt w12 qtb (notE (.two 15 X Y))) := ht
  clear hb ht
  go_wp2_with fail
  refine (bnot_any w12 HT.out.hx).mono ?_
  rintro _ w13 ⟨qtc, rfl, ht, hb⟩
  have Hta : Hid (ExAt w13 qta (.two 15 X Y)) := Hta.out.below hb
  have Htb : Hid (ExAt w13 qtb (notE (.two 15 X Y))) := Htb.out.below hb
  have HT : Hid (TH (w6.heap.size) (w6.heap.size + 1) (w6.heap.size + 1 + 1) (w6.heap.size + 4) w7.heap.size a b c (some ⟨B1, 0, none⟩) (some ⟨B2, 0, none⟩) X Y w8.heap.size w9.heap.size v u w w13) := HT.out.below hb
  have Htc : Hid (ExAt w13 qtc (notE X)) := ht
  clear hb ht
  go_wp2_with fail
  refine (bnot_any w13 HT.out.hy).mono ?_
  rintro _ w14 ⟨qtd, rfl, ht, hb⟩
  have Hta : Hid (ExAt w14 qta (.two 15 X Y)) := Hta.out.below hb
  have Htb : Hid (ExAt w14 qtb (notE (.two 15 X Y))) := Htb.out.below hb
  have Htc : Hid (ExAt w14 qtc (notE X)) := Htc.out.below hb
  have HT : Hid (TH (w6.heap.size) (w6.heap.size + 1) (w6.heap.size + 1 + 1) (w6.heap.size + 4) w7.heap.size a b c (some ⟨B1, 0, none⟩) (some ⟨B2, 0, none⟩) X Y w8.heap.size w9.heap.size v u w w14) := HT.out.below hb
  have Htd : Hid (ExAt w14 qtd (notE Y)) := ht
  clear hb ht
  go_wp2_with fail
  refine (btwo_any 16 w14 Htc.out Htd.out).mono ?_
  rintro _ w15 ⟨qte, rfl, ht, hb⟩
  have Hta : Hid (ExAt w15 qta (.two 15 X Y)) := Hta.out.below hb
  have Htb : Hid (ExAt w15 qtb (notE (.two 15 X Y))) := Htb.out.below hb
  have Htc : Hid (ExAt w15 qtc (notE X)) := Htc.out.below hb
  have Htd : Hid (ExAt w15 qtd (notE Y)) := Htd.out.below hb
  have HT : Hid (TH (w6.heap.size) (w6.heap.size + 1) (w6.heap.size + 1 + 1) (w6.heap.size + 4) w7.heap.size a b c (some ⟨B1, 0, none⟩) (some ⟨B2, 0, none⟩) X Y w8.heap.size w9.heap.size v u w w15) := HT.out.below hb
  have Hte : Hid (ExAt w15 qte (.two 16 (notE X) (notE Y))) := ht
  clear hb ht
  go_wp2_with fail
  refine (same_any HT.out.sm w15 HT.out.sw Htb.out Hte.out ((HT.out.tx.two HT.out.ty).not) ((HT.out.tx.not).two (HT.out.ty.not)) (morgan_ev HT.out.ex HT.out.ey).1).mono ?_
  rintro _ w16 ⟨rfl, hb⟩
  have HT : Hid (TH (w6.heap.size) (w6.heap.size + 1) (w6.heap.size + 1 + 1) (w6.heap.size + 4) w7.heap.size a b c (some ⟨B1, 0, none⟩) (some ⟨B2, 0, none⟩) X Y w8.heap.size w9.heap.size v u w w16) := HT.out.below hb
  clear hb Hta Htb Htc Htd Hte
  go_wp2_with fail
  refine (btwo_any 16 w16 HT.out.hx HT.out.hy).mono ?_
  rintro _ w17 ⟨qta, rfl, ht, hb⟩
  have HT : Hid (TH (w6.heap.size) (w6.heap.size + 1) (w6.heap.size + 1 + 1) (w6.heap.size + 4) w7.heap.size a b c (some ⟨B1, 0, none⟩) (some ⟨B2, 0, none⟩) X Y w8.heap.size w9.heap.size v u w w17) := HT.out.below hb
  have Hta : Hid (ExAt w17 qta (.two 16 X Y)) := ht
  clear hb ht
  go_wp2_with fail
  refine (bnot_any w17 Hta.out).mono ?_
  rintro _ w18 ⟨qtb, rfl, ht, hb⟩
  have Hta : Hid (ExAt w18 qta (.two 16 X Y)) := Hta.out.below hb
  have HT : Hid (TH (w6.heap.size) (w6.heap.size + 1) (w6.heap.size + 1 + 1) (w6.heap.size + 4) w7.heap.size a b c (some ⟨B1, 0, none⟩) (some ⟨B2, 0, none⟩) X Y w8.heap.size w9.heap.size v u w w18) := HT.out.below hb
  have Htb : Hid (ExAt w18 qtb (notE (.two 16 X Y))) := ht
  clear hb ht
  go_wp2_with fail
  refine (bnot_any w18 HT.out.hx).mono ?_
  rintro _ w19 ⟨qtc, rfl, ht, hb⟩
  have Hta : Hid (ExAt w19 qta (.two 16 X Y)) := Hta.out.below hb
  have Htb : Hid (ExAt w19 qtb (notE (.two 16 X Y))) := Htb.out.below hb
  have HT : Hid (TH (w6.heap.size) (w6.heap.size + 1) (w6.heap.size + 1 + 1) (w6.heap.size + 4) w7.heap.size a b c (some ⟨B1, 0, none⟩) (some ⟨B2, 0, none⟩) X Y w8.heap.size w9.heap.size v u w w19) := HT.out.below hb
  have Htc : Hid (ExAt w19 qtc (notE X)) := ht
  clear hb ht
  go_wp2_with fail
  refine (bnot_any w19 HT.out.hy).mono ?_
  rintro _ w20 ⟨qtd, rfl, ht, hb⟩
  have Hta : Hid (ExAt w20 qta (.two 16 X Y)) := Hta.out.below hb
  have Htb : Hid (ExAt w20 qtb (notE (.two 16 X Y))) := Htb.out.below hb
  have Htc : Hid (ExAt w20 qtc (notE X)) := Htc.out.below hb
  have HT : Hid (TH (w6.heap.size) (w6.heap.size + 1) (w6.heap.size + 1 + 1) (w6.heap.size + 4) w7.heap.size a b c (some ⟨B1, 0, none⟩) (some ⟨B2, 0, none⟩) X Y w8.heap.size w9.heap.size v u w w20) := HT.out.below hb
  have Htd : Hid (ExAt w20 qtd (notE Y)) := ht
  clear hb ht
  go_wp2_with fail
  refine (btwo_any 15 w20 Htc.out Htd.out).mono ?_
  rintro _ w21 ⟨qte, rfl, ht, hb⟩
  have Hta : Hid (ExAt w21 qta (.two 16 X Y)) := Hta.out.below hb
  have Htb : Hid (ExAt w21 qtb (notE (.two 16 X Y))) := Htb.out.below hb
  have Htc : Hid (ExAt w21 qtc (notE X)) := Htc.out.below hb
  have Htd : Hid (ExAt w21 qtd (notE Y)) := Htd.out.below hb
  have HT : Hid (TH (w6.heap.size) (w6.heap.size + 1) (w6.heap.size + 1 + 1) (w6.heap.size + 4) w7.heap.size a b c (some ⟨B1, 0, none⟩) (some ⟨B2, 0, none⟩) X Y w8.heap.size w9.heap.size v u w w21) := HT.out.below hb
  have Hte : Hid (ExAt w21 qte (.two 15 (notE X) (notE Y))) := ht
  clear hb ht
  go_wp2_with fail
  refine (same_any HT.out.sm w21 HT.out.sw Htb.out Hte.out ((HT.out.tx.two HT.out.ty).not) ((HT.out.tx.not).two (HT.out.ty.not)) (morgan_ev HT.out.ex HT.out.ey).2.1).mono ?_
  rintro _ w22 ⟨rfl, hb⟩
  have HT : Hid (TH (w6.heap.size) (w6.heap.size + 1) (w6.heap.size + 1 + 1) (w6.heap.size + 4) w7.heap.size a b c (some ⟨B1, 0, none⟩) (some ⟨B2, 0, none⟩) X Y w8.heap.size w9.heap.size v u w w22) := HT.out.below hb
  clear hb Hta Htb Htc Htd Hte
  go_wp2_with fail
  refine (btwo_any 15 w22 HT.out.hx HT.out.hy).mono ?_
  rintro _ w23 ⟨qta, rfl, ht, hb⟩
  have HT : Hid (TH (w6.heap.size) (w6.heap.size + 1) (w6.heap.size + 1 + 1) (w6.heap.size + 4) w7.heap.size a b c (some ⟨B1, 0, none⟩) (some ⟨B2, 0, none⟩) X Y w8.heap.size w9.heap.size v u w w23) := HT.out.below hb
  have Hta : Hid (ExAt w23 qta (.two 15 X Y)) := ht
  clear hb ht
  go_wp2_with fail
  refine (btwo_any 15 w23 HT.out.hy HT.out.hx).mono ?_
  rintro _ w24 ⟨qtb, rfl, ht, hb⟩
  have Hta : Hid (ExAt w24 qta (.two 15 X Y)) := Hta.out.below hb
  have HT : Hid (TH (w6.heap.size) (w6.heap.size + 1) (w6.heap.size + 1 + 1) (w6.heap.size + 4) w7.heap.size a b c (some ⟨B1, 0, none⟩) (some ⟨B2, 0, none⟩) X Y w8.heap.size w9.heap.size v u w w24) := HT.out.below hb
  have Htb : Hid (ExAt w24 qtb (.two 15 Y X)) := ht
  clear hb ht
  go_wp2_with fail
  refine (same_any HT.out.sm w24 HT.out.sw Hta.out Htb.out (HT.out.tx.two HT.out.ty) (HT.out.ty.two HT.out.tx) (morgan_ev HT.out.ex HT.out.ey).2.2.1).mono ?_
  rintro _ w25 ⟨rfl, hb⟩
  have HT : Hid (TH (w6.heap.size) (w6.heap.size + 1) (w6.heap.size + 1 + 1) (w6.heap.size + 4) w7.heap.size a b c (some ⟨B1, 0, none⟩) (some ⟨B2, 0, none⟩) X Y w8.heap.size w9.heap.size v u w w25) := HT.out.below hb
  clear hb Hta Htb
  go_wp2_with fail
  refine (btwo_any 16 w25 HT.out.hx HT.out.hy).mono ?_
  rintro _ w26 ⟨qta, rfl, ht, hb⟩
  have HT : Hid (TH (w6.heap.size) (w6.heap.size + 1) (w6.heap.size + 1 + 1) (w6.heap.size + 4) w7.heap.size a b c (some ⟨B1, 0, none⟩) (some ⟨B2, 0, none⟩) X Y w8.heap.size w9.heap.size v u w w26) := HT.out.below hb
  have Hta : Hid (ExAt w26 qta (.two 16 X Y)) := ht
  clear hb ht
  go_wp2_with fail
  refine (btwo_any 16 w26 HT.out.hy HT.out.hx).mono ?_
  rintro _ w27 ⟨qtb, rfl, ht, hb⟩
  have Hta : Hid (ExAt w27 qta (.two 16 X Y)) := Hta.out.below hb
  have HT : Hid (TH (w6.heap.size) (w6.heap.size + 1) (w6.heap.size + 1 + 1) (w6.heap.size + 4) w7.heap.size a b c (some ⟨B1, 0, none⟩) (some ⟨B2, 0, none⟩) X Y w8.heap.size w9.heap.size v u w w27) := HT.out.below hb
  have Htb : Hid (ExAt w27 qtb (.two 16 Y X)) := ht
  clear hb ht
  go_wp2_with fail
  refine (same_any HT.out.sm w27 HT.out.sw Hta.out Htb.out (HT.out.tx.two HT.out.ty) (HT.out.ty.two HT.out.tx) (morgan_ev HT.out.ex HT.out.ey).2.2.2).mono ?_
  rintro _ w28 ⟨rfl, hb⟩
  have HT : Hid (TH (w6.heap.size) (w6.heap.size + 1) (w6.heap.size + 1 + 1) (w6.heap.size + 4) w7.heap.size a b c (some ⟨B1, 0, none⟩) (some ⟨B2, 0, none⟩) X Y w8.heap.size w9.heap.size v u w w28) := HT.out.below hb
  clear hb Hta Htb
  obtain ⟨I, hI⟩ := three v u
  obtain ⟨k1, hk1⟩ : ∃ q, (v.k != 0) = q := ⟨_, rfl⟩
  obtain ⟨k2, hk2⟩ : ∃ q, (u.k != 0) = q := ⟨_, rfl⟩
  rw [hk1, hk2] at hI
  have hk3 : (v.k == 0) = !k1 := by rw [← hk1]; simp [bne]
  have hk4 : (u.k == 0) = !k2 := by rw [← hk2]; simp [bne]
  have HI : Hid ((∀ k, k < 3 → holdsR (cmpR (askK k) v u) = (I k, k1 && k2, none)) ∧ (k1 = true → k2 = true → cntI I 3 = 1)) := hI
  clear hI hmf
  go_wp2_with fail
  go_loopw [21, 136] (fun n i wr => ∃ k : Nat, k ≤ 3 ∧ i = .int .i64 k ∧ n = .int .i64 (cntI I k) ∧ Hid (TH (w6.heap.size) (w6.heap.size + 1) (w6.heap.size + 1 + 1) (w6.heap.size + 4) w7.heap.size a b c (some ⟨B1, 0, none⟩) (some ⟨B2, 0, none⟩) X Y w8.heap.size w9.heap.size v u w wr)) (fun _ i _ => 3 - (intOf i).toNat)
  case atStart => exact ⟨0, Nat.zero_le _, rfl, rfl, HT⟩
  case round =>
    clear HT
    obtain ⟨k, hk, rfl, rfl, HT⟩ := hrel
    obtain ⟨wo, rfl⟩ : ∃ wo, wo = wr := ⟨_, rfl⟩
    by_cases hlt : k < 3
    · have hix := ixK k hlt wo
      have hk' : (k : Int) < 3 := by omega
      have HH : Hid (holdsR (cmpR (askK k) v u) = (I k, k1 && k2, none)) := HI.out.1 k hlt
      obtain ⟨a0, a1, a2, af⟩ := HT.out.kv.vc
      obtain ⟨b0, b1, b2, bf⟩ := HT.out.kw.vc
      have hn := cntI_le I k
      have HNx : Hid (cntI I (k + 1) = cntI I k + (if I k then 1 else 0)) := rfl
      obtain ⟨N, hN⟩ : ∃ N, cntI I k = N := ⟨_, rfl⟩
      obtain ⟨ik, hik⟩ : ∃ x, I k = x := ⟨_, rfl⟩
      rw [hN] at hn ⊢
      rw [hik] at HH
      have HNx : Hid (cntI I (k + 1) = N + (if ik then 1 else 0)) := by show _ = _; rw [HNx.out, hN, hik]
      clear hN hik
      obtain ⟨K, hK⟩ : ∃ K, askK k = K := ⟨_, rfl⟩
      rw [hK] at HH hix
      clear hK
      go_wp2_with fail
      refine (compare_any K v u wo HT.out.sw.ev.ask HT.out.sw.ev.lo).mono ?_
      rintro _ x1 ⟨rfl, hb⟩
      have HT : Hid (TH (w6.heap.size) (w6.heap.size + 1) (w6.heap.size + 1 + 1) (w6.heap.size + 4) w7.heap.size a b c (some ⟨B1, 0, none⟩) (some ⟨B2, 0, none⟩) X Y w8.heap.size w9.heap.size v u w x1) := HT.out.below hb
      clear hb a0 a1 a2 af b0 b1 b2 bf
      go_wp2_with fail
      have h8 := holds_any (cmpR K v u) x1
      rw [HH.out] at h8
      refine h8.mono ?_
      clear h8
      rintro _ x2 ⟨rfl, hb⟩
      have HT : Hid (TH (w6.heap.size) (w6.heap.size + 1) (w6.heap.size + 1 + 1) (w6.heap.size + 4) w7.heap.size a b c (some ⟨B1, 0, none⟩) (some ⟨B2, 0, none⟩) X Y w8.heap.size w9.heap.size v u w x2) := HT.out.below hb
      obtain ⟨a0, a1, a2, af⟩ := HT.out.kv.vc
      obtain ⟨b0, b1, b2, bf⟩ := HT.out.kw.vc
      clear hb HH hix
      simp only [errV]
      cases k1 <;> cases k2 <;> cases ik
      all_goals
        go_wp2
        go_roundw
        case rel => exact ⟨k + 1, by omega, by go_num, by rw [HNx.out]; first | rfl | (simp), HT⟩
        case measure => simp [intOf]; omega
    · obtain rfl : k = 3 := by omega
      obtain ⟨N, hN⟩ : ∃ N, cntI I 3 = N := ⟨_, rfl⟩
      have HN : Hid (k1 = true → k2 = true → N = 1) := by rw [← hN]; exact HI.out.2
      rw [hN]
      clear hN hlt hk
      obtain ⟨a0, a1, a2, af⟩ := HT.out.kv.vc
      obtain ⟨b0, b1, b2, bf⟩ := HT.out.kw.vc
      obtain ⟨g, hg⟩ : ∃ g, (N == 1) = g := ⟨_, rfl⟩
      have HG2 : Hid (k1 = true → k2 = true → g = true) := fun h1 h2 => by rw [← hg, HN.out h1 h2]; rfl
      cases k1 <;> cases k2 <;> cases g
      all_goals first
        | exact absurd (HG2.out rfl rfl) (by decide)
        | skip
      all_goals
        go_wp2
        go_ret
        exact ⟨rfl, HT.out.lo⟩
end Go.Proofs.YtbdcbaamjkjhaaaGreatDoor
