/- Part 26 of 29. -/
import Derived.Test.YtbdcbaamjkjhaaaGreatDoorK25
namespace Go.Proofs.YtbdcbaamjkjhaaaGreatDoor
open Go.RowKit

/-- a side that is a value, or not there -/
def litB : Ex → Bool
  | .nil => true
  | .node c _ _ _ _ => decide (c = 1)
/-- a part that may be folded -/
def foldsB : Ex → Bool
  | .nil => false
  | .node c _ _ l r => decide (c ≠ 1 ∧ c ≠ 2 ∧ c ≠ 17) && (litB l && litB r)
/-- a part, folded -/
def foldP (p : Ex) : Ex := if foldsB p then (match evF .none .none .none p with | .ok x => .node 1 x ⟨#[]⟩ .nil .nil | .error _ => p) else p
def foldF : Ex → Ex
  | .nil => .nil
  | .node c v nm l r => foldP (.node c v nm (foldF l) (foldF r))
theorem foldP_cases (p : Ex) : foldP p = p ∨ (foldsB p = true ∧ ∃ x, evF .none .none .none p = .ok x ∧ foldP p = .node 1 x ⟨#[]⟩ .nil .nil) := by
  unfold foldP
  cases h : foldsB p with
  | false => exact Or.inl (if_neg (by decide))
  | true =>
    rw [if_pos rfl]
    cases e : evF .none .none .none p with
    | ok x => exact Or.inr ⟨rfl, x, rfl, rfl⟩
    | error n => exact Or.inl rfl
theorem ev_lit {e : Ex} (h : litB e = true) (a b c a' b' c' : Vl) : evF a b c e = evF a' b' c' e := by
  cases e with
  | nil => rfl
  | node cd v nm l r =>
    obtain rfl : cd = 1 := by simpa [litB] using h
    unfold evF
    rfl
theorem ev_node (a b c : Vl) (cd : Int) (v : Vl) (nm : ByteArray) (l r : Ex) : evF a b c (.node cd v nm l r) = if formB (.node cd v nm l r) = false then .error 3 else if cd = 1 then .ok v else if cd = 2 then colR a b c nm else if cd = 17 then matR (colR a b c (nameOf l)) v.t else bindR (evF a b c l) fun x => if cd = 3 ∨ cd = 4 ∨ cd = 5 then oneR cd x else bindR (evF a b c r) fun y => twoR cd x y := by
  conv => lhs; unfold evF
theorem ev_folds {p : Ex} (h : foldsB p = true) (a b c a' b' c' : Vl) : evF a b c p = evF a' b' c' p := by
  cases p with
  | nil => cases h
  | node cd v nm l r =>
    simp only [foldsB, Bool.and_eq_true, decide_eq_true_eq] at h
    obtain ⟨⟨h1, h2, h3⟩, hl, hr⟩ := h
    rw [ev_node, ev_node, if_neg h1, if_neg h2, if_neg h3, if_neg h1, if_neg h2, if_neg h3, ev_lit hl a b c a' b' c', ev_lit hr a b c a' b' c']
theorem ev_lit1 (a b c x : Vl) : evF a b c (.node 1 x ⟨#[]⟩ .nil .nil) = .ok x := by
  unfold evF
  rfl
theorem ev_foldP (a b c : Vl) (p : Ex) : evF a b c (foldP p) = evF a b c p := by
  rcases foldP_cases p with h | ⟨h, x, e, h2⟩
  · rw [h]
  · rw [h2, ev_lit1, ev_folds h a b c .none .none .none, e]
theorem foldF_code (e : Ex) : (foldF e).code = 2 ↔ e.code = 2 := by
  cases e with
  | nil => exact Iff.rfl
  | node cd v nm l r =>
    rw [foldF]
    rcases foldP_cases (.node cd v nm (foldF l) (foldF r)) with h | ⟨h, x, _, h2⟩
    · rw [h]; exact Iff.rfl
    · rw [h2]
      simp only [foldsB, Bool.and_eq_true, decide_eq_true_eq] at h
      show (1 : Int) = 2 ↔ cd = 2
      have := h.1.2.1
      constructor
      · intro q; exact absurd q (by decide)
      · intro q; exact absurd q this
theorem foldF_name {e : Ex} (h : e.code = 2) : nameOf (foldF e) = nameOf e := by
  cases e with
  | nil => rfl
  | node cd v nm l r =>
    obtain rfl : cd = 2 := h
    rw [foldF]
    rcases foldP_cases (.node 2 v nm (foldF l) (foldF r)) with h | ⟨h, x, _, h2⟩
    · rw [h]; rfl
    · simp [foldsB] at h
/-- folded, it comes to the same -/
theorem ev_fold (a b c : Vl) : ∀ e : Ex, evF a b c (foldF e) = evF a b c e
  | .nil => rfl
  | .node cd v nm l r => by
    rw [foldF, ev_foldP, ev_node, ev_node, ev_fold a b c l, ev_fold a b c r]
    have hf : formB (.node cd v nm (foldF l) (foldF r)) = formB (.node cd v nm l r) := by
      simp only [formB]
      rw [show decide ((foldF l).code = 2) = decide (l.code = 2) from decide_eq_decide.2 (foldF_code l)]
    rw [hf]
    by_cases h17 : cd = 17
    · subst h17
      cases h : formB (.node 17 v nm l r) with
      | false => rfl
      | true =>
        have hc : l.code = 2 := by simpa [formB] using h
        rw [foldF_name hc]
    · rw [if_neg h17, if_neg h17]
theorem foldP_idem {c : Int} {v : Vl} {nm : ByteArray} {l r : Ex} (hl : foldF l = l) (hr : foldF r = r) : foldF (foldP (.node c v nm l r)) = foldP (.node c v nm l r) := by
  rcases foldP_cases (.node c v nm l r) with h | ⟨h, x, _, h2⟩
  · rw [h, foldF, hl, hr, h]
  · rw [h2]
    rfl
/-- and it is folded then -/
theorem fold_idem : ∀ e : Ex, foldF (foldF e) = foldF e
  | .nil => rfl
  | .node c v nm l r => by
    rw [foldF]
    exact foldP_idem (fold_idem l) (fold_idem r)
/-- the columns that are asked -/
def colsF : Ex → List ByteArray
  | .nil => []
  | .node c _ nm l r => (if c = 2 then [nm] else []) ++ (colsF l ++ colsF r)
/-- beneath a value there is nothing -/
def Bare : Ex → Prop
  | .nil => True
  | .node c _ _ l r => (c = 1 → l = .nil ∧ r = .nil) ∧ Bare l ∧ Bare r
theorem lit_cols {e : Ex} (hb : Bare e) (h : litB e = true) : colsF e = [] := by
  cases e with
  | nil => rfl
  | node c v nm l r =>
    obtain rfl : c = 1 := by simpa [litB] using h
    obtain ⟨rfl, rfl⟩ := hb.1 rfl
    rfl
theorem foldF_bare : ∀ {e : Ex}, Bare e → Bare (foldF e)
  | .nil, _ => trivial
  | .node c v nm l r, h => by
    rw [foldF]
    rcases foldP_cases (.node c v nm (foldF l) (foldF r)) with q | ⟨_, x, _, q⟩
    · rw [q]
      refine ⟨fun hc => ?_, foldF_bare h.2.1, foldF_bare h.2.2⟩
      obtain ⟨rfl, rfl⟩ := h.1 hc
      exact ⟨rfl, rfl⟩
    · rw [q]; exact ⟨fun _ => ⟨rfl, rfl⟩, trivial, trivial⟩
theorem cols_fold : ∀ {e : Ex}, Bare e → colsF (foldF e) = colsF e
  | .nil, _ => rfl
  | .node c v nm l r, h => by
    have hl := cols_fold h.2.1
    have hr := cols_fold h.2.2
    rw [foldF]
    rcases foldP_cases (.node c v nm (foldF l) (foldF r)) with q | ⟨hf, x, _, q⟩
    · rw [q, colsF, colsF, hl, hr]
    · rw [q]
      simp only [foldsB, Bool.and_eq_true, decide_eq_true_eq] at hf
      show [] ++ ([] ++ []) = (if c = 2 then [nm] else []) ++ (colsF l ++ colsF r)
      rw [← hl, ← hr, lit_cols (foldF_bare h.2.1) hf.2.1, lit_cols (foldF_bare h.2.2) hf.2.2, if_neg hf.1.2.1]
/-- nothing is asked of a column that it does not name -/
theorem ev_free {a a' b c : Vl} : ∀ {e : Ex}, (∀ n ∈ colsF e, (n.toList == [97]) = false) → evF a b c e = evF a' b c e
  | .nil, _ => rfl
  | .node cd v nm l r, h => by
    have hl : ∀ n ∈ colsF l, (n.toList == [97]) = false := fun n hn => h n (by rw [colsF]; exact List.mem_append_right _ (List.mem_append_left _ hn))
    have hr : ∀ n ∈ colsF r, (n.toList == [97]) = false := fun n hn => h n (by rw [colsF]; exact List.mem_append_right _ (List.mem_append_right _ hn))
    have key : ∀ n : ByteArray, (n.toList == [97]) = false → colR a b c n = colR a' b c n := fun n hn => by unfold colR; rw [hn]; rfl
    rw [ev_node, ev_node, ev_free hl, ev_free hr]
    by_cases h2 : cd = 2
    · rw [if_pos h2, if_pos h2, key nm (h nm (by rw [colsF, if_pos h2]; exact List.mem_append_left _ (List.mem_singleton.2 rfl)))]
    · rw [if_neg h2, if_neg h2]
      by_cases h17 : cd = 17
      · subst h17
        cases hf : formB (.node 17 v nm l r) with
        | false => rfl
        | true =>
          have hc : l.code = 2 := by simpa [formB] using hf
          cases l with
          | nil => cases hc
          | node c2 v2 nm2 l2 r2 =>
            obtain rfl : c2 = 2 := hc
            rw [show nameOf (.node 2 v2 nm2 l2 r2) = nm2 from rfl, key nm2 (hl nm2 (by rw [colsF, if_pos rfl]; exact List.mem_append_left _ (List.mem_singleton.2 rfl)))]
      · rw [if_neg h17, if_neg h17]
theorem Ft.bare {d : Nat} {n : Int} {e : Ex} {ts : List KT} (h : Ft d n e ts) : Bare e := by
  have no : ∀ {c : Int} {x y : Ex}, c ≠ 1 → Bare x → Bare y → Bare (.two c x y) := fun hc hx hy => ⟨fun e => absurd e hc, hx, hy⟩
  have ne : ∀ {L : List (ByteArray × Int)}, (∀ s ∈ L, s.2 ≠ 1) → ∀ {s : ByteArray × Int}, s ∈ L → s.2 ≠ 1 := fun h s hs => h _ hs
  induction h with
  | par _ _ ih => exact ih
  | lit _ b => exact ⟨fun _ => ⟨rfl, rfl⟩, trivial, trivial⟩
  | col _ _ => exact ⟨fun _ => ⟨rfl, rfl⟩, trivial, trivial⟩
  | neg _ _ ih => exact no (by decide) ih trivial
  | not _ _ _ ih => exact no (by decide) ih trivial
  | nnul _ _ ih => exact no (by decide) (no (by decide) ih trivial) trivial
  | nul _ _ ih => exact no (by decide) ih trivial
  | mat _ _ c => exact ⟨fun e => absurd e (by decide), ⟨fun _ => ⟨rfl, rfl⟩, trivial, trivial⟩, trivial⟩
  | ask _ hs _ _ i j => exact no (ne (by decide) hs) i j
  | sum _ hs _ _ i j => exact no (ne (by decide) hs) i j
  | mul _ hs _ _ i j => exact no (ne (by decide) hs) i j
  | and _ hs _ _ i j => exact no (ne (by decide) hs) i j
  | or _ hs _ _ i j => exact no (ne (by decide) hs) i j
end Go.Proofs.YtbdcbaamjkjhaaaGreatDoor
namespace Go.Proofs.YtbdcbaamjkjhaaaGreatDoor
open Go.RowKit

structure EnvN (w : World) : Prop where
  ask : w.rangeAt 0 0 askCells
  lo : 13 ≤ w.heap.size
theorem EnvN.below {w w' : World} (h : EnvN w) (hb : Below w.heap.size w w') : EnvN w' :=
  ⟨range_keep h.ask (fun q => World.cell?_of_block (w := w) (a := ⟨0, q, none⟩) (hb.block 0 (by have := h.lo; omega))), Nat.le_trans h.lo hb.size⟩
def ComeN (a b c : Vl) (e : Ex) : Prop := ∀ (p : Option Addr) (w : World), EnvN w → ExAt w p e → Calls Tryz.prog 36 #[.agg #[.func (.func 64) #[] #[], .func (.func 65) #[] #[]], .pointer p] w fun r w' => ToldE (evF a b c e) w r w'
/-- come at work -/
structure CN (p : Option Addr) (e : Ex) (w0 w : World) : Prop where
  kE : Blk w0.heap.size #[.func (.func 64) #[] #[], .func (.func 65) #[] #[]] 45 w
  kR : Blk (w0.heap.size + 1) Vl.none.cells 39 w
  env : EnvN w
  ex : ExAt w p e
  be : Below w0.heap.size w0 w
theorem CN.below {p : Option Addr} {e : Ex} {w0 w w' : World} (h : CN p e w0 w) (hb : Below w.heap.size w w') : CN p e w0 w' :=
  ⟨h.kE.below hb, h.kR.below hb, h.env.below hb, h.ex.below hb, h.be.trans (hb.mono h.be.size)⟩
theorem CN.e0 {p : Option Addr} {e : Ex} {w0 w : World} (h : CN p e w0 w) : w.cell? ⟨w0.heap.size, 0, none⟩ = some (.func (.func 64) #[] #[]) ∧ w.cell? ⟨w0.heap.size, 1, none⟩ = some (.func (.func 65) #[] #[]) := ⟨by rw [h.kE.cell 0]; rfl, by rw [h.kE.cell 1]; rfl⟩
set_option maxRecDepth 100000 in
set_option maxHeartbeats 4000000 in
theorem nome_bad (a b c : Vl) (E : Ex) (hF : formB E = false) : ComeN a b c E := by
  intro p w hE hX
  obtain ⟨W, hW⟩ : ∃ W, (w.alloc (.cells #[.func (.func 64) #[] #[], .func (.func 65) #[] #[]] 45)).alloc (.cells #[.int .i64 0, .int .i64 0, .string ⟨#[]⟩] 39) = W := ⟨_, rfl⟩
  have hbW : Below w.heap.size w W := by rw [← hW]; exact ((Below.refl _ _).alloc (Nat.le_refl _) _).alloc (by simp only [World.size_alloc]; omega) _
  have hkE : Blk w.heap.size #[.func (.func 64) #[] #[], .func (.func 65) #[] #[]] 45 W := by rw [← hW]; exact (Blk.new _ _ _).below ((Below.refl _ _).alloc (Nat.le_refl _) _)
  have hkR : Blk (w.heap.size + 1) Vl.none.cells 39 W := by
    have hq := Blk.new (w.alloc (.cells #[.func (.func 64) #[] #[], .func (.func 65) #[] #[]] 45)) Vl.none.cells 39
    simp only [World.size_alloc] at hq
    rw [← hW]
    exact hq
  have G0 : Hid (CN p E w W) := ⟨hkE, hkR, hE.below hbW, hX.below hbW, hbW⟩
  clear hbW hkE hkR hE hX
  have he : evF a b c E = .error 3 := by
    cases E with
    | nil => rfl
    | node cd v nm l r => rw [evF, if_pos hF]
  rw [he]
  have HF : Hid (formB E = false) := hF
  clear he hF
  obtain ⟨c0, c1, c2, cf⟩ := G0.out.kR.vc
  go_enter Tryz.func36, Tryz.ntmps36
  go_wp2_with fail
  have h8 := formed_any E p W G0.out.ex
  rw [HF.out] at h8
  refine h8.mono ?_
  clear h8
  rintro _ w1 ⟨rfl, rfl⟩
  go_wp2
  refine bodyPost_ret (v := .tuple #[vv .none, .iface 53 (.int .i64 3)]) (results_ct Tryz.results36 _ _ ⟨w.heap.size + 1, 0, none⟩ rfl (load39 (put39_blk .none G0.out.kR))) rfl ?_
  exact ⟨⟨.none, rfl, fun x hx => by cases hx⟩, put39_below .none G0.out.be (by omega)⟩
set_option maxRecDepth 100000 in
set_option maxHeartbeats 4000000 in
theorem nome_lit (a b c : Vl) (v : Vl) (nm : ByteArray) (l r : Ex) : ComeN a b c (.node 1 v nm l r) := by
  intro p w hE hX
  obtain ⟨W, hW⟩ : ∃ W, (w.alloc (.cells #[.func (.func 64) #[] #[], .func (.func 65) #[] #[]] 45)).alloc (.cells #[.int .i64 0, .int .i64 0, .string ⟨#[]⟩] 39) = W := ⟨_, rfl⟩
  have hbW : Below w.heap.size w W := by rw [← hW]; exact ((Below.refl _ _).alloc (Nat.le_refl _) _).alloc (by simp only [World.size_alloc]; omega) _
  have hkE : Blk w.heap.size #[.func (.func 64) #[] #[], .func (.func 65) #[] #[]] 45 W := by rw [← hW]; exact (Blk.new _ _ _).below ((Below.refl _ _).alloc (Nat.le_refl _) _)
  have hkR : Blk (w.heap.size + 1) Vl.none.cells 39 W := by
    have hq := Blk.new (w.alloc (.cells #[.func (.func 64) #[] #[], .func (.func 65) #[] #[]] 45)) Vl.none.cells 39
    simp only [World.size_alloc] at hq
    rw [← hW]
    exact hq
  have G0 : Hid (CN p (.node 1 v nm l r) w W) := ⟨hkE, hkR, hE.below hbW, hX.below hbW, hbW⟩
  clear hbW hkE hkR hE hX
  have hF : formB (.node 1 v nm l r) = true := rfl
  have he : evF a b c (.node 1 v nm l r) = .ok v := by rw [evF, if_neg (by rw [hF]; decide), if_pos rfl]
  rw [he]
  have HF : Hid (formB (.node 1 v nm l r) = true) := hF
  clear he hF
  obtain ⟨c0, c1, c2, cf⟩ := G0.out.kR.vc
  obtain ⟨B, pl, pr, rfl, hlt, ⟨n0, n1, n2, n3, n4, n5, n6⟩, ql, qr⟩ := G0.out.ex
  go_enter Tryz.func36, Tryz.ntmps36
  go_wp2_with fail
  have h8 := formed_any (.node 1 v nm l r) _ W G0.out.ex
  rw [HF.out] at h8
  refine h8.mono ?_
  clear h8
  rintro _ w1 ⟨rfl, rfl⟩
  go_wp2
  refine bodyPost_ret (v := .tuple #[vv v, .nilIface]) (results_ct Tryz.results36 _ _ ⟨w.heap.size + 1, 0, none⟩ rfl (load39 (put39_blk v G0.out.kR))) rfl ?_
  exact ⟨⟨v, rfl, fun x hx => by cases hx; rfl⟩, put39_below v G0.out.be (by omega)⟩
end Go.Proofs.YtbdcbaamjkjhaaaGreatDoor
namespace Go.Proofs.YtbdcbaamjkjhaaaGreatDoor
open Go.RowKit


set_option maxRecDepth 100000 in
set_option maxHeartbeats 8000000 in
theorem nome_3 (a b c : Vl) (v : Vl) (nm : ByteArray) (l r : Ex) (hI : ComeN a b c l) : ComeN a b c (.node 3 v nm l r) := by
  have HI : Hid (ComeN a b c l) := hI
  clear hI
  intro p w hE hX
  obtain ⟨W, hW⟩ : ∃ W, (w.alloc (.cells #[.func (.func 64) #[] #[], .func (.func 65) #[] #[]] 45)).alloc (.cells #[.int .i64 0, .int .i64 0, .string ⟨#[]⟩] 39) = W := ⟨_, rfl⟩
  have hbW : Below w.heap.size w W := by rw [← hW]; exact ((Below.refl _ _).alloc (Nat.le_refl _) _).alloc (by simp only [World.size_alloc]; omega) _
  have hkE : Blk w.heap.size #[.func (.func 64) #[] #[], .func (.func 65) #[] #[]] 45 W := by rw [← hW]; exact (Blk.new _ _ _).below ((Below.refl _ _).alloc (Nat.le_refl _) _)
  have hkR : Blk (w.heap.size + 1) Vl.none.cells 39 W := by
    have hq := Blk.new (w.alloc (.cells #[.func (.func 64) #[] #[], .func (.func 65) #[] #[]] 45)) Vl.none.cells 39
    simp only [World.size_alloc] at hq
    rw [← hW]
    exact hq
  have G0 : Hid (CN p (.node 3 v nm l r) w W) := ⟨hkE, hkR, hE.below hbW, hX.below hbW, hbW⟩
  clear hbW hkE hkR hE hX
  have hF : formB (.node 3 v nm l r) = true := rfl
  obtain ⟨L, hL⟩ : ∃ L, evF a b c l = L := ⟨_, rfl⟩
  have HL : Hid (evF a b c l = L) := hL
  have he : evF a b c (.node 3 v nm l r) = bindR L fun x => oneR 3 x := by rw [evF, if_neg (by rw [hF]; decide), if_neg (by decide), if_neg (by decide), if_neg (by decide), hL]; rfl
  rw [he]
  have HF : Hid (formB (.node 3 v nm l r) = true) := hF
  clear he hF hL
  obtain ⟨B, pl, pr, rfl, hlt, ⟨n0, n1, n2, n3, n4, n5, n6⟩, ql, qr⟩ := G0.out.ex
  go_enter Tryz.func36, Tryz.ntmps36
  go_wp2_with fail
  have h8 := formed_any (.node 3 v nm l r) _ W G0.out.ex
  rw [HF.out] at h8
  refine h8.mono ?_
  clear h8
  rintro _ w1 ⟨rfl, rfl⟩
  go_upto_region 11 with fail
  go_cut [8, 9] (fun a8 a9 wx => ∃ (v1 : Vl) (bl : Nat), a8 = .pointer (some ⟨bl, 0, none⟩) ∧ a9 = errOf L ∧ Hid (CN (some ⟨B, 0, none⟩) (.node 3 v nm l r) w wx ∧ Blk bl v1.cells 39 wx ∧ (∀ x, L = .ok x → v1 = x) ∧ w.heap.size + 2 ≤ bl))
  case first =>
    have hsz : w.heap.size + 2 ≤ w1.heap.size := (Array.getElem?_eq_some_iff.1 G0.out.kR).1
    have HSZ : Hid (w.heap.size + 2 ≤ w1.heap.size) := hsz
    have HQ : Hid (ExAt w1 pl l) := ql
    have HKE : Hid (∀ wx, Below w1.heap.size w1 wx → Calls Tryz.prog 36 #[.agg #[.func (.func 64) #[] #[], .func (.func 65) #[] #[]], .pointer pl] wx fun r w' => ToldE L wx r w') := fun wx hb => by
      have h8 := HI.out pl wx (G0.out.env.below hb) (HQ.out.below hb)
      rw [HL.out] at h8
      exact h8
    have HA : Hid (Below w1.heap.size w1 w1.drew) := (Below.refl _ _).drew
    have HBB : Hid (Below w1.heap.size w1 (w1.alloc (.cells #[.int .i64 0, .int .i64 0, .string ⟨#[]⟩] 39)).drew) := ((Below.refl _ _).alloc (Nat.le_refl _) _).drew
    have HK : Hid (∀ wx, Below w1.heap.size w1 wx → wx.cell? ⟨w.heap.size, 0, none⟩ = some (.func (.func 64) #[] #[]) ∧ wx.cell? ⟨w.heap.size, 1, none⟩ = some (.func (.func 65) #[] #[]) ∧ wx.cell? ⟨B, 5, none⟩ = some (.pointer pl)) := fun wx hb => ⟨(G0.out.below hb).e0.1, (G0.out.below hb).e0.2, (hb.cell (p := ⟨B, 5, none⟩) hlt).trans n5⟩
    clear hsz
    go_region_held3 (fun wx => wx.cell? ⟨w.heap.size, 0, none⟩ = some (.func (.func 64) #[] #[]) ∧ wx.cell? ⟨w.heap.size, 1, none⟩ = some (.func (.func 65) #[] #[]) ∧ wx.cell? ⟨B, 5, none⟩ = some (.pointer pl)) (first | exact HK.out _ HA.out | exact HK.out _ HBB.out | exact HK.out _ HVb.out | exact HK.out _ (HA.out.alloc HA.out.size _) | exact HK.out _ (put39_below _ HA.out (by first | exact Nat.le_refl _ | exact HA.out.size))) ((go_at_call 36; refine Calls.mono (HKE.out _ (by first | exact HA.out | exact HBB.out)) ?_; rintro _ w2 ⟨⟨v1, rfl, hv1⟩, hb⟩; have HV1 : Hid (∀ x, L = .ok x → v1 = x) := hv1; clear hv1; first
      | (have hkB : Blk w1.heap.size Vl.none.cells 39 w2 := ((Blk.new w1 Vl.none.cells 39).below ((Below.refl _ _).drew)).below hb; obtain ⟨k0, k1, k2, kf⟩ := hkB.vc; have HA : Hid (Below w1.heap.size w1 w2) := HBB.out.trans (hb.mono HBB.out.size); have GY : Hid (CN (some ⟨B, 0, none⟩) (.node 3 v nm l r) w (put39 w2 w1.heap.size v1) ∧ Blk w1.heap.size v1.cells 39 (put39 w2 w1.heap.size v1) ∧ (∀ x, L = .ok x → v1 = x) ∧ w.heap.size + 2 ≤ w1.heap.size) := ⟨G0.out.below (put39_below v1 HA.out (Nat.le_refl _)), put39_blk v1 hkB, HV1.out, HSZ.out⟩; clear hb hkB; unfold vv)
      | (have hbs : w1.heap.size ≤ w2.heap.size := hb.size; have HA : Hid (Below w1.heap.size w1 w2) := HA.out.trans (hb.mono HA.out.size); obtain ⟨V, hV⟩ : ∃ V, w2.alloc (.cells #[.int .i64 v1.k, .int .i64 v1.n, .string v1.t] 39) = V := ⟨_, rfl⟩; have hbV : Below w2.heap.size w2 V := (by rw [← hV]; exact (Below.refl _ _).alloc (Nat.le_refl _) _); have HVb : Hid (Below w1.heap.size w1 V) := HA.out.trans (hbV.mono hbs); have GY : Hid (CN (some ⟨B, 0, none⟩) (.node 3 v nm l r) w V ∧ Blk w2.heap.size v1.cells 39 V ∧ (∀ x, L = .ok x → v1 = x) ∧ w.heap.size + 2 ≤ w2.heap.size) := ⟨(G0.out.below HA.out).below hbV, (by rw [← hV]; exact Blk.new _ _ _), HV1.out, Nat.le_trans HSZ.out hbs⟩; clear hb hbV hbs; unfold vv)))
    all_goals
      go_wp2_with fail
      go_meet
      case rel => exact ⟨v1, _, rfl, rfl, GY⟩
  case rest =>
  obtain ⟨v1, bl, rfl, rfl, GL⟩ := hcut
  obtain ⟨w3, hw3⟩ : ∃ u, u = wc := ⟨_, rfl⟩
  subst hw3
  clear n0 n1 n2 n3 n4 n5 n6 hlt ql qr
  obtain ⟨r0, r1, r2, rf⟩ := GL.out.1.kR.vc
  obtain ⟨B', pl', pr', e, hlt, ⟨n0, n1, n2, n3, n4, n5, n6⟩, ql, qr⟩ := GL.out.1.ex
  cases e
  cases L with
  | error n =>
    have HEv : Hid (bindR (.error n) (fun x => oneR 3 x) = .error n) := rfl
    simp only [errOf]
    go_wp2
    refine bodyPost_ret (v := .tuple #[vv .none, .iface 53 (.int .i64 n)]) (results_ct Tryz.results36 _ _ ⟨w.heap.size + 1, 0, none⟩ rfl (load39 (put39_blk .none GL.out.1.kR))) rfl ?_
    exact ⟨⟨.none, by rw [HEv.out]; rfl, fun x hx => by rw [HEv.out] at hx; cases hx⟩, put39_below .none GL.out.1.be (by omega)⟩
  | ok x1 =>
    obtain rfl : v1 = x1 := GL.out.2.2.1 x1 rfl
    have HEv : Hid (bindR (.ok v1) (fun x => oneR 3 x) = countR 7 (numV 0) v1) := rfl
    obtain ⟨y0, y1, y2, yf⟩ := GL.out.2.1.vc
    simp only [errOf]
    obtain ⟨R, hR⟩ : ∃ R, countR 7 (numV 0) v1 = R := ⟨_, rfl⟩
    have HR : Hid (countR 7 (numV 0) v1 = R) := hR
    clear hR
    go_upto_region 16 with fail
    have HB0 : Hid (Blk bl v1.cells 39 w3 ∧ bl < w3.heap.size ∧ w.heap.size + 2 ≤ bl) := ⟨GL.out.2.1, (Array.getElem?_eq_some_iff.1 GL.out.2.1).1, GL.out.2.2.2⟩
    have HK : Hid (∀ wx, Blk bl v1.cells 39 wx → wx.cell? ⟨bl, 0, none⟩ = some (.int .i64 v1.k) ∧ wx.cell? ⟨bl, 1, none⟩ = some (.int .i64 v1.n) ∧ wx.cell? ⟨bl, 2, none⟩ = some (.string v1.t)) := fun wx h => ⟨h.vc.1, h.vc.2.1, h.vc.2.2.1⟩
    have GX : Hid (CN (some ⟨B, 0, none⟩) (.node 3 v nm l r) w w3.drew ∧ Blk bl v1.cells 39 w3.drew) := ⟨GL.out.1.below ((Below.refl _ _).drew), GL.out.2.1⟩
    go_region_held3 (fun wx => wx.cell? ⟨bl, 0, none⟩ = some (.int .i64 v1.k) ∧ wx.cell? ⟨bl, 1, none⟩ = some (.int .i64 v1.n) ∧ wx.cell? ⟨bl, 2, none⟩ = some (.string v1.t)) (first | exact HK.out _ GX.out.2 | exact HK.out _ HP5.out) (first
      | (go_at_call 68; refine Calls.mono (enumber_any 0 _) ?_; rintro _ w4 ⟨rfl, hb⟩; have GX : Hid (CN (some ⟨B, 0, none⟩) (.node 3 v nm l r) w w4 ∧ Blk bl v1.cells 39 w4) := ⟨GX.out.1.below hb, GX.out.2.below hb⟩; clear hb; unfold vv numV)
      | (go_at_call 67; have h8 := count_any 7 (numV 0) v1 w4; rw [HR.out, tup_eq] at h8; refine Calls.mono h8 ?_; clear h8; rintro _ w5 ⟨rfl, hb⟩; have GX : Hid (CN (some ⟨B, 0, none⟩) (.node 3 v nm l r) w w5 ∧ Blk bl v1.cells 39 w5) := ⟨GX.out.1.below hb, GX.out.2.below hb⟩; have HP5 : Hid (Blk bl v1.cells 39 (put39 w5 (w.heap.size + 1) (valOf R))) := ((GX.out.2.other (by have := HB0.out.2.2; omega) 0 _).other (by have := HB0.out.2.2; omega) 1 _).other (by have := HB0.out.2.2; omega) 2 _; obtain ⟨t0, t1, t2, tf⟩ := GX.out.1.kR.vc; clear hb; unfold vv))
    all_goals
      go_wp2_with fail
      refine bodyPost_ret (v := .tuple #[vv (valOf R), errOf R]) (results_ct Tryz.results36 _ _ ⟨w.heap.size + 1, 0, none⟩ rfl (load39 (put39_blk (valOf R) GX.out.1.kR))) rfl ?_
      exact ⟨⟨valOf R, by rw [HEv.out, HR.out], fun x hx => by rw [HEv.out, HR.out] at hx; rw [hx]; rfl⟩, put39_below (valOf R) GX.out.1.be (by omega)⟩
set_option maxRecDepth 100000 in
set_option maxHeartbeats 8000000 in
theorem nome_4 (a b c : Vl) (v : Vl) (nm : ByteArray) (l r : Ex) (hI : ComeN a b c l) : ComeN a b c (.node 4 v nm l r) := by
  have HI : Hid (ComeN a b c l) := hI
  clear hI
  intro p w hE hX
  obtain ⟨W, hW⟩ : ∃ W, (w.alloc (.cells #[.func (.func 64) #[] #[], .func (.func 65) #[] #[]] 45)).alloc (.cells #[.int .i64 0, .int .i64 0, .string ⟨#[]⟩] 39) = W := ⟨_, rfl⟩
  have hbW : Below w.heap.size w W := by rw [← hW]; exact ((Below.refl _ _).alloc (Nat.le_refl _) _).alloc (by simp only [World.size_alloc]; omega) _
  have hkE : Blk w.heap.size #[.func (.func 64) #[] #[], .func (.func 65) #[] #[]] 45 W := by rw [← hW]; exact (Blk.new _ _ _).below ((Below.refl _ _).alloc (Nat.le_refl _) _)
  have hkR : Blk (w.heap.size + 1) Vl.none.cells 39 W := by
    have hq := Blk.new (w.alloc (.cells #[.func (.func 64) #[] #[], .func (.func 65) #[] #[]] 45)) Vl.none.cells 39
    simp only [World.size_alloc] at hq
    rw [← hW]
    exact hq
  have G0 : Hid (CN p (.node 4 v nm l r) w W) := ⟨hkE, hkR, hE.below hbW, hX.below hbW, hbW⟩
  clear hbW hkE hkR hE hX
  have hF : formB (.node 4 v nm l r) = true := rfl
  obtain ⟨L, hL⟩ : ∃ L, evF a b c l = L := ⟨_, rfl⟩
  have HL : Hid (evF a b c l = L) := hL
  have he : evF a b c (.node 4 v nm l r) = bindR L fun x => oneR 4 x := by rw [evF, if_neg (by rw [hF]; decide), if_neg (by decide), if_neg (by decide), if_neg (by decide), hL]; rfl
  rw [he]
  have HF : Hid (formB (.node 4 v nm l r) = true) := hF
  clear he hF hL
  obtain ⟨B, pl, pr, rfl, hlt, ⟨n0, n1, n2, n3, n4, n5, n6⟩, ql, qr⟩ := G0.out.ex
  go_enter Tryz.func36, Tryz.ntmps36
  go_wp2_with fail
  have h8 := formed_any (.node 4 v nm l r) _ W G0.out.ex
  rw [HF.out] at h8
  refine h8.mono ?_
  clear h8
  rintro _ w1 ⟨rfl, rfl⟩
  go_upto_region 11 with fail
  go_cut [8, 9] (fun a8 a9 wx => ∃ (v1 : Vl) (bl : Nat), a8 = .pointer (some ⟨bl, 0, none⟩) ∧ a9 = errOf L ∧ Hid (CN (some ⟨B, 0, none⟩) (.node 4 v nm l r) w wx ∧ Blk bl v1.cells 39 wx ∧ (∀ x, L = .ok x → v1 = x) ∧ w.heap.size + 2 ≤ bl))
  case first =>
    have hsz : w.heap.size + 2 ≤ w1.heap.size := (Array.getElem?_eq_some_iff.1 G0.out.kR).1
    have HSZ : Hid (w.heap.size + 2 ≤ w1.heap.size) := hsz
    have HQ : Hid (ExAt w1 pl l) := ql
    have HKE : Hid (∀ wx, Below w1.heap.size w1 wx → Calls Tryz.prog 36 #[.agg #[.func (.func 64) #[] #[], .func (.func 65) #[] #[]], .pointer pl] wx fun r w' => ToldE L wx r w') := fun wx hb => by
      have h8 := HI.out pl wx (G0.out.env.below hb) (HQ.out.below hb)
      rw [HL.out] at h8
      exact h8
    have HA : Hid (Below w1.heap.size w1 w1.drew) := (Below.refl _ _).drew
    have HBB : Hid (Below w1.heap.size w1 (w1.alloc (.cells #[.int .i64 0, .int .i64 0, .string ⟨#[]⟩] 39)).drew) := ((Below.refl _ _).alloc (Nat.le_refl _) _).drew
    have HK : Hid (∀ wx, Below w1.heap.size w1 wx → wx.cell? ⟨w.heap.size, 0, none⟩ = some (.func (.func 64) #[] #[]) ∧ wx.cell? ⟨w.heap.size, 1, none⟩ = some (.func (.func 65) #[] #[]) ∧ wx.cell? ⟨B, 5, none⟩ = some (.pointer pl)) := fun wx hb => ⟨(G0.out.below hb).e0.1, (G0.out.below hb).e0.2, (hb.cell (p := ⟨B, 5, none⟩) hlt).trans n5⟩
    clear hsz
    go_region_held3 (fun wx => wx.cell? ⟨w.heap.size, 0, none⟩ = some (.func (.func 64) #[] #[]) ∧ wx.cell? ⟨w.heap.size, 1, none⟩ = some (.func (.func 65) #[] #[]) ∧ wx.cell? ⟨B, 5, none⟩ = some (.pointer pl)) (first | exact HK.out _ HA.out | exact HK.out _ HBB.out | exact HK.out _ HVb.out | exact HK.out _ (HA.out.alloc HA.out.size _) | exact HK.out _ (put39_below _ HA.out (by first | exact Nat.le_refl _ | exact HA.out.size))) ((go_at_call 36; refine Calls.mono (HKE.out _ (by first | exact HA.out | exact HBB.out)) ?_; rintro _ w2 ⟨⟨v1, rfl, hv1⟩, hb⟩; have HV1 : Hid (∀ x, L = .ok x → v1 = x) := hv1; clear hv1; first
      | (have hkB : Blk w1.heap.size Vl.none.cells 39 w2 := ((Blk.new w1 Vl.none.cells 39).below ((Below.refl _ _).drew)).below hb; obtain ⟨k0, k1, k2, kf⟩ := hkB.vc; have HA : Hid (Below w1.heap.size w1 w2) := HBB.out.trans (hb.mono HBB.out.size); have GY : Hid (CN (some ⟨B, 0, none⟩) (.node 4 v nm l r) w (put39 w2 w1.heap.size v1) ∧ Blk w1.heap.size v1.cells 39 (put39 w2 w1.heap.size v1) ∧ (∀ x, L = .ok x → v1 = x) ∧ w.heap.size + 2 ≤ w1.heap.size) := ⟨G0.out.below (put39_below v1 HA.out (Nat.le_refl _)), put39_blk v1 hkB, HV1.out, HSZ.out⟩; clear hb hkB; unfold vv)
      | (have hbs : w1.heap.size ≤ w2.heap.size := hb.size; have HA : Hid (Below w1.heap.size w1 w2) := HA.out.trans (hb.mono HA.out.size); obtain ⟨V, hV⟩ : ∃ V, w2.alloc (.cells #[.int .i64 v1.k, .int .i64 v1.n, .string v1.t] 39) = V := ⟨_, rfl⟩; have hbV : Below w2.heap.size w2 V := (by rw [← hV]; exact (Below.refl _ _).alloc (Nat.le_refl _) _); have HVb : Hid (Below w1.heap.size w1 V) := HA.out.trans (hbV.mono hbs); have GY : Hid (CN (some ⟨B, 0, none⟩) (.node 4 v nm l r) w V ∧ Blk w2.heap.size v1.cells 39 V ∧ (∀ x, L = .ok x → v1 = x) ∧ w.heap.size + 2 ≤ w2.heap.size) := ⟨(G0.out.below HA.out).below hbV, (by rw [← hV]; exact Blk.new _ _ _), HV1.out, Nat.le_trans HSZ.out hbs⟩; clear hb hbV hbs; unfold vv)))
    all_goals
      go_wp2_with fail
      go_meet
      case rel => exact ⟨v1, _, rfl, rfl, GY⟩
  case rest =>
  obtain ⟨v1, bl, rfl, rfl, GL⟩ := hcut
  obtain ⟨w3, hw3⟩ : ∃ u, u = wc := ⟨_, rfl⟩
  subst hw3
  clear n0 n1 n2 n3 n4 n5 n6 hlt ql qr
  obtain ⟨r0, r1, r2, rf⟩ := GL.out.1.kR.vc
  obtain ⟨B', pl', pr', e, hlt, ⟨n0, n1, n2, n3, n4, n5, n6⟩, ql, qr⟩ := GL.out.1.ex
  cases e
  cases L with
  | error n =>
    have HEv : Hid (bindR (.error n) (fun x => oneR 4 x) = .error n) := rfl
    simp only [errOf]
    go_wp2
    refine bodyPost_ret (v := .tuple #[vv .none, .iface 53 (.int .i64 n)]) (results_ct Tryz.results36 _ _ ⟨w.heap.size + 1, 0, none⟩ rfl (load39 (put39_blk .none GL.out.1.kR))) rfl ?_
    exact ⟨⟨.none, by rw [HEv.out]; rfl, fun x hx => by rw [HEv.out] at hx; cases hx⟩, put39_below .none GL.out.1.be (by omega)⟩
  | ok x1 =>
    obtain rfl : v1 = x1 := GL.out.2.2.1 x1 rfl
    have HEv : Hid (bindR (.ok v1) (fun x => oneR 4 x) = notR v1) := rfl
    obtain ⟨y0, y1, y2, yf⟩ := GL.out.2.1.vc
    simp only [errOf]
    obtain ⟨R, hR⟩ : ∃ R, notR v1 = R := ⟨_, rfl⟩
    have HR : Hid (notR v1 = R) := hR
    clear hR
    go_wp2_with fail
    have h8 := enot_any v1 w3
    rw [HR.out, tup_eq] at h8
    refine h8.mono ?_
    clear h8
    rintro _ w4 ⟨rfl, hb⟩
    have GZ : Hid (CN (some ⟨B, 0, none⟩) (.node 4 v nm l r) w w4) := GL.out.1.below hb
    obtain ⟨t0, t1, t2, tf⟩ := GZ.out.kR.vc
    clear hb
    unfold vv
    go_wp2
    refine bodyPost_ret (v := .tuple #[vv (valOf R), errOf R]) (results_ct Tryz.results36 _ _ ⟨w.heap.size + 1, 0, none⟩ rfl (load39 (put39_blk (valOf R) GZ.out.kR))) rfl ?_
    exact ⟨⟨valOf R, by rw [HEv.out, HR.out], fun x hx => by rw [HEv.out, HR.out] at hx; rw [hx]; rfl⟩, put39_below (valOf R) GZ.out.be (by omega)⟩
set_option maxRecDepth 100000 in
set_option maxHeartbeats 8000000 in
theorem nome_5 (a b c : Vl) (v : Vl) (nm : ByteArray) (l r : Ex) (hI : ComeN a b c l) : ComeN a b c (.node 5 v nm l r) := by
  have HI : Hid (ComeN a b c l) := hI
  clear hI
  intro p w hE hX
  obtain ⟨W, hW⟩ : ∃ W, (w.alloc (.cells #[.func (.func 64) #[] #[], .func (.func 65) #[] #[]] 45)).alloc (.cells #[.int .i64 0, .int .i64 0, .string ⟨#[]⟩] 39) = W := ⟨_, rfl⟩
  have hbW : Below w.heap.size w W := by rw [← hW]; exact ((Below.refl _ _).alloc (Nat.le_refl _) _).alloc (by simp only [World.size_alloc]; omega) _
  have hkE : Blk w.heap.size #[.func (.func 64) #[] #[], .func (.func 65) #[] #[]] 45 W := by rw [← hW]; exact (Blk.new _ _ _).below ((Below.refl _ _).alloc (Nat.le_refl _) _)
  have hkR : Blk (w.heap.size + 1) Vl.none.cells 39 W := by
    have hq := Blk.new (w.alloc (.cells #[.func (.func 64) #[] #[], .func (.func 65) #[] #[]] 45)) Vl.none.cells 39
    simp only [World.size_alloc] at hq
    rw [← hW]
    exact hq
  have G0 : Hid (CN p (.node 5 v nm l r) w W) := ⟨hkE, hkR, hE.below hbW, hX.below hbW, hbW⟩
  clear hbW hkE hkR hE hX
  have hF : formB (.node 5 v nm l r) = true := rfl
  obtain ⟨L, hL⟩ : ∃ L, evF a b c l = L := ⟨_, rfl⟩
  have HL : Hid (evF a b c l = L) := hL
  have he : evF a b c (.node 5 v nm l r) = bindR L fun x => oneR 5 x := by rw [evF, if_neg (by rw [hF]; decide), if_neg (by decide), if_neg (by decide), if_neg (by decide), hL]; rfl
  rw [he]
  have HF : Hid (formB (.node 5 v nm l r) = true) := hF
  clear he hF hL
  obtain ⟨B, pl, pr, rfl, hlt, ⟨n0, n1, n2, n3, n4, n5, n6⟩, ql, qr⟩ := G0.out.ex
  go_enter Tryz.func36, Tryz.ntmps36
  go_wp2_with fail
  have h8 := formed_any (.node 5 v nm l r) _ W G0.out.ex
  rw [HF.out] at h8
  refine h8.mono ?_
  clear h8
  rintro _ w1 ⟨rfl, rfl⟩
  go_upto_region 11 with fail
  go_cut [8, 9] (fun a8 a9 wx => ∃ (v1 : Vl) (bl : Nat), a8 = .pointer (some ⟨bl, 0, none⟩) ∧ a9 = errOf L ∧ Hid (CN (some ⟨B, 0, none⟩) (.node 5 v nm l r) w wx ∧ Blk bl v1.cells 39 wx ∧ (∀ x, L = .ok x → v1 = x) ∧ w.heap.size + 2 ≤ bl))
  case first =>
    have hsz : w.heap.size + 2 ≤ w1.heap.size := (Array.getElem?_eq_some_iff.1 G0.out.kR).1
    have HSZ : Hid (w.heap.size + 2 ≤ w1.heap.size) := hsz
    have HQ : Hid (ExAt w1 pl l) := ql
    have HKE : Hid (∀ wx, Below w1.heap.size w1 wx → Calls Tryz.prog 36 #[.agg #[.func (.func 64) #[] #[], .func (.func 65) #[] #[]], .pointer pl] wx fun r w' => ToldE L wx r w') := fun wx hb => by
      have h8 := HI.out pl wx (G0.out.env.below hb) (HQ.out.below hb)
      rw [HL.out] at h8
      exact h8
    have HA : Hid (Below w1.heap.size w1 w1.drew) := (Below.refl _ _).drew
    have HBB : Hid (Below w1.heap.size w1 (w1.alloc (.cells #[.int .i64 0, .int .i64 0, .string ⟨#[]⟩] 39)).drew) := ((Below.refl _ _).alloc (Nat.le_refl _) _).drew
    have HK : Hid (∀ wx, Below w1.heap.size w1 wx → wx.cell? ⟨w.heap.size, 0, none⟩ = some (.func (.func 64) #[] #[]) ∧ wx.cell? ⟨w.heap.size, 1, none⟩ = some (.func (.func 65) #[] #[]) ∧ wx.cell? ⟨B, 5, none⟩ = some (.pointer pl)) := fun wx hb => ⟨(G0.out.below hb).e0.1, (G0.out.below hb).e0.2, (hb.cell (p := ⟨B, 5, none⟩) hlt).trans n5⟩
    clear hsz
    go_region_held3 (fun wx => wx.cell? ⟨w.heap.size, 0, none⟩ = some (.func (.func 64) #[] #[]) ∧ wx.cell? ⟨w.heap.size, 1, none⟩ = some (.func (.func 65) #[] #[]) ∧ wx.cell? ⟨B, 5, none⟩ = some (.pointer pl)) (first | exact HK.out _ HA.out | exact HK.out _ HBB.out | exact HK.out _ HVb.out | exact HK.out _ (HA.out.alloc HA.out.size _) | exact HK.out _ (put39_below _ HA.out (by first | exact Nat.le_refl _ | exact HA.out.size))) ((go_at_call 36; refine Calls.mono (HKE.out _ (by first | exact HA.out | exact HBB.out)) ?_; rintro _ w2 ⟨⟨v1, rfl, hv1⟩, hb⟩; have HV1 : Hid (∀ x, L = .ok x → v1 = x) := hv1; clear hv1; first
      | (have hkB : Blk w1.heap.size Vl.none.cells 39 w2 := ((Blk.new w1 Vl.none.cells 39).below ((Below.refl _ _).drew)).below hb; obtain ⟨k0, k1, k2, kf⟩ := hkB.vc; have HA : Hid (Below w1.heap.size w1 w2) := HBB.out.trans (hb.mono HBB.out.size); have GY : Hid (CN (some ⟨B, 0, none⟩) (.node 5 v nm l r) w (put39 w2 w1.heap.size v1) ∧ Blk w1.heap.size v1.cells 39 (put39 w2 w1.heap.size v1) ∧ (∀ x, L = .ok x → v1 = x) ∧ w.heap.size + 2 ≤ w1.heap.size) := ⟨G0.out.below (put39_below v1 HA.out (Nat.le_refl _)), put39_blk v1 hkB, HV1.out, HSZ.out⟩; clear hb hkB; unfold vv)
      | (have hbs : w1.heap.size ≤ w2.heap.size := hb.size; have HA : Hid (Below w1.heap.size w1 w2) := HA.out.trans (hb.mono HA.out.size); obtain ⟨V, hV⟩ : ∃ V, w2.alloc (.cells #[.int .i64 v1.k, .int .i64 v1.n, .string v1.t] 39) = V := ⟨_, rfl⟩; have hbV : Below w2.heap.size w2 V := (by rw [← hV]; exact (Below.refl _ _).alloc (Nat.le_refl _) _); have HVb : Hid (Below w1.heap.size w1 V) := HA.out.trans (hbV.mono hbs); have GY : Hid (CN (some ⟨B, 0, none⟩) (.node 5 v nm l r) w V ∧ Blk w2.heap.size v1.cells 39 V ∧ (∀ x, L = .ok x → v1 = x) ∧ w.heap.size + 2 ≤ w2.heap.size) := ⟨(G0.out.below HA.out).below hbV, (by rw [← hV]; exact Blk.new _ _ _), HV1.out, Nat.le_trans HSZ.out hbs⟩; clear hb hbV hbs; unfold vv)))
    all_goals
      go_wp2_with fail
      go_meet
      case rel => exact ⟨v1, _, rfl, rfl, GY⟩
  case rest =>
  obtain ⟨v1, bl, rfl, rfl, GL⟩ := hcut
  obtain ⟨w3, hw3⟩ : ∃ u, u = wc := ⟨_, rfl⟩
  subst hw3
  clear n0 n1 n2 n3 n4 n5 n6 hlt ql qr
  obtain ⟨r0, r1, r2, rf⟩ := GL.out.1.kR.vc
  obtain ⟨B', pl', pr', e, hlt, ⟨n0, n1, n2, n3, n4, n5, n6⟩, ql, qr⟩ := GL.out.1.ex
  cases e
  cases L with
  | error n =>
    have HEv : Hid (bindR (.error n) (fun x => oneR 5 x) = .error n) := rfl
    simp only [errOf]
    go_wp2
    refine bodyPost_ret (v := .tuple #[vv .none, .iface 53 (.int .i64 n)]) (results_ct Tryz.results36 _ _ ⟨w.heap.size + 1, 0, none⟩ rfl (load39 (put39_blk .none GL.out.1.kR))) rfl ?_
    exact ⟨⟨.none, by rw [HEv.out]; rfl, fun x hx => by rw [HEv.out] at hx; cases hx⟩, put39_below .none GL.out.1.be (by omega)⟩
  | ok x1 =>
    obtain rfl : v1 = x1 := GL.out.2.2.1 x1 rfl
    have HEv : Hid (bindR (.ok v1) (fun x => oneR 5 x) = .ok (truthV (v1.k == 0))) := rfl
    obtain ⟨y0, y1, y2, yf⟩ := GL.out.2.1.vc
    simp only [errOf]
    obtain ⟨q, hq⟩ : ∃ q, (v1.k == 0) = q := ⟨_, rfl⟩
    have HQ : Hid ((v1.k == 0) = q) := hq
    go_wp2_with fail
    refine (truth_any q w3).mono ?_
    rintro _ w4 ⟨rfl, hb⟩
    have GZ : Hid (CN (some ⟨B, 0, none⟩) (.node 5 v nm l r) w w4) := GL.out.1.below hb
    obtain ⟨t0, t1, t2, tf⟩ := GZ.out.kR.vc
    clear hb
    unfold vv
    go_wp2
    refine bodyPost_ret (v := .tuple #[vv (truthV q), .nilIface]) (results_ct Tryz.results36 _ _ ⟨w.heap.size + 1, 0, none⟩ rfl (load39 (put39_blk (truthV q) GZ.out.kR))) rfl ?_
    exact ⟨⟨truthV q, by rw [HEv.out]; rfl, fun x hx => by rw [HEv.out, HQ.out] at hx; cases hx; rfl⟩, put39_below (truthV q) GZ.out.be (by omega)⟩
end Go.Proofs.YtbdcbaamjkjhaaaGreatDoor
namespace Go.Proofs.YtbdcbaamjkjhaaaGreatDoor
open Go.RowKit

set_option maxRecDepth 100000 in
set_option maxHeartbeats 16000000 in
theorem nome_two (a b c : Vl) (cd : Int) (v : Vl) (nm : ByteArray) (l r : Ex) (hI : ComeN a b c l) (hJ : ComeN a b c r) (hF : formB (.node cd v nm l r) = true) (hc : cd ≠ 1 ∧ cd ≠ 2 ∧ cd ≠ 17 ∧ cd ≠ 3 ∧ cd ≠ 4 ∧ cd ≠ 5) : ComeN a b c (.node cd v nm l r) := by
  have HI : Hid (ComeN a b c l) := hI
  have HJ : Hid (ComeN a b c r) := hJ
  obtain ⟨h1, h2, h17, h3, h4, h5⟩ := hc
  clear hI hJ
  intro p w hE hX
  obtain ⟨W, hW⟩ : ∃ W, (w.alloc (.cells #[.func (.func 64) #[] #[], .func (.func 65) #[] #[]] 45)).alloc (.cells #[.int .i64 0, .int .i64 0, .string ⟨#[]⟩] 39) = W := ⟨_, rfl⟩
  have hbW : Below w.heap.size w W := by rw [← hW]; exact ((Below.refl _ _).alloc (Nat.le_refl _) _).alloc (by simp only [World.size_alloc]; omega) _
  have hkE : Blk w.heap.size #[.func (.func 64) #[] #[], .func (.func 65) #[] #[]] 45 W := by rw [← hW]; exact (Blk.new _ _ _).below ((Below.refl _ _).alloc (Nat.le_refl _) _)
  have hkR : Blk (w.heap.size + 1) Vl.none.cells 39 W := by
    have hq := Blk.new (w.alloc (.cells #[.func (.func 64) #[] #[], .func (.func 65) #[] #[]] 45)) Vl.none.cells 39
    simp only [World.size_alloc] at hq
    rw [← hW]
    exact hq
  have HXB : Hid (∀ B, p = some ⟨B, 0, none⟩ → B < w.heap.size) := by
    obtain ⟨B0, _, _, e0, hB0, _⟩ := hX
    intro B hB
    rw [e0] at hB
    cases hB
    exact hB0
  have G0 : Hid (CN p (.node cd v nm l r) w W) := ⟨hkE, hkR, hE.below hbW, hX.below hbW, hbW⟩
  clear hbW hkE hkR hE hX
  obtain ⟨L, hL⟩ : ∃ L, evF a b c l = L := ⟨_, rfl⟩
  have HL : Hid (evF a b c l = L) := hL
  obtain ⟨M, hM⟩ : ∃ L, evF a b c r = L := ⟨_, rfl⟩
  have HM : Hid (evF a b c r = M) := hM
  have he : evF a b c (.node cd v nm l r) = bindR L fun x => bindR M fun y => twoR cd x y := by
    rw [evF, if_neg (by rw [hF]; decide), if_neg h1, if_neg h2, if_neg h17, hL, hM]
    have hne : ¬ (cd = 3 ∨ cd = 4 ∨ cd = 5) := by omega
    simp only [if_neg hne]
  rw [he]
  have HF : Hid (formB (.node cd v nm l r) = true) := hF
  have b1 : (cd == 1) = false := beq_f h1
  have b2 : (cd == 2) = false := beq_f h2
  have b17 : (cd == 17) = false := beq_f h17
  have b3 : (cd == 3) = false := beq_f h3
  have b4 : (cd == 4) = false := beq_f h4
  have b5 : (cd == 5) = false := beq_f h5
  clear he hF hL hM h1 h2 h17 h3 h4 h5
  obtain ⟨B, pl, pr, rfl, hlt, ⟨n0, n1, n2, n3, n4, n5, n6⟩, ql, qr⟩ := G0.out.ex
  go_enter Tryz.func36, Tryz.ntmps36
  go_wp2_with fail
  have h8 := formed_any (.node cd v nm l r) _ W G0.out.ex
  rw [HF.out] at h8
  refine h8.mono ?_
  clear h8
  rintro _ w1 ⟨rfl, rfl⟩
  go_upto_region 11 with fail
  go_cut [8, 9] (fun a8 a9 wx => ∃ (v1 : Vl) (bl : Nat), a8 = .pointer (some ⟨bl, 0, none⟩) ∧ a9 = errOf L ∧ Hid (CN (some ⟨B, 0, none⟩) (.node cd v nm l r) w wx ∧ Blk bl v1.cells 39 wx ∧ (∀ x, L = .ok x → v1 = x) ∧ w.heap.size + 2 ≤ bl))
  case first =>
    have hsz : w.heap.size + 2 ≤ w1.heap.size := (Array.getElem?_eq_some_iff.1 G0.out.kR).1
    have HSZ : Hid (w.heap.size + 2 ≤ w1.heap.size) := hsz
    have HQ : Hid (ExAt w1 pl l) := ql
    have HKE : Hid (∀ wx, Below w1.heap.size w1 wx → Calls Tryz.prog 36 #[.agg #[.func (.func 64) #[] #[], .func (.func 65) #[] #[]], .pointer pl] wx fun r w' => ToldE L wx r w') := fun wx hb => by
      have h8 := HI.out pl wx (G0.out.env.below hb) (HQ.out.below hb)
      rw [HL.out] at h8
      exact h8
    have HA : Hid (Below w1.heap.size w1 w1.drew) := (Below.refl _ _).drew
    have HBB : Hid (Below w1.heap.size w1 (w1.alloc (.cells #[.int .i64 0, .int .i64 0, .string ⟨#[]⟩] 39)).drew) := ((Below.refl _ _).alloc (Nat.le_refl _) _).drew
    have HK : Hid (∀ wx, Below w1.heap.size w1 wx → wx.cell? ⟨w.heap.size, 0, none⟩ = some (.func (.func 64) #[] #[]) ∧ wx.cell? ⟨w.heap.size, 1, none⟩ = some (.func (.func 65) #[] #[]) ∧ wx.cell? ⟨B, 5, none⟩ = some (.pointer pl)) := fun wx hb => ⟨(G0.out.below hb).e0.1, (G0.out.below hb).e0.2, (hb.cell (p := ⟨B, 5, none⟩) hlt).trans n5⟩
    clear hsz
    go_region_held3 (fun wx => wx.cell? ⟨w.heap.size, 0, none⟩ = some (.func (.func 64) #[] #[]) ∧ wx.cell? ⟨w.heap.size, 1, none⟩ = some (.func (.func 65) #[] #[]) ∧ wx.cell? ⟨B, 5, none⟩ = some (.pointer pl)) (first | exact HK.out _ HA.out | exact HK.out _ HBB.out | exact HK.out _ HVb.out | exact HK.out _ (HA.out.alloc HA.out.size _) | exact HK.out _ (put39_below _ HA.out (by first | exact Nat.le_refl _ | exact HA.out.size))) ((go_at_call 36; refine Calls.mono (HKE.out _ (by first | exact HA.out | exact HBB.out)) ?_; rintro _ w2 ⟨⟨v1, rfl, hv1⟩, hb⟩; have HV1 : Hid (∀ x, L = .ok x → v1 = x) := hv1; clear hv1; first
      | (have hkB : Blk w1.heap.size Vl.none.cells 39 w2 := ((Blk.new w1 Vl.none.cells 39).below ((Below.refl _ _).drew)).below hb; obtain ⟨k0, k1, k2, kf⟩ := hkB.vc; have HA : Hid (Below w1.heap.size w1 w2) := HBB.out.trans (hb.mono HBB.out.size); have GY : Hid (CN (some ⟨B, 0, none⟩) (.node cd v nm l r) w (put39 w2 w1.heap.size v1) ∧ Blk w1.heap.size v1.cells 39 (put39 w2 w1.heap.size v1) ∧ (∀ x, L = .ok x → v1 = x) ∧ w.heap.size + 2 ≤ w1.heap.size) := ⟨G0.out.below (put39_below v1 HA.out (Nat.le_refl _)), put39_blk v1 hkB, HV1.out, HSZ.out⟩; clear hb hkB; unfold vv)
      | (have hbs : w1.heap.size ≤ w2.heap.size := hb.size; have HA : Hid (Below w1.heap.size w1 w2) := HA.out.trans (hb.mono HA.out.size); obtain ⟨V, hV⟩ : ∃ V, w2.alloc (.cells #[.int .i64 v1.k, .int .i64 v1.n, .string v1.t] 39) = V := ⟨_, rfl⟩; have hbV : Below w2.heap.size w2 V := (by rw [← hV]; exact (Below.refl _ _).alloc (Nat.le_refl _) _); have HVb : Hid (Below w1.heap.size w1 V) := HA.out.trans (hbV.mono hbs); have GY : Hid (CN (some ⟨B, 0, none⟩) (.node cd v nm l r) w V ∧ Blk w2.heap.size v1.cells 39 V ∧ (∀ x, L = .ok x → v1 = x) ∧ w.heap.size + 2 ≤ w2.heap.size) := ⟨(G0.out.below HA.out).below hbV, (by rw [← hV]; exact Blk.new _ _ _), HV1.out, Nat.le_trans HSZ.out hbs⟩; clear hb hbV hbs; unfold vv)))
    all_goals
      go_wp2_with fail
      go_meet
      case rel => exact ⟨v1, _, rfl, rfl, GY⟩
  case rest =>
  obtain ⟨v1, bl, rfl, rfl, GL⟩ := hcut
  obtain ⟨w3, hw3⟩ : ∃ u, u = wc := ⟨_, rfl⟩
  subst hw3
  clear n0 n1 n2 n3 n4 n5 n6 hlt ql qr
  obtain ⟨r0, r1, r2, rf⟩ := GL.out.1.kR.vc
  obtain ⟨B', pl', pr', e, hlt, ⟨n0, n1, n2, n3, n4, n5, n6⟩, ql, qr⟩ := GL.out.1.ex
  cases e
  cases L with
  | error n =>
    have HEv : Hid (bindR (.error n) (fun x => bindR M fun y => twoR cd x y) = .error n) := rfl
    simp only [errOf]
    go_wp2
    refine bodyPost_ret (v := .tuple #[vv .none, .iface 53 (.int .i64 n)]) (results_ct Tryz.results36 _ _ ⟨w.heap.size + 1, 0, none⟩ rfl (load39 (put39_blk .none GL.out.1.kR))) rfl ?_
    exact ⟨⟨.none, by rw [HEv.out]; rfl, fun x hx => by rw [HEv.out] at hx; cases hx⟩, put39_below .none GL.out.1.be (by omega)⟩
  | ok x1 =>
    obtain rfl : v1 = x1 := GL.out.2.2.1 x1 rfl
    have HEv0 : Hid (bindR (.ok v1) (fun x => bindR M fun y => twoR cd x y) = bindR M fun y => twoR cd v1 y) := rfl
    simp only [errOf]
    go_upto_region 21 with fail
    go_cut [10, 9] (fun a10 a9 wx => ∃ (v2 : Vl) (br : Nat), a10 = .pointer (some ⟨br, 0, none⟩) ∧ a9 = errOf M ∧ Hid (CN (some ⟨B, 0, none⟩) (.node cd v nm l r) w wx ∧ Blk br v2.cells 39 wx ∧ (∀ x, M = .ok x → v2 = x) ∧ w.heap.size + 2 ≤ br ∧ Blk bl v1.cells 39 wx))
    case first =>
      have hsz : w.heap.size + 2 ≤ w3.heap.size := (Array.getElem?_eq_some_iff.1 GL.out.1.kR).1
      have HSZ : Hid (w.heap.size + 2 ≤ w3.heap.size) := hsz
      have HQ : Hid (ExAt w3 pr' r) := qr
      have HKE : Hid (∀ wx, Below w3.heap.size w3 wx → Calls Tryz.prog 36 #[.agg #[.func (.func 64) #[] #[], .func (.func 65) #[] #[]], .pointer pr'] wx fun r w' => ToldE M wx r w') := fun wx hb => by
        have h8 := HJ.out pr' wx (GL.out.1.env.below hb) (HQ.out.below hb)
        rw [HM.out] at h8
        exact h8
      have HA : Hid (Below w3.heap.size w3 w3.drew) := (Below.refl _ _).drew
      have HBB : Hid (Below w3.heap.size w3 (w3.alloc (.cells #[.int .i64 0, .int .i64 0, .string ⟨#[]⟩] 39)).drew) := ((Below.refl _ _).alloc (Nat.le_refl _) _).drew
      have HK : Hid (∀ wx, Below w3.heap.size w3 wx → wx.cell? ⟨w.heap.size, 0, none⟩ = some (.func (.func 64) #[] #[]) ∧ wx.cell? ⟨w.heap.size, 1, none⟩ = some (.func (.func 65) #[] #[]) ∧ wx.cell? ⟨B, 6, none⟩ = some (.pointer pr')) := fun wx hb => ⟨(GL.out.1.below hb).e0.1, (GL.out.1.below hb).e0.2, (hb.cell (p := ⟨B, 6, none⟩) hlt).trans n6⟩
      clear hsz
      go_region_held3 (fun wx => wx.cell? ⟨w.heap.size, 0, none⟩ = some (.func (.func 64) #[] #[]) ∧ wx.cell? ⟨w.heap.size, 1, none⟩ = some (.func (.func 65) #[] #[]) ∧ wx.cell? ⟨B, 6, none⟩ = some (.pointer pr')) (first | exact HK.out _ HA.out | exact HK.out _ HBB.out | exact HK.out _ HUb.out | exact HK.out _ (HA.out.alloc HA.out.size _) | exact HK.out _ (put39_below _ HA.out (by first | exact Nat.le_refl _ | exact HA.out.size))) ((go_at_call 36; refine Calls.mono (HKE.out _ (by first | exact HA.out | exact HBB.out)) ?_; rintro _ w6 ⟨⟨v2, rfl, hv2⟩, hb⟩; have HV2 : Hid (∀ x, M = .ok x → v2 = x) := hv2; clear hv2; first
        | (have hkB : Blk w3.heap.size Vl.none.cells 39 w6 := ((Blk.new w3 Vl.none.cells 39).below ((Below.refl _ _).drew)).below hb; obtain ⟨k0, k1, k2, kf⟩ := hkB.vc; have HA : Hid (Below w3.heap.size w3 w6) := HBB.out.trans (hb.mono HBB.out.size); have GY : Hid (CN (some ⟨B, 0, none⟩) (.node cd v nm l r) w (put39 w6 w3.heap.size v2) ∧ Blk w3.heap.size v2.cells 39 (put39 w6 w3.heap.size v2) ∧ (∀ x, M = .ok x → v2 = x) ∧ w.heap.size + 2 ≤ w3.heap.size ∧ Blk bl v1.cells 39 (put39 w6 w3.heap.size v2)) := ⟨GL.out.1.below (put39_below v2 HA.out (Nat.le_refl _)), put39_blk v2 hkB, HV2.out, HSZ.out, GL.out.2.1.below (put39_below v2 HA.out (Nat.le_refl _))⟩; clear hb hkB; unfold vv)
        | (have hbs : w3.heap.size ≤ w6.heap.size := hb.size; have HA : Hid (Below w3.heap.size w3 w6) := HA.out.trans (hb.mono HA.out.size); obtain ⟨U, hU⟩ : ∃ U, w6.alloc (.cells #[.int .i64 v2.k, .int .i64 v2.n, .string v2.t] 39) = U := ⟨_, rfl⟩; have hbU : Below w6.heap.size w6 U := (by rw [← hU]; exact (Below.refl _ _).alloc (Nat.le_refl _) _); have HUb : Hid (Below w3.heap.size w3 U) := HA.out.trans (hbU.mono hbs); have GY : Hid (CN (some ⟨B, 0, none⟩) (.node cd v nm l r) w U ∧ Blk w6.heap.size v2.cells 39 U ∧ (∀ x, M = .ok x → v2 = x) ∧ w.heap.size + 2 ≤ w6.heap.size ∧ Blk bl v1.cells 39 U) := ⟨(GL.out.1.below HA.out).below hbU, (by rw [← hU]; exact Blk.new _ _ _), HV2.out, Nat.le_trans HSZ.out hbs, GL.out.2.1.below HUb.out⟩; clear hb hbU hbs; unfold vv)))
      all_goals
        go_wp2_with fail
        go_meet
        case rel => exact ⟨v2, _, rfl, rfl, GY⟩
    case rest =>
    obtain ⟨v2, br, rfl, rfl, GR⟩ := hcut
    obtain ⟨w7, hw7⟩ : ∃ u, u = wc := ⟨_, rfl⟩
    subst hw7
    clear n0 n1 n2 n3 n4 n5 n6 hlt ql qr r0 r1 r2 rf
    obtain ⟨r0, r1, r2, rf⟩ := GR.out.1.kR.vc
    cases M with
    | error n =>
      have HEv : Hid (bindR (.ok v1) (fun x => bindR (.error n) fun y => twoR cd x y) = .error n) := rfl
      simp only [errOf]
      go_wp2
      refine bodyPost_ret (v := .tuple #[vv .none, .iface 53 (.int .i64 n)]) (results_ct Tryz.results36 _ _ ⟨w.heap.size + 1, 0, none⟩ rfl (load39 (put39_blk .none GR.out.1.kR))) rfl ?_
      exact ⟨⟨.none, by rw [HEv.out]; rfl, fun x hx => by rw [HEv.out] at hx; cases hx⟩, put39_below .none GR.out.1.be (by omega)⟩
    | ok x2 =>
      obtain rfl : v2 = x2 := GR.out.2.2.1 x2 rfl
      have HEv : Hid (bindR (.ok v1) (fun x => bindR (.ok v2) fun y => twoR cd x y) = twoR cd v1 v2) := rfl
      obtain ⟨R, hR⟩ : ∃ R, twoR cd v1 v2 = R := ⟨_, rfl⟩
      have HR : Hid (twoR cd v1 v2 = R) := hR
      simp only [errOf]
      clear hR
      go_upto_region 24 with fail
      have HB0 : Hid (w.heap.size + 2 ≤ bl ∧ w.heap.size + 2 ≤ br) := ⟨GL.out.2.2.2, GR.out.2.2.2.1⟩
      have HK : Hid (∀ wx, CN (some ⟨B, 0, none⟩) (.node cd v nm l r) w wx → Blk bl v1.cells 39 wx → Blk br v2.cells 39 wx → wx.cell? ⟨B, 0, none⟩ = some (.int .i64 cd) ∧ wx.cell? ⟨bl, 0, none⟩ = some (.int .i64 v1.k) ∧ wx.cell? ⟨bl, 1, none⟩ = some (.int .i64 v1.n) ∧ wx.cell? ⟨bl, 2, none⟩ = some (.string v1.t) ∧ wx.cell? ⟨br, 0, none⟩ = some (.int .i64 v2.k) ∧ wx.cell? ⟨br, 1, none⟩ = some (.int .i64 v2.n) ∧ wx.cell? ⟨br, 2, none⟩ = some (.string v2.t)) := fun wx hx h h' => by
        obtain ⟨B', _, _, e, _, ⟨k0, _⟩, _⟩ := hx.ex
        cases e
        exact ⟨k0, h.vc.1, h.vc.2.1, h.vc.2.2.1, h'.vc.1, h'.vc.2.1, h'.vc.2.2.1⟩
      have GX : Hid (CN (some ⟨B, 0, none⟩) (.node cd v nm l r) w w7.drew ∧ Blk bl v1.cells 39 w7.drew ∧ Blk br v2.cells 39 w7.drew) := ⟨GR.out.1.below ((Below.refl _ _).drew), GR.out.2.2.2.2, GR.out.2.1⟩
      have HNB : Hid (B ≠ w.heap.size + 1) := by have := HXB.out B rfl; show B ≠ _; omega
      go_region_held3 (fun wx => wx.cell? ⟨B, 0, none⟩ = some (.int .i64 cd) ∧ wx.cell? ⟨bl, 0, none⟩ = some (.int .i64 v1.k) ∧ wx.cell? ⟨bl, 1, none⟩ = some (.int .i64 v1.n) ∧ wx.cell? ⟨bl, 2, none⟩ = some (.string v1.t) ∧ wx.cell? ⟨br, 0, none⟩ = some (.int .i64 v2.k) ∧ wx.cell? ⟨br, 1, none⟩ = some (.int .i64 v2.n) ∧ wx.cell? ⟨br, 2, none⟩ = some (.string v2.t)) (first | exact HK.out _ GX.out.1 GX.out.2.1 GX.out.2.2 | exact HP5.out) ((go_at_call 70; have h8 := two_any cd v1 v2 _ GX.out.1.env.ask GX.out.1.env.lo; rw [HR.out, tup_eq] at h8; refine Calls.mono h8 ?_; clear h8; rintro _ w8 ⟨rfl, hb⟩; have GX : Hid (CN (some ⟨B, 0, none⟩) (.node cd v nm l r) w w8 ∧ Blk bl v1.cells 39 w8 ∧ Blk br v2.cells 39 w8) := ⟨GX.out.1.below hb, GX.out.2.1.below hb, GX.out.2.2.below hb⟩; have HP5 : Hid ((put39 w8 (w.heap.size + 1) (valOf R)).cell? ⟨B, 0, none⟩ = some (.int .i64 cd) ∧ (put39 w8 (w.heap.size + 1) (valOf R)).cell? ⟨bl, 0, none⟩ = some (.int .i64 v1.k) ∧ (put39 w8 (w.heap.size + 1) (valOf R)).cell? ⟨bl, 1, none⟩ = some (.int .i64 v1.n) ∧ (put39 w8 (w.heap.size + 1) (valOf R)).cell? ⟨bl, 2, none⟩ = some (.string v1.t) ∧ (put39 w8 (w.heap.size + 1) (valOf R)).cell? ⟨br, 0, none⟩ = some (.int .i64 v2.k) ∧ (put39 w8 (w.heap.size + 1) (valOf R)).cell? ⟨br, 1, none⟩ = some (.int .i64 v2.n) ∧ (put39 w8 (w.heap.size + 1) (valOf R)).cell? ⟨br, 2, none⟩ = some (.string v2.t)) := (by have hz := HK.out _ GX.out.1 GX.out.2.1 GX.out.2.2; have q1 := HB0.out.1; have q2 := HB0.out.2; exact ⟨(put39_cell HNB.out _ _ _).trans hz.1, (put39_cell (by omega) _ _ _).trans hz.2.1, (put39_cell (by omega) _ _ _).trans hz.2.2.1, (put39_cell (by omega) _ _ _).trans hz.2.2.2.1, (put39_cell (by omega) _ _ _).trans hz.2.2.2.2.1, (put39_cell (by omega) _ _ _).trans hz.2.2.2.2.2.1, (put39_cell (by omega) _ _ _).trans hz.2.2.2.2.2.2⟩); obtain ⟨t0, t1, t2, tf⟩ := GX.out.1.kR.vc; clear hb; unfold vv))
      all_goals
        go_wp2_with fail
        refine bodyPost_ret (v := .tuple #[vv (valOf R), errOf R]) (results_ct Tryz.results36 _ _ ⟨w.heap.size + 1, 0, none⟩ rfl (load39 (put39_blk (valOf R) GX.out.1.kR))) rfl ?_
        exact ⟨⟨valOf R, by rw [HEv.out, HR.out], fun x hx => by rw [HEv.out, HR.out] at hx; rw [hx]; rfl⟩, put39_below (valOf R) GX.out.1.be (by omega)⟩
/-- nothing is asked of columns -/
def NoC : Ex → Prop
  | .nil => True
  | .node c _ _ l r => c = 1 ∨ (c ≠ 2 ∧ c ≠ 17 ∧ NoC l ∧ NoC r)
theorem nome_all (a b c : Vl) : ∀ e : Ex, NoC e → ComeN a b c e
  | .nil, _ => nome_bad a b c .nil rfl
  | .node cd v nm l r, h => by
    cases hF : formB (.node cd v nm l r) with
    | false => exact nome_bad a b c _ hF
    | true =>
      by_cases h1 : cd = 1
      · subst h1; exact nome_lit a b c v nm l r
      have h' := h.resolve_left h1
      have hl := nome_all a b c l h'.2.2.1
      have hr := nome_all a b c r h'.2.2.2
      by_cases h3 : cd = 3
      · subst h3; exact nome_3 a b c v nm l r hl
      by_cases h4 : cd = 4
      · subst h4; exact nome_4 a b c v nm l r hl
      by_cases h5 : cd = 5
      · subst h5; exact nome_5 a b c v nm l r hl
      exact nome_two a b c cd v nm l r hl hr hF ⟨h1, h'.1, h'.2.1, h3, h4, h5⟩
end Go.Proofs.YtbdcbaamjkjhaaaGreatDoor
