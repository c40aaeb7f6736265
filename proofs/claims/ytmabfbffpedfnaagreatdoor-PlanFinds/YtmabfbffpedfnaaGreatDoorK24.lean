/- Part 24 of 30. -/
import Derived.Test.YtmabfbffpedfnaaGreatDoorK23
import Derived.Deep.AppendLies
namespace Go.Proofs.YtmabfbffpedfnaaGreatDoor
open Go.RowKit

def asksB (c : Int) : Bool := c == 9 || c == 11 || c == 12 || c == 13 || c == 14
def turnI (c : Int) : Int := if c = 11 then 13 else if c = 12 then 14 else if c = 13 then 11 else if c = 14 then 12 else c
theorem asks_any (c : Int) (w : World) : Calls Tryz.prog 45 #[.int .i64 c] w fun e w' => e = .returned (.bool (asksB c)) ∧ w' = w := by
  obtain ⟨q1, h1⟩ : ∃ q, (c == 9) = q := ⟨_, rfl⟩
  obtain ⟨q2, h2⟩ : ∃ q, (c == 11) = q := ⟨_, rfl⟩
  obtain ⟨q3, h3⟩ : ∃ q, (c == 12) = q := ⟨_, rfl⟩
  obtain ⟨q4, h4⟩ : ∃ q, (c == 13) = q := ⟨_, rfl⟩
  obtain ⟨q5, h5⟩ : ∃ q, (c == 14) = q := ⟨_, rfl⟩
  have HA : Hid (asksB c = (q1 || q2 || q3 || q4 || q5)) := by show _ = _; rw [asksB, h1, h2, h3, h4, h5]
  rw [HA.out]
  cases q1
  rotate_left
  · go_enter Tryz.func45, Tryz.ntmps45
    go_wp2
    go_ret
    exact ⟨rfl, rfl⟩
  cases q2
  rotate_left
  · go_enter Tryz.func45, Tryz.ntmps45
    go_wp2
    go_ret
    exact ⟨rfl, rfl⟩
  cases q3
  rotate_left
  · go_enter Tryz.func45, Tryz.ntmps45
    go_wp2
    go_ret
    exact ⟨rfl, rfl⟩
  cases q4
  rotate_left
  · go_enter Tryz.func45, Tryz.ntmps45
    go_wp2
    go_ret
    exact ⟨rfl, rfl⟩
  cases q5
  rotate_left
  · go_enter Tryz.func45, Tryz.ntmps45
    go_wp2
    go_ret
    exact ⟨rfl, rfl⟩
  go_enter Tryz.func45, Tryz.ntmps45
  go_wp2
  go_ret
  exact ⟨rfl, rfl⟩
theorem turned_any (c : Int) (w : World) : Calls Tryz.prog 44 #[.int .i64 c] w fun e w' => e = .returned (.int .i64 (turnI c)) ∧ w' = w := by
  by_cases h1 : c = 11
  · subst h1
    go_enter Tryz.func44, Tryz.ntmps44
    go_wp2
    go_ret
    exact ⟨rfl, rfl⟩
  by_cases h2 : c = 12
  · subst h2
    go_enter Tryz.func44, Tryz.ntmps44
    go_wp2
    go_ret
    exact ⟨rfl, rfl⟩
  by_cases h3 : c = 13
  · subst h3
    go_enter Tryz.func44, Tryz.ntmps44
    go_wp2
    go_ret
    exact ⟨rfl, rfl⟩
  by_cases h4 : c = 14
  · subst h4
    go_enter Tryz.func44, Tryz.ntmps44
    go_wp2
    go_ret
    exact ⟨rfl, rfl⟩
  have HT : Hid (turnI c = c) := by show _ = _; rw [turnI, if_neg h1, if_neg h2, if_neg h3, if_neg h4]
  have e1 : (c == 11) = false := by simp [h1]
  have e2 : (c == 12) = false := by simp [h2]
  have e3 : (c == 13) = false := by simp [h3]
  have e4 : (c == 14) = false := by simp [h4]
  rw [HT.out]
  clear h1 h2 h3 h4
  go_enter Tryz.func44, Tryz.ntmps44
  go_wp2
  go_ret
  exact ⟨rfl, rfl⟩
def hasD (nm : ByteArray) : List ByteArray → Nat → Int
  | [], _ => -1
  | x :: L, k => if (nm.toList == x.toList) then (k : Int) else hasD nm L (k + 1)
def hasN (I : List ByteArray) (nm : ByteArray) : Bool := decide (0 ≤ hasD nm I 0)
theorem hasD_step (nm : ByteArray) (I : List ByteArray) (k : Nat) (h : k < I.length) : hasD nm (I.drop k) k = if (nm.toList == I[k].toList) then (k : Int) else hasD nm (I.drop (k + 1)) (k + 1) := by
  rw [List.drop_eq_getElem_cons h, hasD]
set_option maxHeartbeats 2000000 in
theorem sindex_any (bC bI : Nat) (C : List Cl) (I : List ByteArray) (nm : ByteArray) (w : World) (h : TabW bC bI C I w) : Calls Tryz.prog 71 #[.slice (some ⟨bI, 0, none⟩) I.length I.length, .string nm] w fun e w' => e = .returned (.int .i64 (hasD nm I 0)) ∧ w' = w := by
  have H : Hid (TabW bC bI C I w) := h
  have hsi := h.si
  obtain ⟨R, hR⟩ : ∃ R, hasD nm I 0 = R := ⟨_, rfl⟩
  have HR : Hid (hasD nm I 0 = R) := hR
  rw [hR]
  clear h hR
  go_enter Tryz.func71, Tryz.ntmps71
  go_wp2
  go_loopw [8] (fun i wr => ∃ k : Nat, k ≤ I.length ∧ i = .int .i64 k ∧ Hid (hasD nm (I.drop k) k = R) ∧ wr = w) (fun i _ => I.length - (intOf i).toNat)
  case atStart => exact ⟨0, Nat.zero_le _, rfl, HR.out, rfl⟩
  case round =>
    obtain ⟨k, hk, rfl, hd, rfl⟩ := hrel
    by_cases hlt : k < I.length
    · have i1 : (k : Int) < (I.length : Int) := by omega
      have hT := H.out.ki k hlt
      have HS : Hid (R = if (nm.toList == I[k].toList) then (k : Int) else hasD nm (I.drop (k + 1)) (k + 1)) := by show _ = _; rw [← hd.out, hasD_step nm I k hlt]
      generalize I[k] = x at *
      obtain ⟨q, hq⟩ : ∃ q, (nm.toList == x.toList) = q := ⟨_, rfl⟩
      have HS2 : Hid (R = if q = true then (k : Int) else hasD nm (I.drop (k + 1)) (k + 1)) := by show _ = _; rw [HS.out, hq]
      clear hd HS
      cases q
      · go_wp2
        go_roundw
        case rel => exact ⟨k + 1, by omega, by go_num, HS2.out.symm, by first | trivial | rfl⟩
        case measure => simp [intOf]; omega
      · go_wp2
        go_ret
        exact ⟨ret_int HS2.out.symm, rfl⟩
    · obtain rfl : k = I.length := by omega
      have HN : Hid (R = -1) := by show _ = _; rw [← hd.out, List.drop_length]; rfl
      clear hd
      go_wp2
      go_ret
      exact ⟨ret_int HN.out.symm, rfl⟩
theorem scontains_any (bC bI : Nat) (C : List Cl) (I : List ByteArray) (nm : ByteArray) (w : World) (h : TabW bC bI C I w) : Calls Tryz.prog 46 #[.slice (some ⟨bI, 0, none⟩) I.length I.length, .string nm] w fun e w' => e = .returned (.bool (hasN I nm)) ∧ w' = w := by
  have H : Hid (TabW bC bI C I w) := h
  obtain ⟨R, hR⟩ : ∃ R, hasD nm I 0 = R := ⟨_, rfl⟩
  have HR : Hid (hasD nm I 0 = R) := hR
  obtain ⟨q, hq⟩ : ∃ q, decide (0 ≤ R) = q := ⟨_, rfl⟩
  have HQ : Hid (hasN I nm = q) := by show _ = _; rw [hasN, hR]; exact hq
  rw [HQ.out]
  clear h hR
  go_enter Tryz.func46, Tryz.ntmps46
  go_wp2_with fail
  have h8 := sindex_any bC bI C I nm w H.out
  rw [HR.out] at h8
  refine h8.mono ?_
  clear h8
  rintro _ w1 ⟨rfl, rfl⟩
  go_wp2
  go_ret
  exact ⟨rfl, rfl⟩
/-- what a part asks -/
structure Ak where
  cd : Int
  cl : ByteArray
  vl : Vl
def Ak.cells (a : Ak) : List Value := [.int .i64 a.cd, .string a.cl, .int .i64 a.vl.k, .int .i64 a.vl.n, .string a.vl.t]
def akV (a : Ak) : Value := .agg #[.int .i64 a.cd, .string a.cl, .int .i64 a.vl.k, .int .i64 a.vl.n, .string a.vl.t]
structure Ak.Sm (a : Ak) : Prop where
  cl : a.cl.size ≤ 1000
  tx : a.vl.t.size ≤ 1000
theorem aname_any (a : Ak) (hs : a.Sm) (w : World) : Calls Tryz.prog 22 #[akV a] w fun e w' => e = .returned (.string a.cl) ∧ Below w.heap.size w w' := by
  obtain ⟨W, hW⟩ : ∃ W, w.alloc (.cells #[.int .i64 a.cd, .string a.cl, .int .i64 a.vl.k, .int .i64 a.vl.n, .string a.vl.t] 71) = W := ⟨_, rfl⟩
  have hk : Blk w.heap.size #[.int .i64 a.cd, .string a.cl, .int .i64 a.vl.k, .int .i64 a.vl.n, .string a.vl.t] 71 W := by rw [← hW]; exact Blk.new _ _ _
  have c1 : W.cell? ⟨w.heap.size, 1, none⟩ = some (.string a.cl) := by rw [hk.cell 1]; rfl
  have HB : Hid (Below w.heap.size w W ∧ a.Sm) := ⟨by rw [← hW]; exact (Below.refl _ _).alloc (Nat.le_refl _) _, hs⟩
  clear hk hs
  unfold akV
  go_enter Tryz.func22, Tryz.ntmps22
  go_wp2_with fail
  refine (clone_ok a.cl W (Nat.le_trans HB.out.2.cl (by decide))).mono ?_
  rintro _ w1 ⟨rfl, hb⟩
  have H1 : Hid (Below w.heap.size w w1) := HB.out.1.trans (hb.mono HB.out.1.size)
  clear hb
  go_wp2
  go_ret
  exact ⟨rfl, H1.out⟩
set_option maxHeartbeats 2000000 in
theorem abound_any (a : Ak) (hs : a.Sm) (w : World) : Calls Tryz.prog 23 #[akV a] w fun e w' => ∃ b, e = .returned (.pointer (some ⟨b, 0, none⟩)) ∧ Blk b a.vl.cells 23 w' ∧ Below w.heap.size w w' := by
  obtain ⟨W, hW⟩ : ∃ W, w.alloc (.cells #[.int .i64 a.cd, .string a.cl, .int .i64 a.vl.k, .int .i64 a.vl.n, .string a.vl.t] 71) = W := ⟨_, rfl⟩
  have hk : Blk w.heap.size #[.int .i64 a.cd, .string a.cl, .int .i64 a.vl.k, .int .i64 a.vl.n, .string a.vl.t] 71 W := by rw [← hW]; exact Blk.new _ _ _
  have hzW : W.heap.size = w.heap.size + 1 := by rw [← hW]; simp only [World.size_alloc]
  obtain ⟨c2, c3, c4⟩ : W.cell? ⟨w.heap.size, 2, none⟩ = some (.int .i64 a.vl.k) ∧ W.cell? ⟨w.heap.size, 3, none⟩ = some (.int .i64 a.vl.n) ∧ W.cell? ⟨w.heap.size, 4, none⟩ = some (.string a.vl.t) := ⟨by rw [hk.cell 2]; rfl, by rw [hk.cell 3]; rfl, by rw [hk.cell 4]; rfl⟩
  have hbW : Below w.heap.size w W := by rw [← hW]; exact (Below.refl _ _).alloc (Nat.le_refl _) _
  obtain ⟨U, hU⟩ : ∃ U, W.alloc (.cells #[.int .i64 0, .int .i64 0, .string ⟨#[]⟩] 23) = U := ⟨_, rfl⟩
  have hkU : Blk (w.heap.size + 1) Vl.none.cells 23 U := by rw [← hzW, ← hU]; exact Blk.new _ _ _
  have hbU : Below W.heap.size W U := by rw [← hU]; exact (Below.refl _ _).alloc (Nat.le_refl _) _
  have n2 : U.cell? ⟨w.heap.size, 2, none⟩ = some (.int .i64 a.vl.k) := (hbU.cell (p := ⟨w.heap.size, 2, none⟩) (by show w.heap.size < W.heap.size; omega)).trans c2
  have n3 : U.cell? ⟨w.heap.size, 3, none⟩ = some (.int .i64 a.vl.n) := (hbU.cell (p := ⟨w.heap.size, 3, none⟩) (by show w.heap.size < W.heap.size; omega)).trans c3
  have n4 : U.cell? ⟨w.heap.size, 4, none⟩ = some (.string a.vl.t) := (hbU.cell (p := ⟨w.heap.size, 4, none⟩) (by show w.heap.size < W.heap.size; omega)).trans c4
  obtain ⟨z0, z1, z2, zf⟩ := hkU.vc
  have H0 : Hid (Blk (w.heap.size + 1) a.vl.cells 23 (put39 U (w.heap.size + 1) a.vl) ∧ Below w.heap.size w (put39 U (w.heap.size + 1) a.vl) ∧ a.Sm) := ⟨put39_blk a.vl hkU, put39_below a.vl (hbW.trans (hbU.mono hbW.size)) (by omega), hs⟩
  obtain ⟨V, hV⟩ : ∃ V, put39 U (w.heap.size + 1) a.vl = V := ⟨_, rfl⟩
  rw [hV] at H0
  obtain ⟨v0, v1, v2, vf⟩ := H0.out.1.vc
  unfold put39 at hV
  clear hk hs hbW hkU hbU
  unfold akV
  go_enter Tryz.func23, Tryz.ntmps23
  go_wp2_with fail
  refine (clone_ok a.vl.t V (Nat.le_trans H0.out.2.2.tx (by decide))).mono ?_
  rintro _ w1 ⟨rfl, hb⟩
  have H1 : Hid (Blk (w.heap.size + 1) a.vl.cells 23 w1 ∧ Below w.heap.size w w1) := ⟨H0.out.1.below hb, H0.out.2.1.trans (hb.mono H0.out.2.1.size)⟩
  obtain ⟨u0, u1, u2, uf⟩ := H1.out.1.vc
  clear hb
  go_wp2
  go_ret
  refine ⟨_, rfl, ?_, H1.out.2.setCell (show w.heap.size ≤ w.heap.size + 1 by omega) _⟩
  have := H1.out.1.set 2 (.string a.vl.t)
  simpa [Vl.cells] using this
end Go.Proofs.YtmabfbffpedfnaaGreatDoor
namespace Go.Proofs.YtmabfbffpedfnaaGreatDoor
open Go.RowKit

def partsF : Ex → List Ex
  | .nil => []
  | .node c v nm l r => if c = 15 then partsF l ++ partsF r else [.node c v nm l r]
def ptc (L : List (Option Addr)) : List Value := L.map .pointer
/-- the parts so far stand in block S, in a row of their own -/
structure ParW (S : Nat) (w0 : World) (L : List (Option Addr)) (w : World) : Prop where
  st : ∃ v, Blk S #[v] 58 w ∧ w.ownsRow (S + 1) 26 1 v L.length (ptc L)
  be : Below S w0 w
  lt : S < w.heap.size
  lo : w0.heap.size ≤ S
theorem ParW.snoc {S : Nat} {w0 w w3 : World} {L : List (Option Addr)} {p : Option Addr} {v0 v3 : Value} (h : ParW S w0 L w) (hk : Blk S #[v0] 58 w) (ho : w.ownsRow (S + 1) 26 1 v0 L.length (ptc L)) {o : Obj} (hg : (w.alloc o).grownBy w3 v0.ownBlock) (ho3 : w3.ownsRow (S + 1) 26 1 v3 (L.length + 1) (ptc L ++ [.pointer p])) :
    Blk S #[v0] 58 w3 ∧ ParW S w0 (L ++ [p]) (w3.setCell ⟨S, 0, none⟩ v3) := by
  have hbA : Below w.heap.size w (w.alloc o) := (Below.refl _ _).alloc (Nat.le_refl _) _
  have hkA := hk.below hbA
  have hoA := own_below ho hbA
  have hltA : S < (w.alloc o).heap.size := Nat.lt_of_lt_of_le h.lt hbA.size
  have hbeA : Below S w0 (w.alloc o) := h.be.trans (hbA.mono (Nat.le_of_lt h.lt))
  have hk3 : Blk S #[v0] 58 w3 := by
    show w3.heap[S]? = _
    rw [hg.block S hltA (fun e => by have := (hoA.lt S e.symm).1; omega)]
    exact hkA
  have hb3 : Below S w0 w3 := hbeA.grown hg (Nat.le_of_lt hltA) (fun g e => by have := (hoA.lt g e).1; omega)
  refine ⟨hk3, ⟨⟨v3, ?_, ?_⟩, hb3.setCell (Nat.le_refl _) _, ?_, h.lo⟩⟩
  · have := hk3.set 0 v3
    simpa using this
  · have e1 : (L ++ [p]).length = L.length + 1 := by simp
    have e2 : ptc (L ++ [p]) = ptc L ++ [.pointer p] := by simp [ptc]
    rw [e1, e2]
    exact own_fr (X := fun k _ => k = S) ho3 (fun k ob hk hx => by rw [Below.heap_setCell w3 ⟨S, 0, none⟩ _ k (fun e => hx e)]; exact hk) (fun k _ hk _ e => by omega)
  · have := (Array.getElem?_eq_some_iff.1 hk3).1
    simpa [World.setCell] using this
theorem infoPtr : (Tryz.prog.info? 26).map (fun i => (i.zero, i.size, i.bytes)) = some (some (.pointer none), 1, 8) := by kernel_rfl
set_option maxRecDepth 100000 in
set_option maxHeartbeats 4000000 in
theorem parts_cl {S : Nat} {w0 : World} {L : List (Option Addr)} {w : World} (c : Int) (v : Vl) (nm : ByteArray) (l r : Ex) (p : Option Addr) (h : ParW S w0 L w) (hX : ExAt w0 p (.node c v nm l r)) (hL : L.length ≤ 100000) :
    Calls Tryz.prog 41 #[.pointer p, .pointer (some ⟨S, 0, none⟩)] w fun e w' => e = .returned (.bool (c == 15)) ∧ ParW S w0 (L ++ (if c = 15 then [] else [p])) w' := by
  obtain ⟨B, pl, pr, rfl, hlt, ⟨m0, _, _, _, _, _, _⟩, _, _⟩ := hX
  have hlo := h.lo
  have hltS := h.lt
  have n0 : w.cell? ⟨B, 0, none⟩ = some (.int .i64 c) := (h.be.cell (p := ⟨B, 0, none⟩) (by show B < S; omega)).trans m0
  have H : Hid (ParW S w0 L w) := h
  clear m0 hlt
  by_cases hc : c = 15
  · rw [if_pos hc, List.append_nil]
    have e2 : (c == 15) = true := by simp [hc]
    rw [e2]
    clear h hc
    go_enter Tryz.func41, Tryz.ntmps41
    go_wp2
    go_ret
    exact ⟨rfl, H.out⟩
  · rw [if_neg hc]
    have e2 : (c == 15) = false := by simp [hc]
    rw [e2]
    obtain ⟨i0, hi, hz0, hz1, hz2⟩ := info_parts infoPtr
    obtain ⟨sv, hst, hown⟩ := h.st
    obtain ⟨a4, c4, rfl⟩ := own_slice hown
    have HO : Hid (w.ownsRow (S + 1) 26 1 (.slice a4 L.length c4) L.length (ptc L) ∧ Blk S #[.slice a4 L.length c4] 58 w) := ⟨hown, hst⟩
    have cS : w.cell? ⟨S, 0, none⟩ = some (.slice a4 L.length c4) := by rw [hst.cell 0]; rfl
    clear h hst hown hc
    go_enter Tryz.func41, Tryz.ntmps41
    go_wp2_with (at_builtin; refine wpList_append_own _ rfl _ _ 58 rfl (S + 1) 26 i0 (.pointer none) 1 8 Tryz.underlying58 hi hz0 hz1 hz2 rfl (by decide) _ _ _ rfl (HO.out.1.alloc _) ⟨w.heap.size, 0, none⟩ 1 1 [.pointer (some ⟨B, 0, none⟩)] rfl rfl (news_one w _ _) (by intro u hu; simp at hu; subst hu; rfl) (by simp [maxLen]; omega) (by omega) (by simp; omega) ?_)
    intro v3 w3 ho3 hg3 _
    obtain ⟨a3, c3, rfl⟩ := own_slice ho3
    have HF := ParW.snoc H.out HO.out.2 HO.out.1 hg3 ho3
    have HZ : Hid (ParW S w0 (L ++ [some ⟨B, 0, none⟩]) (w3.setCell ⟨S, 0, none⟩ (.slice a3 (L.length + 1) c3))) := HF.2
    have cS3 : w3.cell? ⟨S, 0, none⟩ = some (.slice a4 L.length c4) := by rw [HF.1.cell 0]; rfl
    have fS3 := HF.1.free 0
    clear HF ho3 hg3 cS
    go_wp2
    go_ret
    exact ⟨rfl, HZ.out⟩
/-- these pointers are these expressions -/
def AllAt (w : World) : List (Option Addr) → List Ex → Prop
  | [], [] => True
  | p :: L, e :: E => ExAt w p e ∧ AllAt w L E
  | _, _ => False
theorem AllAt.len {w : World} : ∀ {L : List (Option Addr)} {E : List Ex}, AllAt w L E → L.length = E.length
  | [], [], _ => rfl
  | _ :: _, _ :: _, h => by simp [h.2.len]
  | [], _ :: _, h => h.elim
  | _ :: _, [], h => h.elim
theorem AllAt.app {w : World} : ∀ {L M : List (Option Addr)} {E F : List Ex}, AllAt w L E → AllAt w M F → AllAt w (L ++ M) (E ++ F)
  | [], _, [], _, _, h => h
  | _ :: _, _, _ :: _, _, h, k => ⟨h.1, h.2.app k⟩
  | [], _, _ :: _, _, h, _ => h.elim
  | _ :: _, _, [], _, h, _ => h.elim
theorem AllAt.at {w : World} : ∀ {L : List (Option Addr)} {E : List Ex}, AllAt w L E → ∀ j (h : j < L.length) (k : j < E.length), ExAt w L[j] E[j]
  | [], _, _, j, h, _ => by simp at h
  | _ :: _, [], h, _, _, _ => h.elim
  | _ :: _, _ :: _, h, 0, _, _ => h.1
  | _ :: _, _ :: _, h, j + 1, h1, h2 => h.2.at j (by simpa using h1) (by simpa using h2)
theorem AllAt.below {w w' : World} (hb : Below w.heap.size w w') : ∀ {L : List (Option Addr)} {E : List Ex}, AllAt w L E → AllAt w' L E
  | [], [], h => h
  | _ :: _, _ :: _, h => ⟨h.1.below hb, AllAt.below hb h.2⟩
  | [], _ :: _, h => h.elim
  | _ :: _, [], h => h.elim
def PWalk (e : Ex) : Prop := ∀ (p : Option Addr) (S : Nat) (w0 w : World) (L : List (Option Addr)), ParW S w0 L w → ExAt w0 p e → L.length + (partsF e).length ≤ 100000 → Calls Tryz.prog 40 #[.pointer p, .func (.func 41) #[] #[.pointer (some ⟨S, 0, none⟩)]] w fun x w' => x = .returned (.tuple #[]) ∧ ∃ M, AllAt w0 M (partsF e) ∧ ParW S w0 (L ++ M) w'
set_option maxRecDepth 100000 in
theorem pwalk_nil : PWalk .nil := by
  intro p S w0 w L h hX hL
  obtain rfl : p = none := hX
  have H : Hid (ParW S w0 L w) := h
  clear h hL
  go_enter Tryz.func40, Tryz.ntmps40
  go_wp2
  first | (refine bodyPost_ret (v := .tuple #[]) (results_none Tryz.results40 _ _) rfl ?_) | (refine bodyPost_ret (v := .tuple #[]) (results_none _ _ _ Tryz.results40) rfl ?_) | (refine bodyPost_ret (v := .tuple #[]) (by kernel_rfl) rfl ?_)
  exact ⟨rfl, [], trivial, by rw [List.append_nil]; exact H.out⟩
set_option maxRecDepth 100000 in
set_option maxHeartbeats 4000000 in
theorem pwalk_node (c : Int) (v : Vl) (nm : ByteArray) (l r : Ex) (hI : PWalk l) (hJ : PWalk r) : PWalk (.node c v nm l r) := by
  intro p S w0 w L h hX hL
  have HX : Hid (ExAt w0 p (.node c v nm l r)) := hX
  obtain ⟨B, pl, pr, rfl, hlt, ⟨_, _, _, _, _, m5, m6⟩, hl, hr⟩ := hX
  have HC : Hid (∀ M wx, ParW S w0 M wx → wx.cell? ⟨B, 5, none⟩ = some (.pointer pl) ∧ wx.cell? ⟨B, 6, none⟩ = some (.pointer pr)) := fun M wx hw => by
    have := hw.lo
    exact ⟨(hw.be.cell (p := ⟨B, 5, none⟩) (by show B < S; omega)).trans m5, (hw.be.cell (p := ⟨B, 6, none⟩) (by show B < S; omega)).trans m6⟩
  have H : Hid (ParW S w0 L w ∧ PWalk l ∧ PWalk r ∧ ExAt w0 pl l ∧ ExAt w0 pr r) := ⟨h, hI, hJ, hl, hr⟩
  have hL0 : L.length ≤ 100000 := by omega
  have HL : Hid (L.length + (partsF (.node c v nm l r)).length ≤ 100000) := hL
  clear h hI hJ hl hr m5 m6 hlt hL
  by_cases hc : c = 15
  · subst hc
    have HP : Hid (partsF (.node 15 v nm l r) = partsF l ++ partsF r) := if_pos rfl
    have HL2 : Hid (L.length + (partsF l).length + (partsF r).length ≤ 100000) := by have := HL.out; rw [HP.out, List.length_append] at this; show _ ≤ _; omega
    rw [HP.out]
    go_enter Tryz.func40, Tryz.ntmps40
    go_wp2_with fail
    have h8 := parts_cl 15 v nm l r _ H.out.1 HX.out hL0
    rw [if_pos rfl, List.append_nil, show ((15 : Int) == 15) = true from rfl] at h8
    refine h8.mono ?_
    clear h8
    rintro _ w1 ⟨rfl, h1⟩
    have H1 : Hid (ParW S w0 L w1) := h1
    obtain ⟨n5, n6⟩ := HC.out _ _ h1
    clear h1
    go_wp2_with fail
    refine (H.out.2.1 pl S w0 w1 L H1.out H.out.2.2.2.1 (by have := HL2.out; omega)).mono ?_
    rintro _ w2 ⟨rfl, M, hM, h2⟩
    have H2 : Hid (ParW S w0 (L ++ M) w2 ∧ AllAt w0 M (partsF l)) := ⟨h2, hM⟩
    clear n5 n6
    obtain ⟨n5, n6⟩ := HC.out _ _ h2
    clear h2 hM
    go_wp2_with fail
    refine (H.out.2.2.1 pr S w0 w2 (L ++ M) H2.out.1 H.out.2.2.2.2 (by have := HL2.out; have := H2.out.2.len; rw [List.length_append]; omega)).mono ?_
    rintro _ w3 ⟨rfl, M2, hM2, h3⟩
    have H3 : Hid (ParW S w0 (L ++ (M ++ M2)) w3 ∧ AllAt w0 (M ++ M2) (partsF l ++ partsF r)) := ⟨by rw [← List.append_assoc]; exact h3, H2.out.2.app hM2⟩
    clear h3 hM2
    go_wp2
    go_end0
    exact ⟨rfl, _, H3.out.2, H3.out.1⟩
  · have HP : Hid (partsF (.node c v nm l r) = [.node c v nm l r]) := if_neg hc
    have h8 := parts_cl c v nm l r _ H.out.1 HX.out hL0
    rw [if_neg hc, show (c == 15) = false by simp [hc]] at h8
    rw [HP.out]
    have H8 : Hid (Calls Tryz.prog 41 #[.pointer (some ⟨B, 0, none⟩), .pointer (some ⟨S, 0, none⟩)] w fun e w' => e = .returned (.bool false) ∧ ParW S w0 (L ++ [some ⟨B, 0, none⟩]) w') := h8
    clear h8 hc
    go_enter Tryz.func40, Tryz.ntmps40
    go_wp2_with fail
    refine H8.out.mono ?_
    rintro _ w1 ⟨rfl, h1⟩
    have H1 : Hid (ParW S w0 (L ++ [some ⟨B, 0, none⟩]) w1) := h1
    clear h1
    go_wp2
    first | (refine bodyPost_ret (v := .tuple #[]) (results_none Tryz.results40 _ _) rfl ?_) | (refine bodyPost_ret (v := .tuple #[]) (results_none _ _ _ Tryz.results40) rfl ?_) | (refine bodyPost_ret (v := .tuple #[]) (by kernel_rfl) rfl ?_)
    exact ⟨rfl, [some ⟨B, 0, none⟩], (show AllAt w0 [some ⟨B, 0, none⟩] [.node c v nm l r] from ⟨HX.out, trivial⟩), H1.out⟩
theorem pwalk_all : ∀ e : Ex, PWalk e
  | .nil => pwalk_nil
  | .node c v nm l r => pwalk_node c v nm l r (pwalk_all l) (pwalk_all r)
/-- a row of parts -/
def PtRow (w : World) (v : Value) (E : List Ex) : Prop := ∃ a c, v = .slice a E.length c ∧ (E = [] ∨ ∃ b, a = some ⟨b, 0, none⟩ ∧ b < w.heap.size ∧ ∀ j (h : j < E.length), ∃ p, w.cell? ⟨b, j, none⟩ = some (.pointer p) ∧ ExAt w p E[j])
theorem PtRow.below {w w' : World} {v : Value} {E : List Ex} (h : PtRow w v E) (hb : Below w.heap.size w w') : PtRow w' v E := by
  obtain ⟨a, c, h1, h2⟩ := h
  refine ⟨a, c, h1, ?_⟩
  rcases h2 with h2 | ⟨b, h3, h4, h5⟩
  · exact Or.inl h2
  · refine Or.inr ⟨b, h3, Nat.lt_of_lt_of_le h4 hb.size, fun j hj => ?_⟩
    obtain ⟨p, h6, h7⟩ := h5 j hj
    exact ⟨p, (hb.cell (p := ⟨b, j, none⟩) h4).trans h6, h7.below hb⟩
set_option maxRecDepth 100000 in
theorem parts_any (e : Ex) (p : Option Addr) (w : World) (hX : ExAt w p e) (hC : (partsF e).length ≤ 100000) : Calls Tryz.prog 19 #[.pointer p] w fun x w' => ∃ v, x = .returned v ∧ PtRow w' v (partsF e) ∧ Below w.heap.size w w' := by
  obtain ⟨W, hW⟩ : ∃ W, w.alloc (.cells #[.slice none 0 0] 58) = W := ⟨_, rfl⟩
  have hk : Blk w.heap.size #[.slice none 0 0] 58 W := by rw [← hW]; exact Blk.new _ _ _
  have H : Hid (ParW w.heap.size w [] W) := by
    refine ⟨⟨_, hk, World.ownsRow_nil _ _ _ _⟩, ?_, (Array.getElem?_eq_some_iff.1 hk).1, Nat.le_refl _⟩
    rw [← hW]
    exact (Below.refl _ _).alloc (Nat.le_refl _) _
  have HE : Hid (ExAt w p e ∧ (partsF e).length ≤ 100000) := ⟨hX, hC⟩
  have hmf : ∀ (fn : Fn) (first cap : Array Value) (w : World), (Instr.makeFunc fn first cap).run Tryz.prog w = .ok (.func fn first cap) w := fun _ _ _ _ => rfl
  clear hk hX hC
  go_enter Tryz.func19, Tryz.ntmps19
  go_wp2_with fail
  refine (pwalk_all e p w.heap.size w W [] H.out HE.out.1 (by have := HE.out.2; simpa using this)).mono ?_
  rintro _ w1 ⟨rfl, M, hM, h1⟩
  rw [List.nil_append] at h1
  obtain ⟨v, hk1, ho⟩ := h1.st
  have H1 : Hid (PtRow w1 v (partsF e) ∧ Below w.heap.size w w1) := by
    refine ⟨?_, h1.be⟩
    have hl := hM.len
    obtain ⟨a, c, rfl⟩ := own_slice ho
    refine ⟨a, c, by rw [hl], ?_⟩
    by_cases hn : M.length = 0
    · exact Or.inl (List.length_eq_zero_iff.1 (by omega))
    · obtain ⟨g, cap, e1, _, hgs⟩ := ho.form (by omega)
      obtain rfl : a = some ⟨g, 0, none⟩ := by injection e1
      refine Or.inr ⟨g, rfl, ?_, fun j hj => ⟨M[j]'(by omega), ?_, ?_⟩⟩
      · exact hgs
      · have h5 := ho.cellAt j (by omega)
        rw [h5, ptc, List.getElem?_map, List.getElem?_eq_getElem (by omega)]
        rfl
      · exact (hM.at j (by omega) hj).below h1.be
  have c0 : w1.cell? ⟨w.heap.size, 0, none⟩ = some v := by rw [hk1.cell 0]; rfl
  clear h1 hk1 ho hM
  go_wp2
  go_ret
  exact ⟨_, rfl, H1.out.1, H1.out.2⟩
end Go.Proofs.YtmabfbffpedfnaaGreatDoor
namespace Go.Proofs.YtmabfbffpedfnaaGreatDoor
open Go.RowKit

def nameAt (C : List Cl) (i : Int) : ByteArray := match C[i.toNat]? with
  | some c => c.nm
  | none => ⟨#[]⟩
/-- a column, and what it is held against -/
def pAskG (C : List Cl) (I : List ByteArray) (cd : Int) (col : Ex) : Ex → Option Ak
  | .nil => none
  | .node c v _ _ _ => if ownF C col < 0 ∨ asksB cd = false ∨ c ≠ 1 ∨ v.k = 0 ∨ hasN I (nameAt C (ownF C col)) = false then none else some ⟨cd, nameAt C (ownF C col), v⟩
/-- what a part asks -/
def pAskF (C : List Cl) (I : List ByteArray) : Ex → Option Ak
  | .nil => none
  | .node c _ _ l r => if ownF C l < 0 then pAskG C I (turnI c) r l else pAskG C I c l r
def asksF (C : List Cl) (I : List ByteArray) (E : List Ex) : List Ak := E.filterMap (pAskF C I)
theorem asksF_no {C : List Cl} {I : List ByteArray} {E : List Ex} {k : Nat} (h : k < E.length) (hn : pAskF C I E[k] = none) : asksF C I (E.take (k + 1)) = asksF C I (E.take k) := by
  unfold asksF
  rw [List.take_succ_eq_append_getElem h, List.filterMap_append]
  simp [hn]
theorem asksF_yes {C : List Cl} {I : List ByteArray} {E : List Ex} {k : Nat} {a : Ak} (h : k < E.length) (hn : pAskF C I E[k] = some a) : asksF C I (E.take (k + 1)) = asksF C I (E.take k) ++ [a] := by
  unfold asksF
  rw [List.take_succ_eq_append_getElem h, List.filterMap_append]
  simp [hn]
theorem asksF_len (C : List Cl) (I : List ByteArray) (E : List Ex) (k : Nat) : (asksF C I (E.take k)).length ≤ E.length := by
  unfold asksF
  refine Nat.le_trans (List.length_filterMap_le _ _) ?_
  rw [List.length_take]
  omega
theorem placeD_le (nm : ByteArray) : ∀ (C : List Cl) (k : Nat), placeD nm C k < (k : Int) + C.length
  | [], k => by simp [placeD]; omega
  | c :: C, k => by
    rw [placeD]
    split
    · simp only [List.length_cons]; omega
    · have := placeD_le nm C (k + 1)
      simp only [List.length_cons]
      omega
theorem placeF_lt (C : List Cl) (nm : ByteArray) : placeF C nm < C.length := by have := placeD_le nm C 0; unfold placeF; omega
theorem ownF_lt {C : List Cl} {e : Ex} (h : 0 ≤ ownF C e) : ownF C e < C.length := by
  cases e with
  | nil => simp [ownF] at h
  | node c v nm l r =>
    by_cases hc : c = 2
    · have e1 : ownF C (.node c v nm l r) = ownN C nm := if_pos hc
      rw [e1]
      unfold ownN
      split <;> exact placeF_lt _ _
    · have e1 : ownF C (.node c v nm l r) = -1 := if_neg hc
      rw [e1] at h
      omega
end Go.Proofs.YtmabfbffpedfnaaGreatDoor
namespace Go.Proofs.YtmabfbffpedfnaaGreatDoor
open Go.RowKit

/-- an expression that may be asked -/
def Wf : Ex → Prop
  | .nil => False
  | .node c v nm l r => formB (.node c v nm l r) = true ∧ (c ≠ 1 → c ≠ 2 → c ≠ 17 → Wf l ∧ (c ≠ 3 → c ≠ 4 → c ≠ 5 → Wf r))
theorem formB_two {c : Int} {v : Vl} {nm : ByteArray} {l r : Ex} (h1 : 1 ≤ c) (h2 : c ≤ 16) : formB (.node c v nm l r) = true := by
  have d1 : decide (1 ≤ c) = true := decide_eq_true h1
  have d2 : decide (c ≤ 17) = true := decide_eq_true (by omega)
  have d3 : decide (c ≠ 17) = true := decide_eq_true (by omega)
  rw [formB, d1, d2, d3]; rfl
theorem Ft.wf {d : Nat} {n : Int} {e : Ex} {ts : List KT} (h : Ft d n e ts) : Wf e := by
  have two : ∀ {c : Int} {x y : Ex}, 1 ≤ c → c ≤ 16 → Wf x → Wf y → Wf (.two c x y) := fun h1 h2 hx hy => ⟨formB_two h1 h2, fun _ _ _ => ⟨hx, fun _ _ _ => hy⟩⟩
  have one : ∀ {c : Int} {x : Ex}, c = 3 ∨ c = 4 ∨ c = 5 → Wf x → Wf (.two c x .nil) := fun hc hx => ⟨formB_two (by omega) (by omega), fun _ _ _ => ⟨hx, fun a b e => by omega⟩⟩
  have ne : ∀ {L : List (ByteArray × Int)}, (∀ s ∈ L, 1 ≤ s.2 ∧ s.2 ≤ 16) → ∀ {s : ByteArray × Int}, s ∈ L → 1 ≤ s.2 ∧ s.2 ≤ 16 := fun h s hs => h _ hs
  induction h with
  | par _ _ ih => exact ih
  | lit _ b => exact ⟨formB_two (by decide) (by decide), fun h => absurd rfl h⟩
  | col _ h => exact ⟨formB_two (by decide) (by decide), fun _ h => absurd rfl h⟩
  | neg _ _ ih => exact one (by decide) ih
  | not _ _ _ ih => exact one (by decide) ih
  | nnul _ _ ih => exact one (by decide) (one (by decide) ih)
  | nul _ _ ih => exact one (by decide) ih
  | mat _ h c => exact ⟨rfl, fun _ _ h => absurd rfl h⟩
  | ask _ hs _ _ i j => have := ne (by decide) hs; exact two this.1 this.2 i j
  | sum _ hs _ _ i j => have := ne (by decide) hs; exact two this.1 this.2 i j
  | mul _ hs _ _ i j => have := ne (by decide) hs; exact two this.1 this.2 i j
  | and _ hs _ _ i j => have := ne (by decide) hs; exact two this.1 this.2 i j
  | or _ hs _ _ i j => have := ne (by decide) hs; exact two this.1 this.2 i j
theorem ColN.pos {nm : ByteArray} {ts : List KT} (h : ColN nm ts) : 1 ≤ ts.length := by
  cases h with
  | one _ => exact Nat.le_refl _
  | two _ _ => exact (by decide : 1 ≤ 3)
theorem parts_le (c : Int) (v : Vl) (nm : ByteArray) (l r : Ex) : (partsF (.node c v nm l r)).length ≤ (partsF l).length + (partsF r).length + 1 := by
  rw [partsF]
  split
  · rw [List.length_append]; omega
  · simp
theorem Ft.parts {d : Nat} {n : Int} {e : Ex} {ts : List KT} (h : Ft d n e ts) : (partsF e).length ≤ ts.length := by
  have one : ∀ {c : Int} {x : Ex} {m : Nat}, c ≠ 15 → 1 ≤ m → (partsF (.two c x .nil)).length ≤ m := fun hc hm => by
    rw [Ex.two, partsF, if_neg hc]; exact hm
  have two : ∀ {c : Int} {x y : Ex} {us vs : List KT} {t : KT}, (partsF x).length ≤ us.length → (partsF y).length ≤ vs.length → (partsF (.two c x y)).length ≤ (us ++ (t :: vs)).length := by
    intro c x y us vs t hx hy
    have := parts_le c .none ⟨#[]⟩ x y
    rw [Ex.two]; simp only [List.length_append, List.length_cons]; omega
  induction h with
  | par _ _ ih => simp only [List.length_cons, List.length_append]; omega
  | lit _ b => exact Nat.le_refl _
  | col _ h => exact h.pos
  | neg _ _ ih => exact one (by decide) (by simp only [List.length_cons]; omega)
  | not _ _ _ ih => exact one (by decide) (by simp only [List.length_cons]; omega)
  | nnul _ _ ih => exact one (by decide) (by simp only [List.length_append, List.length_cons]; omega)
  | nul _ _ ih => exact one (by decide) (by simp only [List.length_append, List.length_cons]; omega)
  | mat _ h c =>
    rw [partsF, if_neg (by decide)]
    simp only [List.length_append, List.length_cons]
    show 1 ≤ _
    omega
  | ask _ hs _ _ i j => exact two i j
  | sum _ hs _ _ i j => exact two i j
  | mul _ hs _ _ i j => exact two i j
  | and _ hs _ _ i j => exact two i j
  | or _ hs _ _ i j => exact two i j
/-- what is known of what a text asks -/
structure PK (X : Ex) : Prop where
  sm : TreeSm X
  wf : X = .nil ∨ Wf X
  le : (partsF X).length ≤ 200
theorem StT.pk {x : Stm} {ts : List KT} (h : StT x ts) (hl : ts.length ≤ 200) : PK x.wh := by
  refine ⟨h.sm, ?_, ?_⟩
  · have hb : ∀ {w : List KT} {x : Ex} {us : List KT}, BhT w x us → x = .nil ∨ Wf x := by
      intro w x us h
      cases h with
      | no => exact Or.inl rfl
      | yes h => exact Or.inr h.wf
    cases h with
    | delete _ hx => exact hb hx
    | update _ _ hx => exact hb hx
    | select _ _ _ h3 _ _ _ => exact hb h3
    | begin => exact Or.inl rfl
    | commit => exact Or.inl rfl
    | rollback => exact Or.inl rfl
    | index _ _ => exact Or.inl rfl
    | create _ _ => exact Or.inl rfl
    | drop _ => exact Or.inl rfl
    | insert _ _ => exact Or.inl rfl
  · have hb : ∀ {w : List KT} {x : Ex} {us : List KT}, BhT w x us → (partsF x).length ≤ us.length := by
      intro w x us h
      cases h with
      | no => exact Nat.zero_le _
      | yes h => have := h.parts; rw [List.length_append]; omega
    refine Nat.le_trans ?_ hl
    cases h with
    | delete _ hx => have := hb hx; simp only [List.length_cons]; show (partsF _).length ≤ _; omega
    | update _ _ hx => have := hb hx; simp only [List.length_cons, List.length_append]; show (partsF _).length ≤ _; omega
    | select _ _ _ h3 _ _ _ => have := hb h3; simp only [List.length_cons, List.length_append]; show (partsF _).length ≤ _; omega
    | begin => exact Nat.zero_le _
    | commit => exact Nat.zero_le _
    | rollback => exact Nat.zero_le _
    | index _ _ => exact Nat.zero_le _
    | create _ _ => exact Nat.zero_le _
    | drop _ => exact Nat.zero_le _
    | insert _ _ => exact Nat.zero_le _
theorem PK.nil : PK .nil := ⟨trivial, Or.inl rfl, Nat.zero_le _⟩
theorem PK.of (s : ByteArray) : PK (condF s) := by
  unfold condF
  split
  · exact PK.nil
  · rename_i h
    split
    · rename_i st hs
      obtain ⟨ts, ht, hl⟩ := parse_stt (cond_size h) hs
      exact ht.pk hl
    · exact PK.nil
theorem parts_ne : ∀ (e : Ex), ∀ p ∈ partsF e, p ≠ .nil
  | .nil, p, h => by simp [partsF] at h
  | .node c v nm l r, p, h => by
    rw [partsF] at h
    split at h
    · rcases List.mem_append.1 h with h | h
      · exact parts_ne l p h
      · exact parts_ne r p h
    · rw [List.mem_singleton.1 h]; intro e; cases e
theorem parts_sm : ∀ {e : Ex}, TreeSm e → ∀ p ∈ partsF e, TreeSm p
  | .nil, _, p, h => by simp [partsF] at h
  | .node c v nm l r, hT, p, h => by
    rw [partsF] at h
    split at h
    · rcases List.mem_append.1 h with h | h
      · exact parts_sm hT.2.1 p h
      · exact parts_sm hT.2.2 p h
    · rw [List.mem_singleton.1 h]; exact hT
/-- what is safe is never an error -/
theorem ev_wf {a b c : Vl} {cd : Int} {v : Vl} {nm : ByteArray} {l r : Ex} (hf : formB (.node cd v nm l r) = true) : evF a b c (.node cd v nm l r) = if cd = 1 then .ok v else if cd = 2 then colR a b c nm else if cd = 17 then matR (colR a b c (nameOf l)) v.t else bindR (evF a b c l) fun x => if cd = 3 ∨ cd = 4 ∨ cd = 5 then oneR cd x else bindR (evF a b c r) fun y => twoR cd x y := by
  conv => lhs; unfold evF
  rw [if_neg (by rw [hf]; decide)]
theorem truthV_k (b : Bool) : (truthV b).k ≠ 2 := by cases b <;> decide
theorem bothR_ok {cd : Int} {x y : Vl} (hx : x.k ≠ 2) (hy : y.k ≠ 2) : ∃ v, bothR cd x y = .ok v ∧ v.k ≠ 2 := by
  have h1 : ∃ p q, holdsR x = (p, q, none) := by
    unfold holdsR
    split
    · exact ⟨_, _, rfl⟩
    · first | exact ⟨_, _, rfl⟩ | (rw [if_neg hx]; exact ⟨_, _, rfl⟩)
  have h2 : ∃ p q, holdsR y = (p, q, none) := by
    unfold holdsR
    split
    · exact ⟨_, _, rfl⟩
    · first | exact ⟨_, _, rfl⟩ | (rw [if_neg hy]; exact ⟨_, _, rfl⟩)
  obtain ⟨p, q, e1⟩ := h1
  obtain ⟨p', q', e2⟩ := h2
  rw [bothR, e1, e2, bothB]
  split
  · exact ⟨_, rfl, truthV_k _⟩
  split
  · exact ⟨_, rfl, by decide⟩
  · exact ⟨_, rfl, truthV_k _⟩
theorem cmpR_k (c : Int) (x y : Vl) : (cmpR c x y).k ≠ 2 := by
  unfold cmpR
  split
  · decide
  · unfold askR2
    split
    · exact truthV_k _
    · decide
theorem safe_ok (a b c : Vl) : ∀ e : Ex, Wf e → (safeB e = true → ∃ v, evF a b c e = .ok v ∧ v.k ≠ 2) ∧ (plainC e = true → ∃ v, evF a b c e = .ok v)
  | .nil, h => h.elim
  | .node cd v nm l r, h => by
    rw [ev_wf h.1]
    refine ⟨fun hs => ?_, fun hp => ?_⟩
    · by_cases h1 : cd = 1
      · subst h1
        rw [if_pos rfl]
        exact ⟨v, rfl, by simpa [safeB] using hs⟩
      by_cases h2 : cd = 2
      · subst h2; simp [safeB] at hs
      by_cases h17 : cd = 17
      · rw [if_neg h1, if_neg h2, if_pos h17]
        exact ⟨_, rfl, truthV_k _⟩
      obtain ⟨wl, wr⟩ := h.2 h1 h2 h17
      rw [if_neg h1, if_neg h2, if_neg h17]
      have IL := safe_ok a b c l wl
      have PL : (safeB l || plainC l) = true → ∃ v, evF a b c l = .ok v := fun hh => by
        rcases Bool.or_eq_true_iff.1 hh with hh | hh
        · obtain ⟨v, e, _⟩ := IL.1 hh; exact ⟨v, e⟩
        · exact IL.2 hh
      by_cases h5 : cd = 5
      · subst h5
        obtain ⟨x, hx⟩ := PL (by simpa [safeB] using hs)
        rw [hx]
        exact ⟨_, rfl, truthV_k _⟩
      by_cases h4 : cd = 4
      · subst h4
        obtain ⟨x, hx, hk⟩ := IL.1 (by simpa [safeB] using hs)
        rw [hx]
        show ∃ v, notR x = .ok v ∧ v.k ≠ 2
        unfold notR
        split
        · exact ⟨_, rfl, truthV_k _⟩
        · first | exact ⟨_, rfl, by decide⟩ | (rw [if_neg hk]; exact ⟨_, rfl, by decide⟩)
      by_cases h3 : cd = 3
      · subst h3; simp [safeB] at hs
      have IR := safe_ok a b c r (wr h3 h4 h5)
      have PR : (safeB r || plainC r) = true → ∃ v, evF a b c r = .ok v := fun hh => by
        rcases Bool.or_eq_true_iff.1 hh with hh | hh
        · obtain ⟨v, e, _⟩ := IR.1 hh; exact ⟨v, e⟩
        · exact IR.2 hh
      by_cases hb : cd = 15 ∨ cd = 16
      · have hs2 : safeB l = true ∧ safeB r = true := by
          rw [safeB, if_neg h1, if_neg h17, if_neg h5, if_neg h4, if_pos hb] at hs
          exact Bool.and_eq_true_iff.1 hs
        obtain ⟨x, hx, hk⟩ := IL.1 hs2.1
        obtain ⟨y, hy, hk2⟩ := IR.1 hs2.2
        rw [hx, hy]
        show ∃ v, (if cd = 3 ∨ cd = 4 ∨ cd = 5 then oneR cd x else twoR cd x y) = .ok v ∧ v.k ≠ 2
        rw [if_neg (by omega), twoR, if_neg (by omega), if_pos hb]
        exact bothR_ok hk hk2
      · by_cases hc : cd = 9 ∨ cd = 10 ∨ cd = 11 ∨ cd = 12 ∨ cd = 13 ∨ cd = 14
        · have hs2 : (safeB l || plainC l) = true ∧ (safeB r || plainC r) = true := by
            rw [safeB, if_neg h1, if_neg h17, if_neg h5, if_neg h4, if_neg hb, if_pos hc] at hs
            exact Bool.and_eq_true_iff.1 hs
          obtain ⟨x, hx⟩ := PL hs2.1
          obtain ⟨y, hy⟩ := PR hs2.2
          rw [hx, hy]
          show ∃ v, (if cd = 3 ∨ cd = 4 ∨ cd = 5 then oneR cd x else twoR cd x y) = .ok v ∧ v.k ≠ 2
          rw [if_neg (by omega), twoR, if_neg (by omega), if_neg hb]
          exact ⟨_, rfl, cmpR_k _ _ _⟩
        · rw [safeB, if_neg h1, if_neg h17, if_neg h5, if_neg h4, if_neg hb, if_neg hc] at hs
          cases hs
    · have hp2 : cd = 1 ∨ cd = 2 := by simpa [plainC] using hp
      rcases hp2 with rfl | rfl
      · exact ⟨v, by rw [if_pos rfl]⟩
      · exact ⟨_, by rw [if_neg (by decide), if_pos rfl]; rfl⟩
/-- a value that holds -/
def HoldsV (x : Vl) : Prop := x.k = 1 ∧ x.n ≠ 0
theorem holds_iff (x : Vl) : (holdsR x).1 = true ↔ HoldsV x := by
  unfold holdsR HoldsV
  split
  · rename_i h; simp [h]
  · rename_i h
    split <;> simp [h]
theorem not_holds_none : ¬ HoldsV .none := fun h => by cases h.1
theorem holds_truth {b : Bool} (h : HoldsV (truthV b)) : b = true := by
  cases b with
  | true => rfl
  | false => exact absurd rfl h.2
theorem both_holds {x y v : Vl} (h : bothR 15 x y = .ok v) (hv : HoldsV v) : HoldsV x ∧ HoldsV y := by
  rw [← holds_iff x, ← holds_iff y]
  rw [bothR] at h
  generalize holdsR x = X at h ⊢
  generalize holdsR y = Y at h ⊢
  obtain ⟨p, q, o⟩ := X
  obtain ⟨p', q', o'⟩ := Y
  cases o with
  | some n => cases h
  | none =>
    cases o' with
    | some n => cases h
    | none =>
      rw [show ((15 : Int) == 16) = false from rfl, bothB] at h
      split at h
      · injection h with h; rw [← h] at hv; exact absurd (holds_truth hv) (by decide)
      · rename_i h1
        split at h
        · injection h with h; rw [← h] at hv; exact absurd hv not_holds_none
        · rename_i h2
          cases p <;> cases q <;> cases p' <;> cases q' <;> simp_all
theorem holds_parts (a b c : Vl) : ∀ (e : Ex) (x : Vl), evF a b c e = .ok x → HoldsV x → ∀ p ∈ partsF e, ∃ y, evF a b c p = .ok y ∧ HoldsV y
  | .nil, x, h, _, p, _ => by cases h
  | .node cd v nm l r, x, h, hv, p, hp => by
    by_cases hc : cd = 15
    · subst hc
      rw [partsF, if_pos rfl] at hp
      cases hf : formB (.node 15 v nm l r) with
      | false => unfold evF at h; rw [if_pos hf] at h; cases h
      | true =>
        rw [ev_wf hf, if_neg (by decide), if_neg (by decide), if_neg (by decide)] at h
        cases hl : evF a b c l with
        | error n => rw [hl] at h; cases h
        | ok x1 =>
          rw [hl] at h
          cases hr : evF a b c r with
          | error n => rw [hr] at h; cases h
          | ok y1 =>
            rw [hr] at h
            have h2 : bothR 15 x1 y1 = .ok x := h
            obtain ⟨k1, k2⟩ := both_holds h2 hv
            rcases List.mem_append.1 hp with hp | hp
            · exact holds_parts a b c l x1 hl k1 p hp
            · exact holds_parts a b c r y1 hr k2 p hp
    · rw [partsF, if_neg hc] at hp
      rw [List.mem_singleton.1 hp]
      exact ⟨x, h, hv⟩
theorem bl_asymm : ∀ (x y : List UInt8), Op.bytesLess x y = true → Op.bytesLess y x = false
  | _, [], h => by simp [Op.bytesLess] at h
  | [], _ :: _, _ => by simp [Op.bytesLess]
  | a :: x, b :: y, h => by
    simp only [Op.bytesLess, Bool.or_eq_true, decide_eq_true_eq, Bool.and_eq_true, beq_iff_eq] at h
    cases h2 : Op.bytesLess (b :: y) (a :: x) with
    | false => rfl
    | true =>
      simp only [Op.bytesLess, Bool.or_eq_true, decide_eq_true_eq, Bool.and_eq_true, beq_iff_eq] at h2
      rcases h with h | ⟨h, k⟩ <;> rcases h2 with h2 | ⟨h2, k2⟩
      · exact absurd h2 (by rw [UInt8.lt_iff_toNat_lt] at h ⊢; omega)
      · rw [h2] at h; exact absurd h (by rw [UInt8.lt_iff_toNat_lt]; omega)
      · rw [h] at h2; exact absurd h2 (by rw [UInt8.lt_iff_toNat_lt]; omega)
      · rw [bl_asymm x y k] at k2; cases k2
theorem bl_total : ∀ (x y : List UInt8), Op.bytesLess x y = false → x ≠ y → Op.bytesLess y x = true
  | [], [], _, h => absurd rfl h
  | _ :: _, [], _, _ => by simp [Op.bytesLess]
  | [], _ :: _, h, _ => by simp [Op.bytesLess] at h
  | a :: x, b :: y, h, hn => by
    simp only [Op.bytesLess, Bool.or_eq_false_iff, decide_eq_false_iff_not, Bool.and_eq_false_iff, beq_eq_false_iff_ne] at h
    simp only [Op.bytesLess, Bool.or_eq_true, decide_eq_true_eq, Bool.and_eq_true, beq_iff_eq]
    by_cases hab : a = b
    · subst hab
      refine Or.inr ⟨rfl, bl_total x y ?_ (fun e => hn (by rw [e]))⟩
      rcases h.2 with h2 | h2
      · exact absurd rfl h2
      · exact h2
    · refine Or.inl ?_
      have h1 := h.1
      have h3 : a.toNat ≠ b.toNat := fun e => hab (UInt8.toNat_inj.1 e)
      rw [UInt8.lt_iff_toNat_lt] at h1 ⊢
      omega
theorem bl_irr (x : List UInt8) : Op.bytesLess x x = false := by
  cases h : Op.bytesLess x x with
  | false => rfl
  | true => rw [bl_asymm x x h] at h; cases h
theorem cmpTx_anti (x y : ByteArray) : cmpTx y x = - cmpTx x y := by
  unfold cmpTx
  cases h1 : Op.bytesLess x.toList y.toList with
  | true =>
    have h2 := bl_asymm _ _ h1
    have h3 : (y.toList == x.toList) = false := by
      cases e : (y.toList == x.toList) with
      | false => rfl
      | true => rw [eq_of_beq e, bl_irr] at h1; cases h1
    rw [h2, h3]; rfl
  | false =>
    cases h4 : (x.toList == y.toList) with
    | true =>
      have e := eq_of_beq h4
      rw [e, bl_irr]
      simp
    | false =>
      have h2 := bl_total _ _ h1 (by intro e; rw [e] at h4; simp at h4)
      rw [h2]; rfl
theorem cmpI_anti (x y : Int) : cmpI y x = - cmpI x y := by
  unfold cmpI
  by_cases h1 : x < y
  · rw [if_neg (by omega), if_pos h1, if_pos h1]; rfl
  · by_cases h2 : y < x
    · rw [if_pos h2, if_neg h1, if_pos h2]
    · rw [if_neg h2, if_neg h1, if_neg h1, if_neg h2]; rfl
theorem comp_anti (x y : Vl) : compV y x = - compV x y := by
  unfold compV
  by_cases h1 : x.k = y.k
  · by_cases h2 : x.n = y.n
    · rw [if_neg (by simp [h1]), if_neg (by simp [h2]), if_neg (by simp [h1]), if_neg (by simp [h2])]; exact cmpTx_anti _ _
    · rw [if_neg (by simp [h1]), if_pos (fun e => h2 e.symm), if_neg (by simp [h1]), if_pos h2]; exact cmpI_anti _ _
  · rw [if_pos (fun e => h1 e.symm), if_pos h1]; exact cmpI_anti _ _
/-- how a value stands to one that is asked -/
def RelC (cd : Int) (o : Int) : Prop := (cd = 9 → o = 0) ∧ (cd = 11 → o < 0) ∧ (cd = 12 → o ≤ 0) ∧ (cd = 13 → 0 < o) ∧ (cd = 14 → 0 ≤ o)
theorem cmp_holds {cd : Int} {x y : Vl} (h : HoldsV (cmpR cd x y)) : x.k ≠ 0 ∧ y.k ≠ 0 ∧ RelC cd (compV x y) := by
  unfold cmpR at h
  split at h
  · exact absurd h not_holds_none
  · rename_i hk
    refine ⟨fun e => hk (Or.inl e), fun e => hk (Or.inr e), ?_⟩
    generalize compV x y = o at h
    refine ⟨?_, ?_, ?_, ?_, ?_⟩ <;> intro hc <;> subst hc
    · have h2 := holds_truth (b := askB o (9, false, true, false)) h
      simpa [askB] using h2
    · have h2 := holds_truth (b := askB o (11, true, false, false)) h
      simpa [askB] using h2
    · have h2 := holds_truth (b := askB o (12, true, true, false)) h
      simp [askB] at h2
      omega
    · have h2 := holds_truth (b := askB o (13, false, false, true)) h
      simpa [askB] using h2
    · have h2 := holds_truth (b := askB o (14, false, true, true)) h
      simp [askB] at h2
      omega
theorem rel_turn {cd : Int} {x y : Vl} (h : RelC cd (compV x y)) : RelC (turnI cd) (compV y x) := by
  rw [comp_anti x y]
  obtain ⟨h9, h11, h12, h13, h14⟩ := h
  unfold turnI
  by_cases e1 : cd = 11
  · rw [if_pos e1]; have := h11 e1; refine ⟨?_, ?_, ?_, ?_, ?_⟩ <;> intro _ <;> omega
  by_cases e2 : cd = 12
  · rw [if_neg e1, if_pos e2]; have := h12 e2; refine ⟨?_, ?_, ?_, ?_, ?_⟩ <;> intro _ <;> omega
  by_cases e3 : cd = 13
  · rw [if_neg e1, if_neg e2, if_pos e3]; have := h13 e3; refine ⟨?_, ?_, ?_, ?_, ?_⟩ <;> intro _ <;> omega
  by_cases e4 : cd = 14
  · rw [if_neg e1, if_neg e2, if_neg e3, if_pos e4]; have := h14 e4; refine ⟨?_, ?_, ?_, ?_, ?_⟩ <;> intro _ <;> omega
  rw [if_neg e1, if_neg e2, if_neg e3, if_neg e4]
  refine ⟨fun e => by have := h9 e; omega, fun e => absurd e e1, fun e => absurd e e2, fun e => absurd e e3, fun e => absurd e e4⟩
theorem asks_turn {cd : Int} (h : asksB (turnI cd) = true) : asksB cd = true := by
  unfold turnI at h
  by_cases e1 : cd = 11
  · subst e1; rfl
  by_cases e2 : cd = 12
  · subst e2; rfl
  by_cases e3 : cd = 13
  · subst e3; rfl
  by_cases e4 : cd = 14
  · subst e4; rfl
  rwa [if_neg e1, if_neg e2, if_neg e3, if_neg e4] at h
theorem asks_code {cd : Int} (h : asksB cd = true) : 9 ≤ cd ∧ cd ≤ 14 ∧ cd ≠ 10 := by
  simp [asksB] at h
  omega
/-- own columns of the law's table -/
theorem preT {nm : ByteArray} (h : preB nm ⟨#[116, 46]⟩ = true) (c : UInt8) : (([c] : List UInt8) == nm.toList) = false := by
  have h1 := preB_size h
  have h2 : (⟨#[116, 46]⟩ : ByteArray).size = 2 := rfl
  cases e : (([c] : List UInt8) == nm.toList) with
  | false => rfl
  | true =>
    have h3 := congrArg List.length (eq_of_beq e)
    rw [ByteArray.toList_eq, ba_len] at h3
    simp at h3
    omega
theorem own3 {a b c : Vl} {nm : ByteArray} (h : 0 ≤ ownN C3 nm) : colV a b c nm = pickV a b c (ownN C3 nm) := by
  unfold ownN at h ⊢
  unfold colV
  split
  · rfl
  · rename_i h1
    rw [if_neg h1] at h
    cases hp : preB nm ⟨#[116, 46]⟩ with
    | false => rw [cutB, hp]; rfl
    | true =>
      have e : placeF C3 nm = -1 := by
        have e1 : (⟨#[97]⟩ : ByteArray).toList = [97] := by rw [ByteArray.toList_eq]
        have e2 : (⟨#[98]⟩ : ByteArray).toList = [98] := by rw [ByteArray.toList_eq]
        have e3 : (⟨#[99]⟩ : ByteArray).toList = [99] := by rw [ByteArray.toList_eq]
        unfold placeF C3
        simp only [placeD, e1, e2, e3, preT hp 97, preT hp 98, preT hp 99]
        rfl
      rw [e] at h
      omega
theorem own3_name {a b c : Vl} {i : Int} (h : i = 0 ∨ i = 1 ∨ i = 2 ∨ i = -1) (h0 : 0 ≤ i) : colV a b c (nameAt C3 i) = pickV a b c i := by
  rcases h with rfl | rfl | rfl | rfl
  · kernel_rfl
  · kernel_rfl
  · kernel_rfl
  · omega
theorem ownN_cases (nm : ByteArray) : ownN C3 nm = 0 ∨ ownN C3 nm = 1 ∨ ownN C3 nm = 2 ∨ ownN C3 nm = -1 := by
  unfold ownN
  split <;> exact place3 _
theorem own_col {a b c : Vl} {e : Ex} (h : 0 ≤ ownF C3 e) : ∃ v nm l r, e = .node 2 v nm l r ∧ colV a b c (nameAt C3 (ownF C3 e)) = colV a b c nm := by
  cases e with
  | nil => simp [ownF] at h
  | node cd v nm l r =>
    by_cases hc : cd = 2
    · subst hc
      have e1 : ownF C3 (.node 2 v nm l r) = ownN C3 nm := by rw [ownF, if_pos rfl]
      rw [e1] at h ⊢
      exact ⟨v, nm, l, r, rfl, by rw [own3_name (ownN_cases nm) h, own3 h]⟩
    · have e1 : ownF C3 (.node cd v nm l r) = -1 := by rw [ownF, if_neg hc]
      rw [e1] at h
      omega
/-- what a part that asks says of the column, if it holds -/
def Says (w : Vl) (k : Ak) : Prop := w.k ≠ 0 ∧ RelC k.cd (compV w k.vl) ∧ asksB k.cd = true
theorem askG_some {cd : Int} {col lit : Ex} {k : Ak} (h : pAskG C3 I3 cd col lit = some k) : 0 ≤ ownF C3 col ∧ asksB cd = true ∧ ∃ v nm l r, lit = .node 1 v nm l r ∧ k = ⟨cd, nameAt C3 (ownF C3 col), v⟩ := by
  cases lit with
  | nil => cases h
  | node c v nm l r =>
    rw [pAskG] at h
    split at h
    · cases h
    · rename_i hn
      injection h with h
      refine ⟨Int.not_lt.1 (fun e => hn (Or.inl e)), ?_, v, nm, l, r, ?_, h.symm⟩
      · cases e : asksB cd with
        | true => rfl
        | false => exact absurd (Or.inr (Or.inl e)) hn
      · by_cases hc : c = 1
        · rw [hc]
        · exact absurd (Or.inr (Or.inr (Or.inl hc))) hn
theorem ev_ask {a b c : Vl} {cd : Int} {v : Vl} {nm : ByteArray} {l r : Ex} {x y z : Vl} (hcd : 9 ≤ cd ∧ cd ≤ 14) (hx : evF a b c l = .ok x) (hy : evF a b c r = .ok y) (h : evF a b c (.node cd v nm l r) = .ok z) : z = cmpR cd x y := by
  rw [ev_wf (formB_two (by omega) (by omega)), if_neg (by omega), if_neg (by omega), if_neg (by omega), hx, hy] at h
  have h2 : (if cd = 3 ∨ cd = 4 ∨ cd = 5 then oneR cd x else twoR cd x y) = .ok z := h
  rw [if_neg (by omega), twoR, if_neg (by omega), if_neg (by omega)] at h2
  injection h2 with h2
  exact h2.symm
theorem ev_litP {a b c v : Vl} {nm : ByteArray} {l r : Ex} : evF a b c (.node 1 v nm l r) = .ok v := by
  rw [ev_wf (formB_two (by decide) (by decide)), if_pos rfl]
theorem ev_colP {a b c v : Vl} {nm : ByteArray} {l r : Ex} : evF a b c (.node 2 v nm l r) = .ok (colV a b c nm) := by
  rw [ev_wf (formB_two (by decide) (by decide)), if_neg (by decide), if_pos rfl]; rfl
theorem ask_says {a b c : Vl} {e : Ex} {k : Ak} {y : Vl} (h : pAskF C3 I3 e = some k) (he : evF a b c e = .ok y) (hv : HoldsV y) : Says (colV a b c k.cl) k := by
  cases e with
  | nil => cases h
  | node cd v nm l r =>
    rw [pAskF] at h
    split at h
    · obtain ⟨h1, h2, v', nm', l', r', rfl, rfl⟩ := askG_some h
      obtain ⟨v2, nm2, l2, r2, rfl, h3⟩ := own_col (a := a) (b := b) (c := c) h1
      have hc := asks_code (asks_turn h2)
      have hz := ev_ask ⟨hc.1, hc.2.1⟩ ev_litP ev_colP he
      subst hz
      obtain ⟨k1, k2, k3⟩ := cmp_holds hv
      refine ⟨?_, ?_, h2⟩
      · show (colV a b c (nameAt C3 _)).k ≠ 0
        rw [h3]; exact k2
      · show RelC (turnI cd) (compV (colV a b c (nameAt C3 _)) v')
        rw [h3]; exact rel_turn k3
    · obtain ⟨h1, h2, v', nm', l', r', rfl, rfl⟩ := askG_some h
      obtain ⟨v2, nm2, l2, r2, rfl, h3⟩ := own_col (a := a) (b := b) (c := c) h1
      have hc := asks_code h2
      have hz := ev_ask ⟨hc.1, hc.2.1⟩ ev_colP ev_litP he
      subst hz
      obtain ⟨k1, k2, k3⟩ := cmp_holds hv
      refine ⟨?_, ?_, h2⟩
      · show (colV a b c (nameAt C3 _)).k ≠ 0
        rw [h3]; exact k1
      · show RelC cd (compV (colV a b c (nameAt C3 _)) v')
        rw [h3]; exact k3
/-- a plan -/
structure Pln where
  kd : Int
  cl : ByteArray
  lo : Option Vl
  hi : Option Vl
  tx : ByteArray
def planZ : Pln := ⟨0, ⟨#[]⟩, none, none, ⟨#[]⟩⟩
def leftOf : Ex → Ex
  | .nil => .nil
  | .node _ _ _ l _ => l
def textOf : Ex → ByteArray
  | .nil => ⟨#[]⟩
  | .node _ v _ _ _ => v.t
def betStep (cl : ByteArray) (s : Option Vl × Option Vl) (a : Ak) : Option Vl × Option Vl :=
  if (a.cl.toList != cl.toList) = true then s else if s.1.isNone = true ∧ (a.cd = 13 ∨ a.cd = 14) then (some a.vl, s.2) else if s.2.isNone = true ∧ (a.cd = 11 ∨ a.cd = 12) then (s.1, some a.vl) else s
def betF : List Ak → Pln
  | [] => planZ
  | a :: L => ⟨1, a.cl, ((a :: L).foldl (betStep a.cl) (none, none)).1, ((a :: L).foldl (betStep a.cl) (none, none)).2, ⟨#[]⟩⟩
def isEqA (a : Ak) : Bool := a.cd == 9
def isMat (C : List Cl) (e : Ex) : Bool := e.code == 17 && decide (0 ≤ ownF C (leftOf e))
def chooseF (C : List Cl) (I : List ByteArray) (e : Ex) : Pln := if safeB e = false then planZ else match (asksF C I (partsF e)).find? isEqA with
  | some a => ⟨1, a.cl, some a.vl, some a.vl, ⟨#[]⟩⟩
  | none => match (partsF e).find? (isMat C) with
    | some p => ⟨2, nameAt C (ownF C (leftOf p)), none, none, textOf p⟩
    | none => betF (asksF C I (partsF e))
theorem bet_says {w : ByteArray → Vl} (cl : ByteArray) (L : List Ak) (h : ∀ k ∈ L, Says (w k.cl) k) : ∀ s : Option Vl × Option Vl, (∀ v, s.1 = some v → 0 ≤ compV (w cl) v) → (∀ v, s.2 = some v → compV (w cl) v ≤ 0) → (∀ v, (L.foldl (betStep cl) s).1 = some v → 0 ≤ compV (w cl) v) ∧ (∀ v, (L.foldl (betStep cl) s).2 = some v → compV (w cl) v ≤ 0) := by
  induction L with
  | nil => intro s h1 h2; exact ⟨h1, h2⟩
  | cons k L ih =>
    intro s h1 h2
    rw [List.foldl_cons]
    have hk := h k (List.mem_cons_self)
    have hL : ∀ k ∈ L, Says (w k.cl) k := fun j hj => h j (List.mem_cons_of_mem _ hj)
    unfold betStep
    split
    · exact ih hL s h1 h2
    · rename_i hcl
      have e : k.cl = cl := by
        have : (k.cl.toList == cl.toList) = true := by simpa using hcl
        rw [ba_beq] at this
        exact of_decide_eq_true this
      rw [e] at hk
      obtain ⟨_, ⟨_, r11, r12, r13, r14⟩, _⟩ := hk
      split
      · rename_i hc
        refine ih hL _ (fun v hv => ?_) h2
        injection hv with hv
        subst hv
        rcases hc.2 with hc | hc
        · have := r13 hc; omega
        · exact r14 hc
      · split
        · rename_i hc
          refine ih hL _ h1 (fun v hv => ?_)
          injection hv with hv
          subst hv
          rcases hc.2 with hc | hc
          · have := r11 hc; omega
          · exact r12 hc
        · exact ih hL s h1 h2
/-- WHAT HOLDS IS FOUND -/
def FoundBy (a b c : Vl) (p : Pln) : Prop := p.kd = 0 ∨ (p.kd = 2 ∧ ((colV a b c p.cl).t.toList == p.tx.toList) = true) ∨ (p.kd = 1 ∧ (colV a b c p.cl).k ≠ 0 ∧ (∀ v, p.lo = some v → 0 ≤ compV (colV a b c p.cl) v) ∧ (∀ v, p.hi = some v → compV (colV a b c p.cl) v ≤ 0))
theorem what_holds (a b c : Vl) (e : Ex) (x : Vl) (he : evF a b c e = .ok x) (hv : HoldsV x) : FoundBy a b c (chooseF C3 I3 e) := by
  have hp := holds_parts a b c e x he hv
  have hS : ∀ k ∈ asksF C3 I3 (partsF e), Says (colV a b c k.cl) k := fun k hk => by
    obtain ⟨p, h1, h2⟩ := List.mem_filterMap.1 hk
    obtain ⟨y, h3, h4⟩ := hp p h1
    exact ask_says h2 h3 h4
  unfold chooseF
  split
  · exact Or.inl rfl
  split
  · rename_i k hk
    have h1 := hS k (List.mem_of_find?_eq_some hk)
    have h2 : k.cd = 9 := by have := List.find?_some hk; simpa [isEqA] using this
    have h3 := h1.2.1.1 h2
    refine Or.inr (Or.inr ⟨rfl, h1.1, fun v hv => ?_, fun v hv => ?_⟩)
    · injection hv with hv; subst hv; show 0 ≤ compV (colV a b c k.cl) k.vl; omega
    · injection hv with hv; subst hv; show compV (colV a b c k.cl) k.vl ≤ 0; omega
  · split
    · rename_i p hpm
      have h1 : isMat C3 p = true := List.find?_some hpm
      obtain ⟨y, h3, h4⟩ := hp p (List.mem_of_find?_eq_some hpm)
      refine Or.inr (Or.inl ⟨rfl, ?_⟩)
      cases p with
      | nil => cases h3
      | node cd v nm l r =>
        unfold isMat at h1
        obtain ⟨h5, h6⟩ := Bool.and_eq_true_iff.1 h1
        obtain rfl : cd = 17 := by have := eq_of_beq h5; exact this
        have h7 : 0 ≤ ownF C3 l := of_decide_eq_true h6
        obtain ⟨v2, nm2, l2, r2, rfl, h8⟩ := own_col (a := a) (b := b) (c := c) h7
        have h9 : evF a b c (.node 17 v nm (.node 2 v2 nm2 l2 r2) r) = .ok (truthV ((colV a b c nm2).t.toList == v.t.toList)) := by
          rw [ev_wf rfl, if_neg (by decide), if_neg (by decide), if_pos rfl]; rfl
        rw [h9] at h3
        injection h3 with h3
        rw [← h3] at h4
        show ((colV a b c (nameAt C3 (ownF C3 (.node 2 v2 nm2 l2 r2)))).t.toList == v.t.toList) = true
        rw [h8]
        exact holds_truth h4
    · cases hL : asksF C3 I3 (partsF e) with
      | nil => exact Or.inl rfl
      | cons k L =>
        rw [hL] at hS
        have h1 := bet_says (w := colV a b c) k.cl (k :: L) hS (none, none) (fun v hv => by cases hv) (fun v hv => by cases hv)
        exact Or.inr (Or.inr ⟨rfl, (hS k List.mem_cons_self).1, h1.1, h1.2⟩)
end Go.Proofs.YtmabfbffpedfnaaGreatDoor
