/- Part 14 of 35. -/
import Derived.Test.YtbdcbaamjkjhaaaGreatDoorH13
namespace Go.Proofs.YtbdcbaamjkjhaaaGreatDoor
open Go.RowKit

def setT (e : Ex) : List UInt8 := match e with
  | .nil => []
  | .node _ _ nm x _ => nm.data.toList ++ [32, 61, 32] ++ prN 1 x
set_option maxRecDepth 100000 in
set_option maxHeartbeats 400000 in
theorem wset_node {c : Int} {v : Vl} {nm : ByteArray} {x y : Ex} (hx : TreeOk x) : ∀ (b B : Nat) (l : List UInt8) (w : World), WS b l w → TrAt b w (some ⟨B, 0, none⟩) (.node c v nm x y) → l.length + (setT (.node c v nm x y)).length ≤ 1000000 → Calls Tryz.prog 61 #[.pointer (some ⟨b, 0, none⟩), .pointer (some ⟨B, 0, none⟩)] w fun r w' => Puts b l (setT (.node c v nm x y)) w r w' := by
  have HEx : Hid (ESp x) := (wexpr_all x hx).1
  clear hx
  intro b B l w hw ht hl
  obtain ⟨R, hR⟩ : ∃ R, setT (.node c v nm x y) = R := ⟨_, rfl⟩
  rw [hR] at hl ⊢
  have H0 : Hid (WS b l w ∧ TrAt b w (some ⟨B, 0, none⟩) (.node c v nm x y) ∧ WK b w w) := ⟨hw, ht, WK.refl _ _⟩
  have HL0 : Hid (l.length + R.length ≤ 1000000) := hl
  have HR0 : Hid (R = setT (.node c v nm x y)) := hR.symm
  clear hw ht hl hR
  go_enter Tryz.func61, Tryz.ntmps61
  have HR : Hid (R = nm.data.toList ++ [32, 61, 32] ++ prN 1 x) := HR0.out
  have HL : Hid (l.length + (nm.data.toList ++ [32, 61, 32] ++ prN 1 x).length ≤ 1000000) := by show _ ≤ _; rw [← HR.out]; exact HL0.out
  clear HR0 HL0
  obtain ⟨B0, pl3, pr4, e0, hk0, hx0, hy0⟩ := H0.out.2.1.node
  obtain rfl : B = B0 := by injection e0 with e0; injection e0
  have z0w : w.cell? ⟨B, 0, none⟩ = some (.int .i64 c) := by rw [hk0.cell 0]; rfl
  have z1w : w.cell? ⟨B, 1, none⟩ = some (.int .i64 v.k) := by rw [hk0.cell 1]; rfl
  have z2w : w.cell? ⟨B, 2, none⟩ = some (.int .i64 v.n) := by rw [hk0.cell 2]; rfl
  have z3w : w.cell? ⟨B, 3, none⟩ = some (.string v.t) := by rw [hk0.cell 3]; rfl
  have z4w : w.cell? ⟨B, 4, none⟩ = some (.string nm) := by rw [hk0.cell 4]; rfl
  have z5w : w.cell? ⟨B, 5, none⟩ = some (.pointer pl3) := by rw [hk0.cell 5]; rfl
  have z6w : w.cell? ⟨B, 6, none⟩ = some (.pointer pr4) := by rw [hk0.cell 6]; rfl
  have HX1 : Hid (TrAt b w pl3 x) := hx0
  have HY2 : Hid (TrAt b w pr4 y) := hy0
  clear hk0 hx0 hy0 e0
  go_wp2_with fail
  refine (put2 b _ nm ⟨#[32, 61, 32]⟩ w H0.out.1 (by have h9 := HL.out; (try simp at h9 ⊢); omega)).mono ?_
  rintro _ w5 ⟨rfl, h2, h3⟩
  have H6 : Hid (WS b (l ++ (nm.data.toList ++ [32, 61, 32])) w5 ∧ TrAt b w5 (some ⟨B, 0, none⟩) (.node c v nm x y) ∧ WK b w w5) := ⟨h2, H0.out.2.1.keep h3.below, H0.out.2.2.trans h3⟩
  clear h2 h3
  obtain ⟨B0, pl9, pr10, e0, hk0, hx0, hy0⟩ := H6.out.2.1.node
  obtain rfl : B = B0 := by injection e0 with e0; injection e0
  have z0w5 : w5.cell? ⟨B, 0, none⟩ = some (.int .i64 c) := by rw [hk0.cell 0]; rfl
  have z1w5 : w5.cell? ⟨B, 1, none⟩ = some (.int .i64 v.k) := by rw [hk0.cell 1]; rfl
  have z2w5 : w5.cell? ⟨B, 2, none⟩ = some (.int .i64 v.n) := by rw [hk0.cell 2]; rfl
  have z3w5 : w5.cell? ⟨B, 3, none⟩ = some (.string v.t) := by rw [hk0.cell 3]; rfl
  have z4w5 : w5.cell? ⟨B, 4, none⟩ = some (.string nm) := by rw [hk0.cell 4]; rfl
  have z5w5 : w5.cell? ⟨B, 5, none⟩ = some (.pointer pl9) := by rw [hk0.cell 5]; rfl
  have z6w5 : w5.cell? ⟨B, 6, none⟩ = some (.pointer pr10) := by rw [hk0.cell 6]; rfl
  have HX7 : Hid (TrAt b w5 pl9 x) := hx0
  have HY8 : Hid (TrAt b w5 pr10 y) := hy0
  clear hk0 hx0 hy0 e0
  go_wp2_with fail
  refine (HEx.out b pl9 1 _ w5 H6.out.1 HX7.out (by have h9 := HL.out; (try simp at h9 ⊢); omega)).mono ?_
  rintro _ w11 ⟨rfl, h2, h3⟩
  have H12 : Hid (WS b (l ++ (nm.data.toList ++ [32, 61, 32]) ++ prN 1 x) w11 ∧ TrAt b w11 (some ⟨B, 0, none⟩) (.node c v nm x y) ∧ WK b w w11) := ⟨h2, H6.out.2.1.keep h3.below, H6.out.2.2.trans h3⟩
  clear h2 h3
  have HQ : Hid (WS b (l ++ R) w11 ∧ WK b w w11) := ⟨by rw [HR.out]; simpa [List.append_assoc] using H12.out.1, H12.out.2.2⟩
  go_wp2
  go_end0
  exact ⟨rfl, HQ.out.1, HQ.out.2⟩
set_option maxRecDepth 100000 in
set_option maxHeartbeats 400000 in
theorem wset_any (e : Ex) (he : TreeOk e) (b : Nat) (p : Option Addr) (l : List UInt8) (w : World) (hw : WS b l w) (ht : TrAt b w p e) (hl : l.length + (setT e).length ≤ 1000000) :
    Calls Tryz.prog 61 #[.pointer (some ⟨b, 0, none⟩), .pointer p] w fun r w' => Puts b l (setT e) w r w' := by
  cases e with
  | nil =>
    obtain rfl := ht.nil
    have HW : Hid (WS b l w) := hw
    clear hw ht hl he
    go_enter Tryz.func61, Tryz.ntmps61
    go_wp2
    go_end0
    exact ⟨rfl, by rw [show setT .nil = [] from rfl, List.append_nil]; exact HW.out, WK.refl _ _⟩
  | node c v nm x y =>
    obtain ⟨B, pl, pr, rfl, _, _, _⟩ := ht.node
    exact wset_node he.2.1 b B l w hw ht hl
end Go.Proofs.YtbdcbaamjkjhaaaGreatDoor
namespace Go.Proofs.YtbdcbaamjkjhaaaGreatDoor
open Go.RowKit

/-- a row of things that lay there before the writer -/
def RowG {α : Type} (b sz : Nat) (El : α → Nat → Nat → World → Prop) (w : World) (a : Option Addr) (L : List α) : Prop := L = [] ∨ ∃ g off, a = some ⟨g, off, none⟩ ∧ g < b ∧ ∀ j (h : j < L.length), El L[j] g (off + j * sz) w
def Keeps {α : Type} (b : Nat) (El : α → Nat → Nat → World → Prop) : Prop := ∀ x g o w w', g < b → Below b w w' → El x g o w → El x g o w'
theorem RowG.keep {α : Type} {b sz : Nat} {El : α → Nat → Nat → World → Prop} (hE : Keeps b El) {w w' : World} {a : Option Addr} {L : List α} (h : RowG b sz El w a L) (k : Below b w w') : RowG b sz El w' a L := by
  rcases h with h | ⟨g, off, e, hg, h⟩
  · exact .inl h
  · exact .inr ⟨g, off, e, hg, fun j hj => hE _ _ _ _ _ hg k (h j hj)⟩
structure StI {α : Type} (f : SV → Value) (b q r sz : Nat) (El : α → Nat → Nat → World → Prop) (sv : SV) (a : Option Addr) (c : Nat) (L : List α) (w : World) : Prop where
  wr : Blk q #[.pointer (some ⟨b, 0, none⟩)] 110 w
  st : Blk r sv.cells 30 w
  sl : f sv = .slice a L.length c
  row : RowG b sz El w a L
  q0 : b < q ∧ b < r
theorem StI.kept {α : Type} {f : SV → Value} {b q r sz : Nat} {El : α → Nat → Nat → World → Prop} (hE : Keeps b El) {sv : SV} {a : Option Addr} {c : Nat} {L : List α} : ∀ u u', StI f b q r sz El sv a c L u → WK b u u' → StI f b q r sz El sv a c L u' := fun _ _ h k =>
  ⟨k.blk h.wr (by have := h.q0; omega) (by decide), k.blk h.st (by have := h.q0; omega) (by decide), h.sl, h.row.keep hE k.below, h.q0⟩
def ElW3 (b : Nat) (x : Ex) (g o : Nat) (w : World) : Prop := ∃ p, w.cell? ⟨g, o, none⟩ = some (.pointer p) ∧ TrAt b w p x
theorem ElW3.keeps (b : Nat) : Keeps b (ElW3 b) := fun _ g _ _ _ hg kb h => by
  obtain ⟨p, h1, h2⟩ := h
  exact ⟨p, (kb.cell (p := ⟨g, _, none⟩) hg).trans h1, h2.keep kb⟩
set_option maxRecDepth 100000 in
set_option maxHeartbeats 4000000 in
theorem cl_w3 {b q r : Nat} {sv : SV} {a : Option Addr} {c : Nat} {L : List Ex} (hL : ∀ x ∈ L, TreeOk x) : CSp 60 b L.length ⟨q, 0, none⟩ ⟨r, 0, none⟩ (StI (·.sets) b q r 1 (ElW3 b) sv a c L) (fun i => (fun x : Ex => setT x) (L.getD i .nil)) := by
  intro i l w hi hw hI hl
  have e0 : L.getD i .nil = L[i] := by simp [List.getD, hi]
  obtain ⟨x, hx⟩ : ∃ x, L[i] = x := ⟨_, rfl⟩
  simp only [e0, hx] at hl ⊢
  have HO : Hid (TreeOk x) := hL x (by rw [← hx]; exact List.getElem_mem hi)
  rcases hI.row with h | ⟨g, off, rfl, hg, hr⟩
  · subst h; exact absurd hi (by simp)
  have hr' := hr i hi
  rw [hx] at hr'
  obtain ⟨p, h1, h2⟩ := hr'
  have hsl : sv.sets = .slice (some ⟨g, off, none⟩) L.length c := hI.sl
  have z0 : w.drew.cell? ⟨q, 0, none⟩ = some (.pointer (some ⟨b, 0, none⟩)) := by rw [show w.drew.cell? ⟨q, 0, none⟩ = w.cell? ⟨q, 0, none⟩ from rfl, hI.wr.cell 0]; rfl
  have z1 : w.drew.cell? ⟨r, 6, none⟩ = some (.slice (some ⟨g, off, none⟩) L.length c) := by rw [show w.drew.cell? ⟨r, 6, none⟩ = w.cell? ⟨r, 6, none⟩ from rfl, hI.st.cell 6, ← hsl]; rfl
  have z3 : w.drew.cell? ⟨g, off + i, none⟩ = some (.pointer p) := by have h5 := h1; rw [Nat.mul_one] at h5; exact h5
  have hi' : (i : Int) < (L.length : Int) := by omega
  obtain ⟨R, hR⟩ : ∃ R, setT x = R := ⟨_, rfl⟩
  have HR : Hid (setT x = R) := hR
  have H0 : Hid (WS b l w.drew ∧ TrAt b w.drew p x ∧ l.length + (setT x).length ≤ 1000000) := ⟨hw.below ((Below.refl _ _).drew), h2.keep ((Below.refl _ _).drew), hl⟩
  rw [hR]
  clear hw hI hl hr hL e0 hsl hx hR h1 h2
  go_enter Tryz.func60, Tryz.ntmps60
  go_region_law (go_wp2_with (go_at_call 61; refine Calls.mono (wset_any x HO.out b p l _ H0.out.1 H0.out.2.1 H0.out.2.2) ?_; rintro _ w1 ⟨rfl, h2, h3⟩; have H1 : Hid (WS b (l ++ R) w1 ∧ WK b w w1) := ⟨by rw [← HR.out]; exact h2, (WK.refl b w).drew.trans h3⟩; clear h2 h3))
  all_goals
    go_end0
    exact ⟨rfl, H1.out.1, H1.out.2⟩
def ElWI (b : Nat) (x : (Int × Ex)) (g o : Nat) (w : World) : Prop := ∃ p, w.cell? ⟨g, o, none⟩ = some (.int .i64 x.1) ∧ w.cell? ⟨g, o + 1, none⟩ = some (.pointer p) ∧ TrAt b w p x.2
theorem ElWI.keeps (b : Nat) : Keeps b (ElWI b) := fun _ g _ _ _ hg kb h => by
  obtain ⟨p, h1, h2, h3⟩ := h
  exact ⟨p, (kb.cell (p := ⟨g, _, none⟩) hg).trans h1, (kb.cell (p := ⟨g, _, none⟩) hg).trans h2, h3.keep kb⟩
set_option maxRecDepth 100000 in
set_option maxHeartbeats 4000000 in
theorem cl_wi {b q r : Nat} {sv : SV} {a : Option Addr} {c : Nat} {L : List (Int × Ex)} (hL : ∀ x ∈ L, TreeOk x.2) : CSp 101 b L.length ⟨q, 0, none⟩ ⟨r, 0, none⟩ (StI (·.items) b q r 2 (ElWI b) sv a c L) (fun i => (fun x : (Int × Ex) => itemT x.1 x.2) (L.getD i (0, .nil))) := by
  intro i l w hi hw hI hl
  have e0 : L.getD i (0, .nil) = L[i] := by simp [List.getD, hi]
  obtain ⟨x, hx⟩ : ∃ x, L[i] = x := ⟨_, rfl⟩
  simp only [e0, hx] at hl ⊢
  have HO : Hid (TreeOk x.2) := hL x (by rw [← hx]; exact List.getElem_mem hi)
  rcases hI.row with h | ⟨g, off, rfl, hg, hr⟩
  · subst h; exact absurd hi (by simp)
  have hr' := hr i hi
  rw [hx] at hr'
  obtain ⟨p, h1, h2, h3⟩ := hr'
  have hsl : sv.items = .slice (some ⟨g, off, none⟩) L.length c := hI.sl
  have z0 : w.drew.cell? ⟨q, 0, none⟩ = some (.pointer (some ⟨b, 0, none⟩)) := by rw [show w.drew.cell? ⟨q, 0, none⟩ = w.cell? ⟨q, 0, none⟩ from rfl, hI.wr.cell 0]; rfl
  have z1 : w.drew.cell? ⟨r, 9, none⟩ = some (.slice (some ⟨g, off, none⟩) L.length c) := by rw [show w.drew.cell? ⟨r, 9, none⟩ = w.cell? ⟨r, 9, none⟩ from rfl, hI.st.cell 9, ← hsl]; rfl
  have z3 : w.drew.cell? ⟨g, off + i * 2, none⟩ = some (.int .i64 x.1) := h1
  have z4 : w.drew.cell? ⟨g, off + i * 2 + 1, none⟩ = some (.pointer p) := h2
  have hi' : (i : Int) < (L.length : Int) := by omega
  obtain ⟨R, hR⟩ : ∃ R, itemT x.1 x.2 = R := ⟨_, rfl⟩
  have HR : Hid (itemT x.1 x.2 = R) := hR
  have H0 : Hid (WS b l w.drew ∧ TrAt b w.drew p x.2 ∧ l.length + (itemT x.1 x.2).length ≤ 1000000) := ⟨hw.below ((Below.refl _ _).drew), h3.keep ((Below.refl _ _).drew), hl⟩
  rw [hR]
  clear hw hI hl hr hL e0 hsl hx hR h1 h2 h3
  go_enter Tryz.func101, Tryz.ntmps101
  go_region_law (go_wp2_with (go_at_call 102; refine Calls.mono (witem_any x.2 HO.out x.1 b p l _ H0.out.1 H0.out.2.1 H0.out.2.2) ?_; rintro _ w1 ⟨rfl, h2, h3⟩; have H1 : Hid (WS b (l ++ R) w1 ∧ WK b w w1) := ⟨by rw [← HR.out]; exact h2, (WK.refl b w).drew.trans h3⟩; clear h2 h3))
  all_goals
    go_end0
    exact ⟨rfl, H1.out.1, H1.out.2⟩
def ElWO (b : Nat) (x : (Ex × Bool)) (g o : Nat) (w : World) : Prop := ∃ p, w.cell? ⟨g, o, none⟩ = some (.pointer p) ∧ w.cell? ⟨g, o + 1, none⟩ = some (.bool x.2) ∧ TrAt b w p x.1
theorem ElWO.keeps (b : Nat) : Keeps b (ElWO b) := fun _ g _ _ _ hg kb h => by
  obtain ⟨p, h1, h2, h3⟩ := h
  exact ⟨p, (kb.cell (p := ⟨g, _, none⟩) hg).trans h1, (kb.cell (p := ⟨g, _, none⟩) hg).trans h2, h3.keep kb⟩
set_option maxRecDepth 100000 in
set_option maxHeartbeats 4000000 in
theorem cl_wo {b q r : Nat} {sv : SV} {a : Option Addr} {c : Nat} {L : List (Ex × Bool)} (hL : ∀ x ∈ L, TreeOk x.1) : CSp 103 b L.length ⟨q, 0, none⟩ ⟨r, 0, none⟩ (StI (·.ord) b q r 2 (ElWO b) sv a c L) (fun i => (fun x : (Ex × Bool) => rankT x.1 x.2) (L.getD i (.nil, false))) := by
  intro i l w hi hw hI hl
  have e0 : L.getD i (.nil, false) = L[i] := by simp [List.getD, hi]
  obtain ⟨x, hx⟩ : ∃ x, L[i] = x := ⟨_, rfl⟩
  simp only [e0, hx] at hl ⊢
  have HO : Hid (TreeOk x.1) := hL x (by rw [← hx]; exact List.getElem_mem hi)
  rcases hI.row with h | ⟨g, off, rfl, hg, hr⟩
  · subst h; exact absurd hi (by simp)
  have hr' := hr i hi
  rw [hx] at hr'
  obtain ⟨p, h1, h2, h3⟩ := hr'
  have hsl : sv.ord = .slice (some ⟨g, off, none⟩) L.length c := hI.sl
  have z0 : w.drew.cell? ⟨q, 0, none⟩ = some (.pointer (some ⟨b, 0, none⟩)) := by rw [show w.drew.cell? ⟨q, 0, none⟩ = w.cell? ⟨q, 0, none⟩ from rfl, hI.wr.cell 0]; rfl
  have z1 : w.drew.cell? ⟨r, 11, none⟩ = some (.slice (some ⟨g, off, none⟩) L.length c) := by rw [show w.drew.cell? ⟨r, 11, none⟩ = w.cell? ⟨r, 11, none⟩ from rfl, hI.st.cell 11, ← hsl]; rfl
  have z3 : w.drew.cell? ⟨g, off + i * 2, none⟩ = some (.pointer p) := h1
  have z4 : w.drew.cell? ⟨g, off + i * 2 + 1, none⟩ = some (.bool x.2) := h2
  have hi' : (i : Int) < (L.length : Int) := by omega
  obtain ⟨R, hR⟩ : ∃ R, rankT x.1 x.2 = R := ⟨_, rfl⟩
  have HR : Hid (rankT x.1 x.2 = R) := hR
  have H0 : Hid (WS b l w.drew ∧ TrAt b w.drew p x.1 ∧ l.length + (rankT x.1 x.2).length ≤ 1000000) := ⟨hw.below ((Below.refl _ _).drew), h3.keep ((Below.refl _ _).drew), hl⟩
  rw [hR]
  clear hw hI hl hr hL e0 hsl hx hR h1 h2 h3
  go_enter Tryz.func103, Tryz.ntmps103
  go_region_law (go_wp2_with (go_at_call 104; refine Calls.mono (wrank_any x.1 HO.out x.2 b p l _ H0.out.1 H0.out.2.1 H0.out.2.2) ?_; rintro _ w1 ⟨rfl, h2, h3⟩; have H1 : Hid (WS b (l ++ R) w1 ∧ WK b w w1) := ⟨by rw [← HR.out]; exact h2, (WK.refl b w).drew.trans h3⟩; clear h2 h3))
  all_goals
    go_end0
    exact ⟨rfl, H1.out.1, H1.out.2⟩
end Go.Proofs.YtbdcbaamjkjhaaaGreatDoor
