/- The sort of places: what is kept of a world, less, swap, the sort by insertion. -/
import Derived.Test.YtalfjdpdecngoaaPPlacesK
import Derived.Test.YtalfjdpdecngoaaPMath
import Derived.Shelf.SlSortFuncK.WholeK
namespace Go.Proofs.Ytalfjdpdecngoaa
open Go.RowKit

instance : Inhabited Pl := ⟨⟨0, 0⟩⟩
def cellsP (p : Pl) : List Value := [.int .i64 p.r, .int .i64 p.a]
theorem cellsP_len (p : Pl) : (cellsP p).length = 2 := rfl
def ltB (p q : Pl) : Bool := decide (cmpP p q < 0)

/-- a row of places that is sorted: where it lies, and what swaps two of it -/
structure Sl where
  blk : Nat
  off : Nat
  c : Nat
  Bs : Nat
  n : Nat
  sf : Nat
  sb : Array Value
def Sl.less (s : Sl) : Value := .func (.func 38) #[] #[.pointer (some ⟨s.Bs, 0, none⟩)]
def Sl.swap (s : Sl) : Value := .func (.func s.sf) #[] s.sb

def SS (s : Sl) (d : Array Pl) (w : World) : Prop :=
  Sort.HoldsK cellsP 2 w s.blk s.off d ∧ d.size = s.n ∧ w.cell? ⟨s.Bs, 0, none⟩ = some (.slice (some ⟨s.blk, s.off, none⟩) s.n s.c) ∧ (s.Bs ≠ s.blk ∧ s.blk < w.heap.size ∧ s.Bs < w.heap.size ∧ s.n < 1000000) ∧ SwapSwapsK Try.prog s.sf s.sb cellsP 2 s.blk s.off s.n

theorem holds_block {w w' : World} {blk off : Nat} {d : Array Pl} (h : Sort.HoldsK cellsP 2 w blk off d) (hb : w'.heap[blk]? = w.heap[blk]?) : Sort.HoldsK cellsP 2 w' blk off d := by
  intro j hj
  obtain ⟨h1, h2⟩ := h j hj
  exact ⟨by rw [World.cell?_of_block (w := w) (a := ⟨blk, off + j, none⟩) hb]; exact h1, by rw [World.frozen?_of_block (w := w) (a := ⟨blk, off + j, none⟩) hb]; exact h2⟩
theorem SS.below {s : Sl} {d : Array Pl} {w w' : World} (h : SS s d w) (hb : Below w.heap.size w w') : SS s d w' := by
  obtain ⟨h1, h2, h3, ⟨h4, h5, h6, h7⟩, h8⟩ := h
  have := hb.size
  exact ⟨holds_block h1 (hb.block _ h5), h2, by rw [hb.cell (p := ⟨s.Bs, _, none⟩) h6]; exact h3, ⟨h4, by omega, by omega, h7⟩, h8⟩
theorem SS.grown {s : Sl} {d d' : Array Pl} {w w' : World} (h : SS s d w) (hg : w.grownBy w' (some s.blk)) (hd : Sort.HoldsK cellsP 2 w' s.blk s.off d') (hs : d'.size = d.size) : SS s d' w' := by
  obtain ⟨h1, h2, h3, ⟨h4, h5, h6, h7⟩, h8⟩ := h
  have := hg.size
  exact ⟨hd, by omega, hg.cell h3 (by simpa using h4), ⟨h4, by omega, by omega, h7⟩, h8⟩
theorem grownBy_refl (w : World) (r : Option Nat) : w.grownBy w r := ⟨rfl, rfl, rfl, Nat.le_refl _, fun _ _ _ => rfl⟩
theorem grown_put (w : World) (blk off : Nat) (d : Array Pl) (n : Nat) (os : Array Obj) : w.grownBy (Sort.grow (Sort.putRowK cellsP 2 (Sort.ahead w n) blk off d) os) (some blk) := by
  refine ⟨rfl, rfl, rfl, ?_, fun k hk hne => ?_⟩
  · simp [Sort.grow, Sort.putRowK, Sort.putRow, Sort.mapBlock, Sort.ahead]
  · simp only [Sort.grow, Sort.putRowK, Sort.putRow, Sort.mapBlock, Sort.ahead]
    rw [Array.getElem?_append_left (by simpa using hk), Array.getElem?_modify, if_neg (fun e => hne (by rw [e]))]

theorem SS.swapped {s : Sl} {d : Array Pl} {w : World} (h : SS s d w) (i j : Nat) (hi : i < s.n) (hj : j < s.n) :
    SS s (Sort.swp d i j) ((w.setCells s.blk (s.off + i * 2) (cellsP d[j]!)).setCells s.blk (s.off + j * 2) (cellsP d[i]!)) ∧ w.grownBy ((w.setCells s.blk (s.off + i * 2) (cellsP d[j]!)).setCells s.blk (s.off + j * 2) (cellsP d[i]!)) (some s.blk) := by
  have e := Sort.swap_worldK cellsP 2 cellsP_len w 0 0 s.blk s.off d i j (by rw [h.2.1]; exact hi) (by rw [h.2.1]; exact hj)
  rw [show (Sort.putRowK cellsP 2 (Sort.ahead w 0) s.blk s.off d).drewN 0 = w from Sort.putRowK_self cellsP 2 w s.blk s.off d h.1] at e
  have e2 : Sort.putRowK cellsP 2 (Sort.ahead w (0 + 0)) s.blk s.off (Sort.swp d i j) = Sort.grow (Sort.putRowK cellsP 2 (Sort.ahead w (0 + 0)) s.blk s.off (Sort.swp d i j)) #[] := by rw [Sort.grow_empty]
  have hg : w.grownBy ((w.setCells s.blk (s.off + i * 2) (cellsP d[j]!)).setCells s.blk (s.off + j * 2) (cellsP d[i]!)) (some s.blk) := by
    rw [e, e2]; exact grown_put _ _ _ _ _ _
  refine ⟨SS.grown h hg ?_ (Sort.size_swp _ _ _), hg⟩
  rw [e]
  exact Sort.holdsK_putRowK cellsP 2 _ s.blk s.off d _ (Sort.holdsK_ahead _ _ _ _ _ _ _ h.1) (Sort.size_swp _ _ _)

/-- what is known in a round of less -/
def LE (blk off c Bs n i j : Nat) (p q : Pl) (w w' : World) : Prop :=
  (w'.cell? ⟨Bs, 0, none⟩ = some (.slice (some ⟨blk, off, none⟩) n c) ∧ w'.cell? ⟨blk, off + i * 2, none⟩ = some (.int .i64 p.r) ∧ w'.cell? ⟨blk, off + i * 2 + 1, none⟩ = some (.int .i64 p.a) ∧ w'.cell? ⟨blk, off + j * 2, none⟩ = some (.int .i64 q.r) ∧ w'.cell? ⟨blk, off + j * 2 + 1, none⟩ = some (.int .i64 q.a)) ∧ (blk < w.heap.size ∧ Bs < w.heap.size) ∧ Below w.heap.size w w'
theorem LE.step {blk off c Bs n i j : Nat} {p q : Pl} {w a b : World} (h : LE blk off c Bs n i j p q w a) (hb : Below a.heap.size a b) : LE blk off c Bs n i j p q w b := by
  obtain ⟨⟨x1, x2, x3, x4, x5⟩, ⟨y1, y2⟩, x6⟩ := h
  have := x6.size
  refine ⟨⟨?_, ?_, ?_, ?_, ?_⟩, ⟨y1, y2⟩, x6.trans (hb.mono this)⟩
  · rw [hb.cell (p := ⟨Bs, _, none⟩) (by show Bs < _; omega)]; exact x1
  · rw [hb.cell (p := ⟨blk, _, none⟩) (by show blk < _; omega)]; exact x2
  · rw [hb.cell (p := ⟨blk, _, none⟩) (by show blk < _; omega)]; exact x3
  · rw [hb.cell (p := ⟨blk, _, none⟩) (by show blk < _; omega)]; exact x4
  · rw [hb.cell (p := ⟨blk, _, none⟩) (by show blk < _; omega)]; exact x5
theorem LE.drew {blk off c Bs n i j : Nat} {p q : Pl} {w a : World} (h : LE blk off c Bs n i j p q w a) : LE blk off c Bs n i j p q w a.drew := h.step (Below.refl _ _).drew

set_option maxRecDepth 100000 in
set_option maxHeartbeats 1000000 in
theorem less_ss (s : Sl) (d : Array Pl) (w : World) (h : SS s d w) (i j : Nat) (hi : i < s.n) (hj : j < s.n) :
    Calls Try.prog 38 #[.int .i64 i, .int .i64 j, .pointer (some ⟨s.Bs, 0, none⟩)] w fun e w' => e = .returned (.bool (ltB d[i]! d[j]!)) ∧ Below w.heap.size w w' := by
  obtain ⟨h1, h2, h3, ⟨h4, h5, h6, h7⟩, h8⟩ := h
  have c1 := (h1.cell (i := i) (c := 0) (by omega) (by omega)).1
  have c2 := (h1.cell (i := i) (c := 1) (by omega) (by omega)).1
  have c3 := (h1.cell (i := j) (c := 0) (by omega) (by omega)).1
  have c4 := (h1.cell (i := j) (c := 1) (by omega) (by omega)).1
  generalize d[i]! = p at *
  generalize d[j]! = q at *
  rw [Nat.add_zero] at c1 c3
  have k1 : w.cell? ⟨s.blk, s.off + i * 2, none⟩ = some (.int .i64 p.r) := c1
  have k2 : w.cell? ⟨s.blk, s.off + i * 2 + 1, none⟩ = some (.int .i64 p.a) := c2
  have k3 : w.cell? ⟨s.blk, s.off + j * 2, none⟩ = some (.int .i64 q.r) := c3
  have k4 : w.cell? ⟨s.blk, s.off + j * 2 + 1, none⟩ = some (.int .i64 q.a) := c4
  clear c1 c2 c3 c4 h1 h8
  obtain ⟨lb, hlb⟩ : ∃ lb, decide (cmpP p q < 0) = lb := ⟨_, rfl⟩
  have HL : Hid (decide (cmpP p q < 0) = lb) := hlb
  rw [ltB, hlb]
  clear hlb
  obtain ⟨blk, off, c, Bs, n, sf, sb⟩ := s
  simp only at *
  have i1 : (i : Int) < (n : Int) := by omega
  have i2 : (j : Int) < (n : Int) := by omega
  have HF : Hid (LE blk off c Bs n i j p q w w) := ⟨⟨h3, k1, k2, k3, k4⟩, ⟨h5, h6⟩, Below.refl _ _⟩
  clear h3 k1 k2 k3 k4
  go_enter Try.func38, Try.ntmps38
  go_wp2_with fail
  have HF : Hid _ := LE.drew HF.out
  go_region_held3 (fun w' => w'.cell? ⟨Bs, 0, none⟩ = some (.slice (some ⟨blk, off, none⟩) n c) ∧ w'.cell? ⟨blk, off + i * 2, none⟩ = some (.int .i64 p.r) ∧ w'.cell? ⟨blk, off + i * 2 + 1, none⟩ = some (.int .i64 p.a) ∧ w'.cell? ⟨blk, off + j * 2, none⟩ = some (.int .i64 q.r) ∧ w'.cell? ⟨blk, off + j * 2 + 1, none⟩ = some (.int .i64 q.a)) (exact HF.out.1)
    ((go_at_call 23; refine Calls.mono (before_as lb p q HL.out _) ?_; rintro _ w2 ⟨rfl, hb2⟩; have HF : Hid _ := LE.step HF.out hb2; clear hb2))
  go_wp2
  go_ret
  exact ⟨rfl, HF.out.2.2⟩
end Go.Proofs.Ytalfjdpdecngoaa
