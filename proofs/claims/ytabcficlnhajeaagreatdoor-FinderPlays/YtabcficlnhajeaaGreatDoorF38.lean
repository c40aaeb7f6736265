/- Texts of the proof of FinderPlays: Lst. -/
import Derived.Test.YtabcficlnhajeaaGreatDoorF37
namespace Go.Proofs.YtabcficlnhajeaaGreatDoor
open Go.RowKit Go.Maps

theorem errV_is (n : Int) (w : World) : ErrIs (errV n) n (-1) w := by
  unfold errV
  by_cases h : n = 0
  · rw [if_pos h]; exact .inl ⟨rfl, h, rfl⟩
  · rw [if_neg h]; exact .inr (.inr ⟨rfl, rfl⟩)
/-- the program's has gone ahead -/
structure Md (bf bt bp bd bm N B0 b : Nat) (D D' : List Nd) (w0 w : World) : Prop where
  f : PrS bf bt bp bd bm N 21000 (InD D') w
  x : DocF B0 b D w
  n : Nts D
  n' : Nts D'
  g : Gl w
  b : Below w0.heap.size w0 w
section
variable {bf bt bp bd bm N B0 b : Nat} {D D' : List Nd} {w0 w w' : World}
theorem Md.below (h : Md bf bt bp bd bm N B0 b D D' w0 w) (hb : Below w.heap.size w w') : Md bf bt bp bd bm N B0 b D D' w0 w' :=
  ⟨h.f.below hb, h.x.below hb, h.n, h.n', h.g.below hb, h.b.trans (hb.mono h.b.size)⟩
theorem addB (h : Bt bf bt bp bd bm N B0 b D w0 w) (hB : Bks bf bt bp bd bm B0 w0.heap.size) (nm s : ByteArray) (r : Int) (hnm : nm.size ≤ 1000) (hs : s.size ≤ 1000) (hN : N + 1000 < 1000000) :
    Calls Tryz.prog 7 #[.pointer (some ⟨bf, 0, none⟩), .string nm, .int .i64 r, .string s] w fun e w' => e = .returned (errV (addE D nm r s)) ∧ Md bf bt bp bd bm (N + 800) B0 b D (addD D nm r s) w0 w' ∧ Only (fun k => k < B0) w w' := by
  obtain ⟨l0, ⟨a1, a2, a3, a4, a5⟩, ⟨b1, b2, b3, b4, b5⟩⟩ := hB
  refine (addG_any h.n h.f h.g nm s r hnm hs hN).mono ?_
  rintro e w' ⟨rfl, g1, g2⟩
  refine ⟨rfl, ⟨g1, h.x.only g2 (fun k e => by rcases e with e | e <;> omega), h.n, h.n.add nm r s, h.g.only g2 (fun k e => by rcases e with e | e <;> omega), Only.below h.b g2 h.b.size (fun k e => by rcases e with e | e <;> omega)⟩, g2.mono (fun k e => by rcases e with e | e <;> omega)⟩
theorem dropB (h : Bt bf bt bp bd bm N B0 b D w0 w) (hB : Bks bf bt bp bd bm B0 w0.heap.size) (nm s : ByteArray) (r : Int) (hs : s.size ≤ 100) (hN : N + 2100 < 1000000) :
    Calls Tryz.prog 9 #[.pointer (some ⟨bf, 0, none⟩), .string nm, .int .i64 r, .string s] w fun e w' => e = .returned (errV (chkE nm r)) ∧ Md bf bt bp bd bm (N + 2000) B0 b D (drpD D nm r s) w0 w' ∧ Only (fun k => k < B0) w w' := by
  obtain ⟨l0, ⟨a1, a2, a3, a4, a5⟩, ⟨b1, b2, b3, b4, b5⟩⟩ := hB
  refine (dropG_any h.n h.f h.g ⟨by omega, by omega⟩ nm s r hs hN).mono ?_
  rintro e w' ⟨rfl, g1, g2⟩
  refine ⟨rfl, ⟨g1, h.x.only g2 (fun k e => by rcases e with e | e <;> omega), h.n, h.n.drop nm r s, h.g.only g2 (fun k e => by rcases e with e | e <;> omega), Only.below h.b g2 h.b.size (fun k e => by rcases e with e | e <;> omega)⟩, g2.mono (fun k e => by rcases e with e | e <;> omega)⟩
theorem Md.doc (h : Md bf bt bp bd bm N B0 b D D' w0 w) (hB : Bks bf bt bp bd bm B0 w0.heap.size) (hx : DocF B0 b D' w') (ho : Only (fun k => k = b) w w') : Bt bf bt bp bd bm N B0 b D' w0 w' := by
  obtain ⟨l0, ⟨a1, a2, a3, a4, a5⟩, ⟨b1, b2, b3, b4, b5⟩⟩ := hB
  have hle := hx.le
  exact ⟨h.f.only ho (by omega) (by omega) (by omega) (by omega) (by omega), hx, h.n', h.g.only ho (fun k e => by have e' : k = b := e; omega), Only.below h.b ho h.b.size (fun k e => by have e' : k = b := e; omega)⟩
theorem addR {nm s : ByteArray} {r : Int} (h : Md bf bt bp bd bm N B0 b D (addD D nm r s) w0 w) (hB : Bks bf bt bp bd bm B0 w0.heap.size) (hs : s.size ≤ 1000) :
    Calls Tryz.prog 8 #[.pointer (some ⟨b, 0, none⟩), .string nm, .int .i64 r, .string s] w fun e w' => e = .returned (.int .i64 (addE D nm r s)) ∧ Bt bf bt bp bd bm N B0 b (addD D nm r s) w0 w' ∧ Only (fun k => k = b) w w' := by
  refine (refAdd_any h.n h.x nm s r hs).mono ?_
  rintro e w' ⟨rfl, g1, g2⟩
  exact ⟨rfl, h.doc hB g1 g2, g2⟩
theorem dropR {nm s : ByteArray} {r : Int} (h : Md bf bt bp bd bm N B0 b D (drpD D nm r s) w0 w) (hB : Bks bf bt bp bd bm B0 w0.heap.size) (hs : s.size ≤ 1000) :
    Calls Tryz.prog 10 #[.pointer (some ⟨b, 0, none⟩), .string nm, .int .i64 r, .string s] w fun e w' => e = .returned (.int .i64 (chkE nm r)) ∧ Bt bf bt bp bd bm N B0 b (drpD D nm r s) w0 w' ∧ Only (fun k => k = b) w w' := by
  refine (refDrop_any h.n.len h.x nm s r hs).mono ?_
  rintro e w' ⟨rfl, g1, g2⟩
  exact ⟨rfl, h.doc hB g1 g2, g2⟩
theorem bareB (n : Int) (h : Gl w) : Calls Tryz.prog 6 #[errV n, .int .i64 n] w fun e w' => e = .returned (.bool true) ∧ Below w.heap.size w w' := bare_any _ n w h.h (errV_is n w)
end
/-- a note that comes in -/
structure Wn where
  q : Int
  r : Int
  n : ByteArray
  t : ByteArray
def NtA (w : World) (a : Option Addr) (n : Nat) (nt : Nat → Wn) : Prop := ∀ i, i < n → ∃ b o, a = some ⟨b, o, none⟩ ∧ b < w.heap.size ∧ w.cell? ⟨b, o + i * 4, none⟩ = some (.int .i64 (nt i).q) ∧ w.cell? ⟨b, o + i * 4 + 1, none⟩ = some (.int .i64 (nt i).r) ∧ w.cell? ⟨b, o + i * 4 + 2, none⟩ = some (.string (nt i).n) ∧ w.cell? ⟨b, o + i * 4 + 3, none⟩ = some (.string (nt i).t)
theorem NtA.below {w w' : World} {a : Option Addr} {n : Nat} {nt : Nat → Wn} (h : NtA w a n nt) (hb : Below w.heap.size w w') : NtA w' a n nt := fun i hi => by
  obtain ⟨b, o, h1, h2, h3, h4, h5, h6⟩ := h i hi
  exact ⟨b, o, h1, Nat.lt_of_lt_of_le h2 hb.size, keepc hb h3, keepc hb h4, keepc hb h5, keepc hb h6⟩
theorem index_four {t e : TypeId} (ht : Tryz.prog.underlying t = some (.slice e)) (he : Tryz.prog.elem t = e) (hs : (sizeOf e).run Tryz.prog = fun w => .ok 4 w) (g off n cap i : Nat) (hi : i < n) (wx : World) : (Instr.indexAt t (.slice (some ⟨g, off, none⟩) n cap) (.int .i64 (i : Nat))).run Tryz.prog wx = .ok (.pointer (some ⟨g, off + i * 4, none⟩)) wx := by
  subst he
  rw [run_indexAt_slice (h := ht), if_pos ⟨by omega, by omega⟩, hs]
  simp [Result.andThen, add_pl]
theorem size_note : (sizeOf 39).run Tryz.prog = fun w => .ok 4 w := by kernel_rfl
theorem elem_note : Tryz.prog.elem 22 = 39 := by kernel_rfl
end Go.Proofs.YtabcficlnhajeaaGreatDoor
