/- Texts of the proof of TreePlays: Dl0. -/
import Derived.Test.YtndoigopjlkimaaGreatDoorP16
namespace Go.Proofs.YtndoigopjlkimaaGreatDoor
open Go.RowKit Go.Maps

theorem three_bytes (x0 x1 x2 : Int) (h00 : 0 ≤ x0) (h01 : x0 < 256) (h10 : 0 ≤ x1) (h11 : x1 < 256) (h20 : 0 ≤ x2) (h21 : x2 < 256) (W : World) (B : Nat) (h0 : W.cell? ⟨B, 0, none⟩ = some (.int .u8 x0)) (h1 : W.cell? ⟨B, 1, none⟩ = some (.int .u8 x1)) (h2 : W.cell? ⟨B, 2, none⟩ = some (.int .u8 x2)) :
    (convert 41 9 (.slice (some ⟨B, 0, none⟩) 3 3)).run Tryz.prog W = .ok (.string ⟨#[byteI x0, byteI x1, byteI x2]⟩) W := by
  have e0 : x0 = ((byteI x0).toNat : Int) := by rw [← byteI_toNat, wrap_u8, Int.emod_eq_of_lt h00 h01]
  have e1 : x1 = ((byteI x1).toNat : Int) := by rw [← byteI_toNat, wrap_u8, Int.emod_eq_of_lt h10 h11]
  have e2 : x2 = ((byteI x2).toNat : Int) := by rw [← byteI_toNat, wrap_u8, Int.emod_eq_of_lt h20 h21]
  exact run_convert_bytes_back (P := Tryz.prog) W 41 9 5 ⟨B, 0, none⟩ 3 [byteI x0, byteI x1, byteI x2] Tryz.underlying41 Tryz.underlying5 Tryz.underlying9 (fun j hj => by
    have : j < 3 := by simpa using hj
    have e : j = 0 ∨ j = 1 ∨ j = 2 := by omega
    rcases e with rfl | rfl | rfl
    · rw [Addr.add_zero', h0]; exact congrArg (fun z => some (Value.int .u8 z)) e0
    · rw [show (⟨B, 0, none⟩ : Addr).add 1 = ⟨B, 1, none⟩ from rfl, h1]; exact congrArg (fun z => some (Value.int .u8 z)) e1
    · rw [show (⟨B, 0, none⟩ : Addr).add 2 = ⟨B, 2, none⟩ from rfl, h2]; exact congrArg (fun z => some (Value.int .u8 z)) e2)
theorem cells_new3 (w : World) (a b c : Value) (t : TypeId) : (w.alloc (.cells #[a, b, c] t)).cell? ⟨w.heap.size, 0, none⟩ = some a ∧ (w.alloc (.cells #[a, b, c] t)).cell? ⟨w.heap.size, 1, none⟩ = some b ∧ (w.alloc (.cells #[a, b, c] t)).cell? ⟨w.heap.size, 2, none⟩ = some c := by
  have hn : (w.alloc (.cells #[a, b, c] t)).heap[w.heap.size]? = some (.cells #[a, b, c] t) := heap_alloc_new w _
  exact ⟨by simp only [World.cell?, hn]; rfl, by simp only [World.cell?, hn]; rfl, by simp only [World.cell?, hn]; rfl⟩
theorem walk_sub {wnt : Nat → ByteArray → Bool} {from_ : ByteArray} : ∀ {l : List Pr} {k : Nat} {p : Pr}, p ∈ walkL wnt from_ k l → p ∈ l
  | [], k, p, h => by cases h
  | x :: r, k, p, h => by
    unfold walkL at h
    split at h
    · exact List.mem_cons_of_mem _ (walk_sub h)
    · split at h
      · rcases List.mem_cons.1 h with rfl | h
        · simp
        · exact List.mem_cons_of_mem _ (walk_sub h)
      · cases h
/-- one of the law's steps -/
structure Wp where
  q : Int
  n : Int
  k : ByteArray
  i : ByteArray
def RowP (w : World) (a : Option Addr) (len : Nat) (xs : List Wp) : Prop :=
  len = xs.length ∧ len ≤ maxLen ∧ (xs = [] ∨ ∃ b off, a = some ⟨b, off, none⟩ ∧ b < w.heap.size ∧ ∀ i (h : i < xs.length),
    w.cell? ⟨b, off + i * 4, none⟩ = some (.int .i64 xs[i].q) ∧ w.cell? ⟨b, off + i * 4 + 1, none⟩ = some (.int .i64 xs[i].n) ∧ w.cell? ⟨b, off + i * 4 + 2, none⟩ = some (.string xs[i].k) ∧ w.cell? ⟨b, off + i * 4 + 3, none⟩ = some (.string xs[i].i) ∧ xs[i].n ≤ 9223372036854775807)
theorem index_four {t e : TypeId} (ht : Tryz.prog.underlying t = some (.slice e)) (he : Tryz.prog.elem t = e) (hs : (sizeOf e).run Tryz.prog = fun w => .ok 4 w) (g off n cap i : Nat) (hi : i < n) (wx : World) : (Instr.indexAt t (.slice (some ⟨g, off, none⟩) n cap) (.int .i64 (i : Nat))).run Tryz.prog wx = .ok (.pointer (some ⟨g, off + i * 4, none⟩)) wx := by
  subst he
  rw [run_indexAt_slice (h := ht), if_pos ⟨by omega, by omega⟩, hs]
  simp [Result.andThen, add_pl]
theorem size45 : (sizeOf 45).run Tryz.prog = fun w => .ok 4 w := by funext w; simp [Tryz.sizeOf45]
theorem elem22 : Tryz.prog.elem 22 = 45 := by kernel_rfl
structure Xr (B : Nat) (q n : Int) (k i : ByteArray) (w : World) : Prop where
  q : w.cell? ⟨B, 0, none⟩ = some (.int .i64 q)
  n : w.cell? ⟨B, 1, none⟩ = some (.int .i64 n)
  k : w.cell? ⟨B, 2, none⟩ = some (.string k)
  i : w.cell? ⟨B, 3, none⟩ = some (.string i)
theorem Xr.new (w : World) (q n : Int) (k i : ByteArray) : Xr w.heap.size q n k i (w.alloc (.cells #[.int .i64 q, .int .i64 n, .string k, .string i] 45)) := by
  have hn : (w.alloc (.cells #[.int .i64 q, .int .i64 n, .string k, .string i] 45)).heap[w.heap.size]? = some (.cells #[.int .i64 q, .int .i64 n, .string k, .string i] 45) := heap_alloc_new w _
  exact ⟨by simp only [World.cell?, hn]; rfl, by simp only [World.cell?, hn]; rfl, by simp only [World.cell?, hn]; rfl, by simp only [World.cell?, hn]; rfl⟩
section
variable {B : Nat} {q n : Int} {k i : ByteArray} {w w' : World}
theorem Xr.lt (h : Xr B q n k i w) : B < w.heap.size := World.block_lt_of_cell? w _ h.q
theorem Xr.block (h : Xr B q n k i w) (hb : w'.heap[B]? = w.heap[B]?) : Xr B q n k i w' :=
  ⟨(World.cell?_of_block (a := ⟨B, 0, none⟩) hb).trans h.q, (World.cell?_of_block (a := ⟨B, 1, none⟩) hb).trans h.n, (World.cell?_of_block (a := ⟨B, 2, none⟩) hb).trans h.k, (World.cell?_of_block (a := ⟨B, 3, none⟩) hb).trans h.i⟩
theorem Xr.only {S : Nat → Prop} (h : Xr B q n k i w) (ho : Only S w w') (hs : ¬ S B) : Xr B q n k i w' := h.block (ho.block B h.lt hs)
theorem Xr.below (h : Xr B q n k i w) (hb : Below w.heap.size w w') : Xr B q n k i w' := h.block (hb.block B h.lt)
theorem Xr.drew (h : Xr B q n k i w) : Xr B q n k i w.drew := h.below (Below.refl _ w).drew
end
end Go.Proofs.YtndoigopjlkimaaGreatDoor
