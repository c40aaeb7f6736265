/- The contracts of package disk. -/
import Derived.Test.YthmladfoaajklaaDoorShelf
namespace Go.Proofs.YthmladfoaajklaaDoor
open Go.RowKit

/-- a page of noughts -/
def zeros : ByteArray := ⟨(List.replicate 1024 (0 : UInt8)).toArray⟩
theorem zeros_size : zeros.size = 1024 := by
  show (List.replicate 1024 (0 : UInt8)).toArray.size = 1024
  rw [List.size_toArray, List.length_replicate]

theorem not_empty {s : ByteArray} (h : s.size = 1024) : s.toList.isEmpty = false := by
  rw [ByteArray.toList_eq]
  cases hl : s.data.toList with
  | nil => have : s.size = s.data.toList.length := by simp
           rw [hl, h] at this; cases this
  | cons a l => rfl

/-- block b is a disk with these pages -/
structure DiskIs (b : Nat) (pg : Nat → ByteArray) (ends : Bool) (left torn : Int) (w : World) : Prop where
  page : ∀ k, k < 4001 → (w.cell? ⟨b, k, none⟩ = some (.string (pg k)) ∧ (pg k).size = 1024) ∨ (w.cell? ⟨b, k, none⟩ = some (.string ⟨#[]⟩) ∧ pg k = zeros)
  ends : w.cell? ⟨b, 4001, none⟩ = some (.bool ends)
  left : w.cell? ⟨b, 4002, none⟩ = some (.int .i64 left)
  torn : w.cell? ⟨b, 4003, none⟩ = some (.int .i64 torn)
  free : ∀ k, w.frozen? ⟨b, k, none⟩ = false

theorem grown_of_below {w w' : World} (h : Below w.heap.size w w') (row : Option Nat) : w.grownBy w' row := ⟨h.os, h.tape, h.output, h.size, fun k hk _ => h.block k hk⟩

theorem DiskIs.lt {b : Nat} {pg : Nat → ByteArray} {ends : Bool} {left torn : Int} {w : World} (h : DiskIs b pg ends left torn w) : b < w.heap.size := World.block_lt_of_cell? w _ h.ends

theorem DiskIs.size {b : Nat} {pg : Nat → ByteArray} {ends : Bool} {left torn : Int} {w : World} (h : DiskIs b pg ends left torn w) (k : Nat) (hk : k < 4001) : (pg k).size = 1024 := by
  rcases h.page k hk with ⟨_, h1⟩ | ⟨_, h1⟩
  · exact h1
  · rw [h1, zeros_size]

theorem DiskIs.block {b : Nat} {pg : Nat → ByteArray} {ends : Bool} {left torn : Int} {w w' : World} (h : DiskIs b pg ends left torn w) (hb : w'.heap[b]? = w.heap[b]?) : DiskIs b pg ends left torn w' := by
  have c : ∀ k, w'.cell? ⟨b, k, none⟩ = w.cell? ⟨b, k, none⟩ := fun k => World.cell?_of_block hb
  refine ⟨fun k hk => ?_, ?_, ?_, ?_, fun k => ?_⟩
  · rw [c]; exact h.page k hk
  · rw [c]; exact h.ends
  · rw [c]; exact h.left
  · rw [c]; exact h.torn
  · exact (World.frozen?_of_block (a := ⟨b, k, none⟩) hb).trans (h.free k)

theorem DiskIs.grown {b : Nat} {pg : Nat → ByteArray} {ends : Bool} {left torn : Int} {w w' : World} {row : Option Nat} (h : DiskIs b pg ends left torn w) (hg : w.grownBy w' row) (hne : some b ≠ row) : DiskIs b pg ends left torn w' :=
  h.block (hg.block b h.lt hne)

theorem DiskIs.below {b : Nat} {pg : Nat → ByteArray} {ends : Bool} {left torn : Int} {w w' : World} (h : DiskIs b pg ends left torn w) (hb : Below w.heap.size w w') : DiskIs b pg ends left torn w' :=
  h.block (hb.block b h.lt)

theorem DiskIs.drew {b : Nat} {pg : Nat → ByteArray} {ends : Bool} {left torn : Int} {w : World} (h : DiskIs b pg ends left torn w) : DiskIs b pg ends left torn w.drew := h.block rfl

theorem there_yes (k : Nat) (w : World) (hk : k < 4001) : Calls Tryd.prog 35 #[.int .i64 k] w fun e w' => e = .returned (.bool true) ∧ w' = w := by
  have h1 : (k : Int) < 4001 := by omega
  go_enter Tryd.func35, Tryd.ntmps35
  go_wp2
  go_ret
  exact ⟨ret_bool (by simp), rfl⟩

theorem there_no (k : Int) (w : World) (hk : k < 0 ∨ 4001 ≤ k) : Calls Tryd.prog 35 #[.int .i64 k] w fun e w' => e = .returned (.bool false) ∧ w' = w := by
  by_cases h0 : 0 ≤ k
  · have h1 : ¬ k < 4001 := by omega
    go_enter Tryd.func35, Tryd.ntmps35
    go_wp2
    go_ret
    exact ⟨ret_bool (by simp), rfl⟩
  · go_enter Tryd.func35, Tryd.ntmps35
    go_wp2
    go_ret
    exact ⟨ret_bool (by simp), rfl⟩

theorem on_any {b : Nat} {pg : Nat → ByteArray} {ends : Bool} {left torn : Int} {w : World} (h : DiskIs b pg ends left torn w) :
    Calls Tryd.prog 21 #[.pointer (some ⟨b, 0, none⟩)] w fun e w' => e = .returned (.bool (!ends || decide (0 < left))) ∧ w' = w := by
  have h1 := h.ends
  have h2 := h.left
  clear h
  cases ends
  · go_enter Tryd.func21, Tryd.ntmps21
    go_wp2
    go_ret
    exact ⟨ret_bool (by simp), rfl⟩
  · go_enter Tryd.func21, Tryd.ntmps21
    go_wp2
    go_ret
    exact ⟨ret_bool (by simp), rfl⟩

theorem clone_any (s : ByteArray) (w : World) (hs : s.size ≤ 1024) : Calls Tryd.prog 37 #[.string s] w fun e w' => e = .returned (.string s) ∧ Below w.heap.size w w' := by
  go_enter Tryd.func37, Tryd.ntmps37
  go_wp2_with fail
  refine (clone47 s w (by omega)).mono ?_
  rintro _ w1 ⟨rfl, hb⟩
  go_wp2
  go_ret
  exact ⟨rfl, hb⟩

theorem zeros_any (w : World) : Calls Tryd.prog 38 #[.string ⟨#[0]⟩, .int .i64 1024] w fun e w' => e = .returned (.string zeros) ∧ Below w.heap.size w w' := by
  have h := repeat38 ⟨#[0]⟩ 1024 w (by omega) (by show 1 * 1024 ≤ _; omega)
  have e : Lib.repeatL (ByteArray.mk #[0]).data.toList 1024 = List.replicate 1024 0 := by
    show Lib.repeatL [0] 1024 = _
    have h1 : ([0] : List UInt8) = List.replicate 1 0 := rfl
    rw [h1, Lib.repeatL_replicate, Nat.mul_one]
  rw [e] at h
  exact h

set_option maxHeartbeats 400000 in
theorem whole_any {b : Nat} {pg : Nat → ByteArray} {ends : Bool} {left torn : Int} {w : World} (h : DiskIs b pg ends left torn w) (k : Nat) (hk : k < 4001) :
    Calls Tryd.prog 40 #[.pointer (some ⟨b, 0, none⟩), .int .i64 k] w fun e w' => e = .returned (.string (pg k)) ∧ Below w.heap.size w w' := by
  have h1 : (k : Int) < 4001 := by omega
  rcases h.page k hk with ⟨c, hs⟩ | ⟨c, hz⟩
  · clear h
    have hne := not_empty hs
    generalize pg k = s at *
    go_enter Tryd.func40, Tryd.ntmps40
    go_wp2
    go_ret
    exact ⟨rfl, Below.refl _ _⟩
  · rw [hz]
    clear h
    go_enter Tryd.func40, Tryd.ntmps40
    go_wp2_with fail
    refine (zeros_any w).mono ?_
    rintro _ w1 ⟨rfl, hb⟩
    go_wp2
    go_ret
    exact ⟨rfl, hb⟩
end Go.Proofs.YthmladfoaajklaaDoor
