/- LexBlanks' own fact: one constant text. -/
import Derived.Test.YtgmibjcccdgkgaaDoorLLaw
import Derived.Test.YtgmibjcccdgkgaaDoorLBlank2
namespace Go.Proofs.YtgmibjcccdgkgaaDoor
open Go.RowKit

def cutS : ByteArray := ⟨#[83, 69, 76, 69, 67, 84, 32, 97, 60, 62, 39, 120, 39, 39, 121, 39, 59]⟩
def cutL : List Tok := [⟨1, ⟨#[115, 101, 108, 101, 99, 116]⟩, 0⟩, ⟨1, ⟨#[97]⟩, 7⟩, ⟨4, ⟨#[60, 62]⟩, 8⟩, ⟨3, ⟨#[120, 39, 121]⟩, 10⟩, ⟨4, ⟨#[59]⟩, 16⟩, ⟨5, ⟨#[]⟩, 17⟩]
theorem lex_cutup : lexS cutS = .ok cutL := by kernel_rfl

set_option maxRecDepth 100000 in
set_option maxHeartbeats 2000000 in
theorem cutup_any (hP : LSplitSpec) (w : World) (hva : VarsAt w) : Calls Tryd.prog 8 #[] w fun e w' => e = .returned (.bool true) ∧ Below w.heap.size w w' := by
  have HP : Hid LSplitSpec := hP
  have HVa : Hid (VarsAt w) := hva
  clear hP hva
  go_enter Tryd.func8, Tryd.ntmps8
  go_wp2_with fail
  refine (HP.out cutS w (by decide) HVa.out).mono ?_
  rintro e w1 ⟨a, n, c, E, rfl, hcase, hb⟩
  rw [lex_cutup] at hcase
  rcases hcase with ⟨k, p, hR, _⟩ | ⟨L, hR, rfl, hrow, rfl⟩
  · cases hR
  · cases hR
    have HB : Hid (Below w.heap.size w w1) := hb
    rcases hrow.2 with h0 | ⟨b, off, rfl, hlt, hc⟩
    · cases h0
    have h0 : w1.cell? ⟨b, off + 1, none⟩ = some (.string ⟨#[115, 101, 108, 101, 99, 116]⟩) := (hc 0 (by decide)).2.1
    have h2 : w1.cell? ⟨b, off + 7, none⟩ = some (.string ⟨#[60, 62]⟩) := (hc 2 (by decide)).2.1
    have h3 : w1.cell? ⟨b, off + 10, none⟩ = some (.string ⟨#[120, 39, 121]⟩) := (hc 3 (by decide)).2.1
    have h3' : w1.cell? ⟨b, off + 11, none⟩ = some (.int .i64 10) := (hc 3 (by decide)).2.2
    have h5 : w1.cell? ⟨b, off + 15, none⟩ = some (.int .i64 5) := (hc 5 (by decide)).1
    have hl : cutL.length = 6 := rfl
    rw [hl]
    clear hc hrow hl hb
    go_wp2
    go_ret
    exact ⟨rfl, HB.out⟩
end Go.Proofs.YtgmibjcccdgkgaaDoor
