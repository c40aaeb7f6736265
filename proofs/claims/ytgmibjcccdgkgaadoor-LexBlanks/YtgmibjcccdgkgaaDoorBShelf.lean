/- The library's Builder, ToUpper and ReplaceAll, as LexBlanks needs them. -/
import Derived.Test.YtgmibjcccdgkgaaDoorQShelf
import Derived.Test.YtgmibjcccdgkgaaDoorBPure
import Derived.Shelf.Strings.BuilderK
namespace Go.Proofs.YtgmibjcccdgkgaaDoor
open Go.Shelf Go.RowKit

/-- a builder that holds these bytes -/
def BIs (B b : Nat) (l : List UInt8) (w : World) : Prop := Lib.IsBuilderF 43 5 B b (Lib.byteCells l) w
theorem cells_app (a b : List UInt8) : Lib.byteCells (a ++ b) = Lib.byteCells a ++ Lib.byteCells b := by simp [Lib.byteCells]
theorem cells_str (s : ByteArray) : Lib.strCells s = Lib.byteCells s.data.toList := by simp [Lib.byteCells, Lib.strCells]
theorem cells_len (l : List UInt8) : (Lib.byteCells l).length = l.length := by simp [Lib.byteCells]
theorem write_any (B b : Nat) (l : List UInt8) (s : ByteArray) (w : World) (h : BIs B b l w) (hlen : l.length + s.size ≤ 100000) (hBw : B ≤ w.heap.size) :
    Calls Tryd.prog 10 #[.pointer (some ⟨b, 0, none⟩), .string s] w fun e w' => e = .returned (.tuple #[.int .i64 s.size, .nilIface]) ∧ BIs B b (l ++ s.data.toList) w' ∧ Below B w w' ∧ Lib.OthersKept 5 (some b) w w' := by
  refine Calls.mono (Any.Builder_WriteString_k { Tryd.lays158 with } Tryd.Builder_Extra_158 B b _ s w h (by rw [cells_len]; omega) hBw) ?_
  rintro e w' ⟨rfl, h1, h2, h3⟩
  refine ⟨rfl, .inr ?_, h2, h3⟩
  rw [cells_app, ← cells_str]
  exact h1
theorem len_any (B b : Nat) (l : List UInt8) (w : World) (h : BIs B b l w) : Calls Tryd.prog 11 #[.pointer (some ⟨b, 0, none⟩)] w fun e w' => e = .returned (.int .i64 (l.length : Int)) ∧ w' = w := by
  have := Any.Builder_Len_f Tryd.lays170 B b _ w h
  rw [cells_len] at this
  exact this
theorem string_any (B b : Nat) (l : List UInt8) (w : World) (h : BIs B b l w) (hBw : B ≤ w.heap.size) :
    Calls Tryd.prog 14 #[.pointer (some ⟨b, 0, none⟩)] w fun e w' => e = .returned (.string ⟨l.toArray⟩) ∧ BIs B b l w' ∧ Below B w w' ∧ Lib.OthersKept 5 (some b) w w' :=
  Any.Builder_String_any_k Tryd.lays169 Tryd.Builder_Extra_169 B b l w h hBw
theorem esc_any (s : ByteArray) (w : World) (hs : s.size ≤ 100000) (hm : MaxAt w) : Calls Tryd.prog 12 #[.string s, .string ⟨#[39]⟩, .string ⟨#[39, 39]⟩] w fun e w' => e = .returned (.string ⟨(esc s.data.toList).toArray⟩) ∧ Below w.heap.size w w' := by
  obtain ⟨m, hm⟩ := hm
  have h2 : (⟨#[39, 39]⟩ : ByteArray).size = 2 := rfl
  have h3 : (⟨#[39]⟩ : ByteArray).size = 1 := rfl
  have h1 := Lib.countB_mul_le ⟨#[39]⟩ (by decide) _ s (Nat.le_refl _)
  have := Tryd.strings_ReplaceAll s ⟨#[39]⟩ ⟨#[39, 39]⟩ m w (by omega) hm (by decide) (by rw [h3] at h1; rw [h2]; omega)
  rw [← rep_esc]
  exact this
theorem up_facts : ∀ n : Fin 256, Lib.upperB n.val.toUInt8 = upC n.val.toUInt8 := by decide +kernel
theorem up_at (c : UInt8) : Lib.upperB c = upC c := by
  have h := up_facts ⟨c.toNat, UInt8.toNat_lt c⟩
  rw [show c.toNat.toUInt8 = c by simp] at h
  exact h
theorem up_any (s : ByteArray) (w : World) (hs : s.size ≤ 100000) (ha : ∀ c ∈ s.data.toList, c.toNat < 128) : Calls Tryd.prog 13 #[.string s] w fun e w' => e = .returned (.string ⟨(upL s.data.toList).toArray⟩) ∧ Below w.heap.size w w' := by
  have h := Tryd.strings_ToUpper_ascii s w (by omega) (fun j b hb => ha b (List.mem_of_getElem? hb))
  have e : Lib.toUpperA s.data.toList = upL s.data.toList := by
    unfold Lib.toUpperA upL
    exact List.map_congr_left fun c _ => up_at c
  rw [e] at h
  exact h
theorem pick_mod (a : Int) (n : Nat) (hn : 0 < n) (hn2 : n ≤ 1000000) : wrap64 ((IntKind.u64.wrap a).tmod (n : Int)) = (pk a n : Int) := by
  have e2 : IntKind.u64.wrap a = a % 18446744073709551616 := by
    simp [IntKind.wrap, IntKind.signed, IntKind.bits]
  have h1 : 0 ≤ a % 18446744073709551616 := by omega
  rw [e2, Int.tmod_eq_emod_of_nonneg h1]
  have h2 := Int.emod_nonneg (a % 18446744073709551616) (show (n : Int) ≠ 0 by omega)
  have h3 := Int.emod_lt_of_pos (a % 18446744073709551616) (show (0 : Int) < n by omega)
  unfold pk wrap64
  omega
theorem pick_any (a : Int) (w : World) : Calls Tryd.prog 9 #[.int .i64 a, .int .i64 4] w fun e w' => e = .returned (.int .i64 (pk a 4 : Int)) ∧ w' = w := by
  have hm := pick_mod a 4 (by omega) (by omega)
  go_enter Tryd.func9, Tryd.ntmps9
  go_wp2
  go_ret
  exact ⟨ret_int hm, rfl⟩
/-- all blocks but rows of numbers are as they were -/
def KeptI (w w' : World) : Prop := ∀ (k : Nat) (o : Obj), w.heap[k]? = some o → (∀ c fz, o ≠ .cells c 3 fz) → w'.heap[k]? = some o
theorem bis_keep {B b : Nat} {l : List UInt8} {w w' : World} (h : BIs B b l w) (hk : KeptI w w') : BIs B b l w' := by
  have key : ∀ p, Lib.BuilderAtF 43 5 B b p (Lib.byteCells l) w → Lib.BuilderAtF 43 5 B b p (Lib.byteCells l) w' := by
    rintro p ⟨hB, v, hb, ho, hne⟩
    refine ⟨hB, v, hk _ _ hb (fun c fz e => by cases e), ⟨ho.1, ?_⟩, hne⟩
    rcases ho.2 with h1 | ⟨g, cap, cur, fz, h1, h2, h3, h4⟩
    · exact .inl h1
    · exact .inr ⟨g, cap, cur, fz, h1, h2, hk _ _ h3 (fun c fz e => by cases e), h4⟩
  exact h.elim (fun x => .inl (key _ x)) (fun x => .inr (key _ x))
theorem keptI_below {w w' : World} (h : Below w.heap.size w w') : KeptI w w' := fun k o hk _ => by
  rw [h.block k (Array.getElem?_eq_some_iff.1 hk).1]; exact hk
theorem keptI_grown {w w' : World} {B : Nat} {v : Value} {n : Nat} {xs : List Value} (ho : w.ownsRow B 3 1 v n xs) (hg : w.grownBy w' v.ownBlock) : KeptI w w' := fun k o hk hn => by
  rw [hg.block k (Array.getElem?_eq_some_iff.1 hk).1 ?_]
  · exact hk
  · intro e
    rcases ho.2 with ⟨rfl, _⟩ | ⟨g, cap, cur, rfl, h2, h3, _⟩
    · cases e
    · have e' : k = g := Option.some.inj e
      subst e'
      rw [h3] at hk
      exact hn _ _ (Option.some.inj hk).symm
/-- the block of a builder -/
theorem bis_block {B b : Nat} {l : List UInt8} {w : World} (h : BIs B b l w) : B ≤ b ∧ ∃ c, w.heap[b]? = some (.cells c 43 (0, 0)) := by
  rcases h with ⟨hB, v, hb, _⟩ | ⟨hB, v, hb, _⟩
  · exact ⟨hB, _, hb⟩
  · exact ⟨hB, _, hb⟩
theorem ats_keep {B b : Nat} {l : List UInt8} {v : Value} {n : Nat} {xs : List Value} {w w' : World} (h : w.ownsRow B 3 1 v n xs) (hb : BIs B b l w) (hk : Lib.OthersKept 5 (some b) w w') : w'.ownsRow B 3 1 v n xs := by
  obtain ⟨_, c, hc⟩ := bis_block hb
  refine ⟨h.1, ?_⟩
  rcases h.2 with h1 | ⟨g, cap, cur, h1, h2, h3, h4⟩
  · exact .inl h1
  · refine .inr ⟨g, cap, cur, h1, h2, hk _ _ h3 (fun e => ?_) (fun c fz e => by cases e), h4⟩
    cases e
    rw [hc] at h3
    cases h3
theorem bis_new (w : World) : BIs w.heap.size w.heap.size [] (w.alloc (.cells #[.pointer none, .slice none 0 0] 43)) :=
  .inl ⟨Nat.le_refl _, .slice none 0 0, heap_alloc_new _ _, World.ownsRowF_nil _ _ _ _, by simp [Value.ownBlock]⟩
end Go.Proofs.YtgmibjcccdgkgaaDoor
