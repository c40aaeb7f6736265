/- LexBlanks, walked. -/
import Derived.Test.YtgmibjcccdgkgaaDoorBShelf
import Derived.Test.YtgmibjcccdgkgaaDoorLCut
import Derived.Test.YtgmibjcccdgkgaaDoorQSplit
import Derived.Deep.CutBlock
namespace Go.Proofs.YtgmibjcccdgkgaaDoor
open Go.RowKit

/-- numbers in a row -/
def IntsAt (w : World) (a : Option Addr) (xs : List Int) : Prop :=
  xs = [] ∨ ∃ b off, a = some ⟨b, off, none⟩ ∧ b < w.heap.size ∧ ∀ j (h : j < xs.length), w.cell? ⟨b, off + j, none⟩ = some (.int .i64 xs[j])
theorem IntsAt.below {w w' : World} {a : Option Addr} {xs : List Int} (h : IntsAt w a xs) (hb : Below w.heap.size w w') : IntsAt w' a xs := by
  rcases h with h | ⟨b, off, e, hlt, hc⟩
  · exact .inl h
  · exact .inr ⟨b, off, e, Nat.lt_of_lt_of_le hlt hb.size, fun j hj => by rw [hb.cell (p := ⟨b, _, none⟩) hlt]; exact hc j hj⟩
theorem info3 : (Tryd.prog.info? 3).map (fun i => (i.zero, i.size, i.bytes)) = some (some (.int .i64 0), 1, 8) := by kernel_rfl
theorem gap_cell (w : World) (k : Nat) (hk : k < 4) : (w.alloc (.cells #[.string ⟨#[32]⟩, .string ⟨#[10]⟩, .string ⟨#[9, 32, 13]⟩, .string ⟨#[32, 32, 32, 32]⟩] 9)).cell? ⟨w.heap.size, k, none⟩ = some (.string ⟨(gapN k).toArray⟩) := by
  match k, hk with
  | 0, _ => simp [go_sem, gapN]
  | 1, _ => simp [go_sem, gapN]
  | 2, _ => simp [go_sem, gapN]
  | 3, _ => simp [go_sem, gapN]
theorem take_snoc (L : List Tok) (i : Nat) (h : i < L.length) : L.take (i + 1) = L.take i ++ [L[i]] := by
  rw [List.take_add_one, List.getElem?_eq_getElem h]; rfl
theorem take_len (L : List Tok) (i : Nat) (h : i ≤ L.length) : (L.take i).length = i := by rw [List.length_take]; omega
/-- the state of the first loop -/
structure St1 (xs : List Int) (L : List Tok) (B : Nat) (w2 : World) (i : Nat) (v : Value) (w : World) : Prop where
  bis : BIs B B (outL (gsN xs) (upN1 xs) 0 (L.take i)) w
  ats : w.ownsRow B 3 1 v i (ic (atsN (gsN xs) (upN1 xs) (L.take i)))
  low : Below B w2 w
/-- behind the blanks -/
structure St2 (xs : List Int) (L : List Tok) (B : Nat) (w2 : World) (i : Nat) (v : Value) (w : World) : Prop where
  bis : BIs B B (outL (gsN xs) (upN1 xs) 0 (L.take i) ++ gsN xs i) w
  ats : w.ownsRow B 3 1 v i (ic (atsN (gsN xs) (upN1 xs) (L.take i)))
  low : Below B w2 w
/-- behind the place -/
structure St3 (xs : List Int) (L : List Tok) (B : Nat) (w2 : World) (i : Nat) (v : Value) (w : World) : Prop where
  bis : BIs B B (outL (gsN xs) (upN1 xs) 0 (L.take i) ++ gsN xs i) w
  ats : w.ownsRow B 3 1 v (i + 1) (ic (atsN (gsN xs) (upN1 xs) (L.take (i + 1))))
  low : Below B w2 w
theorem below_at {B : Nat} {w2 w w' : World} (h : Below B w2 w) (hB : B ≤ w.heap.size) (hb : Below w.heap.size w w') : Below B w2 w' := h.trans (hb.mono hB)
theorem St1.size {xs : List Int} {L : List Tok} {B : Nat} {w2 : World} {i : Nat} {v : Value} {w : World} (h : St1 xs L B w2 i v w) : B < w.heap.size := by
  obtain ⟨_, c, hc⟩ := bis_block h.bis
  exact (Array.getElem?_eq_some_iff.1 hc).1
theorem St2.size {xs : List Int} {L : List Tok} {B : Nat} {w2 : World} {i : Nat} {v : Value} {w : World} (h : St2 xs L B w2 i v w) : B < w.heap.size := by
  obtain ⟨_, c, hc⟩ := bis_block h.bis
  exact (Array.getElem?_eq_some_iff.1 hc).1
theorem St3.size {xs : List Int} {L : List Tok} {B : Nat} {w2 : World} {i : Nat} {v : Value} {w : World} (h : St3 xs L B w2 i v w) : B < w.heap.size := by
  obtain ⟨_, c, hc⟩ := bis_block h.bis
  exact (Array.getElem?_eq_some_iff.1 hc).1
theorem St1.alloc {xs : List Int} {L : List Tok} {B : Nat} {w2 : World} {i : Nat} {v : Value} {w : World} (h : St1 xs L B w2 i v w) (o : Obj) : St1 xs L B w2 i v (w.alloc o) :=
  have hb : Below w.heap.size w (w.alloc o) := (Below.refl _ w).alloc (Nat.le_refl _) o
  ⟨bis_keep h.bis (keptI_below hb), own_below h.ats hb, below_at h.low (by have := h.size; omega) hb⟩
theorem St1.to {xs : List Int} {L : List Tok} {B : Nat} {w2 : World} {i : Nat} {v : Value} {w w' : World} (h : St1 xs L B w2 i v w) (hb : BIs B B (outL (gsN xs) (upN1 xs) 0 (L.take i) ++ gsN xs i) w') (hl : Below B w w') (hk : Lib.OthersKept 5 (some B) w w') : St2 xs L B w2 i v w' :=
  ⟨hb, ats_keep h.ats h.bis hk, h.low.trans hl⟩
theorem St2.to {xs : List Int} {L : List Tok} {B : Nat} {w2 : World} {i : Nat} {v v' : Value} {w w' : World} (h : St2 xs L B w2 i v w) (hi : i < L.length) (o : Obj) (ho : w'.ownsRow B 3 1 v' (i + 1) (ic (atsN (gsN xs) (upN1 xs) (L.take i)) ++ [.int .i64 (((outL (gsN xs) (upN1 xs) 0 (L.take i)).length + (gsN xs i).length : Nat) : Int)])) (hg : (w.alloc o).grownBy w' v.ownBlock) : St3 xs L B w2 i v' w' := by
  have hb : Below w.heap.size w (w.alloc o) := (Below.refl _ w).alloc (Nat.le_refl _) o
  have hs := h.size
  refine ⟨bis_keep (bis_keep h.bis (keptI_below hb)) (keptI_grown (own_below h.ats hb) hg), ?_, (h.low.alloc (by omega) o).grown hg (by simp; omega) (fun g hg => (h.ats.lt g hg).1)⟩
  rw [take_snoc L i hi, ats_snoc, take_len L i (by omega)]
  unfold ic at *
  rw [List.map_append]
  exact ho
theorem St3.below {xs : List Int} {L : List Tok} {B : Nat} {w2 : World} {i : Nat} {v : Value} {w w' : World} (h : St3 xs L B w2 i v w) (hb : Below w.heap.size w w') : St3 xs L B w2 i v w' :=
  ⟨bis_keep h.bis (keptI_below hb), own_below h.ats hb, below_at h.low (by have := h.size; omega) hb⟩
theorem St3.to {xs : List Int} {L : List Tok} {B : Nat} {w2 : World} {i : Nat} {v : Value} {w w' : World} (h : St3 xs L B w2 i v w) (hi : i < L.length) {t : List UInt8} (ht : wr (upN1 xs i) L[i] = t) (hb : BIs B B (outL (gsN xs) (upN1 xs) 0 (L.take i) ++ gsN xs i ++ t) w') (hl : Below B w w') (hk : Lib.OthersKept 5 (some B) w w') : St1 xs L B w2 (i + 1) v w' := by
  refine ⟨?_, ats_keep h.ats h.bis hk, h.low.trans hl⟩
  rw [take_snoc L i hi, out_snoc, take_len L i (by omega), Nat.zero_add, ht, ← List.append_assoc]
  exact hb
theorem pre_len2 {s : ByteArray} {xs : List Int} {L : List Tok} (hL : lexS s = .ok L) (hs : s.size ≤ 600) (i : Nat) : (outL (gsN xs) (upN1 xs) 0 (L.take i)).length ≤ 2406 := by
  have h1 := out_len xs (upN1 xs) (L.take i) 0
  have h2 := lex_bounds hL
  have h3 := sum_take L i
  have h4 : (L.take i).length ≤ L.length := by rw [List.length_take]; omega
  omega
end Go.Proofs.YtgmibjcccdgkgaaDoor
