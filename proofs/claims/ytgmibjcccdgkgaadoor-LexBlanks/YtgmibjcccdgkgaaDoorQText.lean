/- The program's Small and text, if the library's Clone and ReplaceAll do what they should. -/
import Derived.Test.YtgmibjcccdgkgaaDoorQFirst
namespace Go.Proofs.YtgmibjcccdgkgaaDoor
open Go.RowKit

/-- bytes of a text in a new row -/
theorem bytes_of (s : ByteArray) (w : World) : ∃ cap w', (convert 9 41 (.string s)).run Tryd.prog w = .ok (.slice (some ⟨w.heap.size, 0, none⟩) s.size cap) w' ∧ Below w.heap.size w w' ∧ w'.heap.size = w.heap.size + 1 ∧
    (∀ j (hj : j < s.data.toList.length), w'.cell? ⟨w.heap.size, j, none⟩ = some (.int .u8 (s.data.toList[j].toNat : Int))) ∧ (∀ j, j < s.size → w'.frozen? ⟨w.heap.size, j, none⟩ = false) := by
  have h := run_bytes_of_string (P := Tryd.prog) w 9 41 5 s Tryd.underlying9 Tryd.underlying41 Tryd.underlying5
  refine ⟨_, _, h, (Below.refl _ w).drew.alloc (Nat.le_refl _) _, ?_, ?_, ?_⟩
  · simp
  · intro j hj
    have hn : (w.drew.alloc (.cells (bytesRow s (grownCap w s.size 0 5)) 5 ((bytesRow s (grownCap w s.size 0 5)).size, (bytesRow s (grownCap w s.size 0 5)).size + 1))).heap[w.heap.size]? = _ := heap_alloc_new w.drew _
    have hj' : j < s.data.size := by simpa using hj
    simp only [World.cell?, hn]
    have hj2 : j < s.size := hj'
    simp [bytesRow, Array.getElem?_append, hj2]
  · intro j hj
    have hn : (w.drew.alloc (.cells (bytesRow s (grownCap w s.size 0 5)) 5 ((bytesRow s (grownCap w s.size 0 5)).size, (bytesRow s (grownCap w s.size 0 5)).size + 1))).heap[w.heap.size]? = _ := heap_alloc_new w.drew _
    have hj' : j < (bytesRow s (grownCap w s.size 0 5)).size := by
      have e : s.data.size = s.size := rfl
      simp [bytesRow]; omega
    simp only [World.frozen?, hn]
    simp
    omega
set_option maxHeartbeats 1000000 in
theorem small_any (s : ByteArray) (w : World) (hs : s.size ≤ 1000000) :
    Calls Tryd.prog 37 #[.string s] w fun e w' => e = .returned (.string (smallS s)) ∧ Below w.heap.size w w' := by
  obtain ⟨cap, w1, hcv, hb1, hz1, hc1, hf1⟩ := bytes_of s w
  have h0 : Half w.heap.size s.size 0 (fun j => lown (bt s j)) (bt s) w1 := ⟨fun j hj => by rw [hc1 j (by simpa using hj)]; simp [bt_at s j hj]; rfl, hf1⟩
  clear hc1 hf1 hz1
  go_enter Tryd.func37, Tryd.ntmps37
  go_wp2
  go_loopw [10] (fun i wr => ∃ k : Nat, k ≤ s.size ∧ i = .int .i64 k ∧ Hid (Half w.heap.size s.size k (fun j => lown (bt s j)) (bt s) wr ∧ Below w.heap.size w wr)) (fun i _ => s.size - (intOf i).toNat)
  case atStart => exact ⟨0, Nat.zero_le _, rfl, h0, hb1⟩
  case round =>
    clear h0 hb1 hcv
    obtain ⟨k, hk, rfl, hz⟩ := hrel
    by_cases hlt : k < s.size
    · have hc := hz.out.1.cell k hlt
      have hf := hz.out.1.free k hlt
      simp only [Nat.lt_irrefl, if_false] at hc
      have hbt := bt_lt s k
      obtain ⟨x, hx⟩ : ∃ x, bt s k = x := ⟨_, rfl⟩
      rw [hx] at hc hbt
      have HX : Hid (bt s k = x) := hx
      clear hx
      obtain ⟨a1, e1⟩ : ∃ b, decide ((65 : Int) ≤ (x : Int)) = b := ⟨_, rfl⟩
      obtain ⟨a2, e2⟩ : ∃ b, decide ((x : Int) ≤ 90) = b := ⟨_, rfl⟩
      have hi : (k : Int) < (s.size : Int) := by omega
      cases a1
      · go_wp2
        go_roundw
        case rel =>
          refine ⟨k + 1, by omega, by go_num, hz.out.1.keep hlt ?_, hz.out.2⟩
          show lown (bt s k) = _
          simp only [decide_eq_false_iff_not] at e1
          rw [HX.out, lown, if_neg (by omega)]
        case measure => simp [intOf]; omega
      · cases a2
        · go_wp2
          go_roundw
          case rel =>
            refine ⟨k + 1, by omega, by go_num, hz.out.1.keep hlt ?_, hz.out.2⟩
            show lown (bt s k) = _
            simp only [decide_eq_false_iff_not] at e2
            rw [HX.out, lown, if_neg (by omega)]
          case measure => simp [intOf]; omega
        · simp only [decide_eq_true_eq] at e1 e2
          go_wp2
          go_roundw
          case rel =>
            refine ⟨k + 1, by omega, by go_num, hz.out.1.set hlt _ ?_, hz.out.2.setCell (p := ⟨_, k, none⟩) (Nat.le_refl _) _⟩
            show _ = ((lown (bt s k) : Nat) : Int)
            rw [HX.out, lown, if_pos (by omega)]
            omega
          case measure => simp [intOf]; omega
    · obtain rfl : k = s.size := by omega
      have ht := hz.out.1.text (cap := cap) (smallL s.data.toList) (small_len s) (small_text s)
      go_wp2
      go_ret
      exact ⟨rfl, hz.out.2⟩

/-- the library's variable holds a number -/
def MaxAt (w : World) : Prop := ∃ m : Int, w.cell? ⟨3, 0, none⟩ = some (.int .i64 m)
theorem MaxAt.below {w w' : World} (h : MaxAt w) (hb : Below w.heap.size w w') : MaxAt w' := by
  obtain ⟨m, h⟩ := h
  have h0 : 3 < w.heap.size := World.block_lt_of_cell? w _ h
  exact ⟨m, by rw [hb.cell (p := ⟨3, 0, none⟩) h0]; exact h⟩
def CloneSpec : Prop := ∀ (s : ByteArray) (w : World), s.size ≤ 100000 → Calls Tryd.prog 38 #[.string s] w fun e w' => e = .returned (.string s) ∧ Below w.heap.size w w'
def RepSpec : Prop := ∀ (s : ByteArray) (w : World), s.size ≤ 100000 → MaxAt w → Calls Tryd.prog 12 #[.string s, .string ⟨#[39, 39]⟩, .string ⟨#[39]⟩] w fun e w' => e = .returned (.string ⟨(Lib.replaceAll s.data.toList [39, 39] [39]).toArray⟩) ∧ Below w.heap.size w w'
theorem rep_le (k : Nat) : ∀ t : List UInt8, t.length ≤ k → (Lib.replaceAll t [39, 39] [39]).length ≤ t.length := by
  induction k with
  | zero => intro t h; obtain rfl : t = [] := List.length_eq_zero_iff.1 (by omega); rw [rep_nil _ _ (by decide)]; simp
  | succ k ih =>
    intro t h
    cases t with
    | nil => rw [rep_nil _ _ (by decide)]; simp
    | cons c t =>
      rw [List.length_cons] at h
      cases hp : List.isPrefixOf [39, 39] (c :: t)
      · rw [rep_skip (by decide) c t hp, List.length_cons, List.length_cons]
        have := ih t (by omega)
        omega
      · obtain ⟨r, hr⟩ := List.isPrefixOf_iff_prefix.1 hp
        have e := rep_hit (old := [39, 39]) (new := [39]) (by decide) (by decide) r
        rw [hr] at e
        have hl := congrArg List.length hr
        rw [List.length_append, List.length_cons] at hl
        simp only [List.length_cons, List.length_nil] at hl
        have := ih r (by omega)
        rw [e, List.length_append, List.length_cons]
        simp only [List.length_cons, List.length_nil]
        omega
set_option maxHeartbeats 4000000 in
theorem text_any (hC : CloneSpec) (hR : RepSpec) (k : Int) (b : ByteArray) (w : World) (h3 : k = 3 → 2 ≤ b.size) (hs : b.size ≤ 100000) (hm : MaxAt w) :
    Calls Tryd.prog 22 #[.int .i64 k, .string b] w fun e w' => e = .returned (.string ⟨(textT k b.data.toList).toArray⟩) ∧ Below w.heap.size w w' := by
  have HC : Hid CloneSpec := hC
  have HR : Hid RepSpec := hR
  have HM : Hid (MaxAt w) := hm
  clear hC hR hm
  by_cases h1 : k = 1
  · subst h1
    clear h3
    have HT : Hid ((⟨(textT 1 b.data.toList).toArray⟩ : ByteArray) = smallS b) := rfl
    go_enter Tryd.func22, Tryd.ntmps22
    go_wp2_with (go_at_call 37; refine (small_any b _ (by omega)).mono ?_; rintro e w' ⟨rfl, hb⟩)
    go_ret
    exact ⟨by rw [HT.out]; rfl, hb⟩
  · have d1 : (k == 1) = false := by rw [beq_eq_false_iff_ne]; exact h1
    by_cases h2 : k = 3
    · subst h2
      have h3 := h3 rfl
      have hn : ((b.size : Int) - 1).toNat = b.size - 1 := by omega
      obtain ⟨x, hx⟩ : ∃ x, b.extract 1 (b.size - 1) = x := ⟨_, rfl⟩
      have hxl : x.data.toList = (b.data.toList.take (b.size - 1)).drop 1 := by rw [← hx, ba_extract]
      have HX : Hid (b.extract 1 (b.size - 1) = x) := hx
      obtain ⟨t, ht⟩ : ∃ t, (⟨(textT 3 b.data.toList).toArray⟩ : ByteArray) = t := ⟨_, rfl⟩
      have HT : Hid ((⟨(textT 3 b.data.toList).toArray⟩ : ByteArray) = t) := ht
      have HE : Hid ((⟨(Lib.replaceAll x.data.toList [39, 39] [39]).toArray⟩ : ByteArray) = t) := by
        show _ = _
        rw [← ht, hxl, textT, if_neg (by decide), if_pos rfl, ba_len]
      have HXl : Hid (x.size ≤ 100000) := by
        show _ ≤ _
        rw [← hx]; simp; omega
      have HTl : Hid (t.size ≤ 100000) := by
        show _ ≤ _
        rw [← HE.out, ← ba_len]
        have := rep_le _ x.data.toList (Nat.le_refl _)
        rw [ba_len] at this
        exact Nat.le_trans this HXl.out
      clear hx ht hxl h1
      go_enter Tryd.func22, Tryd.ntmps22
      go_wp2_with fail
      rw [HX.out]
      refine (HR.out x w HXl.out HM.out).mono ?_
      rintro _ w1 ⟨rfl, hb1⟩
      rw [HE.out]
      have HB1 : Hid (Below w.heap.size w w1) := hb1
      clear hb1
      go_wp2_with fail
      refine (HC.out t w1 HTl.out).mono ?_
      rintro _ w2 ⟨rfl, hb2⟩
      have HB2 : Hid (Below w.heap.size w w2) := HB1.out.trans (hb2.mono HB1.out.size)
      clear hb2
      go_wp2
      go_ret
      exact ⟨by rw [HT.out]; rfl, HB2.out⟩
    · have d3 : (k == 3) = false := by rw [beq_eq_false_iff_ne]; exact h2
      have HT : Hid ((⟨(textT k b.data.toList).toArray⟩ : ByteArray) = b) := by
        show _ = _
        rw [textT, if_neg h1, if_neg h2]
      clear h1 h2 h3
      go_enter Tryd.func22, Tryd.ntmps22
      go_wp2_with (go_at_call 38; refine (HC.out b _ (by omega)).mono ?_; rintro e w' ⟨rfl, hb⟩)
      go_ret
      exact ⟨by rw [HT.out]; rfl, hb⟩
end Go.Proofs.YtgmibjcccdgkgaaDoor
