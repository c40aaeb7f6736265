/- Part 12 of 39. -/
import Derived.Test.YtbdcbaamjkjhaaaGreatDoorG11
import Derived.Lib.AppendIntMem
import Derived.WalkSmall
namespace Go.Proofs.YtbdcbaamjkjhaaaGreatDoor
open Go.RowKit

/-- bytes of a text in a new row -/
theorem bytes_of (s : ByteArray) (w : World) : ∃ cap w', (convert 9 71 (.string s)).run Tryz.prog w = .ok (.slice (some ⟨w.heap.size, 0, none⟩) s.size cap) w' ∧ Below w.heap.size w w' ∧ w'.heap.size = w.heap.size + 1 ∧
    (∀ j (hj : j < s.data.toList.length), w'.cell? ⟨w.heap.size, j, none⟩ = some (.int .u8 (s.data.toList[j].toNat : Int))) ∧ (∀ j, j < s.size → w'.frozen? ⟨w.heap.size, j, none⟩ = false) := by
  have h := run_bytes_of_string (P := Tryz.prog) w 9 71 5 s Tryz.underlying9 Tryz.underlying71 Tryz.underlying5
  refine ⟨_, _, h, (Below.refl _ w).drew.alloc (Nat.le_refl _) _, ?_, ?_, ?_⟩
  · simp
  · intro j hj
    have hn : (w.drew.alloc (.cells (bytesRow s (grownCap w s.size 0 5)) 5 ((bytesRow s (grownCap w s.size 0 5)).size, (bytesRow s (grownCap w s.size 0 5)).size + 1))).heap[w.heap.size]? = _ := heap_alloc_new w.drew _
    have hj' : j < s.data.size := by simpa using hj
    simp only [World.cell?, hn]
    have hj2 : j < s.size := hj'
    simp [bytesRow, Array.getElem?_append, hj2]
  · intro j hj
    have hn : (w.drew.alloc (.cells (bytesRow s (grownCap w s.size 0 5)) 5 ((bytesRow s (grownCap w s.size 0 5)).size, (bytesRow s (grownCap w s.size 0 5)).size + 1))).heap[w.heap.size]? = _ := heap_alloc_new w.drew _
    have hj' : j < (bytesRow s (grownCap w s.size 0 5)).size := by
      have e : s.data.size = s.size := rfl
      simp [bytesRow]; omega
    simp only [World.frozen?, hn]
    simp
    omega
set_option maxHeartbeats 1000000 in
theorem small_any (s : ByteArray) (w : World) (hs : s.size ≤ 1000000) :
    Calls Tryz.prog 86 #[.string s] w fun e w' => e = .returned (.string (smallS s)) ∧ Below w.heap.size w w' := by
  obtain ⟨cap, w1, hcv, hb1, hz1, hc1, hf1⟩ := bytes_of s w
  have h0 : Half w.heap.size s.size 0 (fun j => lown (bt s j)) (bt s) w1 := ⟨fun j hj => by rw [hc1 j (by simpa using hj)]; simp [bt_at s j hj]; rfl, hf1⟩
  clear hc1 hf1 hz1
  go_enter Tryz.func86, Tryz.ntmps86
  go_wp2
  go_loopw [10] (fun i wr => ∃ k : Nat, k ≤ s.size ∧ i = .int .i64 k ∧ Hid (Half w.heap.size s.size k (fun j => lown (bt s j)) (bt s) wr ∧ Below w.heap.size w wr)) (fun i _ => s.size - (intOf i).toNat)
  case atStart => exact ⟨0, Nat.zero_le _, rfl, h0, hb1⟩
  case round =>
    clear h0 hb1 hcv
    obtain ⟨k, hk, rfl, hz⟩ := hrel
    by_cases hlt : k < s.size
    · have hc := hz.out.1.cell k hlt
      have hf := hz.out.1.free k hlt
      simp only [Nat.lt_irrefl, if_false] at hc
      have hbt := bt_lt s k
      obtain ⟨x, hx⟩ : ∃ x, bt s k = x := ⟨_, rfl⟩
      rw [hx] at hc hbt
      have HX : Hid (bt s k = x) := hx
      clear hx
      obtain ⟨a1, e1⟩ : ∃ b, decide ((65 : Int) ≤ (x : Int)) = b := ⟨_, rfl⟩
      obtain ⟨a2, e2⟩ : ∃ b, decide ((x : Int) ≤ 90) = b := ⟨_, rfl⟩
      have hi : (k : Int) < (s.size : Int) := by omega
      cases a1
      · go_wp2
        go_roundw
        case rel =>
          refine ⟨k + 1, by omega, by go_num, hz.out.1.keep hlt ?_, hz.out.2⟩
          show lown (bt s k) = _
          simp only [decide_eq_false_iff_not] at e1
          rw [HX.out, lown, if_neg (by omega)]
        case measure => simp [intOf]; omega
      · cases a2
        · go_wp2
          go_roundw
          case rel =>
            refine ⟨k + 1, by omega, by go_num, hz.out.1.keep hlt ?_, hz.out.2⟩
            show lown (bt s k) = _
            simp only [decide_eq_false_iff_not] at e2
            rw [HX.out, lown, if_neg (by omega)]
          case measure => simp [intOf]; omega
        · simp only [decide_eq_true_eq] at e1 e2
          go_wp2
          go_roundw
          case rel =>
            refine ⟨k + 1, by omega, by go_num, hz.out.1.set hlt _ ?_, hz.out.2.setCell (p := ⟨_, k, none⟩) (Nat.le_refl _) _⟩
            show _ = ((lown (bt s k) : Nat) : Int)
            rw [HX.out, lown, if_pos (by omega)]
            omega
          case measure => simp [intOf]; omega
    · obtain rfl : k = s.size := by omega
      have ht := hz.out.1.text (cap := cap) (smallL s.data.toList) (small_len s) (small_text s)
      go_wp2
      go_ret
      exact ⟨rfl, hz.out.2⟩

/-- the library's variable holds a number -/
def MaxAt (w : World) : Prop := ∃ m : Int, w.cell? ⟨5, 0, none⟩ = some (.int .i64 m)
theorem MaxAt.below {w w' : World} (h : MaxAt w) (hb : Below w.heap.size w w') : MaxAt w' := by
  obtain ⟨m, h⟩ := h
  have h0 : 5 < w.heap.size := World.block_lt_of_cell? w _ h
  exact ⟨m, by rw [hb.cell (p := ⟨5, 0, none⟩) h0]; exact h⟩
def CloneSpec : Prop := ∀ (s : ByteArray) (w : World), s.size ≤ 100000 → Calls Tryz.prog 41 #[.string s] w fun e w' => e = .returned (.string s) ∧ Below w.heap.size w w'
def RepSpec : Prop := ∀ (s : ByteArray) (w : World), s.size ≤ 100000 → MaxAt w → Calls Tryz.prog 87 #[.string s, .string ⟨#[39, 39]⟩, .string ⟨#[39]⟩] w fun e w' => e = .returned (.string ⟨(Lib.replaceAll s.data.toList [39, 39] [39]).toArray⟩) ∧ Below w.heap.size w w'
theorem rep_le (k : Nat) : ∀ t : List UInt8, t.length ≤ k → (Lib.replaceAll t [39, 39] [39]).length ≤ t.length := by
  induction k with
  | zero => intro t h; obtain rfl : t = [] := List.length_eq_zero_iff.1 (by omega); rw [rep_nil _ _ (by decide)]; simp
  | succ k ih =>
    intro t h
    cases t with
    | nil => rw [rep_nil _ _ (by decide)]; simp
    | cons c t =>
      rw [List.length_cons] at h
      cases hp : List.isPrefixOf [39, 39] (c :: t)
      · rw [rep_skip (by decide) c t hp, List.length_cons, List.length_cons]
        have := ih t (by omega)
        omega
      · obtain ⟨r, hr⟩ := List.isPrefixOf_iff_prefix.1 hp
        have e := rep_hit (old := [39, 39]) (new := [39]) (by decide) (by decide) r
        rw [hr] at e
        have hl := congrArg List.length hr
        rw [List.length_append, List.length_cons] at hl
        simp only [List.length_cons, List.length_nil] at hl
        have := ih r (by omega)
        rw [e, List.length_append, List.length_cons]
        simp only [List.length_cons, List.length_nil]
        omega
set_option maxHeartbeats 4000000 in
theorem ltext_any (hC : CloneSpec) (hR : RepSpec) (k : Int) (b : ByteArray) (w : World) (h3 : k = 3 → 2 ≤ b.size) (hs : b.size ≤ 100000) (hm : MaxAt w) :
    Calls Tryz.prog 48 #[.int .i64 k, .string b] w fun e w' => e = .returned (.string ⟨(textT k b.data.toList).toArray⟩) ∧ Below w.heap.size w w' := by
  have HC : Hid CloneSpec := hC
  have HR : Hid RepSpec := hR
  have HM : Hid (MaxAt w) := hm
  clear hC hR hm
  by_cases h1 : k = 1
  · subst h1
    clear h3
    have HT : Hid ((⟨(textT 1 b.data.toList).toArray⟩ : ByteArray) = smallS b) := rfl
    go_enter Tryz.func48, Tryz.ntmps48
    go_wp2_with (go_at_call 86; refine (small_any b _ (by omega)).mono ?_; rintro e w' ⟨rfl, hb⟩)
    go_ret
    exact ⟨by rw [HT.out]; rfl, hb⟩
  · have d1 : (k == 1) = false := by rw [beq_eq_false_iff_ne]; exact h1
    by_cases h2 : k = 3
    · subst h2
      have h3 := h3 rfl
      have hn : ((b.size : Int) - 1).toNat = b.size - 1 := by omega
      obtain ⟨x, hx⟩ : ∃ x, b.extract 1 (b.size - 1) = x := ⟨_, rfl⟩
      have hxl : x.data.toList = (b.data.toList.take (b.size - 1)).drop 1 := by rw [← hx, ba_extract]
      have HX : Hid (b.extract 1 (b.size - 1) = x) := hx
      obtain ⟨t, ht⟩ : ∃ t, (⟨(textT 3 b.data.toList).toArray⟩ : ByteArray) = t := ⟨_, rfl⟩
      have HT : Hid ((⟨(textT 3 b.data.toList).toArray⟩ : ByteArray) = t) := ht
      have HE : Hid ((⟨(Lib.replaceAll x.data.toList [39, 39] [39]).toArray⟩ : ByteArray) = t) := by
        show _ = _
        rw [← ht, hxl, textT, if_neg (by decide), if_pos rfl, ba_len]
      have HXl : Hid (x.size ≤ 100000) := by
        show _ ≤ _
        rw [← hx]; simp; omega
      have HTl : Hid (t.size ≤ 100000) := by
        show _ ≤ _
        rw [← HE.out, ← ba_len]
        have := rep_le _ x.data.toList (Nat.le_refl _)
        rw [ba_len] at this
        exact Nat.le_trans this HXl.out
      clear hx ht hxl h1
      go_enter Tryz.func48, Tryz.ntmps48
      go_wp2_with fail
      rw [HX.out]
      refine (HR.out x w HXl.out HM.out).mono ?_
      rintro _ w1 ⟨rfl, hb1⟩
      rw [HE.out]
      have HB1 : Hid (Below w.heap.size w w1) := hb1
      clear hb1
      go_wp2_with fail
      refine (HC.out t w1 HTl.out).mono ?_
      rintro _ w2 ⟨rfl, hb2⟩
      have HB2 : Hid (Below w.heap.size w w2) := HB1.out.trans (hb2.mono HB1.out.size)
      clear hb2
      go_wp2
      go_ret
      exact ⟨by rw [HT.out]; rfl, HB2.out⟩
    · have d3 : (k == 3) = false := by rw [beq_eq_false_iff_ne]; exact h2
      have HT : Hid ((⟨(textT k b.data.toList).toArray⟩ : ByteArray) = b) := by
        show _ = _
        rw [textT, if_neg h1, if_neg h2]
      clear h1 h2 h3
      go_enter Tryz.func48, Tryz.ntmps48
      go_wp2_with (go_at_call 41; refine (HC.out b _ (by omega)).mono ?_; rintro e w' ⟨rfl, hb⟩)
      go_ret
      exact ⟨by rw [HT.out]; rfl, hb⟩
end Go.Proofs.YtbdcbaamjkjhaaaGreatDoor
namespace Go.Proofs.YtbdcbaamjkjhaaaGreatDoor
open Go.Shelf Go.RowKit

theorem bytes_or {w w' : World} (h : w' = w ∨ ∃ t, w' = Lib.bytesWorld w 5 t) : Below w.heap.size w w' := by
  rcases h with rfl | ⟨t, rfl⟩
  · exact Below.refl _ _
  · exact Lib.bytesWorld_below _ _ _
theorem pint_ok : PIntSpec := by
  intro s w hs hv
  cases h : Lib.parseIntB 64 s.data.toList with
  | ok n =>
    refine (Tryz.strconv_ParseInt_10_at64_ok s (by omega) n h w).mono ?_
    rintro e w' ⟨rfl, hw⟩
    exact ⟨n, _, rfl, .inl ⟨rfl, rfl⟩, bytes_or hw⟩
  | «syntax» =>
    obtain ⟨v, h1, h2⟩ := hv.sy
    refine (Tryz.strconv_ParseInt_10_at64_syntax s (by omega) h v w h1 h2).mono ?_
    rintro e w' ⟨N, rfl, _, _, hb⟩
    exact ⟨0, _, rfl, .inr ⟨(fun m e => by cases e), _, _, rfl⟩, hb⟩
  | range =>
    obtain ⟨v, h1, h2⟩ := hv.rg
    refine (Tryz.strconv_ParseInt_10_at64_range s (by omega) h v w h1 h2).mono ?_
    rintro e w' ⟨N, rfl, _, _, hb⟩
    exact ⟨_, _, rfl, .inr ⟨(fun m e => by cases e), _, _, rfl⟩, hb⟩
theorem atoi_any (s : ByteArray) (h : digsB s = true) (h9 : s.size ≤ 9) (w : World) : Calls Tryz.prog 151 #[.string s] w fun e w' => e = .returned (.tuple #[.int .i64 (digV s), .nilIface]) ∧ Below w.heap.size w w' := by
  refine (Tryz.strconv_Atoi_ok s (by omega) (digV s) (lim_digs h h9).1 w).mono ?_
  rintro e w' ⟨rfl, hw⟩
  exact ⟨rfl, bytes_or hw⟩
/-- the library's table of powers is there, and stays there -/
def PowAt (w : World) : Prop := Lib.TabIs Tryz.prog w "internal/strconv.uint64pow10" .u64 Lib.pow10Tab
theorem grow_or {w w' : World} (h : ∃ k os, w' = Go.Sort.grow (w.drewN k) os) : Below w.heap.size w w' := by
  obtain ⟨k, os, rfl⟩ := h
  exact Lib.below_grow _ _ (Nat.le_refl _) _ _
theorem fmt_any (n : Int) (h0 : 0 ≤ n) (h1 : n ≤ 9223372036854775807) (w : World) (hp : PowAt w) : Calls Tryz.prog 169 #[.int .i64 n, .int .i64 10] w fun e w' => e = .returned (.string ⟨(Lib.decDigits n.toNat).toArray⟩) ∧ Below w.heap.size w w' := by
  refine (Tryz.strconv_FormatInt_10 n (by omega) h1 w hp).mono ?_
  rintro e w' ⟨rfl, hw⟩
  refine ⟨?_, grow_or hw⟩
  rw [Lib.itoa, if_neg (by omega)]
theorem itoa_any (n : Int) (h0 : 0 ≤ n) (h1 : n ≤ 9223372036854775807) (w : World) (hp : PowAt w) : Calls Tryz.prog 105 #[.int .i64 n] w fun e w' => e = .returned (.string ⟨(Lib.decDigits n.toNat).toArray⟩) ∧ Below w.heap.size w w' := by
  refine (Tryz.strconv_Itoa n (by omega) h1 w hp).mono ?_
  rintro e w' ⟨rfl, hw⟩
  refine ⟨?_, grow_or hw⟩
  rw [Lib.itoa, if_neg (by omega)]
theorem clone_ok : CloneSpec := by
  intro s w hs
  go_enter Tryz.func41, Tryz.ntmps41
  go_wp2_with (go_at_call 78; refine (Tryz.stringslite_Clone _ _ (by omega)).mono ?_; rintro e w' ⟨rfl, hb⟩)
  go_ret
  exact ⟨rfl, hb⟩
theorem rep_ok : RepSpec := by
  intro s w hs hm
  obtain ⟨m, hm⟩ := hm
  have h2 : (⟨#[39, 39]⟩ : ByteArray).size = 2 := rfl
  have h3 : (⟨#[39]⟩ : ByteArray).size = 1 := rfl
  have h1 := Lib.countB_mul_le ⟨#[39, 39]⟩ (by decide) _ s (Nat.le_refl _)
  exact Tryz.strings_ReplaceAll s ⟨#[39, 39]⟩ ⟨#[39]⟩ m w (by omega) hm (by decide) (by rw [h2] at h1; rw [h3]; omega)
theorem esc_any (s : ByteArray) (w : World) (hs : s.size ≤ 100000) (hm : MaxAt w) : Calls Tryz.prog 87 #[.string s, .string ⟨#[39]⟩, .string ⟨#[39, 39]⟩] w fun e w' => e = .returned (.string ⟨(esc s.data.toList).toArray⟩) ∧ Below w.heap.size w w' := by
  obtain ⟨m, hm⟩ := hm
  have h2 : (⟨#[39, 39]⟩ : ByteArray).size = 2 := rfl
  have h3 : (⟨#[39]⟩ : ByteArray).size = 1 := rfl
  have h1 := Lib.countB_mul_le ⟨#[39]⟩ (by decide) _ s (Nat.le_refl _)
  have := Tryz.strings_ReplaceAll s ⟨#[39]⟩ ⟨#[39, 39]⟩ m w (by omega) hm (by decide) (by rw [h3] at h1; rw [h2]; omega)
  rw [← rep_esc]
  exact this
end Go.Proofs.YtbdcbaamjkjhaaaGreatDoor
namespace Go.Proofs.YtbdcbaamjkjhaaaGreatDoor
open Go.RowKit

/-- what writing looks at, beside the tree -/
structure GAt (w : World) : Prop where
  pr : w.rangeAt 4 0 pairCells
  mx : MaxAt w
  pw : PowAt w
  lo : 13 ≤ w.heap.size
theorem pow_below {n : Nat} {w w' : World} (h : PowAt w) (hb : Below n w w') (hn : 13 ≤ n) : PowAt w' := var?_below (g := 8) hb (by kernel_rfl) (by omega) h
theorem GAt.below {n : Nat} {w w' : World} (h : GAt w) (hb : Below n w w') (hn : 13 ≤ n) : GAt w' := by
  refine ⟨range_keep h.pr (fun o => World.cell?_of_block (w := w) (a := ⟨4, o, none⟩) (hb.block 4 (by omega))), ?_, pow_below h.pw hb hn, by have := hb.size; have := h.lo; omega⟩
  obtain ⟨m, hm⟩ := h.mx
  exact ⟨m, (World.cell?_of_block (w := w) (a := ⟨5, 0, none⟩) (hb.block 5 (by omega))).trans hm⟩
theorem esc_le (l : List UInt8) : (esc l).length ≤ 2 * l.length := by
  induction l with
  | nil => exact Nat.le_refl _
  | cons c l ih => rw [esc]; split <;> simp only [List.length_cons] <;> omega
theorem beq_f {a b : Int} (h : a ≠ b) : (a == b) = false := beq_eq_false_iff_ne.mpr h
set_option maxRecDepth 100000 in
set_option maxHeartbeats 8000000 in
theorem levelOf_any (B : Nat) (c : Int) (w : World) (z : w.cell? ⟨B, 0, none⟩ = some (.int .i64 c)) (hv : w.rangeAt 4 0 pairCells) : Calls Tryz.prog 135 #[.pointer (some ⟨B, 0, none⟩)] w fun e w' => e = .returned (.int .i64 (lvlC c)) ∧ Below w.heap.size w w' := by
  have H : Hid (w.rangeAt 4 0 pairCells) := hv
  clear hv
  go_enter Tryz.func135, Tryz.ntmps135
  by_cases h4 : c = 4
  · subst h4
    go_wp2
    go_ret
    exact ⟨rfl, Below.refl _ _⟩
  have d4 := beq_f h4
  by_cases h5 : c = 5
  · subst h5
    go_wp2
    go_ret
    exact ⟨rfl, Below.refl _ _⟩
  have d5 := beq_f h5
  by_cases h17 : c = 17
  · subst h17
    go_wp2
    go_ret
    exact ⟨rfl, Below.refl _ _⟩
  have d17 := beq_f h17
  by_cases h3 : c = 3
  · subst h3
    go_wp2
    go_ret
    exact ⟨rfl, Below.refl _ _⟩
  have d3 := beq_f h3
  have HL : Hid (lvlC c = if (pairR pairL c).2.2 then (pairR pairL c).2.1 else 8) := by show _ = _; unfold lvlC; rw [if_neg h4, if_neg (by omega), if_neg h3]
  clear h4 h5 h17 h3
  obtain ⟨Z, hZ⟩ : ∃ Z, pairR pairL c = Z := ⟨_, rfl⟩
  have HZ : Hid (pairR pairL c = Z) := hZ
  rw [HL.out, hZ]
  clear hZ
  go_wp2_with fail
  refine (paired_any c w H.out).mono ?_
  rintro _ w1 ⟨rfl, hb⟩
  rw [HZ.out]
  clear HZ HL
  obtain ⟨s, n, b⟩ := Z
  have HB : Hid (Below w.heap.size w w1) := hb
  clear hb
  cases b
  · go_wp2
    go_ret
    exact ⟨rfl, HB.out⟩
  · go_wp2
    go_ret
    exact ⟨rfl, HB.out⟩
/-- a value, as it is written -/
def litL (v : Vl) : List UInt8 := if v.k = 1 then Lib.decDigits v.n.toNat else if v.k = 2 then 39 :: (esc v.t.data.toList ++ [39]) else [110, 117, 108, 108]
structure VlOk (v : Vl) : Prop where
  num : v.k = 1 → 0 ≤ v.n ∧ v.n ≤ 9223372036854775807
  txt : v.k = 2 → v.t.size ≤ 1000
set_option maxRecDepth 100000 in
set_option maxHeartbeats 8000000 in
theorem literal_any (v : Vl) (hv : VlOk v) (w : World) (h : GAt w) : Calls Tryz.prog 154 #[.agg #[.int .i64 v.k, .int .i64 v.n, .string v.t]] w fun e w' => (∃ s, e = .returned (.string s) ∧ s.data.toList = litL v) ∧ Below w.heap.size w w' := by
  obtain ⟨k, n, t⟩ := v
  have HV : Hid (VlOk ⟨k, n, t⟩) := hv
  obtain ⟨W, hW⟩ : ∃ W, w.alloc (.cells #[.int .i64 k, .int .i64 n, .string t] 39) = W := ⟨_, rfl⟩
  have hbW : Below w.heap.size w W := by rw [← hW]; exact (Below.refl _ _).alloc (Nat.le_refl _) _
  have z0 : W.cell? ⟨w.heap.size, 0, none⟩ = some (.int .i64 k) := by rw [← hW]; simp [go_sem]
  have z1 : W.cell? ⟨w.heap.size, 1, none⟩ = some (.int .i64 n) := by rw [← hW]; simp [go_sem]
  have z2 : W.cell? ⟨w.heap.size, 2, none⟩ = some (.string t) := by rw [← hW]; simp [go_sem]
  have HW : Hid (Below w.heap.size w W ∧ MaxAt W ∧ PowAt W) := ⟨hbW, h.mx.below hbW, pow_below h.pw hbW h.lo⟩
  clear hv h hbW
  go_enter Tryz.func154, Tryz.ntmps154
  by_cases h1 : k = 1
  · subst h1
    go_wp2_with fail
    refine (fmt_any n (HV.out.num rfl).1 (HV.out.num rfl).2 W HW.out.2.2).mono ?_
    rintro _ w1 ⟨rfl, hb⟩
    have HB : Hid (Below w.heap.size w w1) := HW.out.1.trans (hb.mono HW.out.1.size)
    clear hb
    go_wp2
    go_ret
    exact ⟨⟨_, rfl, rfl⟩, HB.out⟩
  have d1 := beq_f h1
  by_cases h2 : k = 2
  · subst h2
    go_wp2_with fail
    refine (esc_any t W (by have := HV.out.txt rfl; exact Nat.le_trans this (by omega)) HW.out.2.1).mono ?_
    rintro _ w1 ⟨rfl, hb⟩
    have HB : Hid (Below w.heap.size w w1) := HW.out.1.trans (hb.mono HW.out.1.size)
    have HE : Hid (litL ⟨2, n, t⟩ = 39 :: (esc t.data.toList ++ [39])) := rfl
    clear hb
    obtain ⟨X, hX⟩ : ∃ X : ByteArray, X = ⟨(esc t.data.toList).toArray⟩ := ⟨_, rfl⟩
    have hXs : X.size ≤ 2000 := by
      have h3 := esc_le t.data.toList
      have h4 := HV.out.txt rfl
      have h5 : t.data.toList.length = t.size := by rw [Array.length_toList]; rfl
      have h6 : X.size = (esc t.data.toList).length := by rw [hX]; simp [ByteArray.size]
      have h7 : t.size ≤ 1000 := h4
      omega
    have HX : Hid (X.data.toList = esc t.data.toList) := by rw [hX]; show _ = _; simp
    rw [← hX]
    clear hX
    go_wp2
    go_ret
    refine ⟨⟨_, rfl, ?_⟩, HB.out⟩
    rw [HE.out, ← HX.out]
    simp
  have d2 := beq_f h2
  have HE : Hid (litL ⟨k, n, t⟩ = [110, 117, 108, 108]) := by show _ = _; unfold litL; rw [if_neg h1, if_neg h2]
  rw [HE.out]
  clear h1 h2
  go_wp2
  go_ret
  exact ⟨⟨_, rfl, rfl⟩, HW.out.1⟩
end Go.Proofs.YtbdcbaamjkjhaaaGreatDoor
namespace Go.Proofs.YtbdcbaamjkjhaaaGreatDoor
open Go.RowKit

def parW (n : Int) (e : Ex) (t : List UInt8) : List UInt8 := match e with
  | .nil => []
  | .node c _ _ _ _ => if lvlC c < n then 40 :: (t ++ [41]) else t
/-- what is printed of an expression, bare; and of what stands on its left, where a sum may stand -/
def prX : Ex → List UInt8 × List UInt8
  | .nil => ([], [])
  | .node c v nm l r =>
    (if c = 1 then litL v
     else if c = 2 then nm.data.toList
     else if c = 3 then [45, 32] ++ parW 7 l (prX l).1
     else if c = 4 then (if l.code = 5 then (prX l).2 ++ [32, 105, 115, 32, 110, 111, 116, 32, 110, 117, 108, 108] else [110, 111, 116, 32] ++ parW 3 l (prX l).1)
     else if c = 5 then parW 5 l (prX l).1 ++ [32, 105, 115, 32, 110, 117, 108, 108]
     else if c = 17 then parW 5 l (prX l).1 ++ ([32, 109, 97, 116, 99, 104, 32] ++ litL v)
     else if (pairR pairL c).2.2 then parW (if (pairR pairL c).2.1 = 4 then (pairR pairL c).2.1 + 1 else (pairR pairL c).2.1) l (prX l).1 ++ ([32] ++ ((pairR pairL c).1.data.toList ++ [32])) ++ parW ((pairR pairL c).2.1 + 1) r (prX r).1
     else [], parW 5 l (prX l).1)
def prN (n : Int) (e : Ex) : List UInt8 := parW n e (prX e).1
/-- the values of a tree can be written -/
def TreeOk : Ex → Prop
  | .nil => True
  | .node _ v _ l r => VlOk v ∧ TreeOk l ∧ TreeOk r
/-- a tree that lay there before the writer -/
def TrAt (b : Nat) (w : World) (p : Option Addr) (e : Ex) : Prop := ∃ w0 q, ExIs q w0 p e ∧ w0.heap.size ≤ b ∧ Below w0.heap.size w0 w
theorem TrAt.keep {b : Nat} {w w' : World} {p : Option Addr} {e : Ex} (h : TrAt b w p e) (k : Below b w w') : TrAt b w' p e := by
  obtain ⟨w0, q, h1, h2, h3⟩ := h
  exact ⟨w0, q, h1, h2, h3.trans (k.mono h2)⟩
theorem TrAt.node {b : Nat} {w : World} {p : Option Addr} {c : Int} {v : Vl} {nm : ByteArray} {l r : Ex} (h : TrAt b w p (.node c v nm l r)) : ∃ B pl pr, p = some ⟨B, 0, none⟩ ∧ Blk B #[.int .i64 c, .int .i64 v.k, .int .i64 v.n, .string v.t, .string nm, .pointer pl, .pointer pr] 48 w ∧ TrAt b w pl l ∧ TrAt b w pr r := by
  obtain ⟨w0, q, ⟨B, pl, pr, e, _, h1, h4, h5⟩, h2, h3⟩ := h
  exact ⟨B, pl, pr, e, (h3.block B (Array.getElem?_eq_some_iff.1 h1).1).trans h1, ⟨w0, q, h4, h2, h3⟩, ⟨w0, q, h5, h2, h3⟩⟩
theorem TrAt.nil {b : Nat} {w : World} {p : Option Addr} (h : TrAt b w p .nil) : p = none := by
  obtain ⟨w0, q, h1, _⟩ := h
  exact h1
/-- a writer at work -/
structure WS (b : Nat) (l : List UInt8) (w : World) : Prop where
  wr : Wr b l w
  g : GAt w
  lo : 13 ≤ b
def Puts (b : Nat) (l t : List UInt8) (w : World) (e : Ending) (w' : World) : Prop := e = .returned (.tuple #[]) ∧ WS b (l ++ t) w' ∧ WK b w w'
theorem WS.alloc {b : Nat} {l : List UInt8} {w : World} (h : WS b l w) (o : Obj) : WS b l (w.alloc o) := ⟨h.wr.alloc o, h.g.below (n := w.heap.size) ((Below.refl _ _).alloc (Nat.le_refl _) _) (by have := h.g.lo; omega), h.lo⟩
theorem WS.below {b : Nat} {l : List UInt8} {w w' : World} (h : WS b l w) (hb : Below w.heap.size w w') : WS b l w' := by
  refine ⟨?_, h.g.below hb h.g.lo, h.lo⟩
  have hlt := h.wr.lt
  rcases h.wr with ⟨h0, v, h1, h2, h3⟩ | ⟨h0, v, h1, h2, h3⟩
  · refine .inl ⟨h0, v, (hb.block b hlt).trans h1, ⟨h2.1, ?_⟩, h3⟩
    rcases h2.2 with h4 | ⟨g, cap, cur, fz, e1, e2, e3, e4⟩
    · exact .inl h4
    · exact .inr ⟨g, cap, cur, fz, e1, e2, (hb.block g (Array.getElem?_eq_some_iff.1 e3).1).trans e3, e4⟩
  · refine .inr ⟨h0, v, (hb.block b hlt).trans h1, ⟨h2.1, ?_⟩, h3⟩
    rcases h2.2 with h4 | ⟨g, cap, cur, fz, e1, e2, e3, e4⟩
    · exact .inl h4
    · exact .inr ⟨g, cap, cur, fz, e1, e2, (hb.block g (Array.getElem?_eq_some_iff.1 e3).1).trans e3, e4⟩
theorem WK.of_below {b : Nat} {w w' : World} (hb : Below w.heap.size w w') (h : b ≤ w.heap.size) : WK b w w' := ⟨hb.mono h, fun k _ hk _ _ => (hb.block k (Array.getElem?_eq_some_iff.1 hk).1).trans hk⟩
theorem puts_S (b : Nat) (l : List UInt8) (S : List ByteArray) (w : World) (h : WS b l w) (hlen : l.length + (bytesOf S).length ≤ 1000000) (hS : S.length ≤ 1000) :
    Calls Tryz.prog 53 #[.pointer (some ⟨b, 0, none⟩), .slice (some ⟨w.heap.size, 0, none⟩) S.length S.length] (w.alloc (.cells (strRow S) 9)) fun e w' => Puts b l (bytesOf S) w e w' := by
  have hlt := h.wr.lt
  refine (put_any b w.heap.size l S _ (h.wr.alloc _) (Blk.new _ _ _) (by omega) hlen hS).mono ?_
  rintro e w' ⟨rfl, h1, h2⟩
  refine ⟨rfl, ⟨h1, (h.alloc _).g.below h2.below h.lo, h.lo⟩, ⟨(((Below.refl b w).alloc (Nat.le_of_lt hlt) _).trans h2.below), ((Lib.OthersKept.refl _ _ w).alloc _).trans h2.kept⟩⟩
theorem put1 (b : Nat) (l : List UInt8) (s : ByteArray) (w : World) (h : WS b l w) (hlen : l.length + s.data.toList.length ≤ 1000000) :
    Calls Tryz.prog 53 #[.pointer (some ⟨b, 0, none⟩), .slice (some ⟨w.heap.size, 0, none⟩) 1 1] (w.alloc (.cells #[.string s] 9)) fun e w' => Puts b l s.data.toList w e w' := by
  have := puts_S b l [s] w h (by rw [bytesOf_one]; exact hlen) (by simp)
  rw [bytesOf_one] at this
  exact this
theorem put3 (b : Nat) (l : List UInt8) (s t u : ByteArray) (w : World) (h : WS b l w) (hlen : l.length + (s.data.toList ++ (t.data.toList ++ u.data.toList)).length ≤ 1000000) :
    Calls Tryz.prog 53 #[.pointer (some ⟨b, 0, none⟩), .slice (some ⟨w.heap.size, 0, none⟩) 3 3] (w.alloc (.cells #[.string s, .string t, .string u] 9)) fun e w' => Puts b l (s.data.toList ++ (t.data.toList ++ u.data.toList)) w e w' := by
  have e : bytesOf [s, t, u] = s.data.toList ++ (t.data.toList ++ u.data.toList) := by simp [bytesOf]
  have := puts_S b l [s, t, u] w h (by rw [e]; exact hlen) (by simp)
  rw [e] at this
  exact this
/-- the program's expr prints e -/
def ESp (e : Ex) : Prop := ∀ (b : Nat) (p : Option Addr) (n : Int) (l : List UInt8) (w : World), WS b l w → TrAt b w p e → l.length + (prN n e).length ≤ 1000000 →
  Calls Tryz.prog 100 #[.pointer (some ⟨b, 0, none⟩), .pointer p, .int .i64 n] w fun r w' => Puts b l (prN n e) w r w'
def BSp (e : Ex) : Prop := ∀ (b B : Nat) (l : List UInt8) (w : World), WS b l w → TrAt b w (some ⟨B, 0, none⟩) e → l.length + (prX e).1.length ≤ 1000000 →
  Calls Tryz.prog 136 #[.pointer (some ⟨b, 0, none⟩), .pointer (some ⟨B, 0, none⟩)] w fun r w' => Puts b l (prX e).1 w r w'
set_option maxRecDepth 100000 in
set_option maxHeartbeats 8000000 in
theorem wexpr_nil : ESp .nil := by
  intro b p n l w hw ht hl
  obtain rfl := ht.nil
  have HW : Hid (WS b l w) := hw
  clear hw ht hl
  go_enter Tryz.func100, Tryz.ntmps100
  go_wp2
  go_end0
  exact ⟨rfl, by rw [show prN n .nil = [] from rfl, List.append_nil]; exact HW.out, WK.refl _ _⟩
set_option maxRecDepth 100000 in
set_option maxHeartbeats 8000000 in
theorem wexpr_of {c : Int} {v : Vl} {nm : ByteArray} {x y : Ex} (hB : BSp (.node c v nm x y)) : ESp (.node c v nm x y) := by
  intro b p n l w hw ht hl
  obtain ⟨B, pl, pr, rfl, hk, _, _⟩ := ht.node
  have z0 : w.cell? ⟨B, 0, none⟩ = some (.int .i64 c) := by rw [hk.cell 0]; rfl
  have HB : Hid (BSp (.node c v nm x y)) := hB
  obtain ⟨X, hX⟩ : ∃ X, (prX (.node c v nm x y)).1 = X := ⟨_, rfl⟩
  have HX : Hid ((prX (.node c v nm x y)).1 = X) := hX
  have HW : Hid (WS b l w ∧ TrAt b w (some ⟨B, 0, none⟩) (.node c v nm x y)) := ⟨hw, ht⟩
  have hP : prN n (.node c v nm x y) = if lvlC c < n then 40 :: (X ++ [41]) else X := by rw [← hX]; rfl
  obtain ⟨R, hR⟩ : ∃ R, prN n (.node c v nm x y) = R := ⟨_, rfl⟩
  rw [hR] at hl hP ⊢
  have HR : Hid (R = if lvlC c < n then 40 :: (X ++ [41]) else X) := hP
  clear hw ht hB hX hP hk hR
  go_enter Tryz.func100, Tryz.ntmps100
  go_wp2_with fail
  refine (levelOf_any B c w z0 HW.out.1.g.pr).mono ?_
  rintro _ w1 ⟨rfl, hb⟩
  have H1 : Hid (WS b l w1 ∧ TrAt b w1 (some ⟨B, 0, none⟩) (.node c v nm x y) ∧ WK b w w1) := ⟨HW.out.1.below hb, HW.out.2.keep (hb.mono (Nat.le_of_lt HW.out.1.wr.lt)), WK.of_below hb (Nat.le_of_lt HW.out.1.wr.lt)⟩
  clear hb
  by_cases hn : lvlC c < n
  · obtain rfl : R = 40 :: (X ++ [41]) := by rw [HR.out, if_pos hn]
    clear HR
    have hl' : Hid (l.length + (X.length + 2) ≤ 1000000) := by show _ ≤ _; simp only [List.length_cons, List.length_append, List.length_nil] at hl; omega
    clear hl
    go_wp2_with fail
    refine (put1 b l ⟨#[40]⟩ w1 H1.out.1 (by have := hl'.out; simp only [List.length_cons, List.length_nil]; omega)).mono ?_
    rintro _ w2 ⟨rfl, h2, h3⟩
    have H2 : Hid (WS b (l ++ [40]) w2 ∧ TrAt b w2 (some ⟨B, 0, none⟩) (.node c v nm x y) ∧ WK b w w2) := ⟨h2, H1.out.2.1.keep h3.below, H1.out.2.2.trans h3⟩
    clear h2 h3
    go_wp2_with fail
    refine (HB.out b B _ w2 H2.out.1 H2.out.2.1 (by rw [HX.out]; have := hl'.out; simp only [List.length_cons, List.length_nil, List.length_append]; omega)).mono ?_
    rintro _ w3 ⟨rfl, h2, h3⟩
    rw [HX.out] at h2
    have H3 : Hid (WS b (l ++ [40] ++ X) w3 ∧ WK b w w3) := ⟨h2, H2.out.2.2.trans h3⟩
    clear h2 h3
    go_wp2_with fail
    refine (put1 b _ ⟨#[41]⟩ w3 H3.out.1 (by have := hl'.out; simp only [List.length_cons, List.length_nil, List.length_append]; omega)).mono ?_
    rintro _ w4 ⟨rfl, h2, h3⟩
    have H4 : Hid (WS b (l ++ (40 :: (X ++ [41]))) w4 ∧ WK b w w4) := ⟨by simpa using h2, H3.out.2.trans h3⟩
    clear h2 h3
    go_wp2
    go_end0
    exact ⟨rfl, H4.out.1, H4.out.2⟩
  · have e : X = R := by rw [HR.out, if_neg hn]
    subst e
    clear HR
    have hl' : Hid (l.length + X.length ≤ 1000000) := hl
    clear hl
    go_wp2_with fail
    refine (HB.out b B _ w1 H1.out.1 H1.out.2.1 (by rw [HX.out]; exact hl'.out)).mono ?_
    rintro _ w3 ⟨rfl, h2, h3⟩
    rw [HX.out] at h2
    have H3 : Hid (WS b (l ++ X) w3 ∧ WK b w w3) := ⟨h2, H1.out.2.2.trans h3⟩
    clear h2 h3
    go_wp2
    go_end0
    exact ⟨rfl, H3.out.1, H3.out.2⟩
end Go.Proofs.YtbdcbaamjkjhaaaGreatDoor
