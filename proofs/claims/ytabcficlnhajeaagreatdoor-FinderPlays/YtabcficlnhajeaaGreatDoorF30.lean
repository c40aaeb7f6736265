/- Texts of the proof of FinderPlays: PSort2, PSort3, PSort4, PSort5, PSort6. -/
import Derived.Test.YtabcficlnhajeaaGreatDoorF29
namespace Go.Proofs.YtabcficlnhajeaaGreatDoor
open Go.RowKit

/-- what is known in a round of a function of the sort: its own box lies at B -/
def SE (s : Sl) (B : Nat) (w : World) (d : Array Pl) (wx : World) : Prop :=
  (wx.cell? ⟨B, 0, none⟩ = some (Value.func (.func 86) #[] #[.pointer (some ⟨s.Bs, 0, none⟩)]) ∧ wx.cell? ⟨B, 1, none⟩ = some (Value.func (.func s.sf) #[] s.sb)) ∧ (B < wx.heap.size ∧ B ≠ s.blk) ∧ SS s d wx ∧ w.grownBy wx (some s.blk)
theorem SE.step {s : Sl} {B : Nat} {w : World} {d : Array Pl} {wx wy : World} (h : SE s B w d wx) (hb : Below wx.heap.size wx wy) : SE s B w d wy := by
  obtain ⟨⟨h1, h2⟩, ⟨h3, h4⟩, h5, h6⟩ := h
  have := hb.size
  exact ⟨⟨by rw [hb.cell (p := ⟨B, _, none⟩) h3]; exact h1, by rw [hb.cell (p := ⟨B, _, none⟩) h3]; exact h2⟩, ⟨by omega, h4⟩, h5.below hb, h6.trans (grown_of_belowP hb _)⟩
theorem SE.grown {s : Sl} {B : Nat} {w : World} {d d' : Array Pl} {wx wy : World} (h : SE s B w d wx) (hg : wx.grownBy wy (some s.blk)) (hs : SS s d' wy) : SE s B w d' wy := by
  obtain ⟨⟨h1, h2⟩, ⟨h3, h4⟩, h5, h6⟩ := h
  have := hg.size
  exact ⟨⟨hg.cell h1 (by simpa using h4), hg.cell h2 (by simpa using h4)⟩, ⟨by omega, h4⟩, hs, h6.trans hg⟩
theorem SE.swapped {s : Sl} {B : Nat} {w : World} {d : Array Pl} {wx : World} (h : SE s B w d wx) (i j : Nat) (hi : i < s.n) (hj : j < s.n) : SE s B w (Sort.swp d i j) ((wx.setCells s.blk (s.off + i * 2) (cellsP d[j]!)).setCells s.blk (s.off + j * 2) (cellsP d[i]!)) :=
  h.grown (h.2.2.1.swapped i j hi hj).2 (h.2.2.1.swapped i j hi hj).1
theorem SE.box {s : Sl} {d : Array Pl} {w : World} (h : SS s d w) : SE s w.heap.size w d (w.alloc (.cells #[(Value.func (.func 86) #[] #[.pointer (some ⟨s.Bs, 0, none⟩)]), (Value.func (.func s.sf) #[] s.sb)] 202)) := by
  have hb : Below w.heap.size w (w.alloc (.cells #[(Value.func (.func 86) #[] #[.pointer (some ⟨s.Bs, 0, none⟩)]), (Value.func (.func s.sf) #[] s.sb)] 202)) := (Below.refl _ _).alloc (Nat.le_refl _) _
  refine ⟨⟨by simp, by simp⟩, ⟨by simp, ?_⟩, h.below hb, grown_of_belowP hb _⟩
  have := h.2.2.2.1.2.1
  omega

theorem less_se (s : Sl) (B : Nat) (w : World) (d : Array Pl) (wx : World) (h : SE s B w d wx) (i j : Nat) (hi : i < s.n) (hj : j < s.n) (b : Bool) (hb : ltB d[i]! d[j]! = b) :
    Calls Tryz.prog 86 #[.int .i64 i, .int .i64 j, .pointer (some ⟨s.Bs, 0, none⟩)] wx fun e w' => e = .returned (.bool b) ∧ SE s B w d w' :=
  (less_ss s d wx h.2.2.1 i j hi hj).mono fun _ _ ⟨he, hb'⟩ => ⟨by rw [he, hb], h.step hb'⟩
theorem swap_se {s : Sl} {B : Nat} {w : World} {d : Array Pl} {wx : World} (h : SE s B w d wx) (i j : Nat) (hi : i < s.n) (hj : j < s.n) :
    ∃ wy, (callFunc s.sf (#[.int .i64 i, .int .i64 j] ++ s.sb)).run Tryz.prog wx = .ok (.value (.tuple #[])) wy ∧ SE s B w (Sort.swp d i j) wy :=
  ⟨_, h.2.2.1.2.2.2.2 wx d h.2.2.1.1 h.2.2.1.2.1 i j hi hj, h.swapped i j hi hj⟩

set_option maxRecDepth 100000 in
set_option maxHeartbeats 2000000 in
set_option maxRecDepth 100000 in
theorem insertion_ss (s : Sl) (d : Array Pl) (w : World) (h : SS s d w) (a b : Nat) (hab : a ≤ b) (hb : b ≤ s.n) :
    Calls Tryz.prog 162 #[.agg #[(Value.func (.func 86) #[] #[.pointer (some ⟨s.Bs, 0, none⟩)]), (Value.func (.func s.sf) #[] s.sb)], .int .i64 a, .int .i64 b] w fun e w' => e = .returned (.tuple #[]) ∧ SS s (Sort.insertionSort ltB d a b) w' ∧ w.grownBy w' (some s.blk) := by
  have hn := h.2.2.2.1.2.2.2
  have HE : Hid (SE s w.heap.size w d (w.alloc (.cells #[(Value.func (.func 86) #[] #[.pointer (some ⟨s.Bs, 0, none⟩)]), (Value.func (.func s.sf) #[] s.sb)] 202))) := SE.box h
  clear h
  go_enter Tryz.func162, Tryz.ntmps162
  go_wp2
  go_loopw [6] (fun vi wr => ∃ (i : Nat) (dk : Array Pl), vi = .int .i64 i ∧ a < i ∧ i ≤ b + 1 ∧ Hid (SE s w.heap.size w dk wr ∧ Sort.insOuter ltB a b i dk = Sort.insertionSort ltB d a b)) (fun vi _ => b + 1 - (intOf vi).toNat)
  case atStart => exact ⟨a + 1, d, by go_num, by omega, by omega, HE.out, rfl⟩
  case round =>
    clear HE
    obtain ⟨i, dk, rfl, hai, hib, hz⟩ := hrel
    by_cases hlt : i < b
    · have i1 : (i : Int) < (b : Int) := by omega
      go_wp2
      go_loopw [7] (fun vj wr2 => ∃ (j : Nat) (dj : Array Pl), vj = .int .i64 j ∧ a ≤ j ∧ j ≤ i ∧ Hid (SE s w.heap.size w dj wr2 ∧ Sort.insInner ltB a j dj = Sort.insInner ltB a i dk)) (fun vj _ => (intOf vj).toNat)
      case atStart => exact ⟨i, dk, rfl, by omega, Nat.le_refl _, hz.out.1, rfl⟩
      case round =>
        obtain ⟨j, dj, rfl, haj, hji, hy⟩ := hrel
        have HZ : Hid (Sort.insOuter ltB a b i dk = Sort.insertionSort ltB d a b) := hz.out.2
        clear hz
        have HO : Hid ((j ≤ a ∨ ltB dj[j]! dj[j - 1]! = false) → Sort.insOuter ltB a b (i + 1) dj = Sort.insertionSort ltB d a b) := fun hs => by
          rw [← HZ.out, insOuter_go _ _ _ _ _ hlt, ← hy.out.2, insInner_stop _ _ _ _ hs]
        obtain ⟨⟨c0, c1⟩, _⟩ := hy.out.1
        by_cases hja : a < j
        · have j1 : (a : Int) < (j : Int) := by omega
          obtain ⟨lb, hlb⟩ : ∃ lb, ltB dj[j]! dj[j - 1]! = lb := ⟨_, rfl⟩
          have hl := less_se s w.heap.size w dj _ hy.out.1 j (j - 1) (by omega) (by omega) lb hlb
          rw [show (((j - 1 : Nat) : Int)) = (j : Int) - 1 by omega] at hl
          cases lb
          · have HO : Hid _ := HO.out (.inr hlb)
            clear hlb hy
            go_wp2_with (go_at_call 86; refine hl.mono ?_; rintro e w1 ⟨rfl, he1⟩; have k1 := he1.1.2)
            go_roundw
            case rel => exact ⟨i + 1, dj, by go_num, by omega, by omega, he1, HO.out⟩
            case measure => simp [intOf]; omega
          · have HI : Hid (Sort.insInner ltB a (j - 1) (Sort.swp dj j (j - 1)) = Sort.insInner ltB a i dk) := by
              show _ = _; rw [← hy.out.2, insInner_go ltB a j dj hja hlb]
            clear hlb hy HO
            go_wp2_with (go_at_call 86; refine hl.mono ?_; rintro e w1 ⟨rfl, he1⟩; have k1 := he1.1.2)
            obtain ⟨w2, hs, he2⟩ := swap_se he1 j (j - 1) (by omega) (by omega)
            rw [show (((j - 1 : Nat) : Int)) = (j : Int) - 1 by omega] at hs
            rw [hs, Oper.upon_value]
            have HE2 : Hid _ := he2
            clear he1 he2 hs
            go_wp2
            go_roundw
            case rel =>
              exact ⟨j - 1, Sort.swp dj j (j - 1), by congr 1; omega, by omega, by omega, HE2.out, HI.out⟩
            case measure => simp [intOf]; omega
        · have j1 : ¬ (a : Int) < (j : Int) := by omega
          have HO : Hid _ := HO.out (.inl (by omega))
          go_wp2
          go_roundw
          case rel => exact ⟨i + 1, dj, by go_num, by omega, by omega, hy.out.1, HO.out⟩
          case measure => simp [intOf]; omega
    · have i1 : ¬ (i : Int) < (b : Int) := by omega
      go_wp2
      go_end0
      refine ⟨rfl, ?_, hz.out.1.2.2.2⟩
      rw [← hz.out.2, insOuter_stop _ _ _ _ _ hlt]
      exact hz.out.1.2.2.1
end Go.Proofs.YtabcficlnhajeaaGreatDoor
namespace Go.Proofs.YtabcficlnhajeaaGreatDoor
open Go.RowKit

theorem less_at {s : Sl} {B : Nat} {w : World} {d : Array Pl} {wx : World} (h : SE s B w d wx) (i j : Nat) (hi : i < s.n) (hj : j < s.n) (b : Bool) (hb : ltB d[i]! d[j]! = b) {x y : Int} (hx : x = i) (hy : y = j) :
    Calls Tryz.prog 86 #[.int .i64 x, .int .i64 y, .pointer (some ⟨s.Bs, 0, none⟩)] wx fun e w' => e = .returned (.bool b) ∧ SE s B w d w' := by
  subst hx hy; exact less_se s B w d wx h i j hi hj b hb
theorem swap_upon {s : Sl} {B : Nat} {w : World} {d : Array Pl} {wx : World} (h : SE s B w d wx) (i j : Nat) (hi : i < s.n) (hj : j < s.n) {op : Oper} {act : Act} {K : Act → World → Prop} {Q : Exit → Act → World → Prop} {x y : Int} (hx : x = i) (hy : y = j)
    (k : ∀ wy, SE s B w (Sort.swp d i j) wy → Oper.upon Tryz.prog op act K Q (.ok (.value (.tuple #[])) wy)) : Oper.upon Tryz.prog op act K Q ((callFunc s.sf (#[.int .i64 x, .int .i64 y] ++ s.sb)).run Tryz.prog wx) := by
  subst hx hy
  have hq := swap_se h i j hi hj
  cases hq with
  | intro wy hq => rw [hq.1]; exact k wy hq.2

theorem sift_end {lt : Pl → Pl → Bool} (hi first root : Nat) (d : Array Pl) (h : 2 * root + 1 ≥ hi) : Sort.siftDown lt hi first root d = d := by rw [Sort.siftDown, dif_pos h]
theorem sift_go {lt : Pl → Pl → Bool} (hi first root ch : Nat) (d : Array Pl) (h : ¬ 2 * root + 1 ≥ hi) (hc : ch = if 2 * root + 2 < hi ∧ lt d[first + (2 * root + 1)]! d[first + (2 * root + 2)]! = true then 2 * root + 2 else 2 * root + 1) :
    Sort.siftDown lt hi first root d = if lt d[first + root]! d[first + ch]! = true then Sort.siftDown lt hi first ch (Sort.swp d (first + root) (first + ch)) else d := by
  rw [Sort.siftDown, dif_neg h]
  subst hc
  by_cases h2 : 2 * root + 2 < hi ∧ lt d[first + (2 * root + 1)]! d[first + (2 * root + 2)]! = true
  · rw [if_pos h2, if_pos (by simp only [Bool.and_eq_true, decide_eq_true_eq]; exact ⟨by omega, h2.2⟩), dif_pos h2.1]
    cases lt d[first + root]! d[first + (2 * root + 2)]! <;> simp
  · rw [if_neg h2, if_neg (by simp only [Bool.and_eq_true, decide_eq_true_eq]; exact fun h => h2 ⟨by omega, h.2⟩)]
    cases lt d[first + root]! d[first + (2 * root + 1)]! <;> simp
theorem sift_size {lt : Pl → Pl → Bool} (hi first root : Nat) (d : Array Pl) : (Sort.siftDown lt hi first root d).size = d.size := by
  fun_induction Sort.siftDown lt hi first root d <;> simp_all [Sort.size_swp]

set_option maxRecDepth 100000 in
set_option maxHeartbeats 2000000 in
set_option maxRecDepth 100000 in
theorem sift_ss (s : Sl) (d : Array Pl) (w : World) (h : SS s d w) (lo hi first : Nat) (hb : first + hi ≤ s.n) (hlo : lo ≤ s.n) :
    Calls Tryz.prog 192 #[.agg #[(Value.func (.func 86) #[] #[.pointer (some ⟨s.Bs, 0, none⟩)]), (Value.func (.func s.sf) #[] s.sb)], .int .i64 lo, .int .i64 hi, .int .i64 first] w fun e w' => e = .returned (.tuple #[]) ∧ SS s (Sort.siftDown ltB hi first lo d) w' ∧ w.grownBy w' (some s.blk) := by
  have hn := h.2.2.2.1.2.2.2
  have HE : Hid (SE s w.heap.size w d (w.alloc (.cells #[(Value.func (.func 86) #[] #[.pointer (some ⟨s.Bs, 0, none⟩)]), (Value.func (.func s.sf) #[] s.sb)] 202))) := SE.box h
  clear h
  go_enter Tryz.func192, Tryz.ntmps192
  go_wp2
  go_loopw [8] (fun vi wr => ∃ (r : Nat) (dk : Array Pl), vi = .int .i64 r ∧ r ≤ s.n ∧ Hid (SE s w.heap.size w dk wr ∧ Sort.siftDown ltB hi first r dk = Sort.siftDown ltB hi first lo d)) (fun vi _ => s.n - (intOf vi).toNat)
  case atStart => exact ⟨lo, d, rfl, hlo, HE.out, rfl⟩
  case round =>
    clear HE
    obtain ⟨r, dk, rfl, hr, hz⟩ := hrel
    obtain ⟨⟨c0, c1⟩, _⟩ := hz.out.1
    have HE : Hid (SE s w.heap.size w dk wr) := hz.out.1
    have HZ : Hid (Sort.siftDown ltB hi first r dk = Sort.siftDown ltB hi first lo d) := hz.out.2
    clear hz
    by_cases hge : 2 * r + 1 ≥ hi
    · have i1 : (hi : Int) ≤ 2 * (r : Int) + 1 := by omega
      have HX : Hid (dk = Sort.siftDown ltB hi first lo d) := by
        have e := HZ.out
        rw [sift_end _ _ _ _ hge] at e
        exact e
      clear HZ
      go_wp2
      go_end0
      exact ⟨rfl, by rw [← HX.out]; exact HE.out.2.2.1, HE.out.2.2.2⟩
    · have i1 : ¬ (hi : Int) ≤ 2 * (r : Int) + 1 := by omega
      obtain ⟨ch, hch⟩ : ∃ ch, ch = if 2 * r + 2 < hi ∧ ltB dk[first + (2 * r + 1)]! dk[first + (2 * r + 2)]! = true then 2 * r + 2 else 2 * r + 1 := ⟨_, rfl⟩
      have HG : Hid _ := (sift_go hi first r ch dk hge hch).symm.trans HZ.out
      clear HZ
      obtain ⟨l1, hl1⟩ : ∃ b, ltB dk[first + (2 * r + 1)]! dk[first + (2 * r + 2)]! = b := ⟨_, rfl⟩
      obtain ⟨l2, hl2⟩ : ∃ b, ltB dk[first + r]! dk[first + ch]! = b := ⟨_, rfl⟩
      have H1 : Hid _ := hl1
      have H2 : Hid _ := hl2
      have hcc : ch = 2 * r + 1 ∨ (ch = 2 * r + 2 ∧ 2 * r + 2 < hi) := by rw [hch]; split; exact .inr ⟨rfl, by omega⟩; exact .inl rfl
      by_cases h2 : 2 * r + 2 < hi
      · have i2 : 2 * (r : Int) + 1 + 1 < (hi : Int) := by omega
        cases l1
        · have e : ch = 2 * r + 1 := by rw [hch, if_neg (by rw [hl1]; simp)]
          subst e
          clear hch hcc hl1 hl2
          cases l2
          · have HX : Hid (dk = Sort.siftDown ltB hi first lo d) := by
              have e := HG.out
              rw [if_neg (by rw [H2.out]; simp)] at e
              exact e
            clear HG
            go_wp2_with (go_at_call 86; (first | refine (less_at HE.out (first + (2 * r + 1)) (first + (2 * r + 2)) (by omega) (by omega) _ H1.out (by omega) (by omega)).mono ?_ | refine (less_at HE.out (first + r) (first + (2 * r + 1)) (by omega) (by omega) _ H2.out (by omega) (by omega)).mono ?_); rintro e w1 ⟨rfl, he1⟩; have k1 := he1.1; have HE : Hid _ := he1; clear he1; obtain ⟨k1, k2⟩ := k1)
            (try simp only [Exit.inBlock, Exit.then])
            refine bodyPost_ret (results_none rfl _ _ _) rfl ?_
            exact ⟨rfl, by rw [← HX.out]; exact HE.out.2.2.1, HE.out.2.2.2⟩
          · have HX : Hid (Sort.siftDown ltB hi first (2 * r + 1) (Sort.swp dk (first + r) (first + (2 * r + 1))) = Sort.siftDown ltB hi first lo d) := by
              have e := HG.out
              rw [if_pos H2.out] at e
              exact e
            clear HG
            go_wp2_with (go_at_call 86; (first | refine (less_at HE.out (first + (2 * r + 1)) (first + (2 * r + 2)) (by omega) (by omega) _ H1.out (by omega) (by omega)).mono ?_ | refine (less_at HE.out (first + r) (first + (2 * r + 1)) (by omega) (by omega) _ H2.out (by omega) (by omega)).mono ?_); rintro e w1 ⟨rfl, he1⟩; have k1 := he1.1; have HE : Hid _ := he1; clear he1; obtain ⟨k1, k2⟩ := k1)
            refine swap_upon HE.out (first + r) (first + (2 * r + 1)) (by omega) (by omega) (by omega) (by omega) ?_
            intro w2 he2
            rw [Oper.upon_value]
            have HE2 : Hid _ := he2
            clear he2
            go_wp2
            go_roundw
            case rel => exact ⟨2 * r + 1, _, by go_num, by omega, HE2.out, HX.out⟩
            case measure => simp [intOf]; omega
        · have e : ch = 2 * r + 2 := by rw [hch, if_pos ⟨h2, hl1⟩]
          subst e
          clear hch hcc hl1 hl2
          cases l2
          · have HX : Hid (dk = Sort.siftDown ltB hi first lo d) := by
              have e := HG.out
              rw [if_neg (by rw [H2.out]; simp)] at e
              exact e
            clear HG
            go_wp2_with (go_at_call 86; (first | refine (less_at HE.out (first + (2 * r + 1)) (first + (2 * r + 2)) (by omega) (by omega) _ H1.out (by omega) (by omega)).mono ?_ | refine (less_at HE.out (first + r) (first + (2 * r + 2)) (by omega) (by omega) _ H2.out (by omega) (by omega)).mono ?_); rintro e w1 ⟨rfl, he1⟩; have k1 := he1.1; have HE : Hid _ := he1; clear he1; obtain ⟨k1, k2⟩ := k1)
            (try simp only [Exit.inBlock, Exit.then])
            refine bodyPost_ret (results_none rfl _ _ _) rfl ?_
            exact ⟨rfl, by rw [← HX.out]; exact HE.out.2.2.1, HE.out.2.2.2⟩
          · have HX : Hid (Sort.siftDown ltB hi first (2 * r + 2) (Sort.swp dk (first + r) (first + (2 * r + 2))) = Sort.siftDown ltB hi first lo d) := by
              have e := HG.out
              rw [if_pos H2.out] at e
              exact e
            clear HG
            go_wp2_with (go_at_call 86; (first | refine (less_at HE.out (first + (2 * r + 1)) (first + (2 * r + 2)) (by omega) (by omega) _ H1.out (by omega) (by omega)).mono ?_ | refine (less_at HE.out (first + r) (first + (2 * r + 2)) (by omega) (by omega) _ H2.out (by omega) (by omega)).mono ?_); rintro e w1 ⟨rfl, he1⟩; have k1 := he1.1; have HE : Hid _ := he1; clear he1; obtain ⟨k1, k2⟩ := k1)
            refine swap_upon HE.out (first + r) (first + (2 * r + 2)) (by omega) (by omega) (by omega) (by omega) ?_
            intro w2 he2
            rw [Oper.upon_value]
            have HE2 : Hid _ := he2
            clear he2
            go_wp2
            go_roundw
            case rel => exact ⟨2 * r + 2, _, by go_num, by omega, HE2.out, HX.out⟩
            case measure => simp [intOf]; omega
      · have i2 : ¬ 2 * (r : Int) + 1 + 1 < (hi : Int) := by omega
        have e : ch = 2 * r + 1 := by omega
        subst e
        clear hch hcc hl1 hl2
        cases l2
        · have HX : Hid (dk = Sort.siftDown ltB hi first lo d) := by
            have e := HG.out
            rw [if_neg (by rw [H2.out]; simp)] at e
            exact e
          clear HG
          go_wp2_with (go_at_call 86; refine ((less_at HE.out (first + r) (first + (2 * r + 1)) (by omega) (by omega) _ H2.out (by omega) (by omega))).mono ?_; rintro e w1 ⟨rfl, he1⟩; have k1 := he1.1; have HE : Hid _ := he1; clear he1; obtain ⟨k1, k2⟩ := k1)
          (try simp only [Exit.inBlock, Exit.then])
          refine bodyPost_ret (results_none rfl _ _ _) rfl ?_
          exact ⟨rfl, by rw [← HX.out]; exact HE.out.2.2.1, HE.out.2.2.2⟩
        · have HX : Hid (Sort.siftDown ltB hi first (2 * r + 1) (Sort.swp dk (first + r) (first + (2 * r + 1))) = Sort.siftDown ltB hi first lo d) := by
            have e := HG.out
            rw [if_pos H2.out] at e
            exact e
          clear HG
          go_wp2_with (go_at_call 86; refine ((less_at HE.out (first + r) (first + (2 * r + 1)) (by omega) (by omega) _ H2.out (by omega) (by omega))).mono ?_; rintro e w1 ⟨rfl, he1⟩; have k1 := he1.1; have HE : Hid _ := he1; clear he1; obtain ⟨k1, k2⟩ := k1)
          refine swap_upon HE.out (first + r) (first + (2 * r + 1)) (by omega) (by omega) (by omega) (by omega) ?_
          intro w2 he2
          rw [Oper.upon_value]
          have HE2 : Hid _ := he2
          clear he2
          go_wp2
          go_roundw
          case rel => exact ⟨2 * r + 1, _, by go_num, by omega, HE2.out, HX.out⟩
          case measure => simp [intOf]; omega
end Go.Proofs.YtabcficlnhajeaaGreatDoor
namespace Go.Proofs.YtabcficlnhajeaaGreatDoor
open Go.RowKit

theorem sift_at {s : Sl} {B : Nat} {w : World} {d : Array Pl} {wx : World} (h : SE s B w d wx) (lo hi first : Nat) (hb : first + hi ≤ s.n) (hlo : lo ≤ s.n) {x y z : Int} (hx : x = lo) (hy : y = hi) (hz : z = first) :
    Calls Tryz.prog 192 #[.agg #[(Value.func (.func 86) #[] #[.pointer (some ⟨s.Bs, 0, none⟩)]), (Value.func (.func s.sf) #[] s.sb)], .int .i64 x, .int .i64 y, .int .i64 z] wx fun e w' => e = .returned (.tuple #[]) ∧ SE s B w (Sort.siftDown ltB hi first lo d) w' := by
  subst hx hy hz
  exact (sift_ss s d wx h.2.2.1 lo hi first hb hlo).mono fun _ _ ⟨he, h1, h2⟩ => ⟨he, h.grown h2 h1⟩

set_option maxRecDepth 100000 in
set_option maxHeartbeats 2000000 in
set_option maxRecDepth 100000 in
theorem heap_ss (s : Sl) (d : Array Pl) (w : World) (h : SS s d w) (a b : Nat) (hab : a < b) (hb : b ≤ s.n) :
    Calls Tryz.prog 163 #[.agg #[(Value.func (.func 86) #[] #[.pointer (some ⟨s.Bs, 0, none⟩)]), (Value.func (.func s.sf) #[] s.sb)], .int .i64 a, .int .i64 b] w fun e w' => e = .returned (.tuple #[]) ∧ SS s (Sort.heapSort ltB d a b) w' ∧ w.grownBy w' (some s.blk) := by
  have hn := h.2.2.2.1.2.2.2
  have HE : Hid (SE s w.heap.size w d (w.alloc (.cells #[(Value.func (.func 86) #[] #[.pointer (some ⟨s.Bs, 0, none⟩)]), (Value.func (.func s.sf) #[] s.sb)] 202))) := SE.box h
  clear h
  have q1 : (0 : Int) ≤ (b : Int) - a - 1 := by omega
  go_enter Tryz.func163, Tryz.ntmps163
  go_wp2
  go_loopw [9] (fun vi wr => ∃ (k : Nat) (i : Int) (dk : Array Pl), vi = .int .i64 i ∧ i + 1 = k ∧ k ≤ b - a ∧ Hid (SE s w.heap.size w dk wr ∧ Sort.heapPop ltB a (b - a) (Sort.heapBuild ltB (b - a) a k dk) = Sort.heapSort ltB d a b)) (fun vi _ => (intOf vi + 1).toNat)
  case atStart =>
    refine ⟨(b - a - 1) / 2 + 1, ((b - a - 1) / 2 : Nat), d, ?_, by omega, by omega, HE.out, rfl⟩
    congr 1
    first | omega | (rw [Int.tdiv_eq_ediv_of_nonneg (by omega)]; omega) | (trace_state; omega)
  case round =>
    clear HE
    obtain ⟨k, i, dk, rfl, hik, hk, hz⟩ := hrel
    have HE : Hid (SE s w.heap.size w dk wr) := hz.out.1
    obtain ⟨c0, c1⟩ := hz.out.1.1
    cases k with
    | zero =>
      have e : i = -1 := by omega
      subst e
      have HX : Hid (Sort.heapPop ltB a (b - a) dk = Sort.heapSort ltB d a b) := hz.out.2
      clear hz
      go_wp2
      go_loopw [10] (fun vi wr => ∃ (k : Nat) (i : Int) (dk : Array Pl), vi = .int .i64 i ∧ i + 1 = k ∧ k ≤ b - a ∧ Hid (SE s w.heap.size w dk wr ∧ Sort.heapPop ltB a k dk = Sort.heapSort ltB d a b)) (fun vi _ => (intOf vi + 1).toNat)
      case atStart => exact ⟨b - a, _, dk, rfl, by omega, by omega, HE.out, HX.out⟩
      case round =>
        clear HE HX
        obtain ⟨k, i, dk, rfl, hik, hk, hz⟩ := hrel
        have HE : Hid (SE s w.heap.size w dk wr) := hz.out.1
        obtain ⟨c0, c1⟩ := hz.out.1.1
        cases k with
        | zero =>
          have e : i = -1 := by omega
          subst e
          have HX : Hid (dk = Sort.heapSort ltB d a b) := hz.out.2
          clear hz
          go_wp2
          go_end0
          exact ⟨rfl, by rw [← HX.out]; exact HE.out.2.2.1, HE.out.2.2.2⟩
        | succ k =>
          have HX : Hid (Sort.heapPop ltB a k (Sort.siftDown ltB k a 0 (Sort.swp dk a (a + k))) = Sort.heapSort ltB d a b) := hz.out.2
          clear hz
          have e : i = k := by omega
          subst e
          go_wp2_with (fail)
          refine swap_upon HE.out a (a + k) (by omega) (by omega) (by omega) (by omega) ?_
          intro w2 he2
          rw [Oper.upon_value]
          obtain ⟨c0, c1⟩ := he2.1
          have HE2 : Hid _ := he2
          clear he2
          go_wp2_with (go_at_call 192; refine (sift_at HE2.out 0 k a (by omega) (by omega) (by omega) (by omega) (by omega)).mono ?_; rintro e w3 ⟨rfl, he3⟩; have HE3 : Hid _ := he3; clear he3)
          go_roundw
          case rel => exact ⟨k, (k : Int) - 1, _, rfl, by omega, by omega, HE3.out, HX.out⟩
          case measure => simp [intOf]
    | succ k =>
      have HX : Hid (Sort.heapPop ltB a (b - a) (Sort.heapBuild ltB (b - a) a k (Sort.siftDown ltB (b - a) a k dk)) = Sort.heapSort ltB d a b) := hz.out.2
      clear hz
      have e : i = k := by omega
      subst e
      go_wp2_with (go_at_call 192; refine (sift_at HE.out k (b - a) a (by omega) (by omega) (by omega) (by omega) (by omega)).mono ?_; rintro e w3 ⟨rfl, he3⟩; have HE3 : Hid _ := he3; clear he3)
      go_roundw
      case rel => exact ⟨k, (k : Int) - 1, _, rfl, by omega, by omega, HE3.out, HX.out⟩
      case measure => simp [intOf]
end Go.Proofs.YtabcficlnhajeaaGreatDoor
namespace Go.Proofs.YtabcficlnhajeaaGreatDoor
open Go.RowKit

/-- the row, and a count of swaps at C -/
def SP (s : Sl) (C n : Nat) (d : Array Pl) (wx : World) : Prop :=
  SS s d wx ∧ wx.cell? ⟨C, 0, none⟩ = some (.int .i64 n) ∧ wx.frozen? ⟨C, 0, none⟩ = false ∧ (C < wx.heap.size ∧ C ≠ s.blk ∧ C ≠ s.Bs)
theorem SP.step {s : Sl} {C n : Nat} {d : Array Pl} {wx wy : World} (h : SP s C n d wx) (hb : Below wx.heap.size wx wy) : SP s C n d wy := by
  obtain ⟨h1, h2, h3, h4, h5, h6⟩ := h
  have := hb.size
  have e : wy.heap[C]? = wx.heap[C]? := hb.block C h4
  exact ⟨h1.below hb, by rw [World.cell?_of_block (w := wx) (a := ⟨C, 0, none⟩) e]; exact h2, by rw [World.frozen?_of_block (w := wx) (a := ⟨C, 0, none⟩) e]; exact h3, by omega, h5, h6⟩
theorem SP.set {s : Sl} {C n : Nat} {d : Array Pl} {wx : World} (h : SP s C n d wx) (m : Nat) {x : Int} (hx : x = m) : SP s C m d (wx.setCell ⟨C, 0, none⟩ (.int .i64 x)) := by
  subst hx
  obtain ⟨⟨a1, a2, a3, ⟨a4, a5, a6, a7⟩, a8⟩, h2, h3, h4, h5, h6⟩ := h
  have hs : (wx.setCell ⟨C, 0, none⟩ (.int .i64 m)).heap.size = wx.heap.size := by simp [World.setCell]
  refine ⟨⟨holds_block a1 (Below.heap_setCell _ _ _ _ (by exact fun e => h5 e.symm)), a2, ?_, ⟨a4, by omega, by omega, a7⟩, a8⟩, World.cell?_setCell_same _ _ _ h2, by rw [World.frozen?_setCell]; exact h3, by omega, h5, h6⟩
  rw [World.cell?_setCell_other _ _ _ _ (fun e => by cases e; exact h6 rfl)]
  exact a3

theorem order2_lt {lt : Pl → Pl → Bool} {d : Array Pl} {a b n N : Nat} (ha : a < N) (hb : b < N) : (Sort.order2 lt d a b n).1 < N ∧ (Sort.order2 lt d a b n).2.1 < N ∧ (Sort.order2 lt d a b n).2.2 ≤ n + 1 := by
  unfold Sort.order2; split <;> exact ⟨by assumption, by assumption, by simp⟩

set_option maxRecDepth 100000 in
set_option maxHeartbeats 2000000 in
set_option maxRecDepth 100000 in
theorem order2_sp (s : Sl) (C n : Nat) (d : Array Pl) (w : World) (h : SP s C n d w) (a b : Nat) (ha : a < s.n) (hb : b < s.n) (hn : n < 1000) :
    Calls Tryz.prog 210 #[.agg #[(Value.func (.func 86) #[] #[.pointer (some ⟨s.Bs, 0, none⟩)]), (Value.func (.func s.sf) #[] s.sb)], .int .i64 a, .int .i64 b, .pointer (some ⟨C, 0, none⟩)] w fun e w' =>
      e = .returned (.tuple #[.int .i64 (Sort.order2 ltB d a b n).1, .int .i64 (Sort.order2 ltB d a b n).2.1]) ∧ SP s C (Sort.order2 ltB d a b n).2.2 d w' ∧ w.grownBy w' (some C) := by
  have HB : Hid (Below w.heap.size w (w.alloc (.cells #[(Value.func (.func 86) #[] #[.pointer (some ⟨s.Bs, 0, none⟩)]), (Value.func (.func s.sf) #[] s.sb)] 202))) := (Below.refl _ _).alloc (Nat.le_refl _) _
  have HP : Hid (SP s C n d (w.alloc (.cells #[(Value.func (.func 86) #[] #[.pointer (some ⟨s.Bs, 0, none⟩)]), (Value.func (.func s.sf) #[] s.sb)] 202))) := SP.step h HB.out
  clear h
  obtain ⟨lb, hlb⟩ : ∃ lb, ltB d[b]! d[a]! = lb := ⟨_, rfl⟩
  have hl := less_ss s d _ HP.out.1 b a hb ha
  rw [hlb] at hl
  have HL : Hid (Sort.order2 ltB d a b n = if lb = true then (b, a, n + 1) else (a, b, n)) := by show _ = _; rw [Sort.order2, hlb]
  rw [HL.out]
  clear HL hlb
  cases lb
  · go_enter Tryz.func210, Tryz.ntmps210
    go_wp2_with (go_at_call 86; refine hl.mono ?_; rintro e w1 ⟨rfl, hb1⟩; have HB1 : Hid _ := hb1; clear hb1)
    go_ret2
    exact ⟨rfl, HP.out.step HB1.out, (grown_of_belowP HB.out _).trans (grown_of_belowP HB1.out _)⟩
  · go_enter Tryz.func210, Tryz.ntmps210
    go_wp2_with (go_at_call 86; refine hl.mono ?_; rintro e w1 ⟨rfl, hb1⟩; have HB1 : Hid _ := hb1; have HP1 : Hid _ := HP.out.step hb1; clear hb1; have c1 := HP1.out.2.1; have c2 := HP1.out.2.2.1)
    go_ret2
    exact ⟨rfl, SP.set HP1.out (n + 1) (by omega), ((grown_of_belowP HB.out _).trans (grown_of_belowP HB1.out _)).trans (grownBy_set _ _ _ _)⟩

/-- what is known in a function that holds a box at B -/
def MP (s : Sl) (B C : Nat) (w : World) (n : Nat) (d : Array Pl) (wx : World) : Prop :=
  (wx.cell? ⟨B, 0, none⟩ = some (Value.func (.func 86) #[] #[.pointer (some ⟨s.Bs, 0, none⟩)]) ∧ wx.cell? ⟨B, 1, none⟩ = some (Value.func (.func s.sf) #[] s.sb)) ∧ (B < wx.heap.size ∧ B ≠ C) ∧ SP s C n d wx ∧ w.grownBy wx (some C)
theorem MP.grown {s : Sl} {B C : Nat} {w : World} {n m : Nat} {d : Array Pl} {wx wy : World} (h : MP s B C w n d wx) (hp : SP s C m d wy) (hg : wx.grownBy wy (some C)) : MP s B C w m d wy := by
  obtain ⟨⟨h1, h2⟩, ⟨h3, h4⟩, h5, h6⟩ := h
  have := hg.size
  exact ⟨⟨hg.cell h1 (by simpa using h4), hg.cell h2 (by simpa using h4)⟩, ⟨by omega, h4⟩, hp, h6.trans hg⟩
theorem MP.box {s : Sl} {C n : Nat} {d : Array Pl} {w : World} (h : SP s C n d w) : MP s w.heap.size C w n d (w.alloc (.cells #[(Value.func (.func 86) #[] #[.pointer (some ⟨s.Bs, 0, none⟩)]), (Value.func (.func s.sf) #[] s.sb)] 202)) := by
  have hb : Below w.heap.size w (w.alloc (.cells #[(Value.func (.func 86) #[] #[.pointer (some ⟨s.Bs, 0, none⟩)]), (Value.func (.func s.sf) #[] s.sb)] 202)) := (Below.refl _ _).alloc (Nat.le_refl _) _
  refine ⟨⟨by simp, by simp⟩, ⟨by simp, ?_⟩, h.step hb, grown_of_belowP hb _⟩
  have := h.2.2.2.1
  omega
theorem order2_at {s : Sl} {B C : Nat} {w : World} {n : Nat} {d : Array Pl} {wx : World} (h : MP s B C w n d wx) (a b : Nat) (ha : a < s.n) (hb : b < s.n) (hn : n < 1000) (r : Nat × Nat × Nat) (hr : Sort.order2 ltB d a b n = r) :
    Calls Tryz.prog 210 #[.agg #[(Value.func (.func 86) #[] #[.pointer (some ⟨s.Bs, 0, none⟩)]), (Value.func (.func s.sf) #[] s.sb)], .int .i64 a, .int .i64 b, .pointer (some ⟨C, 0, none⟩)] wx fun e w' => e = .returned (.tuple #[.int .i64 r.1, .int .i64 r.2.1]) ∧ MP s B C w r.2.2 d w' := by
  subst hr
  exact (order2_sp s C n d wx h.2.2.1 a b ha hb hn).mono fun _ _ ⟨he, h1, h2⟩ => ⟨he, h.grown h1 h2⟩

theorem median_lt {lt : Pl → Pl → Bool} {d : Array Pl} {a b c n N : Nat} (ha : a < N) (hb : b < N) (hc : c < N) : (Sort.median lt d a b c n).1 < N ∧ (Sort.median lt d a b c n).2 ≤ n + 3 := by
  obtain ⟨x1, x2, x3⟩ := order2_lt (lt := lt) (d := d) (n := n) ha hb
  obtain ⟨y1, y2, y3⟩ := order2_lt (lt := lt) (d := d) (n := (Sort.order2 lt d a b n).2.2) x2 hc
  obtain ⟨z1, z2, z3⟩ := order2_lt (lt := lt) (d := d) (n := (Sort.order2 lt d (Sort.order2 lt d a b n).2.1 c (Sort.order2 lt d a b n).2.2).2.2) x1 y1
  exact ⟨z2, by show (Sort.order2 lt d _ _ _).2.2 ≤ _; omega⟩

set_option maxRecDepth 100000 in
set_option maxHeartbeats 2000000 in
set_option maxRecDepth 100000 in
theorem median_sp (s : Sl) (C n : Nat) (d : Array Pl) (w : World) (h : SP s C n d w) (a b c : Nat) (ha : a < s.n) (hb : b < s.n) (hc : c < s.n) (hn : n < 900) :
    Calls Tryz.prog 196 #[.agg #[(Value.func (.func 86) #[] #[.pointer (some ⟨s.Bs, 0, none⟩)]), (Value.func (.func s.sf) #[] s.sb)], .int .i64 a, .int .i64 b, .int .i64 c, .pointer (some ⟨C, 0, none⟩)] w fun e w' =>
      e = .returned (.int .i64 (Sort.median ltB d a b c n).1) ∧ SP s C (Sort.median ltB d a b c n).2 d w' ∧ w.grownBy w' (some C) := by
  obtain ⟨⟨a1, b1, n1⟩, h1⟩ : ∃ r, Sort.order2 ltB d a b n = r := ⟨_, rfl⟩
  obtain ⟨⟨a2, b2, n2⟩, h2⟩ : ∃ r, Sort.order2 ltB d b1 c n1 = r := ⟨_, rfl⟩
  obtain ⟨⟨a3, b3, n3⟩, h3⟩ : ∃ r, Sort.order2 ltB d a1 a2 n2 = r := ⟨_, rfl⟩
  have hm : Sort.median ltB d a b c n = (b3, n3) := by simp only [Sort.median, h1, h2, h3]
  obtain ⟨x1, x2, x3⟩ := order2_lt (lt := ltB) (d := d) (n := n) ha hb
  rw [h1] at x1 x2 x3
  obtain ⟨y1, y2, y3⟩ := order2_lt (lt := ltB) (d := d) (n := n1) x2 hc
  rw [h2] at y1 y2 y3
  simp only at x1 x2 x3 y1 y2 y3
  rw [hm]
  have HP : Hid (MP s w.heap.size C w n d (w.alloc (.cells #[(Value.func (.func 86) #[] #[.pointer (some ⟨s.Bs, 0, none⟩)]), (Value.func (.func s.sf) #[] s.sb)] 202))) := MP.box h
  have H1 : Hid _ := h1
  have H2 : Hid _ := h2
  have H3 : Hid _ := h3
  clear h hm h1 h2 h3
  go_enter Tryz.func196, Tryz.ntmps196
  go_wp2_with fail
  refine (order2_at HP.out a b ha hb (by omega) _ H1.out).mono ?_
  rintro e w1 ⟨rfl, he1⟩
  have HP1 : Hid _ := he1
  obtain ⟨k1, k2⟩ := he1.1
  clear he1
  go_wp2_with fail
  refine (order2_at HP1.out b1 c x2 hc (by omega) _ H2.out).mono ?_
  rintro e w2 ⟨rfl, he2⟩
  have HP2 : Hid _ := he2
  obtain ⟨k1, k2⟩ := he2.1
  clear he2
  go_wp2_with fail
  refine (order2_at HP2.out a1 a2 x1 y1 (by omega) _ H3.out).mono ?_
  rintro e w3 ⟨rfl, he3⟩
  have HP3 : Hid _ := he3
  clear he3
  go_wp2
  go_ret
  exact ⟨rfl, HP3.out.2.2.1, HP3.out.2.2.2⟩
theorem median_at {s : Sl} {B C : Nat} {w : World} {n : Nat} {d : Array Pl} {wx : World} (h : MP s B C w n d wx) (a b c : Nat) (ha : a < s.n) (hb : b < s.n) (hc : c < s.n) (hn : n < 900) (r : Nat × Nat) (hr : Sort.median ltB d a b c n = r) {x y z : Int} (hx : x = a) (hy : y = b) (hz : z = c) :
    Calls Tryz.prog 196 #[.agg #[(Value.func (.func 86) #[] #[.pointer (some ⟨s.Bs, 0, none⟩)]), (Value.func (.func s.sf) #[] s.sb)], .int .i64 x, .int .i64 y, .int .i64 z, .pointer (some ⟨C, 0, none⟩)] wx fun e w' => e = .returned (.int .i64 r.1) ∧ MP s B C w r.2 d w' := by
  subst hr hx hy hz
  exact (median_sp s C n d wx h.2.2.1 a b c ha hb hc hn).mono fun _ _ ⟨he, h1, h2⟩ => ⟨he, h.grown h1 h2⟩

set_option maxRecDepth 100000 in
set_option maxHeartbeats 2000000 in
set_option maxRecDepth 100000 in
theorem adjacent_sp (s : Sl) (C n : Nat) (d : Array Pl) (w : World) (h : SP s C n d w) (a : Nat) (ha : 1 ≤ a) (hb : a + 1 < s.n) (hn : n < 900) :
    Calls Tryz.prog 195 #[.agg #[(Value.func (.func 86) #[] #[.pointer (some ⟨s.Bs, 0, none⟩)]), (Value.func (.func s.sf) #[] s.sb)], .int .i64 a, .pointer (some ⟨C, 0, none⟩)] w fun e w' =>
      e = .returned (.int .i64 (Sort.medianAdjacent ltB d a n).1) ∧ SP s C (Sort.medianAdjacent ltB d a n).2 d w' ∧ w.grownBy w' (some C) := by
  obtain ⟨r, hr⟩ : ∃ r, Sort.medianAdjacent ltB d a n = r := ⟨_, rfl⟩
  have hN := h.1.2.2.2.1.2.2.2
  rw [hr]
  have HP : Hid (MP s w.heap.size C w n d (w.alloc (.cells #[(Value.func (.func 86) #[] #[.pointer (some ⟨s.Bs, 0, none⟩)]), (Value.func (.func s.sf) #[] s.sb)] 202))) := MP.box h
  have HR : Hid (Sort.median ltB d (a - 1) a (a + 1) n = r) := hr
  clear h hr
  go_enter Tryz.func195, Tryz.ntmps195
  go_wp2_with fail
  refine (median_at HP.out (a - 1) a (a + 1) (by omega) (by omega) (by omega) (by omega) _ HR.out (by omega) (by omega) (by omega)).mono ?_
  rintro e w1 ⟨rfl, he1⟩
  have HP1 : Hid _ := he1
  clear he1
  go_wp2
  go_ret
  exact ⟨rfl, HP1.out.2.2.1, HP1.out.2.2.2⟩
theorem adjacent_at {s : Sl} {B C : Nat} {w : World} {n : Nat} {d : Array Pl} {wx : World} (h : MP s B C w n d wx) (a : Nat) (ha : 1 ≤ a) (hb : a + 1 < s.n) (hn : n < 900) (r : Nat × Nat) (hr : Sort.medianAdjacent ltB d a n = r) {x : Int} (hx : x = a) :
    Calls Tryz.prog 195 #[.agg #[(Value.func (.func 86) #[] #[.pointer (some ⟨s.Bs, 0, none⟩)]), (Value.func (.func s.sf) #[] s.sb)], .int .i64 x, .pointer (some ⟨C, 0, none⟩)] wx fun e w' => e = .returned (.int .i64 r.1) ∧ MP s B C w r.2 d w' := by
  subst hr hx
  exact (adjacent_sp s C n d wx h.2.2.1 a ha hb hn).mono fun _ _ ⟨he, h1, h2⟩ => ⟨he, h.grown h1 h2⟩
end Go.Proofs.YtabcficlnhajeaaGreatDoor
namespace Go.Proofs.YtabcficlnhajeaaGreatDoor
open Go.RowKit

theorem hint_code (n : Nat) : Sort.hintCode (Sort.hintOf n) = if n = 0 then 1 else if n = 12 then 2 else 0 := by
  unfold Sort.hintOf
  by_cases h : n = 0
  · rw [if_pos h, if_pos h]; rfl
  · rw [if_neg h, if_neg h]
    by_cases h2 : n = 12
    · rw [if_pos h2, if_pos h2]; rfl
    · rw [if_neg h2, if_neg h2]; rfl

set_option maxRecDepth 100000 in
set_option maxHeartbeats 4000000 in
set_option maxRecDepth 100000 in
theorem pivot_ss (s : Sl) (d : Array Pl) (w : World) (h : SS s d w) (a b : Nat) (hab : a + 12 < b) (hb : b ≤ s.n) :
    Calls Tryz.prog 165 #[.agg #[(Value.func (.func 86) #[] #[.pointer (some ⟨s.Bs, 0, none⟩)]), (Value.func (.func s.sf) #[] s.sb)], .int .i64 a, .int .i64 b] w fun e w' =>
      e = .returned (.tuple #[.int .i64 (Sort.choosePivot ltB d a b).1, .int .i64 (Sort.hintCode (Sort.choosePivot ltB d a b).2)]) ∧ SS s d w' ∧ Below w.heap.size w w' := by
  have hN := h.2.2.2.1.2.2.2
  rw [Sort.choosePivot_eq]
  obtain ⟨m, hm⟩ : ∃ m, m = (b - a) / 4 := ⟨_, rfl⟩
  have hraw : Sort.rawPivot ltB d a b = if b - a ≥ 50 then
      Sort.median ltB d (Sort.medianAdjacent ltB d (a + m) 0).1 (Sort.medianAdjacent ltB d (a + m * 2) (Sort.medianAdjacent ltB d (a + m) 0).2).1 (Sort.medianAdjacent ltB d (a + m * 3) (Sort.medianAdjacent ltB d (a + m * 2) (Sort.medianAdjacent ltB d (a + m) 0).2).2).1 (Sort.medianAdjacent ltB d (a + m * 3) (Sort.medianAdjacent ltB d (a + m * 2) (Sort.medianAdjacent ltB d (a + m) 0).2).2).2
    else Sort.median ltB d (a + m) (a + m * 2) (a + m * 3) 0 := by
    rw [Sort.rawPivot, if_pos (by omega), ← hm, Nat.mul_one]
  obtain ⟨⟨pv, sw⟩, hr⟩ : ∃ r, Sort.rawPivot ltB d a b = r := ⟨_, rfl⟩
  rw [hr] at hraw
  rw [hr]
  simp only [hint_code]
  clear hr
  obtain ⟨w1, hw1⟩ : ∃ w1, w1 = w.alloc (.cells #[(Value.func (.func 86) #[] #[.pointer (some ⟨s.Bs, 0, none⟩)]), (Value.func (.func s.sf) #[] s.sb)] 202) := ⟨_, rfl⟩
  have hb1 : Below w.heap.size w w1 := by rw [hw1]; exact (Below.refl _ _).alloc (Nat.le_refl _) _
  have hb2 : Below w.heap.size w (w1.alloc (.cells #[.int .i64 0] 3)) := hb1.alloc hb1.size _
  have hs1 : w1.heap.size = w.heap.size + 1 := by rw [hw1]; simp
  have HP : Hid (MP s w.heap.size (w.heap.size + 1) w 0 d (w1.alloc (.cells #[.int .i64 0] 3))) := by
    have hn := heap_alloc_new w1 (.cells #[.int .i64 0] 3)
    have hn1 : w1.heap[w.heap.size]? = some (.cells #[(Value.func (.func 86) #[] #[.pointer (some ⟨s.Bs, 0, none⟩)]), (Value.func (.func s.sf) #[] s.sb)] 202) := by rw [hw1]; exact heap_alloc_new w _
    have hn2 : (w1.alloc (.cells #[.int .i64 0] 3)).heap[w.heap.size]? = some (.cells #[(Value.func (.func 86) #[] #[.pointer (some ⟨s.Bs, 0, none⟩)]), (Value.func (.func s.sf) #[] s.sb)] 202) := by
      rw [Below.heap_alloc _ _ _ (by omega)]; exact hn1
    rw [hs1] at hn
    have hq := h.2.2.2.1
    refine ⟨⟨by simp [World.cell?, hn2], by simp [World.cell?, hn2]⟩, ⟨by simp [hs1] <;> omega, by omega⟩, ⟨h.below hb2, by simp [World.cell?, hn], by simp [World.frozen?, hn], by simp [hs1] <;> omega, by omega, by omega⟩, ?_⟩
    exact grown_of_belowP hb2 _
  have FIN : Hid (∀ wx, w.grownBy wx (some (w.heap.size + 1)) → Below w.heap.size w wx) := fun wx hg => (Below.refl _ _).grown hg (Nat.le_refl _) (fun k hk => by cases hk; omega)
  have m1 : (m : Int) = ((b : Int) - a) / 4 := by omega
  have m2 : ((b : Int) - a).tdiv 4 = m := by rw [Int.tdiv_eq_ediv_of_nonneg (by omega)]; omega
  have m3 : 3 ≤ m := by omega
  have m4 : m * 4 ≤ b - a := by omega
  have MM : Hid (m = (b - a) / 4) := hm
  clear hb1 hb2 hm m1 h
  by_cases h50 : b - a ≥ 50
  · rw [if_pos h50] at hraw
    obtain ⟨⟨p1, n1⟩, h1⟩ : ∃ r, Sort.medianAdjacent ltB d (a + m) 0 = r := ⟨_, rfl⟩
    obtain ⟨⟨p2, n2⟩, h2⟩ : ∃ r, Sort.medianAdjacent ltB d (a + m * 2) n1 = r := ⟨_, rfl⟩
    obtain ⟨⟨p3, n3⟩, h3⟩ : ∃ r, Sort.medianAdjacent ltB d (a + m * 3) n2 = r := ⟨_, rfl⟩
    rw [h1] at hraw
    simp only at hraw
    rw [h2] at hraw
    simp only at hraw
    rw [h3] at hraw
    simp only at hraw
    obtain ⟨x1, x2⟩ := median_lt (lt := ltB) (d := d) (a := a + m - 1) (b := a + m) (c := a + m + 1) (n := 0) (N := s.n) (by omega) (by omega) (by omega)
    rw [show Sort.median ltB d (a + m - 1) (a + m) (a + m + 1) 0 = (p1, n1) from h1] at x1 x2
    obtain ⟨y1, y2⟩ := median_lt (lt := ltB) (d := d) (a := a + m * 2 - 1) (b := a + m * 2) (c := a + m * 2 + 1) (n := n1) (N := s.n) (by omega) (by omega) (by omega)
    rw [show Sort.median ltB d (a + m * 2 - 1) (a + m * 2) (a + m * 2 + 1) n1 = (p2, n2) from h2] at y1 y2
    obtain ⟨z1, z2⟩ := median_lt (lt := ltB) (d := d) (a := a + m * 3 - 1) (b := a + m * 3) (c := a + m * 3 + 1) (n := n2) (N := s.n) (by omega) (by omega) (by omega)
    rw [show Sort.median ltB d (a + m * 3 - 1) (a + m * 3) (a + m * 3 + 1) n2 = (p3, n3) from h3] at z1 z2
    simp only at x1 x2 y1 y2 z1 z2
    have i50 : (50 : Int) ≤ (b : Int) - a := by omega
    have i8 : (8 : Int) ≤ (b : Int) - a := by omega
    have H1 : Hid _ := h1
    have H2 : Hid _ := h2
    have H3 : Hid _ := h3
    have HW : Hid _ := hraw.symm
    clear h1 h2 h3 hraw
    subst hw1
    go_enter Tryz.func165, Tryz.ntmps165
    go_wp2_with fail
    refine (adjacent_at HP.out (a + m) (by omega) (by omega) (by omega) _ H1.out (by omega)).mono ?_
    rintro e v1 ⟨rfl, he1⟩
    have HP1 : Hid _ := he1
    obtain ⟨k1, k2⟩ := he1.1
    clear he1
    go_wp2_with fail
    refine (adjacent_at HP1.out (a + m * 2) (by omega) (by omega) (by omega) _ H2.out (by omega)).mono ?_
    rintro e v2 ⟨rfl, he2⟩
    have HP2 : Hid _ := he2
    obtain ⟨k1, k2⟩ := he2.1
    clear he2
    go_wp2_with fail
    refine (adjacent_at HP2.out (a + m * 3) (by omega) (by omega) (by omega) _ H3.out (by omega)).mono ?_
    rintro e v3 ⟨rfl, he3⟩
    have HP3 : Hid _ := he3
    obtain ⟨k1, k2⟩ := he3.1
    clear he3
    go_wp2_with fail
    refine (median_at HP3.out p1 p2 p3 x1 y1 z1 (by omega) _ HW.out (by omega) (by omega) (by omega)).mono ?_
    rintro e v4 ⟨rfl, he4⟩
    have HF : Hid _ := he4
    have k3 := he4.2.2.1.2.1
    clear he4
    by_cases z0 : sw = 0
    · subst z0
      go_wp2
      go_ret2
      exact ⟨rfl, HF.out.2.2.1.1, FIN.out _ HF.out.2.2.2⟩
    · have z1 : ¬ (sw : Int) = 0 := by omega
      have z1' : ((sw : Int) == 0) = false := by simpa using z1
      by_cases z2 : sw = 12
      · subst z2
        go_wp2
        go_ret2
        exact ⟨rfl, HF.out.2.2.1.1, FIN.out _ HF.out.2.2.2⟩
      · have z3 : ¬ (sw : Int) = 12 := by omega
        have z3' : ((sw : Int) == 12) = false := by simpa using z3
        have HI : Hid ((if sw = 0 then (1 : Int) else if sw = 12 then 2 else 0) = 0) := by show _ = _; rw [if_neg z0, if_neg z2]
        go_wp2
        go_ret2
        exact ⟨by first | rfl | (rw [HI.out]; rfl) | (rw [if_neg z0, if_neg z2]; rfl), HF.out.2.2.1.1, FIN.out _ HF.out.2.2.2⟩
  · rw [if_neg h50] at hraw
    have i50 : ¬ (50 : Int) ≤ (b : Int) - a := by omega
    have i8 : (8 : Int) ≤ (b : Int) - a := by omega
    have HW : Hid _ := hraw.symm
    clear hraw
    subst hw1
    go_enter Tryz.func165, Tryz.ntmps165
    go_wp2_with fail
    refine (median_at HP.out (a + m) (a + m * 2) (a + m * 3) (by omega) (by omega) (by omega) (by omega) _ HW.out (by omega) (by omega) (by omega)).mono ?_
    rintro e v4 ⟨rfl, he4⟩
    have HF : Hid _ := he4
    have k3 := he4.2.2.1.2.1
    clear he4
    by_cases z0 : sw = 0
    · subst z0
      go_wp2
      go_ret2
      exact ⟨rfl, HF.out.2.2.1.1, FIN.out _ HF.out.2.2.2⟩
    · have z1 : ¬ (sw : Int) = 0 := by omega
      have z1' : ((sw : Int) == 0) = false := by simpa using z1
      by_cases z2 : sw = 12
      · subst z2
        go_wp2
        go_ret2
        exact ⟨rfl, HF.out.2.2.1.1, FIN.out _ HF.out.2.2.2⟩
      · have z3 : ¬ (sw : Int) = 12 := by omega
        have z3' : ((sw : Int) == 12) = false := by simpa using z3
        have HI : Hid ((if sw = 0 then (1 : Int) else if sw = 12 then 2 else 0) = 0) := by show _ = _; rw [if_neg z0, if_neg z2]
        go_wp2
        go_ret2
        exact ⟨by first | rfl | (rw [HI.out]; rfl) | (rw [if_neg z0, if_neg z2]; rfl), HF.out.2.2.1.1, FIN.out _ HF.out.2.2.2⟩
end Go.Proofs.YtabcficlnhajeaaGreatDoor
