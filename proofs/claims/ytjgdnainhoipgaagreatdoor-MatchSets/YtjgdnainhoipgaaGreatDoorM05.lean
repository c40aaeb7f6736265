/- Texts of the proof of MatchSets: PWrite, PEnc, PRead. -/
import Derived.Test.YtjgdnainhoipgaaGreatDoorM04
import Derived.Laws.IdiomStrings
import Derived.Deep.AppendLies
namespace Go.Proofs.YtjgdnainhoipgaaGreatDoor
open Go.RowKit

/-- a number, seven bits a byte, the least ones first -/
def numL (n : Nat) : List UInt8 := if n < 128 then [UInt8.ofNat n] else UInt8.ofNat (n % 128 + 128) :: numL (n / 128)
termination_by n
decreasing_by omega
theorem numL_small {n : Nat} (h : n < 128) : numL n = [UInt8.ofNat n] := by rw [numL, if_pos h]
theorem numL_big {n : Nat} (h : ¬ n < 128) : numL n = UInt8.ofNat (n % 128 + 128) :: numL (n / 128) := by rw [numL, if_neg h]

/-- bytes, as cells -/
def bcs (l : List UInt8) : List Value := l.map fun b => Value.int .u8 b.toNat
theorem bcs_append (a b : List UInt8) : bcs (a ++ b) = bcs a ++ bcs b := by simp [bcs]

/-- only the row that is appended to, and what is new, has changed -/
def Gr (w w' : World) (v v' : Value) : Prop := w.grownBy w' v.ownBlock ∧ ∀ k, v'.ownBlock = some k → v.ownBlock = some k ∨ w.heap.size ≤ k
theorem Gr.refl (w : World) (v : Value) : Gr w w v v := ⟨⟨rfl, rfl, rfl, Nat.le_refl _, fun _ _ _ => rfl⟩, fun _ h => .inl h⟩
theorem Gr.trans {w w1 w2 : World} {v v1 v2 : Value} (h : Gr w w1 v v1) (k : Gr w1 w2 v1 v2) : Gr w w2 v v2 := by
  have hs := h.1.size
  refine ⟨⟨k.1.os.trans h.1.os, k.1.tape.trans h.1.tape, k.1.output.trans h.1.output, Nat.le_trans hs k.1.size, fun b hb hn => ?_⟩, fun b hb => ?_⟩
  · rw [k.1.block b (Nat.lt_of_lt_of_le hb hs) (fun e => by
      rcases h.2 b e.symm with h2 | h2
      · exact hn h2.symm
      · omega), h.1.block b hb hn]
  · rcases k.2 b hb with h2 | h2
    · exact h.2 b h2
    · exact .inr (Nat.le_trans hs h2)
theorem Gr.alloc {w w' : World} {v v' : Value} (o : Obj) (h : Gr (w.alloc o) w' v v') : Gr w w' v v' := by
  have hs := h.1.size
  simp at hs
  refine ⟨⟨h.1.os, h.1.tape, h.1.output, by omega, fun b hb hn => ?_⟩, fun b hb => ?_⟩
  · rw [h.1.block b (by simp; omega) hn]
    exact ((Below.refl _ w).alloc (Nat.le_refl _) o).block b hb
  · rcases h.2 b hb with h2 | h2
    · exact .inl h2
    · exact .inr (by simp at h2; omega)
theorem Gr.below {w w' : World} {v v' : Value} {B : Nat} (h : Gr w w' v v') (hv : ∀ k, v.ownBlock = some k → B ≤ k) (hB : B ≤ w.heap.size) : Below B w w' :=
  (Below.refl B w).grown h.1 hB hv
theorem own_slice (g n c : Nat) : (Value.slice (some ⟨g, 0, none⟩) n c).ownBlock = some g := rfl

def natOf : Value → Nat
  | .int _ n => n.toNat
  | _ => 0

theorem one_byteP (x : Int) : ∀ u ∈ [Value.int .u8 x], u.oneCell' = true := by intro y hy; simp at hy; subst hy; rfl

set_option maxRecDepth 100000 in
set_option maxHeartbeats 1000000 in
theorem appendNumber_any (B : Nat) (v : Value) (l : List UInt8) (n : Nat) (w : World) (hown : w.ownsRow B 5 1 v l.length (bcs l)) (hB : B ≤ w.heap.size) (hl : (l ++ numL n).length ≤ 1000000) (hn : n < 18446744073709551616) :
    Calls Tryz.prog 65 #[v, .int .u64 n] w fun e w' => ∃ v', e = .returned v' ∧ w'.ownsRow B 5 1 v' (l ++ numL n).length (bcs (l ++ numL n)) ∧ Gr w w' v v' := by
  obtain ⟨i0, hi, hz0, hz1, hz2⟩ := pinfo_parts infoByte
  obtain ⟨T, hT⟩ : ∃ T, l ++ numL n = T := ⟨_, rfl⟩
  rw [hT] at hl ⊢
  have HT : Hid (l ++ numL n = T) := hT
  clear hT
  go_enter Tryz.func65, Tryz.ntmps65
  go_wp2
  go_loopw [0, 1] (fun x i wr => ∃ (l : List UInt8) (m : Nat), m < 18446744073709551616 ∧ i = .int .u64 m ∧ Hid (l ++ numL m = T) ∧ Hid (wr.ownsRow B 5 1 x l.length (bcs l) ∧ Gr w wr v x)) (fun _ i _ => natOf i)
  case atStart => exact ⟨l, n, hn, rfl, HT, hown, Gr.refl _ _⟩
  case round =>
    clear hown HT hn
    obtain ⟨l, m, hm, rfl, hT, hown⟩ := hrel
    have hlen : l.length + 1 ≤ 1000000 := by
      have e := hT.out
      rw [numL] at e
      rw [← e] at hl
      split at hl <;> simp at hl <;> omega
    by_cases hs : m < 128
    · have hs' : ¬ (128 : Int) ≤ (m : Int) := by omega
      go_wp2_with (at_builtin; refine wpList_append_lies _ rfl _ _ 128 rfl B 5 i0 (.int .u8 0) 1 1 Tryz.underlying128 hi hz0 hz1 hz2 rfl (by decide) _ _ _ rfl (hown.out.1.alloc _) ⟨wr.heap.size, 0, none⟩ 1 1 [.int .u8 (m)] rfl rfl (cell_one_new _ _ _) (one_byteP _) (by decide) (by simp [maxLen]; omega) (by omega) (by have := hown.out.2.1.size; simp; omega) _ rfl ?_)
      intro g cap w1 hown' hgrow hg _
      have HB1 : Hid (Gr w w1 v (.slice (some ⟨g, 0, none⟩) (l.length + 1) cap)) := hown.out.2.trans (Gr.alloc _ ⟨hgrow, fun k hk => by
        have e : g = k := by simpa [own_slice] using hk
        subst e
        rcases hg with h | h
        · exact .inl h
        · exact .inr (by rw [h]; simp)⟩)
      have HO1 : Hid (w1.ownsRow B 5 1 (.slice (some ⟨g, 0, none⟩) (l.length + 1) cap) T.length (bcs T)) := by
        have e : l ++ [UInt8.ofNat m] = T := by rw [← hT.out, numL_small hs]
        refine own_eqP hown' (by rw [← e]; simp) ?_
        rw [← e, bcs_append]
        simp [bcs]
        omega
      clear hown hown' hgrow
      go_wp2
      go_ret
      exact ⟨_, rfl, HO1.out, HB1.out⟩
    · have hs' : (128 : Int) ≤ (m : Int) := by omega
      go_wp2_with (at_builtin; refine wpList_append_lies _ rfl _ _ 128 rfl B 5 i0 (.int .u8 0) 1 1 Tryz.underlying128 hi hz0 hz1 hz2 rfl (by decide) _ _ _ rfl (hown.out.1.alloc _) ⟨wr.heap.size, 0, none⟩ 1 1 [.int .u8 ((m : Int) % 128 + 128)] rfl rfl (cell_one_new _ _ _) (one_byteP _) (by decide) (by simp [maxLen]; omega) (by omega) (by have := hown.out.2.1.size; simp; omega) _ rfl ?_)
      intro g cap w1 hown' hgrow hg _
      have HB1 : Hid (Gr w w1 v (.slice (some ⟨g, 0, none⟩) (l.length + 1) cap)) := hown.out.2.trans (Gr.alloc _ ⟨hgrow, fun k hk => by
        have e : g = k := by simpa [own_slice] using hk
        subst e
        rcases hg with h | h
        · exact .inl h
        · exact .inr (by rw [h]; simp)⟩)
      have HT2 : Hid ((l ++ [UInt8.ofNat (m % 128 + 128)]) ++ numL (m / 128) = T) := by
        show _ = _
        rw [← hT.out, numL_big hs]
        simp
      have HO1 : Hid (w1.ownsRow B 5 1 (.slice (some ⟨g, 0, none⟩) (l.length + 1) cap) (l ++ [UInt8.ofNat (m % 128 + 128)]).length (bcs (l ++ [UInt8.ofNat (m % 128 + 128)]))) := by
        refine own_eqP hown' (by simp) ?_
        rw [bcs_append]
        simp [bcs]
        omega
      clear hown hown' hgrow hT
      go_wp2
      go_roundw
      case rel => exact ⟨_, m / 128, by omega, by simp, HT2, HO1.out, HB1.out⟩
      case measure => simp [natOf]; omega
end Go.Proofs.YtjgdnainhoipgaaGreatDoor
namespace Go.Proofs.YtjgdnainhoipgaaGreatDoor
open Go.RowKit

def encP (p q : Pl) : List UInt8 := if q.r = p.r then numL (2 * (q.a - p.a)).toNat else numL (2 * (q.r - p.r) + 1).toNat ++ numL q.a.toNat
def encFrom : Pl → List Pl → List UInt8
  | _, [] => []
  | p, q :: l => encP p q ++ encFrom q l
def encPl (l : List Pl) : List UInt8 := encFrom ⟨0, 0⟩ l

theorem numL_len (k : Nat) : ∀ n, n < 128 ^ (k + 1) → (numL n).length ≤ k + 1 := by
  induction k with
  | zero => intro n hn; rw [numL_small (by omega)]; simp
  | succ k ih =>
    intro n hn
    by_cases h : n < 128
    · rw [numL_small h]; simp
    · rw [numL_big h, List.length_cons]
      have := ih (n / 128) (by rw [Nat.pow_succ] at hn; omega)
      omega
theorem numL_pos (n : Nat) : 1 ≤ (numL n).length := by rw [numL]; split <;> simp

/-- what is known of two places, the second one right behind the first -/
theorem foll_facts {p q : Pl} (h : follB p q = true) : (1 ≤ q.r ∧ q.r ≤ 1073741824) ∧ (0 ≤ q.a ∧ q.a < 1073741824) ∧ ((q.r = p.r ∧ p.a < q.a) ∨ (q.r ≠ p.r ∧ p.r < q.r)) := by
  simp only [follB, okB, Bool.and_eq_true, decide_eq_true_eq] at h
  obtain ⟨⟨⟨⟨h1, h2⟩, h3⟩, h4⟩, h5⟩ := h
  refine ⟨⟨h1, h2⟩, ⟨h3, h4⟩, ?_⟩
  unfold cmpP cmpI at h5
  by_cases e : p.r = q.r
  · rw [if_pos e] at h5
    refine .inl ⟨e.symm, ?_⟩
    by_cases e2 : p.a < q.a
    · exact e2
    · rw [if_neg e2] at h5
      split at h5 <;> omega
  · rw [if_neg e] at h5
    refine .inr ⟨fun x => e x.symm, ?_⟩
    by_cases e2 : p.r < q.r
    · exact e2
    · rw [if_neg e2] at h5
      split at h5 <;> omega

/-- the place ahead: none yet, or one that may be -/
def Ahead (p : Pl) : Prop := 0 ≤ p.r ∧ p.r ≤ 1073741824 ∧ 0 ≤ p.a ∧ p.a < 1073741824

theorem enc_len (l : List Pl) : ∀ p, Ahead p → rightFrom p l = true → (encFrom p l).length ≤ 10 * l.length ∧ l.length ≤ (encFrom p l).length := by
  induction l with
  | nil => intro p _ _; simp [encFrom]
  | cons q l ih =>
    intro p hp h
    simp only [rightFrom, Bool.and_eq_true] at h
    obtain ⟨⟨a1, a2⟩, ⟨a3, a4⟩, h5⟩ := foll_facts h.1
    obtain ⟨b1, b2, b3, b4⟩ := hp
    have := ih q ⟨by omega, by omega, by omega, by omega⟩ h.2
    simp only [encFrom, List.length_append, List.length_cons]
    unfold encP
    split
    · have k1 := numL_len 4 (2 * (q.a - p.a)).toNat (by omega)
      have k2 := numL_pos (2 * (q.a - p.a)).toNat
      omega
    · have k1 := numL_len 4 (2 * (q.r - p.r) + 1).toNat (by omega)
      have k2 := numL_len 4 q.a.toNat (by omega)
      have k3 := numL_pos (2 * (q.r - p.r) + 1).toNat
      simp only [List.length_append]
      omega

theorem appendNumber_as (x : Int) (h0 : 0 ≤ x) (hx : x < 18446744073709551616) (B : Nat) (v : Value) (l : List UInt8) (w : World) (hown : w.ownsRow B 5 1 v l.length (bcs l)) (hB : B ≤ w.heap.size) (hl : (l ++ numL x.toNat).length ≤ 1000000) :
    Calls Tryz.prog 65 #[v, .int .u64 x] w fun e w' => ∃ v', e = .returned v' ∧ w'.ownsRow B 5 1 v' (l ++ numL x.toNat).length (bcs (l ++ numL x.toNat)) ∧ Gr w w' v v' := by
  have h := appendNumber_any B v l x.toNat w hown hB hl (by omega)
  rw [Int.toNat_of_nonneg h0] at h
  exact h

theorem grownBy_setP (W : World) (b o : Nat) (v : Value) : W.grownBy (W.setCell ⟨b, o, none⟩ v) (some b) :=
  ⟨rfl, rfl, rfl, by simp [World.setCell], fun k _ hk => Below.heap_setCell W ⟨b, o, none⟩ v k (fun e => hk (by rw [e]))⟩
theorem own_set {w : World} {B : Nat} {t : TypeId} {z : Nat} {v : Value} {n : Nat} {xs : List Value} (h : w.ownsRow B t z v n xs) (b o : Nat) (hb : b < B) (u : Value) : (w.setCell ⟨b, o, none⟩ u).ownsRow B t z v n xs := by
  refine h.kept (grownBy_setP w b o u) ?_
  cases e : v.ownBlock with
  | none => exact .inl rfl
  | some k => exact .inr (fun e2 => by have := (h.lt k e).1; cases e2; omega)
theorem VarP.gr {B : Nat} {p : Pl} {w w' : World} {v v' : Value} (h : VarP B p w) (hg : Gr w w' v v') (hn : v.ownBlock ≠ some B) : VarP B p w' := by
  obtain ⟨h1, h2, h3, h4, h5⟩ := h
  have e : w'.heap[B]? = w.heap[B]? := hg.1.block B h5 (fun e => hn e.symm)
  refine ⟨?_, ?_, ?_, ?_, Nat.lt_of_lt_of_le h5 hg.1.size⟩
  · rw [← h1]; exact World.cell?_of_block e
  · rw [← h2]; exact World.cell?_of_block e
  · rw [← h3]; exact World.frozen?_of_block e
  · rw [← h4]; exact World.frozen?_of_block e
theorem VarP.box (w : World) (q : Pl) : VarP w.heap.size q (w.alloc (.cells #[.int .i64 q.r, .int .i64 q.a] 117)) := by
  have hn := heap_alloc_new w (.cells #[.int .i64 q.r, .int .i64 q.a] 117)
  refine ⟨by simp, by simp, ?_, ?_, by simp⟩
  · simp only [World.frozen?, hn]; simp
  · simp only [World.frozen?, hn]; simp
theorem own_ne {w : World} {B : Nat} {t : TypeId} {z : Nat} {v : Value} {n : Nat} {xs : List Value} (h : w.ownsRow B t z v n xs) (b : Nat) (hb : b < B ∨ w.heap.size ≤ b) : v.ownBlock ≠ some b := fun e => by
  have := h.lt b e
  omega

theorem conv_nil (w : World) : (convert 128 9 (.slice none 0 0)).run Tryz.prog w = .ok (.string ⟨#[]⟩) w := by kernel_rfl
/-- the text of a row of bytes -/
theorem bytes_text {w : World} {B : Nat} {v : Value} {l : List UInt8} (h : w.ownsRow B 5 1 v l.length (bcs l)) : (convert 128 9 v).run Tryz.prog w = .ok (.string ⟨l.toArray⟩) w := by
  rcases h.2 with ⟨rfl, h0⟩ | ⟨g, cap, cur, rfl, _, hg, _⟩
  · have : l = [] := List.length_eq_zero_iff.1 h0
    subst this
    exact conv_nil w
  · exact run_convert_bytes_back (P := Tryz.prog) w 128 9 5 ⟨g, 0, none⟩ cap l Tryz.underlying128 Tryz.underlying5 Tryz.underlying9 (fun j hj => h.cells (g := g) rfl j _ (by simp [bcs, hj]))

theorem right_as (b : Bool) (a : Option Addr) (len cap : Nat) (xs : List Pl) (hb : rightL xs = b) (w : World) (hr : RowP w a len xs) :
    Calls Tryz.prog 64 #[.slice a len cap] w fun e w' => e = .returned (.bool b) ∧ Below w.heap.size w w' := by
  rw [← hb]; exact right_any a len cap xs w hr

set_option maxRecDepth 100000 in
set_option maxHeartbeats 2000000 in
theorem write_yes (a : Option Addr) (len cap : Nat) (xs : List Pl) (w : World) (hr : RowP w a len xs) (hn : rightL xs = true) (hl : xs.length ≤ 1000) :
    Calls Tryz.prog 38 #[.slice a len cap] w fun e w' => e = .returned (.tuple #[.string ⟨(encPl xs).toArray⟩, .nilIface]) ∧ Below w.heap.size w w' := by
  have HR : Hid (RowP w a len xs ∧ rightL xs = true) := ⟨hr, hn⟩
  obtain ⟨rfl, _, _⟩ := hr
  clear hn
  obtain ⟨T, hT⟩ : ∃ T, encPl xs = T := ⟨_, rfl⟩
  have HT : Hid (encFrom ⟨0, 0⟩ (xs.drop 0) = T ∧ T.length ≤ 10000) := ⟨hT, by
    have := (enc_len xs ⟨0, 0⟩ ⟨by decide, by decide, by decide, by decide⟩ HR.out.2).1
    rw [← hT]
    show (encFrom ⟨0, 0⟩ xs).length ≤ 10000
    omega⟩
  rw [hT]
  clear hT
  go_enter Tryz.func38, Tryz.ntmps38
  go_wp2_with fail
  refine (right_as true a _ cap xs HR.out.2 w HR.out.1).mono ?_
  rintro _ w1 ⟨rfl, hb1⟩
  have HB1 : Hid (Below w.heap.size w w1) := hb1
  have hx := (RowP.below HR.out.1 hb1).2.2
  clear hb1
  go_wp2
  go_loopw [4, 14] (fun v i wr => ∃ (k : Nat) (p : Pl) (l : List UInt8), k ≤ xs.length ∧ i = .int .i64 k ∧ Hid (VarP w1.heap.size p wr ∧ Below w1.heap.size w1 wr ∧ rightFrom p (xs.drop k) = true ∧ l ++ encFrom p (xs.drop k) = T) ∧ Hid (wr.ownsRow (w1.heap.size + 1) 5 1 v l.length (bcs l)) ∧ Hid (Ahead p)) (fun _ i _ => xs.length - (intOf i).toNat)
  case atStart => exact ⟨0, ⟨0, 0⟩, [], Nat.zero_le _, rfl, ⟨VarP.new w1, (Below.refl _ _).alloc (Nat.le_refl _) _, HR.out.2, HT.out.1⟩, World.ownsRow_nil _ _ _ _, ⟨by decide, by decide, by decide, by decide⟩⟩
  case round =>
    obtain ⟨k, p, l, hk, rfl, hz, hown, hahead⟩ := hrel
    by_cases hlt : k < xs.length
    · rcases hx with hx | ⟨b, off, rfl, hb, hrow⟩
      · simp [hx] at hlt
      obtain ⟨g1, g2⟩ := hrow k hlt
      clear hrow
      rw [← hz.out.2.1.cell (p := ⟨b, _, none⟩) hb] at g1 g2
      have hf : follB p xs[k] = true ∧ rightFrom xs[k] (xs.drop (k + 1)) = true ∧ (l ++ encP p xs[k]) ++ encFrom xs[k] (xs.drop (k + 1)) = T := by
        have h1 := hz.out.2.2.1
        have h2 := hz.out.2.2.2
        rw [List.drop_eq_getElem_cons hlt, rightFrom, Bool.and_eq_true] at h1
        rw [List.drop_eq_getElem_cons hlt, encFrom] at h2
        exact ⟨h1.1, h1.2, by rw [List.append_assoc]; exact h2⟩
      have i1 : (k : Int) < (xs.length : Int) := by omega
      generalize xs[k] = q at *
      obtain ⟨⟨a1, a2⟩, ⟨a3, a4⟩, h5⟩ := foll_facts hf.1
      obtain ⟨b1, b2, b3, b4⟩ := hahead.out
      have HF : Hid (rightFrom q (xs.drop (k + 1)) = true ∧ (l ++ encP p q) ++ encFrom q (xs.drop (k + 1)) = T) := hf.2
      have HV : Hid (VarP w1.heap.size p wr) := hz.out.1
      have HB : Hid (Below w1.heap.size w1 wr) := hz.out.2.1
      have HL : Hid ((l ++ encP p q).length ≤ 10000) := by
        show _ ≤ _
        have h1 := HT.out.2
        rw [← hf.2.2] at h1
        rw [List.length_append] at h1
        omega
      clear hz hahead hf
      have HA : Hid (Below wr.heap.size wr (wr.alloc (.cells #[.int .i64 q.r, .int .i64 q.a] 117))) := (Below.refl _ _).alloc (Nat.le_refl _) _
      have HV1 : Hid (VarP w1.heap.size p (wr.alloc (.cells #[.int .i64 q.r, .int .i64 q.a] 117))) := VarP.below HV.out HA.out
      have HO1 : Hid ((wr.alloc (.cells #[.int .i64 q.r, .int .i64 q.a] 117)).ownsRow (w1.heap.size + 1) 5 1 u4 l.length (bcs l)) := own_belowP hown.out HA.out
      obtain ⟨c1, c2, f1, f2, hlt1⟩ := HV1.out
      have c3 : (wr.alloc (.cells #[.int .i64 q.r, .int .i64 q.a] 117)).cell? ⟨wr.heap.size, 0, none⟩ = some (.int .i64 q.r) := by simp
      have c4 : (wr.alloc (.cells #[.int .i64 q.r, .int .i64 q.a] 117)).cell? ⟨wr.heap.size, 1, none⟩ = some (.int .i64 q.a) := by simp
      rcases h5 with ⟨h5, h6⟩ | ⟨h5, h6⟩
      · have HQ : Hid (l ++ numL (2 * (q.a - p.a)).toNat = l ++ encP p q) := by show _ = _; rw [encP, if_pos h5]
        have HL2 : Hid ((l ++ numL (2 * (q.a - p.a)).toNat).length ≤ 1000000) := by show _ ≤ _; rw [HQ.out]; have := HL.out; omega
        have hd1 : (q.r != p.r) = false := by simp [h5]
        clear h5
        have HC1 : Hid (VarP wr.heap.size q (wr.alloc (.cells #[.int .i64 q.r, .int .i64 q.a] 117))) := VarP.box wr q
        have HN1 : Hid (u4.ownBlock ≠ some wr.heap.size) := own_ne hown.out _ (.inr (Nat.le_refl _))
        have HB1' : Hid (Below w1.heap.size w1 (wr.alloc (.cells #[.int .i64 q.r, .int .i64 q.a] 117))) := HB.out.trans (HA.out.mono HB.out.size)
        have HS1 : Hid (w1.heap.size + 1 ≤ (wr.alloc (.cells #[.int .i64 q.r, .int .i64 q.a] 117)).heap.size) := by show _ ≤ _; omega
        go_wp2_with fail
        refine (appendNumber_as (2 * (q.a - p.a)) (by omega) (by omega) (w1.heap.size + 1) u4 l _ HO1.out HS1.out HL2.out).mono ?_
        rintro _ w2 ⟨v2, rfl, ho2, hg2⟩
        have HO2 : Hid (w2.ownsRow (w1.heap.size + 1) 5 1 v2 (l ++ numL (2 * (q.a - p.a)).toNat).length (bcs (l ++ numL (2 * (q.a - p.a)).toNat))) := ho2
        have HV2 : Hid (VarP w1.heap.size p w2) := VarP.gr HV1.out hg2 (own_ne HO1.out _ (.inl (by omega)))
        have HC2 : Hid (VarP wr.heap.size q w2) := VarP.gr HC1.out hg2 HN1.out
        have HB2 : Hid (Below w1.heap.size w1 w2) := HB1'.out.trans (hg2.below (fun k hk => by have := (HO1.out.lt k hk).1; omega) (by have := HS1.out; omega))
        have HS2 : Hid (w1.heap.size + 1 ≤ w2.heap.size) := Nat.le_trans HS1.out hg2.1.size
        clear ho2 hg2 c1 c2 c3 c4 f1 f2 HO1 HV1 HC1 HN1 HB1' HS1 g1 g2 HA HB HV hd1 hown
        obtain ⟨c1, c2, f1, f2, _⟩ := HV2.out
        obtain ⟨c3, c4, _, _, _⟩ := HC2.out
        go_wp2
        go_roundw
        case rel => exact ⟨k + 1, q, l ++ numL (2 * (q.a - p.a)).toNat, by omega, by go_num, ⟨HV2.out.set q, (HB2.out.setCell (p := ⟨_, 0, none⟩) (Nat.le_refl _) _).setCell (p := ⟨_, 1, none⟩) (Nat.le_refl _) _, HF.out.1, by rw [HQ.out]; exact HF.out.2⟩, own_set (own_set HO2.out _ _ (by omega) _) _ _ (by omega) _, ⟨by omega, by omega, by omega, by omega⟩⟩
        case measure => simp [intOf]; omega
      · have HQ : Hid ((l ++ numL (2 * (q.r - p.r) + 1).toNat) ++ numL q.a.toNat = l ++ encP p q) := by show _ = _; rw [encP, if_neg h5, List.append_assoc]
        have HL3 : Hid (((l ++ numL (2 * (q.r - p.r) + 1).toNat) ++ numL (q.a).toNat).length ≤ 1000000) := by show _ ≤ _; rw [HQ.out]; have := HL.out; omega
        have HL2 : Hid ((l ++ numL (2 * (q.r - p.r) + 1).toNat).length ≤ 1000000) := by show _ ≤ _; have := HL3.out; rw [List.length_append] at this; omega
        have HC1 : Hid (VarP wr.heap.size q (wr.alloc (.cells #[.int .i64 q.r, .int .i64 q.a] 117))) := VarP.box wr q
        have HN1 : Hid (u4.ownBlock ≠ some wr.heap.size) := own_ne hown.out _ (.inr (Nat.le_refl _))
        have HB1' : Hid (Below w1.heap.size w1 (wr.alloc (.cells #[.int .i64 q.r, .int .i64 q.a] 117))) := HB.out.trans (HA.out.mono HB.out.size)
        have HS1 : Hid (w1.heap.size + 1 ≤ (wr.alloc (.cells #[.int .i64 q.r, .int .i64 q.a] 117)).heap.size) := by show _ ≤ _; omega
        go_wp2_with fail
        refine (appendNumber_as (2 * (q.r - p.r) + 1) (by omega) (by omega) (w1.heap.size + 1) u4 l _ HO1.out HS1.out HL2.out).mono ?_
        rintro _ w2 ⟨v2, rfl, ho2, hg2⟩
        have HO2 : Hid (w2.ownsRow (w1.heap.size + 1) 5 1 v2 (l ++ numL (2 * (q.r - p.r) + 1).toNat).length (bcs (l ++ numL (2 * (q.r - p.r) + 1).toNat))) := ho2
        have HV2 : Hid (VarP w1.heap.size p w2) := VarP.gr HV1.out hg2 (own_ne HO1.out _ (.inl (by omega)))
        have HC2 : Hid (VarP wr.heap.size q w2) := VarP.gr HC1.out hg2 HN1.out
        have HB2 : Hid (Below w1.heap.size w1 w2) := HB1'.out.trans (hg2.below (fun k hk => by have := (HO1.out.lt k hk).1; omega) (by have := HS1.out; omega))
        have HS2 : Hid (w1.heap.size + 1 ≤ w2.heap.size) := Nat.le_trans HS1.out hg2.1.size
        have HN2 : Hid (v2.ownBlock ≠ some wr.heap.size) := fun e => by
          rcases hg2.2 _ e with h | h
          · exact HN1.out h
          · simp at h
            omega
        clear ho2 hg2 c1 c2 c3 c4 f1 f2 HO1 HV1 HC1 HN1 HB1' HS1 g1 g2 HA HB HV hown
        obtain ⟨c3, c4, _, _, _⟩ := HC2.out
        go_wp2_with fail
        refine (appendNumber_as (q.a) (by omega) (by omega) (w1.heap.size + 1) v2 (l ++ numL (2 * (q.r - p.r) + 1).toNat) _ HO2.out HS2.out HL3.out).mono ?_
        rintro _ w3 ⟨v3, rfl, ho3, hg3⟩
        have HO3 : Hid (w3.ownsRow (w1.heap.size + 1) 5 1 v3 ((l ++ numL (2 * (q.r - p.r) + 1).toNat) ++ numL (q.a).toNat).length (bcs ((l ++ numL (2 * (q.r - p.r) + 1).toNat) ++ numL (q.a).toNat))) := ho3
        have HV3 : Hid (VarP w1.heap.size p w3) := VarP.gr HV2.out hg3 (own_ne HO2.out _ (.inl (by omega)))
        have HC3 : Hid (VarP wr.heap.size q w3) := VarP.gr HC2.out hg3 HN2.out
        have HB3 : Hid (Below w1.heap.size w1 w3) := HB2.out.trans (hg3.below (fun k hk => by have := (HO2.out.lt k hk).1; omega) (by have := HS2.out; omega))
        have HS3 : Hid (w1.heap.size + 1 ≤ w3.heap.size) := Nat.le_trans HS2.out hg3.1.size
        clear ho3 hg3 HO2 HV2 HC2 HN2 HB2 HS2 c3 c4
        obtain ⟨c1, c2, f1, f2, _⟩ := HV3.out
        obtain ⟨c3, c4, _, _, _⟩ := HC3.out
        go_wp2
        go_roundw
        case rel => exact ⟨k + 1, q, (l ++ numL (2 * (q.r - p.r) + 1).toNat) ++ numL q.a.toNat, by omega, by go_num, ⟨HV3.out.set q, (HB3.out.setCell (p := ⟨_, 0, none⟩) (Nat.le_refl _) _).setCell (p := ⟨_, 1, none⟩) (Nat.le_refl _) _, HF.out.1, by rw [HQ.out]; exact HF.out.2⟩, own_set (own_set HO3.out _ _ (by omega) _) _ _ (by omega) _, ⟨by omega, by omega, by omega, by omega⟩⟩
        case measure => simp [intOf]; omega
    · have e : l = T := by
        have := hz.out.2.2.2
        rw [List.drop_eq_nil_of_le (by omega), encFrom, List.append_nil] at this
        exact this
      subst e
      have ht := bytes_text hown.out
      go_wp2
      go_ret2
      exact ⟨rfl, HB1.out.trans (hz.out.2.1.mono HB1.out.size)⟩
end Go.Proofs.YtjgdnainhoipgaaGreatDoor
namespace Go.Proofs.YtjgdnainhoipgaaGreatDoor
open Go.RowKit

/-- a number that is read: behind i bytes that came to acc; its worth, and how many bytes (0: none) -/
def rnF : Nat → Nat → Nat → List UInt8 → Nat × Nat
  | 0, _, _, _ => (0, 0)
  | _ + 1, _, _, [] => (0, 0)
  | f + 1, i, acc, c :: l =>
    if c.toNat < 128 then (if 0 < i ∧ c.toNat = 0 then (0, 0) else (acc + c.toNat * 128 ^ i, i + 1)) else rnF f (i + 1) (acc + c.toNat % 128 * 128 ^ i) l
def rnL (l : List UInt8) : Nat × Nat := rnF 5 0 0 l

theorem drop_cons (s : ByteArray) (k : Nat) (h : k < s.size) : s.data.toList.drop k = s[k] :: s.data.toList.drop (k + 1) := by
  rw [List.drop_eq_getElem_cons (by simpa using h)]
  simp
  rfl

theorem or_nat64 (a b : Nat) (ha : a < 4611686018427387904) (hb : b < 4611686018427387904) : bits .or .i64 (a : Int) (b : Int) = ((a ||| b : Nat) : Int) := by
  have hx : a ||| b < 2 ^ 62 := Nat.or_lt_two_pow (by omega) (by omega)
  show IntKind.i64.wrap ((BitVec.ofInt 64 (a : Int) ||| BitVec.ofInt 64 (b : Int)).toNat : Int) = _
  have ea : (BitVec.ofInt 64 (a : Int)).toNat = a := by rw [BitVec.toNat_ofInt]; omega
  have eb : (BitVec.ofInt 64 (b : Int)).toNat = b := by rw [BitVec.toNat_ofInt]; omega
  rw [BitVec.toNat_or, ea, eb, IntKind.wrap_i64]
  omega
theorem or_add (n v j : Nat) (hn : n < 2 ^ j) : n ||| v * 2 ^ j = n + v * 2 ^ j := by
  have := Nat.shiftLeft_add_eq_or_of_lt (i := j) hn v
  rw [Nat.shiftLeft_eq] at this
  rw [Nat.or_comm, ← this, Nat.add_comm]
theorem or_seven (k n x M : Nat) (hk : k ≤ 4) (hM : 128 ^ k = M) (hn : n < M) : bits .or .i64 (n : Int) ((x : Int) % 128 * (M : Int)) = ((n + x % 128 * M : Nat) : Int) := by
  have hM2 : M = 2 ^ (7 * k) := by rw [← hM, Nat.pow_mul]
  have hM3 : M ≤ 268435456 := by
    have h5 : k = 0 ∨ k = 1 ∨ k = 2 ∨ k = 3 ∨ k = 4 := by omega
    rcases h5 with rfl | rfl | rfl | rfl | rfl <;> omega
  have hv : x % 128 * M ≤ 127 * M := Nat.mul_le_mul_right _ (by omega)
  have e : ((x : Int) % 128 * (M : Int)) = ((x % 128 * M : Nat) : Int) := by simp
  rw [e, or_nat64 _ _ (by omega) (by omega)]
  rw [hM2] at hn ⊢
  rw [or_add n (x % 128) (7 * k) hn]

theorem rn_step (k n x : Nat) (s : ByteArray) (h : k < s.size) (h5 : k < 5) (hx : s[k].toNat = x) : rnF (5 - k) k n (s.data.toList.drop k) =
    if x < 128 then (if 0 < k ∧ x = 0 then (0, 0) else (n + x * 128 ^ k, k + 1)) else rnF (5 - (k + 1)) (k + 1) (n + x % 128 * 128 ^ k) (s.data.toList.drop (k + 1)) := by
  rw [drop_cons s k h, show 5 - k = (5 - (k + 1)) + 1 by omega, rnF, hx]

set_option maxRecDepth 100000 in
set_option maxHeartbeats 2000000 in
theorem readNumP_any (s : ByteArray) (w : World) (hs : s.size ≤ 1000000) :
    Calls Tryz.prog 136 #[.string s] w fun e w' => e = .returned (.tuple #[.int .i64 (rnL s.data.toList).1, .int .i64 (rnL s.data.toList).2]) ∧ w' = w := by
  obtain ⟨R, hR⟩ : ∃ R, rnL s.data.toList = R := ⟨_, rfl⟩
  have HR : Hid (rnF (5 - 0) 0 0 (s.data.toList.drop 0) = R) := hR
  rw [hR]
  clear hR
  by_cases h5 : (5 : Int) < (s.size : Int)
  · skip
    go_enter Tryz.func136, Tryz.ntmps136
    go_wp2
    go_loop [4, 9] (fun x i => ∃ k n : Nat, k ≤ s.size ∧ k ≤ 5 ∧ n < 128 ^ k ∧ x = .int .i64 n ∧ i = .int .i64 k ∧ Hid (rnF (5 - k) k n (s.data.toList.drop k) = R)) (fun _ i => 5 - (intOf i).toNat)
    case atStart => exact ⟨0, 0, Nat.zero_le _, by omega, by omega, rfl, rfl, HR⟩
    case round =>
      clear HR
      obtain ⟨k, n, hk, hk5, hn, rfl, rfl, hz⟩ := hrel
      by_cases hlt : k < s.size ∧ k < 5
      · obtain ⟨h1, h2⟩ := hlt
        have hx := UInt8.toNat_lt s[k]
        obtain ⟨x, hy⟩ : ∃ x, s[k].toNat = x := ⟨_, rfl⟩
        rw [hy] at hx
        have hk' : k = 0 ∨ k = 1 ∨ k = 2 ∨ k = 3 ∨ k = 4 := by omega
        rcases hk' with rfl | rfl | rfl | rfl | rfl
        · have hM : n < 1 := hn
          have hor := or_seven 0 n x 1 (by omega) (by decide) hM
          simp only [Int.natCast_one, Int.mul_one, Nat.mul_one] at hor
          have hst := rn_step 0 n x s h1 h2 hy
          have HZ : Hid _ := hst.symm.trans hz.out
          clear hst hz
          by_cases hc : x < 128
          · rw [if_pos hc] at HZ
            rw [if_neg (by omega)] at HZ
            have HR : Hid (R = (n + x, 1)) := by show _ = _; rw [← HZ.out]; simp
            clear HZ
            go_wp2
            go_ret2
            rw [HR.out]
            exact ⟨by simp; omega, rfl⟩
          · rw [if_neg hc] at HZ
            go_wp2
            go_round
            case rel => exact ⟨1, n + x % 128 * 1, by omega, by omega, by omega, by simp, by go_num, HZ⟩
            case measure => simp [intOf]
        · have hM : n < 128 := hn
          have hor : bits .or .i64 (n : Int) ((x : Int) % 128 * 128) = ((n + x % 128 * 128 : Nat) : Int) := or_seven 1 n x 128 (by omega) (by decide) hM
          have hst := rn_step 1 n x s h1 h2 hy
          have HZ : Hid _ := hst.symm.trans hz.out
          clear hst hz
          by_cases hc : x < 128
          · rw [if_pos hc] at HZ
            by_cases hc0 : x = 0
            · rw [if_pos ⟨by omega, hc0⟩] at HZ
              have hb0 : ((x : Int) == 0) = true := by simp [hc0]
              clear hc0
              have HR : Hid (R = (0, 0)) := HZ.out.symm
              clear HZ
              go_wp2
              go_ret2
              rw [HR.out]
              exact ⟨by simp, rfl⟩
            · rw [if_neg (by omega)] at HZ
              have hb0 : ((x : Int) == 0) = false := by simp [hc0]
              have HR : Hid (R = (n + x * 128, 2)) := by show _ = _; rw [← HZ.out]
              clear HZ
              go_wp2
              go_ret2
              rw [HR.out]
              exact ⟨by simp; omega, rfl⟩
          · rw [if_neg hc] at HZ
            go_wp2
            go_round
            case rel => exact ⟨2, n + x % 128 * 128, by omega, by omega, by omega, by simp, by go_num, HZ⟩
            case measure => simp [intOf]
        · have hM : n < 16384 := hn
          have hor : bits .or .i64 (n : Int) ((x : Int) % 128 * 16384) = ((n + x % 128 * 16384 : Nat) : Int) := or_seven 2 n x 16384 (by omega) (by decide) hM
          have hst := rn_step 2 n x s h1 h2 hy
          have HZ : Hid _ := hst.symm.trans hz.out
          clear hst hz
          by_cases hc : x < 128
          · rw [if_pos hc] at HZ
            by_cases hc0 : x = 0
            · rw [if_pos ⟨by omega, hc0⟩] at HZ
              have hb0 : ((x : Int) == 0) = true := by simp [hc0]
              clear hc0
              have HR : Hid (R = (0, 0)) := HZ.out.symm
              clear HZ
              go_wp2
              go_ret2
              rw [HR.out]
              exact ⟨by simp, rfl⟩
            · rw [if_neg (by omega)] at HZ
              have hb0 : ((x : Int) == 0) = false := by simp [hc0]
              have HR : Hid (R = (n + x * 16384, 3)) := by show _ = _; rw [← HZ.out]
              clear HZ
              go_wp2
              go_ret2
              rw [HR.out]
              exact ⟨by simp; omega, rfl⟩
          · rw [if_neg hc] at HZ
            go_wp2
            go_round
            case rel => exact ⟨3, n + x % 128 * 16384, by omega, by omega, by omega, by simp, by go_num, HZ⟩
            case measure => simp [intOf]
        · have hM : n < 2097152 := hn
          have hor : bits .or .i64 (n : Int) ((x : Int) % 128 * 2097152) = ((n + x % 128 * 2097152 : Nat) : Int) := or_seven 3 n x 2097152 (by omega) (by decide) hM
          have hst := rn_step 3 n x s h1 h2 hy
          have HZ : Hid _ := hst.symm.trans hz.out
          clear hst hz
          by_cases hc : x < 128
          · rw [if_pos hc] at HZ
            by_cases hc0 : x = 0
            · rw [if_pos ⟨by omega, hc0⟩] at HZ
              have hb0 : ((x : Int) == 0) = true := by simp [hc0]
              clear hc0
              have HR : Hid (R = (0, 0)) := HZ.out.symm
              clear HZ
              go_wp2
              go_ret2
              rw [HR.out]
              exact ⟨by simp, rfl⟩
            · rw [if_neg (by omega)] at HZ
              have hb0 : ((x : Int) == 0) = false := by simp [hc0]
              have HR : Hid (R = (n + x * 2097152, 4)) := by show _ = _; rw [← HZ.out]
              clear HZ
              go_wp2
              go_ret2
              rw [HR.out]
              exact ⟨by simp; omega, rfl⟩
          · rw [if_neg hc] at HZ
            go_wp2
            go_round
            case rel => exact ⟨4, n + x % 128 * 2097152, by omega, by omega, by omega, by simp, by go_num, HZ⟩
            case measure => simp [intOf]
        · have hM : n < 268435456 := hn
          have hor : bits .or .i64 (n : Int) ((x : Int) % 128 * 268435456) = ((n + x % 128 * 268435456 : Nat) : Int) := or_seven 4 n x 268435456 (by omega) (by decide) hM
          have hst := rn_step 4 n x s h1 h2 hy
          have HZ : Hid _ := hst.symm.trans hz.out
          clear hst hz
          by_cases hc : x < 128
          · rw [if_pos hc] at HZ
            by_cases hc0 : x = 0
            · rw [if_pos ⟨by omega, hc0⟩] at HZ
              have hb0 : ((x : Int) == 0) = true := by simp [hc0]
              clear hc0
              have HR : Hid (R = (0, 0)) := HZ.out.symm
              clear HZ
              go_wp2
              go_ret2
              rw [HR.out]
              exact ⟨by simp, rfl⟩
            · rw [if_neg (by omega)] at HZ
              have hb0 : ((x : Int) == 0) = false := by simp [hc0]
              have HR : Hid (R = (n + x * 268435456, 5)) := by show _ = _; rw [← HZ.out]
              clear HZ
              go_wp2
              go_ret2
              rw [HR.out]
              exact ⟨by simp; omega, rfl⟩
          · rw [if_neg hc] at HZ
            go_wp2
            go_round
            case rel => exact ⟨5, n + x % 128 * 268435456, by omega, by omega, by omega, by simp, by go_num, HZ⟩
            case measure => simp [intOf]
      · have e : R = (0, 0) := by
          have h := hz.out
          by_cases h5 : k = 5
          · subst h5; exact h.symm
          · rw [List.drop_eq_nil_of_le (by simp; omega)] at h
            rw [← h]
            have : 5 - k = (4 - k) + 1 := by omega
            rw [this]
            rfl
        subst e
        have hm : (5 : Int) ≤ (k : Int) := by omega
        go_wp2
        go_ret2
        exact ⟨by simp, rfl⟩
  · skip
    go_enter Tryz.func136, Tryz.ntmps136
    go_wp2
    go_loop [4, 9] (fun x i => ∃ k n : Nat, k ≤ s.size ∧ k ≤ 5 ∧ n < 128 ^ k ∧ x = .int .i64 n ∧ i = .int .i64 k ∧ Hid (rnF (5 - k) k n (s.data.toList.drop k) = R)) (fun _ i => 5 - (intOf i).toNat)
    case atStart => exact ⟨0, 0, Nat.zero_le _, by omega, by omega, rfl, rfl, HR⟩
    case round =>
      clear HR
      obtain ⟨k, n, hk, hk5, hn, rfl, rfl, hz⟩ := hrel
      by_cases hlt : k < s.size ∧ k < 5
      · obtain ⟨h1, h2⟩ := hlt
        have hx := UInt8.toNat_lt s[k]
        obtain ⟨x, hy⟩ : ∃ x, s[k].toNat = x := ⟨_, rfl⟩
        rw [hy] at hx
        have hk' : k = 0 ∨ k = 1 ∨ k = 2 ∨ k = 3 ∨ k = 4 := by omega
        rcases hk' with rfl | rfl | rfl | rfl | rfl
        · have hM : n < 1 := hn
          have hor := or_seven 0 n x 1 (by omega) (by decide) hM
          simp only [Int.natCast_one, Int.mul_one, Nat.mul_one] at hor
          have hst := rn_step 0 n x s h1 h2 hy
          have HZ : Hid _ := hst.symm.trans hz.out
          clear hst hz
          by_cases hc : x < 128
          · rw [if_pos hc] at HZ
            rw [if_neg (by omega)] at HZ
            have HR : Hid (R = (n + x, 1)) := by show _ = _; rw [← HZ.out]; simp
            clear HZ
            go_wp2
            go_ret2
            rw [HR.out]
            exact ⟨by simp; omega, rfl⟩
          · rw [if_neg hc] at HZ
            go_wp2
            go_round
            case rel => exact ⟨1, n + x % 128 * 1, by omega, by omega, by omega, by simp, by go_num, HZ⟩
            case measure => simp [intOf]
        · have hM : n < 128 := hn
          have hor : bits .or .i64 (n : Int) ((x : Int) % 128 * 128) = ((n + x % 128 * 128 : Nat) : Int) := or_seven 1 n x 128 (by omega) (by decide) hM
          have hst := rn_step 1 n x s h1 h2 hy
          have HZ : Hid _ := hst.symm.trans hz.out
          clear hst hz
          by_cases hc : x < 128
          · rw [if_pos hc] at HZ
            by_cases hc0 : x = 0
            · rw [if_pos ⟨by omega, hc0⟩] at HZ
              have hb0 : ((x : Int) == 0) = true := by simp [hc0]
              clear hc0
              have HR : Hid (R = (0, 0)) := HZ.out.symm
              clear HZ
              go_wp2
              go_ret2
              rw [HR.out]
              exact ⟨by simp, rfl⟩
            · rw [if_neg (by omega)] at HZ
              have hb0 : ((x : Int) == 0) = false := by simp [hc0]
              have HR : Hid (R = (n + x * 128, 2)) := by show _ = _; rw [← HZ.out]
              clear HZ
              go_wp2
              go_ret2
              rw [HR.out]
              exact ⟨by simp; omega, rfl⟩
          · rw [if_neg hc] at HZ
            go_wp2
            go_round
            case rel => exact ⟨2, n + x % 128 * 128, by omega, by omega, by omega, by simp, by go_num, HZ⟩
            case measure => simp [intOf]
        · have hM : n < 16384 := hn
          have hor : bits .or .i64 (n : Int) ((x : Int) % 128 * 16384) = ((n + x % 128 * 16384 : Nat) : Int) := or_seven 2 n x 16384 (by omega) (by decide) hM
          have hst := rn_step 2 n x s h1 h2 hy
          have HZ : Hid _ := hst.symm.trans hz.out
          clear hst hz
          by_cases hc : x < 128
          · rw [if_pos hc] at HZ
            by_cases hc0 : x = 0
            · rw [if_pos ⟨by omega, hc0⟩] at HZ
              have hb0 : ((x : Int) == 0) = true := by simp [hc0]
              clear hc0
              have HR : Hid (R = (0, 0)) := HZ.out.symm
              clear HZ
              go_wp2
              go_ret2
              rw [HR.out]
              exact ⟨by simp, rfl⟩
            · rw [if_neg (by omega)] at HZ
              have hb0 : ((x : Int) == 0) = false := by simp [hc0]
              have HR : Hid (R = (n + x * 16384, 3)) := by show _ = _; rw [← HZ.out]
              clear HZ
              go_wp2
              go_ret2
              rw [HR.out]
              exact ⟨by simp; omega, rfl⟩
          · rw [if_neg hc] at HZ
            go_wp2
            go_round
            case rel => exact ⟨3, n + x % 128 * 16384, by omega, by omega, by omega, by simp, by go_num, HZ⟩
            case measure => simp [intOf]
        · have hM : n < 2097152 := hn
          have hor : bits .or .i64 (n : Int) ((x : Int) % 128 * 2097152) = ((n + x % 128 * 2097152 : Nat) : Int) := or_seven 3 n x 2097152 (by omega) (by decide) hM
          have hst := rn_step 3 n x s h1 h2 hy
          have HZ : Hid _ := hst.symm.trans hz.out
          clear hst hz
          by_cases hc : x < 128
          · rw [if_pos hc] at HZ
            by_cases hc0 : x = 0
            · rw [if_pos ⟨by omega, hc0⟩] at HZ
              have hb0 : ((x : Int) == 0) = true := by simp [hc0]
              clear hc0
              have HR : Hid (R = (0, 0)) := HZ.out.symm
              clear HZ
              go_wp2
              go_ret2
              rw [HR.out]
              exact ⟨by simp, rfl⟩
            · rw [if_neg (by omega)] at HZ
              have hb0 : ((x : Int) == 0) = false := by simp [hc0]
              have HR : Hid (R = (n + x * 2097152, 4)) := by show _ = _; rw [← HZ.out]
              clear HZ
              go_wp2
              go_ret2
              rw [HR.out]
              exact ⟨by simp; omega, rfl⟩
          · rw [if_neg hc] at HZ
            go_wp2
            go_round
            case rel => exact ⟨4, n + x % 128 * 2097152, by omega, by omega, by omega, by simp, by go_num, HZ⟩
            case measure => simp [intOf]
        · have hM : n < 268435456 := hn
          have hor : bits .or .i64 (n : Int) ((x : Int) % 128 * 268435456) = ((n + x % 128 * 268435456 : Nat) : Int) := or_seven 4 n x 268435456 (by omega) (by decide) hM
          have hst := rn_step 4 n x s h1 h2 hy
          have HZ : Hid _ := hst.symm.trans hz.out
          clear hst hz
          by_cases hc : x < 128
          · rw [if_pos hc] at HZ
            by_cases hc0 : x = 0
            · rw [if_pos ⟨by omega, hc0⟩] at HZ
              have hb0 : ((x : Int) == 0) = true := by simp [hc0]
              clear hc0
              have HR : Hid (R = (0, 0)) := HZ.out.symm
              clear HZ
              go_wp2
              go_ret2
              rw [HR.out]
              exact ⟨by simp, rfl⟩
            · rw [if_neg (by omega)] at HZ
              have hb0 : ((x : Int) == 0) = false := by simp [hc0]
              have HR : Hid (R = (n + x * 268435456, 5)) := by show _ = _; rw [← HZ.out]
              clear HZ
              go_wp2
              go_ret2
              rw [HR.out]
              exact ⟨by simp; omega, rfl⟩
          · rw [if_neg hc] at HZ
            go_wp2
            go_round
            case rel => exact ⟨5, n + x % 128 * 268435456, by omega, by omega, by omega, by simp, by go_num, HZ⟩
            case measure => simp [intOf]
      · have e : R = (0, 0) := by
          have h := hz.out
          by_cases h5 : k = 5
          · subst h5; exact h.symm
          · rw [List.drop_eq_nil_of_le (by simp; omega)] at h
            rw [← h]
            have : 5 - k = (4 - k) + 1 := by omega
            rw [this]
            rfl
        subst e
        have hm : (s.size : Int) ≤ (k : Int) := by omega
        go_wp2
        go_ret2
        exact ⟨by simp, rfl⟩
end Go.Proofs.YtjgdnainhoipgaaGreatDoor
