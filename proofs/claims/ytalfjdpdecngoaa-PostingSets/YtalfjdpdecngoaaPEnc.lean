/- Places as bytes: the contract of Write. -/
import Derived.Test.YtalfjdpdecngoaaPWrite
namespace Go.Proofs.Ytalfjdpdecngoaa
open Go.RowKit

def encP (p q : Pl) : List UInt8 := if q.r = p.r then numL (2 * (q.a - p.a)).toNat else numL (2 * (q.r - p.r) + 1).toNat ++ numL q.a.toNat
def encFrom : Pl → List Pl → List UInt8
  | _, [] => []
  | p, q :: l => encP p q ++ encFrom q l
def encL (l : List Pl) : List UInt8 := encFrom ⟨0, 0⟩ l

theorem numL_len (k : Nat) : ∀ n, n < 128 ^ (k + 1) → (numL n).length ≤ k + 1 := by
  induction k with
  | zero => intro n hn; rw [numL_small (by omega)]; simp
  | succ k ih =>
    intro n hn
    by_cases h : n < 128
    · rw [numL_small h]; simp
    · rw [numL_big h, List.length_cons]
      have := ih (n / 128) (by rw [Nat.pow_succ] at hn; omega)
      omega
theorem numL_pos (n : Nat) : 1 ≤ (numL n).length := by rw [numL]; split <;> simp

/-- what is known of two places, the second one right behind the first -/
theorem foll_facts {p q : Pl} (h : follB p q = true) : (1 ≤ q.r ∧ q.r ≤ 1073741824) ∧ (0 ≤ q.a ∧ q.a < 1073741824) ∧ ((q.r = p.r ∧ p.a < q.a) ∨ (q.r ≠ p.r ∧ p.r < q.r)) := by
  simp only [follB, okB, Bool.and_eq_true, decide_eq_true_eq] at h
  obtain ⟨⟨⟨⟨h1, h2⟩, h3⟩, h4⟩, h5⟩ := h
  refine ⟨⟨h1, h2⟩, ⟨h3, h4⟩, ?_⟩
  unfold cmpP cmpI at h5
  by_cases e : p.r = q.r
  · rw [if_pos e] at h5
    refine .inl ⟨e.symm, ?_⟩
    by_cases e2 : p.a < q.a
    · exact e2
    · rw [if_neg e2] at h5
      split at h5 <;> omega
  · rw [if_neg e] at h5
    refine .inr ⟨fun x => e x.symm, ?_⟩
    by_cases e2 : p.r < q.r
    · exact e2
    · rw [if_neg e2] at h5
      split at h5 <;> omega

/-- the place ahead: none yet, or one that may be -/
def Ahead (p : Pl) : Prop := 0 ≤ p.r ∧ p.r ≤ 1073741824 ∧ 0 ≤ p.a ∧ p.a < 1073741824

theorem enc_len (l : List Pl) : ∀ p, Ahead p → rightFrom p l = true → (encFrom p l).length ≤ 10 * l.length ∧ l.length ≤ (encFrom p l).length := by
  induction l with
  | nil => intro p _ _; simp [encFrom]
  | cons q l ih =>
    intro p hp h
    simp only [rightFrom, Bool.and_eq_true] at h
    obtain ⟨⟨a1, a2⟩, ⟨a3, a4⟩, h5⟩ := foll_facts h.1
    obtain ⟨b1, b2, b3, b4⟩ := hp
    have := ih q ⟨by omega, by omega, by omega, by omega⟩ h.2
    simp only [encFrom, List.length_append, List.length_cons]
    unfold encP
    split
    · have k1 := numL_len 4 (2 * (q.a - p.a)).toNat (by omega)
      have k2 := numL_pos (2 * (q.a - p.a)).toNat
      omega
    · have k1 := numL_len 4 (2 * (q.r - p.r) + 1).toNat (by omega)
      have k2 := numL_len 4 q.a.toNat (by omega)
      have k3 := numL_pos (2 * (q.r - p.r) + 1).toNat
      simp only [List.length_append]
      omega

theorem appendNumber_as (x : Int) (h0 : 0 ≤ x) (hx : x < 18446744073709551616) (B : Nat) (v : Value) (l : List UInt8) (w : World) (hown : w.ownsRow B 5 1 v l.length (bcs l)) (hB : B ≤ w.heap.size) (hl : (l ++ numL x.toNat).length ≤ 1000000) :
    Calls Try.prog 34 #[v, .int .u64 x] w fun e w' => ∃ v', e = .returned v' ∧ w'.ownsRow B 5 1 v' (l ++ numL x.toNat).length (bcs (l ++ numL x.toNat)) ∧ Gr w w' v v' := by
  have h := appendNumber_any B v l x.toNat w hown hB hl (by omega)
  rw [Int.toNat_of_nonneg h0] at h
  exact h

theorem grownBy_set (W : World) (b o : Nat) (v : Value) : W.grownBy (W.setCell ⟨b, o, none⟩ v) (some b) :=
  ⟨rfl, rfl, rfl, by simp [World.setCell], fun k _ hk => Below.heap_setCell W ⟨b, o, none⟩ v k (fun e => hk (by rw [e]))⟩
theorem own_set {w : World} {B : Nat} {t : TypeId} {z : Nat} {v : Value} {n : Nat} {xs : List Value} (h : w.ownsRow B t z v n xs) (b o : Nat) (hb : b < B) (u : Value) : (w.setCell ⟨b, o, none⟩ u).ownsRow B t z v n xs := by
  refine h.kept (grownBy_set w b o u) ?_
  cases e : v.ownBlock with
  | none => exact .inl rfl
  | some k => exact .inr (fun e2 => by have := (h.lt k e).1; cases e2; omega)
theorem VarP.gr {B : Nat} {p : Pl} {w w' : World} {v v' : Value} (h : VarP B p w) (hg : Gr w w' v v') (hn : v.ownBlock ≠ some B) : VarP B p w' := by
  obtain ⟨h1, h2, h3, h4, h5⟩ := h
  have e : w'.heap[B]? = w.heap[B]? := hg.1.block B h5 (fun e => hn e.symm)
  refine ⟨?_, ?_, ?_, ?_, Nat.lt_of_lt_of_le h5 hg.1.size⟩
  · rw [← h1]; exact World.cell?_of_block e
  · rw [← h2]; exact World.cell?_of_block e
  · rw [← h3]; exact World.frozen?_of_block e
  · rw [← h4]; exact World.frozen?_of_block e
theorem VarP.box (w : World) (q : Pl) : VarP w.heap.size q (w.alloc (.cells #[.int .i64 q.r, .int .i64 q.a] 25)) := by
  have hn := heap_alloc_new w (.cells #[.int .i64 q.r, .int .i64 q.a] 25)
  refine ⟨by simp, by simp, ?_, ?_, by simp⟩
  · simp only [World.frozen?, hn]; simp
  · simp only [World.frozen?, hn]; simp
theorem own_ne {w : World} {B : Nat} {t : TypeId} {z : Nat} {v : Value} {n : Nat} {xs : List Value} (h : w.ownsRow B t z v n xs) (b : Nat) (hb : b < B ∨ w.heap.size ≤ b) : v.ownBlock ≠ some b := fun e => by
  have := h.lt b e
  omega

theorem conv_nil (w : World) : (convert 53 9 (.slice none 0 0)).run Try.prog w = .ok (.string ⟨#[]⟩) w := by kernel_rfl
/-- the text of a row of bytes -/
theorem bytes_text {w : World} {B : Nat} {v : Value} {l : List UInt8} (h : w.ownsRow B 5 1 v l.length (bcs l)) : (convert 53 9 v).run Try.prog w = .ok (.string ⟨l.toArray⟩) w := by
  rcases h.2 with ⟨rfl, h0⟩ | ⟨g, cap, cur, rfl, _, hg, _⟩
  · have : l = [] := List.length_eq_zero_iff.1 h0
    subst this
    exact conv_nil w
  · exact run_convert_bytes_back (P := Try.prog) w 53 9 5 ⟨g, 0, none⟩ cap l Try.underlying53 Try.underlying5 Try.underlying9 (fun j hj => h.cells (g := g) rfl j _ (by simp [bcs, hj]))

theorem right_as (b : Bool) (a : Option Addr) (len cap : Nat) (xs : List Pl) (hb : rightL xs = b) (w : World) (hr : RowP w a len xs) :
    Calls Try.prog 18 #[.slice a len cap] w fun e w' => e = .returned (.bool b) ∧ Below w.heap.size w w' := by
  rw [← hb]; exact right_any a len cap xs w hr

set_option maxRecDepth 100000 in
set_option maxHeartbeats 1000000 in
theorem write_no (a : Option Addr) (len cap : Nat) (xs : List Pl) (w : World) (hr : RowP w a len xs) (hn : rightL xs = false) :
    Calls Try.prog 19 #[.slice a len cap] w fun e w' => e = .returned (.tuple #[.string ⟨#[]⟩, .iface 52 (.int .i64 1)]) ∧ Below w.heap.size w w' := by
  have HR : Hid (RowP w a len xs ∧ rightL xs = false) := ⟨hr, hn⟩
  clear hr hn
  go_enter Try.func19, Try.ntmps19
  go_wp2_with fail
  refine (right_as false a len cap xs HR.out.2 w HR.out.1).mono ?_
  rintro _ w1 ⟨rfl, hb1⟩
  go_wp2
  go_ret2
  exact ⟨rfl, hb1⟩

set_option maxRecDepth 100000 in
set_option maxHeartbeats 2000000 in
theorem write_yes (a : Option Addr) (len cap : Nat) (xs : List Pl) (w : World) (hr : RowP w a len xs) (hn : rightL xs = true) (hl : xs.length ≤ 1000) :
    Calls Try.prog 19 #[.slice a len cap] w fun e w' => e = .returned (.tuple #[.string ⟨(encL xs).toArray⟩, .nilIface]) ∧ Below w.heap.size w w' := by
  have HR : Hid (RowP w a len xs ∧ rightL xs = true) := ⟨hr, hn⟩
  obtain ⟨rfl, _, _⟩ := hr
  clear hn
  obtain ⟨T, hT⟩ : ∃ T, encL xs = T := ⟨_, rfl⟩
  have HT : Hid (encFrom ⟨0, 0⟩ (xs.drop 0) = T ∧ T.length ≤ 10000) := ⟨hT, by
    have := (enc_len xs ⟨0, 0⟩ ⟨by decide, by decide, by decide, by decide⟩ HR.out.2).1
    rw [← hT]
    show (encFrom ⟨0, 0⟩ xs).length ≤ 10000
    omega⟩
  rw [hT]
  clear hT
  go_enter Try.func19, Try.ntmps19
  go_wp2_with fail
  refine (right_as true a _ cap xs HR.out.2 w HR.out.1).mono ?_
  rintro _ w1 ⟨rfl, hb1⟩
  have HB1 : Hid (Below w.heap.size w w1) := hb1
  have hx := (RowP.below HR.out.1 hb1).2.2
  clear hb1
  go_wp2
  go_loopw [4, 14] (fun v i wr => ∃ (k : Nat) (p : Pl) (l : List UInt8), k ≤ xs.length ∧ i = .int .i64 k ∧ Hid (VarP w1.heap.size p wr ∧ Below w1.heap.size w1 wr ∧ rightFrom p (xs.drop k) = true ∧ l ++ encFrom p (xs.drop k) = T) ∧ Hid (wr.ownsRow (w1.heap.size + 1) 5 1 v l.length (bcs l)) ∧ Hid (Ahead p)) (fun _ i _ => xs.length - (intOf i).toNat)
  case atStart => exact ⟨0, ⟨0, 0⟩, [], Nat.zero_le _, rfl, ⟨VarP.new w1, (Below.refl _ _).alloc (Nat.le_refl _) _, HR.out.2, HT.out.1⟩, World.ownsRow_nil _ _ _ _, ⟨by decide, by decide, by decide, by decide⟩⟩
  case round =>
    obtain ⟨k, p, l, hk, rfl, hz, hown, hahead⟩ := hrel
    by_cases hlt : k < xs.length
    · rcases hx with hx | ⟨b, off, rfl, hb, hrow⟩
      · simp [hx] at hlt
      obtain ⟨g1, g2⟩ := hrow k hlt
      clear hrow
      rw [← hz.out.2.1.cell (p := ⟨b, _, none⟩) hb] at g1 g2
      have hf : follB p xs[k] = true ∧ rightFrom xs[k] (xs.drop (k + 1)) = true ∧ (l ++ encP p xs[k]) ++ encFrom xs[k] (xs.drop (k + 1)) = T := by
        have h1 := hz.out.2.2.1
        have h2 := hz.out.2.2.2
        rw [List.drop_eq_getElem_cons hlt, rightFrom, Bool.and_eq_true] at h1
        rw [List.drop_eq_getElem_cons hlt, encFrom] at h2
        exact ⟨h1.1, h1.2, by rw [List.append_assoc]; exact h2⟩
      have i1 : (k : Int) < (xs.length : Int) := by omega
      generalize xs[k] = q at *
      obtain ⟨⟨a1, a2⟩, ⟨a3, a4⟩, h5⟩ := foll_facts hf.1
      obtain ⟨b1, b2, b3, b4⟩ := hahead.out
      have HF : Hid (rightFrom q (xs.drop (k + 1)) = true ∧ (l ++ encP p q) ++ encFrom q (xs.drop (k + 1)) = T) := hf.2
      have HV : Hid (VarP w1.heap.size p wr) := hz.out.1
      have HB : Hid (Below w1.heap.size w1 wr) := hz.out.2.1
      have HL : Hid ((l ++ encP p q).length ≤ 10000) := by
        show _ ≤ _
        have h1 := HT.out.2
        rw [← hf.2.2] at h1
        rw [List.length_append] at h1
        omega
      clear hz hahead hf
      have HA : Hid (Below wr.heap.size wr (wr.alloc (.cells #[.int .i64 q.r, .int .i64 q.a] 25))) := (Below.refl _ _).alloc (Nat.le_refl _) _
      have HV1 : Hid (VarP w1.heap.size p (wr.alloc (.cells #[.int .i64 q.r, .int .i64 q.a] 25))) := VarP.below HV.out HA.out
      have HO1 : Hid ((wr.alloc (.cells #[.int .i64 q.r, .int .i64 q.a] 25)).ownsRow (w1.heap.size + 1) 5 1 u4 l.length (bcs l)) := own_belowP hown.out HA.out
      obtain ⟨c1, c2, f1, f2, hlt1⟩ := HV1.out
      have c3 : (wr.alloc (.cells #[.int .i64 q.r, .int .i64 q.a] 25)).cell? ⟨wr.heap.size, 0, none⟩ = some (.int .i64 q.r) := by simp
      have c4 : (wr.alloc (.cells #[.int .i64 q.r, .int .i64 q.a] 25)).cell? ⟨wr.heap.size, 1, none⟩ = some (.int .i64 q.a) := by simp
      rcases h5 with ⟨h5, h6⟩ | ⟨h5, h6⟩
      · have HQ : Hid (l ++ numL (2 * (q.a - p.a)).toNat = l ++ encP p q) := by show _ = _; rw [encP, if_pos h5]
        have HL2 : Hid ((l ++ numL (2 * (q.a - p.a)).toNat).length ≤ 1000000) := by show _ ≤ _; rw [HQ.out]; have := HL.out; omega
        have hd1 : (q.r != p.r) = false := by simp [h5]
        clear h5
        have HC1 : Hid (VarP wr.heap.size q (wr.alloc (.cells #[.int .i64 q.r, .int .i64 q.a] 25))) := VarP.box wr q
        have HN1 : Hid (u4.ownBlock ≠ some wr.heap.size) := own_ne hown.out _ (.inr (Nat.le_refl _))
        have HB1' : Hid (Below w1.heap.size w1 (wr.alloc (.cells #[.int .i64 q.r, .int .i64 q.a] 25))) := HB.out.trans (HA.out.mono HB.out.size)
        have HS1 : Hid (w1.heap.size + 1 ≤ (wr.alloc (.cells #[.int .i64 q.r, .int .i64 q.a] 25)).heap.size) := by show _ ≤ _; omega
        go_wp2_with fail
        refine (appendNumber_as (2 * (q.a - p.a)) (by omega) (by omega) (w1.heap.size + 1) u4 l _ HO1.out HS1.out HL2.out).mono ?_
        rintro _ w2 ⟨v2, rfl, ho2, hg2⟩
        have HO2 : Hid (w2.ownsRow (w1.heap.size + 1) 5 1 v2 (l ++ numL (2 * (q.a - p.a)).toNat).length (bcs (l ++ numL (2 * (q.a - p.a)).toNat))) := ho2
        have HV2 : Hid (VarP w1.heap.size p w2) := VarP.gr HV1.out hg2 (own_ne HO1.out _ (.inl (by omega)))
        have HC2 : Hid (VarP wr.heap.size q w2) := VarP.gr HC1.out hg2 HN1.out
        have HB2 : Hid (Below w1.heap.size w1 w2) := HB1'.out.trans (hg2.below (fun k hk => by have := (HO1.out.lt k hk).1; omega) (by have := HS1.out; omega))
        have HS2 : Hid (w1.heap.size + 1 ≤ w2.heap.size) := Nat.le_trans HS1.out hg2.1.size
        clear ho2 hg2 c1 c2 c3 c4 f1 f2 HO1 HV1 HC1 HN1 HB1' HS1 g1 g2 HA HB HV hd1 hown
        obtain ⟨c1, c2, f1, f2, _⟩ := HV2.out
        obtain ⟨c3, c4, _, _, _⟩ := HC2.out
        go_wp2
        go_roundw
        case rel => exact ⟨k + 1, q, l ++ numL (2 * (q.a - p.a)).toNat, by omega, by go_num, ⟨HV2.out.set q, (HB2.out.setCell (p := ⟨_, 0, none⟩) (Nat.le_refl _) _).setCell (p := ⟨_, 1, none⟩) (Nat.le_refl _) _, HF.out.1, by rw [HQ.out]; exact HF.out.2⟩, own_set (own_set HO2.out _ _ (by omega) _) _ _ (by omega) _, ⟨by omega, by omega, by omega, by omega⟩⟩
        case measure => simp [intOf]; omega
      · have HQ : Hid ((l ++ numL (2 * (q.r - p.r) + 1).toNat) ++ numL q.a.toNat = l ++ encP p q) := by show _ = _; rw [encP, if_neg h5, List.append_assoc]
        have HL3 : Hid (((l ++ numL (2 * (q.r - p.r) + 1).toNat) ++ numL (q.a).toNat).length ≤ 1000000) := by show _ ≤ _; rw [HQ.out]; have := HL.out; omega
        have HL2 : Hid ((l ++ numL (2 * (q.r - p.r) + 1).toNat).length ≤ 1000000) := by show _ ≤ _; have := HL3.out; rw [List.length_append] at this; omega
        have HC1 : Hid (VarP wr.heap.size q (wr.alloc (.cells #[.int .i64 q.r, .int .i64 q.a] 25))) := VarP.box wr q
        have HN1 : Hid (u4.ownBlock ≠ some wr.heap.size) := own_ne hown.out _ (.inr (Nat.le_refl _))
        have HB1' : Hid (Below w1.heap.size w1 (wr.alloc (.cells #[.int .i64 q.r, .int .i64 q.a] 25))) := HB.out.trans (HA.out.mono HB.out.size)
        have HS1 : Hid (w1.heap.size + 1 ≤ (wr.alloc (.cells #[.int .i64 q.r, .int .i64 q.a] 25)).heap.size) := by show _ ≤ _; omega
        go_wp2_with fail
        refine (appendNumber_as (2 * (q.r - p.r) + 1) (by omega) (by omega) (w1.heap.size + 1) u4 l _ HO1.out HS1.out HL2.out).mono ?_
        rintro _ w2 ⟨v2, rfl, ho2, hg2⟩
        have HO2 : Hid (w2.ownsRow (w1.heap.size + 1) 5 1 v2 (l ++ numL (2 * (q.r - p.r) + 1).toNat).length (bcs (l ++ numL (2 * (q.r - p.r) + 1).toNat))) := ho2
        have HV2 : Hid (VarP w1.heap.size p w2) := VarP.gr HV1.out hg2 (own_ne HO1.out _ (.inl (by omega)))
        have HC2 : Hid (VarP wr.heap.size q w2) := VarP.gr HC1.out hg2 HN1.out
        have HB2 : Hid (Below w1.heap.size w1 w2) := HB1'.out.trans (hg2.below (fun k hk => by have := (HO1.out.lt k hk).1; omega) (by have := HS1.out; omega))
        have HS2 : Hid (w1.heap.size + 1 ≤ w2.heap.size) := Nat.le_trans HS1.out hg2.1.size
        have HN2 : Hid (v2.ownBlock ≠ some wr.heap.size) := fun e => by
          rcases hg2.2 _ e with h | h
          · exact HN1.out h
          · simp at h
            omega
        clear ho2 hg2 c1 c2 c3 c4 f1 f2 HO1 HV1 HC1 HN1 HB1' HS1 g1 g2 HA HB HV hown
        obtain ⟨c3, c4, _, _, _⟩ := HC2.out
        go_wp2_with fail
        refine (appendNumber_as (q.a) (by omega) (by omega) (w1.heap.size + 1) v2 (l ++ numL (2 * (q.r - p.r) + 1).toNat) _ HO2.out HS2.out HL3.out).mono ?_
        rintro _ w3 ⟨v3, rfl, ho3, hg3⟩
        have HO3 : Hid (w3.ownsRow (w1.heap.size + 1) 5 1 v3 ((l ++ numL (2 * (q.r - p.r) + 1).toNat) ++ numL (q.a).toNat).length (bcs ((l ++ numL (2 * (q.r - p.r) + 1).toNat) ++ numL (q.a).toNat))) := ho3
        have HV3 : Hid (VarP w1.heap.size p w3) := VarP.gr HV2.out hg3 (own_ne HO2.out _ (.inl (by omega)))
        have HC3 : Hid (VarP wr.heap.size q w3) := VarP.gr HC2.out hg3 HN2.out
        have HB3 : Hid (Below w1.heap.size w1 w3) := HB2.out.trans (hg3.below (fun k hk => by have := (HO2.out.lt k hk).1; omega) (by have := HS2.out; omega))
        have HS3 : Hid (w1.heap.size + 1 ≤ w3.heap.size) := Nat.le_trans HS2.out hg3.1.size
        clear ho3 hg3 HO2 HV2 HC2 HN2 HB2 HS2 c3 c4
        obtain ⟨c1, c2, f1, f2, _⟩ := HV3.out
        obtain ⟨c3, c4, _, _, _⟩ := HC3.out
        go_wp2
        go_roundw
        case rel => exact ⟨k + 1, q, (l ++ numL (2 * (q.r - p.r) + 1).toNat) ++ numL q.a.toNat, by omega, by go_num, ⟨HV3.out.set q, (HB3.out.setCell (p := ⟨_, 0, none⟩) (Nat.le_refl _) _).setCell (p := ⟨_, 1, none⟩) (Nat.le_refl _) _, HF.out.1, by rw [HQ.out]; exact HF.out.2⟩, own_set (own_set HO3.out _ _ (by omega) _) _ _ (by omega) _, ⟨by omega, by omega, by omega, by omega⟩⟩
        case measure => simp [intOf]; omega
    · have e : l = T := by
        have := hz.out.2.2.2
        rw [List.drop_eq_nil_of_le (by omega), encFrom, List.append_nil] at this
        exact this
      subst e
      have ht := bytes_text hown.out
      go_wp2
      go_ret2
      exact ⟨rfl, HB1.out.trans (hz.out.2.1.mono HB1.out.size)⟩
end Go.Proofs.Ytalfjdpdecngoaa
