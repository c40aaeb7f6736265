/- A statement's words and marks, as plain data: step by step; and rows of tokens. -/
import Derived.Test.YtgmibjcccdgkgaaDoorLBlank
import Derived.Test.YtgmibjcccdgkgaaDoorLSmall
import Derived.Test.YtgmibjcccdgkgaaDoorALay
namespace Go.Proofs.YtgmibjcccdgkgaaDoor
open Go.RowKit

/-- where a run of such bytes ends -/
def endW (p : UInt8 → Bool) (s : ByteArray) (k : Nat) : Nat := k + ((s.data.toList.drop k).takeWhile p).length
theorem endW_step {p : UInt8 → Bool} {s : ByteArray} {k : Nat} (h : k < s.size) (hp : p s[k] = true) : endW p s k = endW p s (k + 1) := by
  unfold endW
  rw [drop_at s k h, List.takeWhile_cons_of_pos hp, List.length_cons]
  omega
theorem endW_stop {p : UInt8 → Bool} {s : ByteArray} {k : Nat} (h : k < s.size) (hp : p s[k] = false) : endW p s k = k := by
  unfold endW
  rw [drop_at s k h, List.takeWhile_cons_of_neg (by rw [hp]; decide)]
  rfl
theorem endW_end {p : UInt8 → Bool} {s : ByteArray} {k : Nat} (h : s.size ≤ k) : endW p s k = k := by
  unfold endW
  rw [List.drop_eq_nil_of_le (by rw [ba_len]; exact h)]
  rfl
theorem endW_ge (p : UInt8 → Bool) (s : ByteArray) (k : Nat) : k ≤ endW p s k := by unfold endW; omega
theorem endW_le {p : UInt8 → Bool} {s : ByteArray} {k : Nat} (h : k ≤ s.size) : endW p s k ≤ s.size := by
  unfold endW
  have h1 := (List.takeWhile_sublist p (l := s.data.toList.drop k)).length_le
  rw [List.length_drop, ba_len] at h1
  omega
theorem take_while {α : Type} (p : α → Bool) (l : List α) : l.take (l.takeWhile p).length = l.takeWhile p := by
  have h := List.takeWhile_prefix p (l := l)
  exact (List.prefix_iff_eq_take.1 h).symm
theorem ext_take (s : ByteArray) (i n : Nat) (h : i < s.size) (L : List UInt8) (hL : (s.data.toList.drop (i + 1)).take n = L) : s.extract i (i + 1 + n) = ⟨(s[i] :: L).toArray⟩ := by
  apply ba_ext
  rw [ba_extract, List.drop_take, drop_at s i h, show i + 1 + n - i = n + 1 by omega, List.take_succ_cons, hL]
theorem endW_at (p : UInt8 → Bool) (s : ByteArray) (k : Nat) : endW p s k = k + ((s.data.toList.drop k).takeWhile p).length := rfl
theorem ext_end (p : UInt8 → Bool) (s : ByteArray) (i : Nat) (h : i < s.size) : s.extract i (endW p s (i + 1)) = ⟨(s[i] :: (s.data.toList.drop (i + 1)).takeWhile p).toArray⟩ := by
  rw [endW_at]
  exact ext_take s i _ h _ (take_while _ _)
theorem ext_two (s : ByteArray) (i : Nat) (h : i + 1 < s.size) : s.extract i (i + 1 + 1) = ⟨#[s[i], s[i + 1]]⟩ := by
  have e : (s.data.toList.drop (i + 1)).take 1 = [s[i + 1]] := by rw [drop_at s (i + 1) h]; rfl
  have := ext_take s i 1 (by omega) _ e
  rw [this]
theorem ext_one (s : ByteArray) (i : Nat) (h : i < s.size) : s.extract i (i + 1) = ⟨#[s[i]]⟩ := by
  have := ext_take s i 0 h [] List.take_zero
  exact this
/-- what is read so far, and what follows -/
def Lx (s : ByteArray) (R : Except (Int × Nat) (List Tok)) (i f : Nat) (L : List Tok) : Prop := (lexL f i L.length (s.data.toList.drop i)).map (L ++ ·) = R ∧ s.size - i ≤ f
theorem map_tok (L : List Tok) (x : Tok) (o : Except (Int × Nat) (List Tok)) : (o.map (x :: ·)).map (L ++ ·) = o.map ((L ++ [x]) ++ ·) := by
  cases o with
  | error e => rfl
  | ok M => show Except.ok _ = Except.ok _; simp
theorem lx_start (s : ByteArray) : Lx s (lexS s) 0 s.size [] := by
  refine ⟨?_, by omega⟩
  unfold lexS
  rw [List.drop_zero]
  show Except.map _ (lexL s.size 0 0 s.data.toList) = _
  cases lexL s.size 0 0 s.data.toList <;> rfl
theorem lx_end {s : ByteArray} {R : Except (Int × Nat) (List Tok)} {f : Nat} {L : List Tok} (h : Lx s R s.size f L) : R = .ok (L ++ [⟨5, ⟨#[]⟩, s.size⟩]) := by
  rw [← h.1, List.drop_eq_nil_of_le (by rw [ba_len]; omega)]
  cases f <;> rfl
theorem lx_more {s : ByteArray} {R : Except (Int × Nat) (List Tok)} {i f : Nat} {L : List Tok} (h : Lx s R i f L) (hi : i < s.size) : ∃ f', f = f' + 1 := by
  cases f with
  | zero => have := h.2; omega
  | succ f => exact ⟨f, rfl⟩
theorem lx_blank {s : ByteArray} {R : Except (Int × Nat) (List Tok)} {i f : Nat} {L : List Tok} (h : Lx s R i (f + 1) L) (hi : i < s.size) (hb : blankC s[i] = true) : Lx s R (i + 1) f L := by
  refine ⟨?_, by have := h.2; omega⟩
  have h1 := h.1
  rw [drop_at s i hi, lexL, if_pos hb] at h1
  exact h1
theorem lx_none {s : ByteArray} {R : Except (Int × Nat) (List Tok)} {i f : Nat} {L : List Tok} (h : Lx s R i (f + 1) L) (hi : i < s.size) (hb : blankC s[i] = false) (hn : nextT (s[i] :: s.data.toList.drop (i + 1)) = none) : R = .error (3, i) := by
  have h1 := h.1
  rw [drop_at s i hi, lexL, if_neg (by rw [hb]; decide), hn] at h1
  exact h1.symm
theorem lx_lim {s : ByteArray} {R : Except (Int × Nat) (List Tok)} {i f : Nat} {L : List Tok} (h : Lx s R i (f + 1) L) (hi : i < s.size) (hb : blankC s[i] = false) {k : Int} {t : List UInt8} {m : Nat} (hn : nextT (s[i] :: s.data.toList.drop (i + 1)) = some (k, t, m)) (hl : (k = 2 ∧ 19 < m) ∨ L.length = 200) : R = .error (4, i) := by
  have h1 := h.1
  rw [drop_at s i hi, lexL, if_neg (by rw [hb]; decide), hn] at h1
  simp only at h1
  rw [if_pos hl] at h1
  exact h1.symm
theorem lx_tok {s : ByteArray} {R : Except (Int × Nat) (List Tok)} {i f : Nat} {L : List Tok} (h : Lx s R i (f + 1) L) (hi : i < s.size) (hb : blankC s[i] = false) {k : Int} {t : List UInt8} {m : Nat} (hn : nextT (s[i] :: s.data.toList.drop (i + 1)) = some (k, t, m)) (hl : ¬ ((k = 2 ∧ 19 < m) ∨ L.length = 200)) : Lx s R (i + m) f (L ++ [⟨k, ⟨t.toArray⟩, i⟩]) ∧ i + m ≤ s.size ∧ 0 < m := by
  have hp := nextT_pos hn
  rw [List.length_cons, List.length_drop, ba_len] at hp
  refine ⟨⟨?_, by have := h.2; omega⟩, by omega, hp.1⟩
  have h1 := h.1
  rw [drop_at s i hi, lexL, if_neg (by rw [hb]; decide), hn] at h1
  simp only at h1
  rw [if_neg hl, map_tok, ← drop_at s i hi, List.drop_drop] at h1
  rw [List.length_append]
  exact h1
theorem ba_mk (t : ByteArray) : (⟨t.data.toList.toArray⟩ : ByteArray) = t := ba_ext (by simp)
theorem lx_tokB {s : ByteArray} {R : Except (Int × Nat) (List Tok)} {i f : Nat} {L : List Tok} (h : Lx s R i (f + 1) L) (hi : i < s.size) (hb : blankC s[i] = false) {k : Int} {tb : ByteArray} {m : Nat} (hn : nextT (s[i] :: s.data.toList.drop (i + 1)) = some (k, tb.data.toList, m)) (hl : ¬ ((k = 2 ∧ 19 < m) ∨ L.length = 200)) : Lx s R (i + m) f (L ++ [⟨k, tb, i⟩]) ∧ i + m ≤ s.size ∧ 0 < m := by
  have := lx_tok h hi hb hn hl
  rw [ba_mk] at this
  exact this
theorem str_s1 {s : ByteArray} {k : Nat} (h : k < s.size) (hy : s[k].toNat = 39) (hk : k + 1 = s.size) : strL (s.data.toList.drop k) = some ([], 1) := by
  rw [drop_at s k h, List.drop_eq_nil_of_le (by rw [ba_len]; omega), strL, if_pos hy]
theorem str_s2 {s : ByteArray} {k : Nat} (h : k < s.size) (hy : s[k].toNat = 39) (hk : k + 1 < s.size) (hz : s[k + 1].toNat ≠ 39) : strL (s.data.toList.drop k) = some ([], 1) := by
  rw [drop_at s k h, drop_at s (k + 1) hk, strL, if_pos hy, if_neg hz]
theorem str_s3 {s : ByteArray} {k : Nat} (h : k < s.size) (hy : s[k].toNat = 39) (hk : k + 1 < s.size) (hz : s[k + 1].toNat = 39) : strL (s.data.toList.drop k) = (strL (s.data.toList.drop (k + 1 + 1))).map (fun x => (s[k + 1] :: x.1, x.2 + 2)) := by
  rw [drop_at s k h, drop_at s (k + 1) hk, strL, if_pos hy, if_pos hz]
theorem str_s4 {s : ByteArray} {k : Nat} (h : k < s.size) (hy : s[k].toNat ≠ 39) : strL (s.data.toList.drop k) = (strL (s.data.toList.drop (k + 1))).map (fun x => (s[k] :: x.1, x.2 + 1)) := by
  rw [drop_at s k h]
  cases s.data.toList.drop (k + 1) with
  | nil =>
    show strL [s[k]] = none
    simp only [strL, if_neg hy]
  | cons d r => rw [strL, if_neg hy]
/-- what is read so far between quotes, and what follows -/
def Sx (s : ByteArray) (S : Option (List UInt8 × Nat)) (i k : Nat) (tx : ByteArray) : Prop := (strL (s.data.toList.drop k)).map (fun y => (tx.data.toList ++ y.1, k - (i + 1) + y.2)) = S
theorem ba_app (a b : ByteArray) : (a ++ b).data.toList = a.data.toList ++ b.data.toList := by simp
theorem sx_start (s : ByteArray) (i : Nat) : Sx s (strL (s.data.toList.drop (i + 1))) i (i + 1) ⟨#[]⟩ := by
  unfold Sx
  cases strL (s.data.toList.drop (i + 1)) with
  | none => rfl
  | some y => simp
theorem sx_end {s : ByteArray} {S : Option (List UInt8 × Nat)} {i : Nat} {tx : ByteArray} (h : Sx s S i s.size tx) : S = none := by
  rw [← h, List.drop_eq_nil_of_le (by rw [ba_len]; omega)]; rfl
theorem sx_stop {s : ByteArray} {S : Option (List UInt8 × Nat)} {i k : Nat} {tx : ByteArray} (h : Sx s S i k tx) (h1 : strL (s.data.toList.drop k) = some ([], 1)) : S = some (tx.data.toList, k - (i + 1) + 1) := by
  rw [← h, h1]; simp
theorem sx_one {s : ByteArray} {S : Option (List UInt8 × Nat)} {i k : Nat} {tx : ByteArray} (h : Sx s S i k tx) (hi : i + 1 ≤ k) (hk : k < s.size) (hy : s[k].toNat ≠ 39) : Sx s S i (k + 1) (tx ++ s.extract k (k + 1)) := by
  unfold Sx at *
  rw [str_s4 hk hy, Option.map_map] at h
  rw [← h]
  congr 1
  funext y
  rw [ba_app, ext_one s k hk]
  simp
  omega
theorem sx_two {s : ByteArray} {S : Option (List UInt8 × Nat)} {i k : Nat} {tx : ByteArray} (h : Sx s S i k tx) (hi : i + 1 ≤ k) (hk : k < s.size) (hy : s[k].toNat = 39) (hk1 : k + 1 < s.size) (hz : s[k + 1].toNat = 39) : Sx s S i (k + 1 + 1) (tx ++ s.extract (k + 1) (k + 1 + 1)) := by
  unfold Sx at *
  rw [str_s3 hk hy hk1 hz, Option.map_map] at h
  rw [← h]
  congr 1
  funext y
  rw [ba_app, ext_one s (k + 1) hk1]
  simp
  omega
/-- a token's cells, between quotes -/
def TokAt (wo : World) (i : Nat) (tx : ByteArray) (wx : World) : Prop := Below wo.heap.size wo wx ∧ (wx.cell? ⟨wo.heap.size, 0, none⟩ = some (.int .i64 3) ∧ wx.cell? ⟨wo.heap.size, 1, none⟩ = some (.string tx) ∧ wx.cell? ⟨wo.heap.size, 2, none⟩ = some (.int .i64 (i : Int))) ∧ wx.frozen? ⟨wo.heap.size, 1, none⟩ = false
theorem TokAt.set {wo : World} {i : Nat} {tx : ByteArray} {wx : World} (h : TokAt wo i tx wx) (ty : ByteArray) : TokAt wo i ty (wx.setCell ⟨wo.heap.size, 1, none⟩ (.string ty)) := by
  obtain ⟨h1, ⟨c0, c1, c2⟩, f⟩ := h
  refine ⟨h1.setCell (Nat.le_refl _) _, ⟨?_, World.cell?_setCell_same _ _ _ c1, ?_⟩, by rw [World.frozen?_setCell]; exact f⟩
  · rw [World.cell?_setCell_other _ _ _ _ (fun e => by cases e)]; exact c0
  · rw [World.cell?_setCell_other _ _ _ _ (fun e => by cases e)]; exact c2
theorem TokAt.drew {wo : World} {i : Nat} {tx : ByteArray} {wx : World} (h : TokAt wo i tx wx) : TokAt wo i tx wx.drew := ⟨h.1.drew, h.2⟩
theorem tok_quote {wo wt : World} {i : Nat} (hb : Below wo.heap.size wo wt) (t0 : wt.cell? ⟨wo.heap.size, 0, none⟩ = some (.int .i64 0)) (t1 : wt.cell? ⟨wo.heap.size, 1, none⟩ = some (.string ⟨#[]⟩)) (t2 : wt.cell? ⟨wo.heap.size, 2, none⟩ = some (.int .i64 (i : Int))) (z1 : wt.frozen? ⟨wo.heap.size, 1, none⟩ = false) : TokAt wo i ⟨#[]⟩ (wt.setCell ⟨wo.heap.size, 0, none⟩ (.int .i64 3)) := by
  refine ⟨hb.setCell (Nat.le_refl _) _, ⟨World.cell?_setCell_same _ _ _ t0, ?_, ?_⟩, by rw [World.frozen?_setCell]; exact z1⟩
  · rw [World.cell?_setCell_other _ _ _ _ (fun e => by cases e)]; exact t1
  · rw [World.cell?_setCell_other _ _ _ _ (fun e => by cases e)]; exact t2
/-- a token's first two cells, laid anew -/
theorem tok_set {T : Nat} {w : World} {a0 a1 a2 : Value} (c0 : w.cell? ⟨T, 0, none⟩ = some a0) (c1 : w.cell? ⟨T, 1, none⟩ = some a1) (c2 : w.cell? ⟨T, 2, none⟩ = some a2) (v0 v1 : Value) :
    ((w.setCell ⟨T, 0, none⟩ v0).setCell ⟨T, 1, none⟩ v1).cell? ⟨T, 0, none⟩ = some v0 ∧ ((w.setCell ⟨T, 0, none⟩ v0).setCell ⟨T, 1, none⟩ v1).cell? ⟨T, 1, none⟩ = some v1 ∧ ((w.setCell ⟨T, 0, none⟩ v0).setCell ⟨T, 1, none⟩ v1).cell? ⟨T, 2, none⟩ = some a2 := by
  refine ⟨?_, ?_, ?_⟩
  · rw [World.cell?_setCell_other _ _ _ _ (fun e => by cases e)]
    exact World.cell?_setCell_same _ _ _ c0
  · exact World.cell?_setCell_same _ _ _ (by rw [World.cell?_setCell_other _ _ _ _ (fun e => by cases e)]; exact c1)
  · rw [World.cell?_setCell_other _ _ _ _ (fun e => by cases e), World.cell?_setCell_other _ _ _ _ (fun e => by cases e)]; exact c2
theorem own_keep {w w' : World} {B B' : Nat} {t : TypeId} {z : Nat} {v : Value} {n : Nat} {xs : List Value} (h : w.ownsRow B t z v n xs) (hB : B' ≤ B) (hk : ∀ g, B ≤ g → w'.heap[g]? = w.heap[g]?) : w'.ownsRow B' t z v n xs := by
  refine ⟨h.1, ?_⟩
  rcases h.2 with h2 | ⟨g, cap, cur, h1, h2, h3, h4⟩
  · exact .inl h2
  · exact .inr ⟨g, cap, cur, h1, Nat.le_trans hB h2, by rw [hk g h2]; exact h3, h4⟩
theorem infoTok : (Tryd.prog.info? 36).map (fun i => (i.zero, i.size, i.bytes)) = some (some (.agg #[.int .i64 0, .string ⟨#[]⟩, .int .i64 0]), 3, 32) := by kernel_rfl
theorem one_tok (x : Tok) : ∀ u ∈ tc [x], u.oneCell' = true := by
  intro u hu
  simp [tc] at hu
  rcases hu with rfl | rfl | rfl <;> rfl
theorem news_tok (w : World) (x : Tok) (t : TypeId) : ∀ j u, (tc [x])[j]? = some u → (w.alloc (.cells #[.int .i64 x.k, .string x.t, .int .i64 x.p] t)).cell? ((⟨w.heap.size, 0, none⟩ : Addr).add j) = some u := by
  intro j u hj
  rw [Go.WideShapes.add_plain]
  have hj3 : j = 0 ∨ j = 1 ∨ j = 2 := by
    have := (List.getElem?_eq_some_iff.1 hj).1
    simp [tc] at this
    omega
  rcases hj3 with rfl | rfl | rfl <;> (simp [tc] at hj; subst hj; simp)
theorem results_tc {P : Program} {fn : Func} {p t : Tmp} {ty : TypeId} {v : Value} (h : fn.results = #[.tmp t, .cell p ty]) (tmps : Array Value) (w : World) (a : Addr) (hp : tmps.getD p undef = .pointer (some a)) (hl : (loadVar ty a).run P w = .ok v w) :
    (results fn tmps).run P w = .ok (.tuple #[tmps.getD t undef, v]) w := by
  have hp' : tmps[p]?.getD undef = .pointer (some a) := by simpa [Array.getD_eq_getD_getElem?] using hp
  simp [results, h, hp', asAddr, hl]

set_option maxHeartbeats 2000000 in
theorem alpha_any (x : Nat) (w : World) : Calls Tryd.prog 15 #[.int .u8 (x : Int)] w fun e w' => e = .returned (.bool (alphaN x)) ∧ w' = w := by
  obtain ⟨a1, e1⟩ : ∃ b, decide ((97 : Int) ≤ (x : Int)) = b := ⟨_, rfl⟩
  obtain ⟨a2, e2⟩ : ∃ b, decide ((x : Int) ≤ 122) = b := ⟨_, rfl⟩
  obtain ⟨a3, e3⟩ : ∃ b, decide ((65 : Int) ≤ (x : Int)) = b := ⟨_, rfl⟩
  obtain ⟨a4, e4⟩ : ∃ b, decide ((x : Int) ≤ 90) = b := ⟨_, rfl⟩
  obtain ⟨a5, e5⟩ : ∃ b, ((x : Int) == 95) = b := ⟨_, rfl⟩
  have HR : Hid (alphaN x = (a1 && a2 || a3 && a4 || a5)) := by
    show _ = _
    rw [← e1, ← e2, ← e3, ← e4, ← e5, Bool.eq_iff_iff]
    simp [alphaN]
    omega
  cases a1 <;> cases a2 <;> cases a3 <;> cases a4 <;> cases a5 <;> first
    | (exfalso; simp only [decide_eq_true_eq, decide_eq_false_iff_not, beq_iff_eq, beq_eq_false_iff_ne] at e1 e2 e3 e4 e5; clear HR; omega)
    | (go_enter Tryd.func15, Tryd.ntmps15
       go_wp2
       go_ret
       exact ⟨ret_bool (by rw [HR.out]; simp), rfl⟩)
set_option maxHeartbeats 2000000 in
theorem digit_any (x : Nat) (w : World) : Calls Tryd.prog 16 #[.int .u8 (x : Int)] w fun e w' => e = .returned (.bool (digN x)) ∧ w' = w := by
  obtain ⟨a1, e1⟩ : ∃ b, decide ((48 : Int) ≤ (x : Int)) = b := ⟨_, rfl⟩
  obtain ⟨a2, e2⟩ : ∃ b, decide ((x : Int) ≤ 57) = b := ⟨_, rfl⟩
  have HR : Hid (digN x = (a1 && a2)) := by
    show _ = _
    rw [← e1, ← e2, Bool.eq_iff_iff]
    simp [digN]
    omega
  cases a1 <;> cases a2 <;> first
    | (exfalso; simp only [decide_eq_true_eq, decide_eq_false_iff_not] at e1 e2; clear HR; omega)
    | (go_enter Tryd.func16, Tryd.ntmps16
       go_wp2
       go_ret
       exact ⟨ret_bool (by rw [HR.out]; simp), rfl⟩)
theorem alpha_as (x : Nat) (b : Bool) (hb : alphaN x = b) (w : World) : Calls Tryd.prog 15 #[.int .u8 (x : Int)] w fun e w' => e = .returned (.bool b) ∧ w' = w := by
  rw [← hb]; exact alpha_any x w
theorem digit_as (x : Nat) (b : Bool) (hb : digN x = b) (w : World) : Calls Tryd.prog 16 #[.int .u8 (x : Int)] w fun e w' => e = .returned (.bool b) ∧ w' = w := by
  rw [← hb]; exact digit_any x w
theorem mark_as (x : Nat) (b : Bool) (hb : markC x.toUInt8 = b) (w : World) : Calls Tryd.prog 18 #[.string ⟨#[60, 62, 61, 43, 45, 42, 40, 41, 44, 46, 59]⟩, .int .u8 (x : Int)] w fun e w' => ∃ n : Int, e = .returned (.int .i64 n) ∧ decide (0 ≤ n) = b ∧ w' = w := by
  refine (strings_ix ⟨#[60, 62, 61, 43, 45, 42, 40, 41, 44, 46, 59]⟩ (x : Int) w).mono ?_
  rintro e w' ⟨rfl, rfl⟩
  exact ⟨_, rfl, hb, rfl⟩
end Go.Proofs.YtgmibjcccdgkgaaDoor
