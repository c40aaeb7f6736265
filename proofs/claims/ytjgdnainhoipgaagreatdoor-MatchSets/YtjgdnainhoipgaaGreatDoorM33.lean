/- Texts of the proof of MatchSets: HEv, HMp, ALay, PLib, PCut, PCut2, PTake, PSign. -/
import Derived.Test.YtjgdnainhoipgaaGreatDoorM32
import Derived.Maps.RangeWalk
import Derived.Maps.Ext
import Derived.Maps.OwnOps
import Derived.Lib.Bytealg
namespace Go.Proofs.YtjgdnainhoipgaaGreatDoor
open Go.RowKit

section
variable {bf : Nat} {nm : ByteArray} {pls : ByteArray → List Pl} {beg : ByteArray → List ByteArray} {w : World}
theorem find_all : ∀ n, FindTo bf nm pls beg n
  | 0 => fun _ _ _ h => absurd h (Nat.not_lt_zero _)
  | n + 1 => find_step n (find_all n)
set_option maxRecDepth 100000 in
set_option maxHeartbeats 1000000 in
theorem eval2_in (hF : Fdr bf nm pls beg w) (q : Qy) (p : Option Addr) (hq : MIs w p q) (hk : QOk q) (hl : lvs q ≤ 400) (hz : szQ q ≤ 1000) :
    Calls Tryz.prog 18 #[.pointer (some ⟨bf, 0, none⟩), .string nm, .pointer p] w fun e w' => ∃ v, e = .returned (.tuple #[v, .nilIface]) ∧ InH w' v (evalQ pls beg q) ∧ Below w.heap.size w w' := by
  have HFI : Hid _ := find_all (bf := bf) (nm := nm) (pls := pls) (beg := beg) (szQ q + 1) q w p (Nat.lt_succ_self _) hF hq hk hl hz
  clear hF hq hk hl hz
  go_enter Tryz.func18, Tryz.ntmps18
  go_wp2_with fail
  refine (show Calls _ _ _ _ _ from HFI.out).mono ?_
  rintro _ w1 ⟨v1, rfl, hi1, hb1⟩
  have HI1 : Hid (InH w1 v1 (evalQ pls beg q)) := hi1
  have HB1 : Hid (Below w.heap.size w w1) := hb1
  clear hi1 hb1 HFI
  go_wp2
  go_ret2
  exact ⟨_, rfl, HI1.out, HB1.out⟩
end
end Go.Proofs.YtjgdnainhoipgaaGreatDoor
namespace Go.Proofs.YtjgdnainhoipgaaGreatDoor
open Go.RowKit Go.Maps

def rl (i : Int) : Lit := .int .i64 i
theorem rl_ne {i j : Int} (h : i ≠ j) : rl i ≠ rl j := fun e => h (by unfold rl at e; injection e)
structure HasH (D : DataW Unit) (l : List Ht) : Prop where
  has : ∀ i : Int, Maps.has D (rl i) = true ↔ ∃ x ∈ l, x.r = i
  elem : ∀ x ∈ l, ∀ z, D.atKey (rl x.r) z = .lit (.int .i64 x.o)
  size : Maps.size D = l.length
theorem HasH.not {D : DataW Unit} {l : List Ht} (h : HasH D l) {i : Int} (hn : ∀ x ∈ l, x.r ≠ i) : Maps.has D (rl i) = false := by
  cases e : Maps.has D (rl i) with
  | false => rfl
  | true => obtain ⟨x, hx, hk⟩ := (h.has i).1 e; exact absurd hk (hn x hx)
theorem HasH.put {D : DataW Unit} {l : List Ht} (h : HasH D l) (ht : Tidy D) {x : Ht} (hn : ∀ y ∈ l, y.r ≠ x.r) : HasH (D.put (rl x.r) (.lit (.int .i64 x.o))) (l ++ [x]) := by
  refine ⟨fun i => ?_, fun y hy z => ?_, ?_⟩
  · by_cases e : i = x.r
    · subst e
      rw [has_put_same ht.isMap (show WideAt.IsKeyLit (rl x.r) from trivial)]
      exact ⟨fun _ => ⟨x, by simp, rfl⟩, fun _ => rfl⟩
    · rw [has_put_other (rl_ne e), h.has i]
      constructor
      · rintro ⟨s, hs, hk⟩; exact ⟨s, by simp [hs], hk⟩
      · rintro ⟨s, hs, hk⟩
        rcases List.mem_append.1 hs with hs | hs
        · exact ⟨s, hs, hk⟩
        · obtain rfl := List.mem_singleton.1 hs; exact absurd hk.symm e
  · rcases List.mem_append.1 hy with hy | hy
    · rw [atKey_put_other (rl_ne (hn y hy))]; exact h.elem y hy z
    · obtain rfl := List.mem_singleton.1 hy
      exact atKey_put_same ht.isMap (show WideAt.IsKeyLit (rl y.r) from trivial) _ z
  · rw [size_put ht, h.not hn, h.size, List.length_append]; rfl
def RowsB (m n : Nat) (l : List Ht) (w : World) : Prop := ∃ D : DataW Unit, w.ownsMap Tryz.prog 3 (plainElem Tryz.prog 3) m n D ∧ HasH D l
section
variable {m n : Nat} {l : List Ht} {w w' : World}
theorem RowsB.lt (h : RowsB m n l w) : m < w.heap.size := by obtain ⟨D, hD, _⟩ := h; exact hD.lt
theorem RowsB.block (h : RowsB m n l w) (hb : w'.heap[m]? = w.heap[m]?) : RowsB m n l w' := by
  obtain ⟨D, ⟨es, clock, hm, F, hs, hD⟩, hM⟩ := h
  exact ⟨D, ⟨es, clock, hb.trans hm, F, hs, hD⟩, hM⟩
theorem RowsB.only {S : Nat → Prop} (h : RowsB m n l w) (ho : Only S w w') (hs : ¬ S m) : RowsB m n l w' := h.block (ho.block m h.lt hs)
theorem RowsB.below (h : RowsB m n l w) (hb : Below w.heap.size w w') : RowsB m n l w' := h.block (hb.block m h.lt)
theorem RowsB.mono {n' : Nat} (h : RowsB m n l w) (hn : n ≤ n') : RowsB m n' l w := by
  obtain ⟨D, hD, hM⟩ := h
  exact ⟨D, hD.mono hn, hM⟩
theorem RowsB.new (w : World) : RowsB w.heap.size 0 [] (w.alloc (.map #[] 0)) :=
  ⟨.map [], World.ownsMap_made _ _ _ _, ⟨fun k => ⟨fun h => by simp [has_eq] at h, fun h => by obtain ⟨x, hx, _⟩ := h; cases hx⟩, fun x hx => (by cases hx), rfl⟩⟩
end
section
variable {ops : Array Oper} {rest : List Oper} {o : Oper} {a : Act} {Q : Exit → Act → World → Prop} {m n : Nat} {l : List Ht}
theorem zero3h (w : World) : (zeroValue 3).run Tryz.prog w = .ok (.int .i64 0) w := by kernel_rfl
theorem row_wf {i : Int} (h0 : 0 ≤ i) (h : i ≤ 10000000000) : (Lit.int .i64 i).wf = true := WalkArith.wf_i64 (by omega)
theorem cn_at (hr : RisH l) {x : Ht} (hx : x ∈ l) : cn l x.r = x.o := by
  induction l with
  | nil => cases hx
  | cons y l ih =>
    show (if y.r = x.r then y.o else cn l x.r) = x.o
    rcases List.mem_cons.1 hx with rfl | hx
    · rw [if_pos rfl]
    · have := hr.hd x hx
      rw [if_neg (by omega)]
      exact ih hr.tl hx
/-- how often a row has it -/
theorem HasH.cn {D : DataW Unit} (h : HasH D l) (hr : RisH l) (r : Int) : D.atKey (rl r) (.lit (.int .i64 0)) = .lit (.int .i64 (cn l r)) := by
  by_cases e : ∃ x ∈ l, x.r = r
  · obtain ⟨x, hx, rfl⟩ := e
    rw [h.elem x hx, cn_at hr hx]
  · have hn : ∀ x ∈ l, x.r ≠ r := fun x hx e' => e ⟨x, hx, e'⟩
    rw [atKey_of_not_has (h.not hn), cn_none hn]
theorem wp_put_rows {K' : Act → World → Prop} (w : World) (mo x v : Operand) (hop : o.op = Op.mapUpdate 29 mo x v) (hS : RowsB m n l w) (hnn : n < 1000000000) (y : Ht) (h0 : 0 ≤ y.r) (h1 : y.r ≤ 10000000000) (h2 : 0 ≤ y.o) (h3 : y.o ≤ 10000000000) (hn : ∀ s ∈ l, s.r ≠ y.r) (hm : a.eval mo = .map (some m)) (hx : a.eval x = .int .i64 y.r) (hv : a.eval v = .int .i64 y.o)
    (hK : ∀ w', RowsB m (n + 1) (l ++ [y]) w' → Only (fun b => b = m) w w' → K' (a.put o.dst undef) w') : Oper.wp Tryz.prog o a w K' Q := by
  obtain ⟨D, hD, hM⟩ := hS
  obtain ⟨w', hrun, r1, r2⟩ := hD.update keyed3 Tryz.underlying29 (Nat.lt_trans hnn (by decide)) (keyOf_int_mk Tryz.underlying3 (row_wf h0 h1)) (plainElem_int Tryz.underlying3 (row_wf h2 h3))
  unfold Oper.wp
  simp [execOp, hop, hm, hx, hv, hrun, Result.andThen]
  exact hK w' ⟨_, r1, hM.put (hD.tidy keyed3) hn⟩ (Only.of_grown r2 rfl)
end
end Go.Proofs.YtjgdnainhoipgaaGreatDoor
namespace Go.Proofs.YtjgdnainhoipgaaGreatDoor
open Go.RowKit

set_option maxRecDepth 100000 in
set_option maxHeartbeats 1000000 in
theorem ix_lite (s : ByteArray) (c : Int) (w : World) : Calls Tryz.prog 46 #[.string s, .int .u8 c] w fun e w' => e = .returned (.int .i64 (Lib.indexByte s.data.toList c.toNat.toUInt8)) ∧ w' = w := by
  go_enter Tryz.func46, Tryz.ntmps46
  go_wp2
  rw [run_callFunc_extern Tryz.func77 (by kernel_rfl) (by kernel_rfl) (by kernel_rfl) (e := Extern.BytealgIndexByte.indexByte) (by kernel_rfl), Lib.run_indexByteString]
  simp only [Result.andThen]
  rw [Oper.upon_value]
  go_wp2
  go_ret
  exact ⟨rfl, rfl⟩
set_option maxRecDepth 100000 in
set_option maxHeartbeats 1000000 in
theorem strings_ix (s : ByteArray) (c : Int) (w : World) : Calls Tryz.prog 22 #[.string s, .int .u8 c] w fun e w' => e = .returned (.int .i64 (Lib.indexByte s.data.toList c.toNat.toUInt8)) ∧ w' = w := by
  go_enter Tryz.func22, Tryz.ntmps22
  go_wp2_with (go_at_call 46; refine (ix_lite _ _ _).mono ?_; rintro e w' ⟨rfl, rfl⟩)
  go_ret
  exact ⟨rfl, rfl⟩
end Go.Proofs.YtjgdnainhoipgaaGreatDoor
namespace Go.Proofs.YtjgdnainhoipgaaGreatDoor
open Go.RowKit

set_option maxRecDepth 100000 in
set_option maxHeartbeats 1000000 in
theorem count_any (s : ByteArray) (w : World) : Calls Tryz.prog 43 #[.string s, .string ⟨#[34]⟩] w fun e w' => e = .returned (.int .i64 (Lib.countByte s.data.toList 34)) ∧ w' = w := by
  go_enter Tryz.func43, Tryz.ntmps43
  go_wp2
  rw [run_callFunc_extern Tryz.func73 (by kernel_rfl) (by kernel_rfl) (by kernel_rfl) (e := Extern.BytealgCount.count) (by kernel_rfl), Lib.run_countString]
  simp only [Result.andThen]
  rw [Oper.upon_value]
  go_wp2
  go_ret
  exact ⟨rfl, rfl⟩
theorem trim_yes {s : ByteArray} (h : 0 < s.size) (hc : s[0].toNat = 32) : (s.extract 1 s.size).data.toList.dropWhile (· == 32) = s.data.toList.dropWhile (· == 32) := by
  have e := drop_at s 0 h
  rw [List.drop_zero] at e
  have e32 : s[0] = 32 := UInt8.toNat_inj.1 hc
  rw [ba_extract, ← ba_len, List.take_length]
  conv => rhs; rw [e, List.dropWhile_cons, if_pos (by rw [e32]; rfl)]
theorem trim_no {s : ByteArray} (h : 0 < s.size) (hc : s[0].toNat ≠ 32) : s.data.toList.dropWhile (· == 32) = s.data.toList := by
  have e := drop_at s 0 h
  rw [List.drop_zero] at e
  rw [e, List.dropWhile_cons, if_neg (by rw [beq_iff_eq]; intro k; exact hc (by rw [k]; rfl))]
theorem ba_mk (t : ByteArray) : (⟨t.data.toList.toArray⟩ : ByteArray) = t := ba_ext (by simp)
theorem trim_nil {s : ByteArray} (h : s.size = 0) : s.data.toList = [] := List.length_eq_zero_iff.1 (by rw [ba_len]; exact h)

set_option maxRecDepth 100000 in
set_option maxHeartbeats 2000000 in
theorem trimByte_any (s : ByteArray) (w : World) (hs : s.size ≤ 1000) : Calls Tryz.prog 152 #[.string s, .int .u8 32] w fun e w' => e = .returned (.string ⟨(s.data.toList.dropWhile (· == 32)).toArray⟩) ∧ w' = w := by
  obtain ⟨R, hR⟩ : ∃ R, s.data.toList.dropWhile (· == 32) = R := ⟨_, rfl⟩
  rw [hR]
  have HR : Hid (s.data.toList.dropWhile (· == 32) = R) := hR
  clear hR
  go_enter Tryz.func152, Tryz.ntmps152
  go_wp2
  go_loopw [0] (fun v wr => ∃ t : ByteArray, v = .string t ∧ t.size ≤ 1000 ∧ Hid (t.data.toList.dropWhile (· == 32) = R) ∧ wr = w) (fun v _ => strLen v)
  case atStart => exact ⟨s, rfl, hs, HR, rfl⟩
  case round =>
    clear HR
    obtain ⟨t, rfl, ht, hz, rfl⟩ := hrel
    by_cases h0 : t.size = 0
    · have d1 : decide ((0 : Int) < (t.size : Int)) = false := decide_eq_false (by omega)
      have HE : Hid (t.data.toList = R) := by
        show _ = _
        rw [← hz.out, trim_nil h0]; rfl
      clear hz
      go_wp2
      go_ret
      exact ⟨by rw [← HE.out, ba_mk]; rfl, rfl⟩
    · have h1 : 0 < t.size := by omega
      have d1 : decide ((0 : Int) < (t.size : Int)) = true := decide_eq_true (by omega)
      obtain ⟨x, hx⟩ : ∃ x, t[0].toNat = x := ⟨_, rfl⟩
      by_cases hc : x = 32
      · have HE : Hid ((t.extract 1 t.size).data.toList.dropWhile (· == 32) = R) := by
          show _ = _
          rw [← hz.out]; exact trim_yes h1 (by rw [hx, hc])
        have j1 : ((x : Int) == 32) = true := by simp; omega
        clear hz hc
        go_wp2
        go_roundw
        case rel => exact ⟨_, rfl, by simp; omega, HE, trivial⟩
        case measure => simp [strLen]; omega
      · have HE : Hid (t.data.toList = R) := by
          show _ = _
          rw [← hz.out, trim_no h1 (by rw [hx]; exact hc)]
        have j1 : ((x : Int) == 32) = false := by simp; omega
        clear hz hc
        go_wp2
        go_ret
        exact ⟨by rw [← HE.out, ba_mk]; rfl, rfl⟩

set_option maxRecDepth 100000 in
set_option maxHeartbeats 2000000 in
theorem trim_any (s : ByteArray) (w : World) (hs : s.size ≤ 1000) : Calls Tryz.prog 115 #[.string s, .string ⟨#[32]⟩] w fun e w' => e = .returned (.string ⟨(s.data.toList.dropWhile (· == 32)).toArray⟩) ∧ w' = w := by
  by_cases h0 : s.size = 0
  · have e0 : s = ⟨#[]⟩ := ba_ext (by rw [trim_nil h0])
    subst e0
    clear h0
    go_enter Tryz.func115, Tryz.ntmps115
    go_wp2
    go_ret
    exact ⟨rfl, rfl⟩
  · have d1 : (s.toList == []) = false := by
      rw [ByteArray.toList_eq]
      rw [beq_eq_false_iff_ne]
      intro e
      have := congrArg List.length e
      rw [ba_len] at this
      exact h0 this
    clear h0
    go_enter Tryz.func115, Tryz.ntmps115
    go_wp2_with (go_at_call 152; refine (trimByte_any _ _ hs).mono ?_; rintro e w' ⟨rfl, rfl⟩)
    go_ret
    exact ⟨rfl, rfl⟩
end Go.Proofs.YtjgdnainhoipgaaGreatDoor
namespace Go.Proofs.YtjgdnainhoipgaaGreatDoor
open Go.RowKit

set_option maxRecDepth 100000 in
set_option maxHeartbeats 1000000 in
theorem index_one (s : ByteArray) (w : World) (hs : s.size ≤ 1000) : Calls Tryz.prog 83 #[.string s, .string ⟨#[34]⟩] w fun e w' => e = .returned (.int .i64 (Lib.indexByte s.data.toList 34)) ∧ w' = w := by
  by_cases h0 : s = ⟨#[34]⟩
  · subst h0
    go_enter Tryz.func83, Tryz.ntmps83
    go_wp2
    go_ret
    exact ⟨rfl, rfl⟩
  · have d1 : ((34 : UInt8) :: [] == s.toList) = false := by
      rw [beq_eq_false_iff_ne]; intro e; exact h0 (ba_ext (by rw [← ByteArray.toList_eq s, ← e]))
    have d2 : (([34] : List UInt8) == s.toList) = false := d1
    clear h0
    go_enter Tryz.func83, Tryz.ntmps83
    go_wp2_with (go_at_call 46; refine (ix_lite _ _ _).mono ?_; rintro e w' ⟨rfl, rfl⟩)
    go_ret
    exact ⟨rfl, rfl⟩
/-- where the first such byte is -/
theorem ix_at (l : List UInt8) : (l.takeWhile notQ).length < l.length → Lib.indexByte l 34 = ((l.takeWhile notQ).length : Int) := by
  induction l with
  | nil => intro h; simp at h
  | cons c l ih =>
    intro h
    by_cases hc : notQ c = true
    · rw [List.takeWhile_cons_of_pos hc] at h ⊢
      simp only [List.length_cons] at h ⊢
      have e := ih (by omega)
      have hne : c ≠ 34 := fun e => by rw [e] at hc; exact absurd hc (by decide)
      simp only [Lib.indexByte]
      simp [hne, e]
    · rw [List.takeWhile_cons_of_neg hc]
      have : c = 34 := by
        have : c.toNat = 34 := by simpa [notQ] using hc
        exact UInt8.toNat_inj.1 this
      subst this
      simp [Lib.indexByte]

set_option maxRecDepth 100000 in
set_option maxHeartbeats 2000000 in
theorem cutLite_any (s : ByteArray) (n : Nat) (w : World) (hs : s.size ≤ 1000) (hn : Lib.indexByte s.data.toList 34 = (n : Int)) (hlt : n < s.size) : Calls Tryz.prog 100 #[.string s, .string ⟨#[34]⟩] w fun e w' => e = .returned (.tuple #[.string (s.extract 0 n), .string (s.extract (n + 1) s.size), .bool true]) ∧ ∃ m, w' = w.drewN m := by
  have HN : Hid (Lib.indexByte s.data.toList 34 = (n : Int)) := hn
  clear hn
  have c1 : (n : Int) ≤ (s.size : Int) := by omega
  have c2 : (n : Int) + 1 ≤ (s.size : Int) := by omega
  go_enter Tryz.func100, Tryz.ntmps100
  go_wp2_with (go_at_call 83; refine (index_one _ _ hs).mono ?_; rintro e w' ⟨rfl, rfl⟩; rw [HN.out])
  go_quiet (fail)
  go_wp2
  go_ret3
  exact ⟨rfl, _, rfl⟩
set_option maxRecDepth 100000 in
set_option maxHeartbeats 2000000 in
theorem strCut_any (s : ByteArray) (n : Nat) (w : World) (hs : s.size ≤ 1000) (hn : Lib.indexByte s.data.toList 34 = (n : Int)) (hlt : n < s.size) : Calls Tryz.prog 62 #[.string s, .string ⟨#[34]⟩] w fun e w' => e = .returned (.tuple #[.string (s.extract 0 n), .string (s.extract (n + 1) s.size), .bool true]) ∧ ∃ m, w' = w.drewN m := by
  have HN : Hid (Lib.indexByte s.data.toList 34 = (n : Int)) := hn
  clear hn
  go_enter Tryz.func62, Tryz.ntmps62
  go_wp2_with (go_at_call 100; refine (cutLite_any _ n _ hs HN.out hlt).mono ?_; rintro e w' ⟨rfl, m, rfl⟩)
  go_ret3
  exact ⟨rfl, _, rfl⟩

theorem must_yes (w : World) : Calls Tryz.prog 42 #[.bool true] w fun e w' => e = .returned (.tuple #[]) ∧ w' = w := by
  go_enter Tryz.func42, Tryz.ntmps42
  go_wp2
  go_end0
  exact ⟨rfl, rfl⟩
theorem must_no (w : World) : Calls Tryz.prog 42 #[.bool false] w fun e w' => e = .panicked [{ v := .iface 104 (.agg #[.int .i64 3]), recovered := false }] ∧ w' = w := by
  go_enter Tryz.func42, Tryz.ntmps42
  go_wp2
  exact ⟨rfl, rfl, rfl⟩
/-- a word that is a sign -/
def signT (x : ByteArray) : Bool := decide (x = tAnd) || decide (x = tOr) || decide (x = tNot) || decide (x = tNear)
set_option maxHeartbeats 2000000 in
theorem isSign_any (x : ByteArray) (b : Bool) (hb : signT x = b) (w : World) : Calls Tryz.prog 156 #[.string x] w fun e w' => e = .returned (.bool b) ∧ w' = w := by
  have HB : Hid (signT x = b) := hb
  clear hb
  have d1 := beqT x [65, 78, 68]
  have d2 := beqT x [79, 82]
  have d3 := beqT x [78, 79, 84]
  have d4 := beqT x [78, 69, 65, 82]
  by_cases h1 : x = tAnd
  · rw [decide_eq_true (show x = ⟨[65, 78, 68].toArray⟩ from h1)] at d1
    have e : b = true := by rw [← HB.out]; simp [signT, h1]
    subst e
    clear d2 d3 d4 h1
    go_enter Tryz.func156, Tryz.ntmps156
    go_wp2
    go_ret
    exact ⟨rfl, rfl⟩
  rw [decide_eq_false (show ¬ x = ⟨[65, 78, 68].toArray⟩ from h1)] at d1
  by_cases h2 : x = tOr
  · rw [decide_eq_true (show x = ⟨[79, 82].toArray⟩ from h2)] at d2
    have e : b = true := by rw [← HB.out]; simp [signT, h2]
    subst e
    clear d3 d4 h1 h2
    go_enter Tryz.func156, Tryz.ntmps156
    go_wp2
    go_ret
    exact ⟨rfl, rfl⟩
  rw [decide_eq_false (show ¬ x = ⟨[79, 82].toArray⟩ from h2)] at d2
  by_cases h3 : x = tNot
  · rw [decide_eq_true (show x = ⟨[78, 79, 84].toArray⟩ from h3)] at d3
    have e : b = true := by rw [← HB.out]; simp [signT, h3]
    subst e
    clear d4 h1 h2 h3
    go_enter Tryz.func156, Tryz.ntmps156
    go_wp2
    go_ret
    exact ⟨rfl, rfl⟩
  rw [decide_eq_false (show ¬ x = ⟨[78, 79, 84].toArray⟩ from h3)] at d3
  by_cases h4 : x = tNear
  · rw [decide_eq_true (show x = ⟨[78, 69, 65, 82].toArray⟩ from h4)] at d4
    have e : b = true := by rw [← HB.out]; simp [signT, h4]
    subst e
    clear h1 h2 h3 h4
    go_enter Tryz.func156, Tryz.ntmps156
    go_wp2
    go_ret
    exact ⟨rfl, rfl⟩
  rw [decide_eq_false (show ¬ x = ⟨[78, 69, 65, 82].toArray⟩ from h4)] at d4
  have e : b = false := by rw [← HB.out]; simp [signT, h1, h2, h3, h4]
  subst e
  clear h1 h2 h3 h4
  go_enter Tryz.func156, Tryz.ntmps156
  go_wp2
  go_ret
  exact ⟨rfl, rfl⟩
set_option maxHeartbeats 2000000 in
theorem isP_any (k : Int) (t x : ByteArray) (b : Bool) (hb : (decide (k = 5) && decide (t = x)) = b) (w : World) : Calls Tryz.prog 118 #[.agg #[.int .i64 k, .string t], .string x] w fun e w' => e = .returned (.bool b) ∧ Below w.heap.size w w' := by
  have HB : Hid ((decide (k = 5) && decide (t = x)) = b) := hb
  clear hb
  by_cases h1 : k = 5
  · subst h1
    by_cases h2 : t = x
    · subst h2
      have e : b = true := by rw [← HB.out]; simp
      subst e
      have d2 : (t.toList == t.toList) = true := by simp
      go_enter Tryz.func118, Tryz.ntmps118
      go_wp2
      go_ret
      exact ⟨rfl, (Below.refl _ _).alloc (Nat.le_refl _) _⟩
    · have e : b = false := by rw [← HB.out]; simp [h2]
      subst e
      have d2 : (t.toList == x.toList) = false := by
        rw [beq_eq_false_iff_ne]; intro e; exact h2 (ba_ext (by rw [← ByteArray.toList_eq, ← ByteArray.toList_eq, e]))
      clear h2
      go_enter Tryz.func118, Tryz.ntmps118
      go_wp2
      go_ret
      exact ⟨rfl, (Below.refl _ _).alloc (Nat.le_refl _) _⟩
  · have e : b = false := by rw [← HB.out]; simp [h1]
    subst e
    have d1 : (k == 5) = false := by simpa using h1
    clear h1
    go_enter Tryz.func118, Tryz.ntmps118
    go_wp2
    go_ret
    exact ⟨rfl, (Below.refl _ _).alloc (Nat.le_refl _) _⟩
theorem cutP_ix : ∀ n : Fin 256, decide (0 ≤ Lib.indexByte [32, 40, 41, 42, 34] n.val.toUInt8) = !notC n.val.toUInt8 := by decide +kernel
theorem ix5p_any (x : Nat) (hx : x < 256) (b : Bool) (hb : notC x.toUInt8 = !b) (w : World) : Calls Tryz.prog 22 #[.string ⟨#[32, 40, 41, 42, 34]⟩, .int .u8 (x : Int)] w fun e w' => ∃ n : Int, e = .returned (.int .i64 n) ∧ decide (0 ≤ n) = b ∧ w' = w := by
  refine (strings_ix ⟨#[32, 40, 41, 42, 34]⟩ (x : Int) w).mono ?_
  rintro e w' ⟨rfl, rfl⟩
  refine ⟨_, rfl, ?_, rfl⟩
  have h := cutP_ix ⟨x, hx⟩
  rw [hb, Bool.not_not] at h
  exact h
set_option maxRecDepth 100000 in
set_option maxHeartbeats 2000000 in
theorem runs_any (s : ByteArray) (E : Nat) (hE : endW notC s 0 = E) (w : World) (hs : s.size ≤ 1000) : Calls Tryz.prog 116 #[.string s] w fun e w' => e = .returned (.int .i64 (E : Int)) ∧ w' = w := by
  have HE : Hid (endW notC s 0 = E) := hE
  clear hE
  go_enter Tryz.func116, Tryz.ntmps116
  go_wp2
  go_loopw [6] (fun i wr => ∃ j : Nat, j ≤ s.size ∧ i = .int .i64 j ∧ Hid (endW notC s j = E) ∧ wr = w) (fun i _ => s.size - (intOf i).toNat)
  case atStart => exact ⟨0, Nat.zero_le _, rfl, HE, rfl⟩
  case round =>
    clear HE
    obtain ⟨j, hj, rfl, hej, rfl⟩ := hrel
    by_cases hjs : j < s.size
    · have hjs' : (j : Int) < (s.size : Int) := by omega
      obtain ⟨y, hy⟩ : ∃ y, s[j].toNat = y := ⟨_, rfl⟩
      have hyc : s[j] = y.toUInt8 := by rw [← hy]; simp
      obtain ⟨b, hb⟩ : ∃ b, notC y.toUInt8 = !b := ⟨!notC y.toUInt8, by simp⟩
      have HIx : Hid (y < 256 ∧ notC y.toUInt8 = !b) := ⟨by rw [← hy]; exact UInt8.toNat_lt _, hb⟩
      cases b
      · have HE2 : Hid (endW notC s (j + 1) = E) := by show _ = _; rw [← endW_step hjs (by rw [hyc]; exact hb)]; exact hej.out
        clear hej hb hyc
        go_wp2_with fail
        refine (ix5p_any y HIx.out.1 _ HIx.out.2 _).mono ?_
        rintro _ w8 ⟨n8, rfl, hn8, hw8⟩
        subst hw8
        go_wp2
        go_roundw
        case rel => exact ⟨j + 1, by omega, by go_num, HE2, trivial⟩
        case measure => simp [intOf]; omega
      · have e : j = E := by rw [← hej.out, endW_stop hjs (by rw [hyc]; exact hb)]
        subst e
        clear hej hb hyc
        go_wp2_with fail
        refine (ix5p_any y HIx.out.1 _ HIx.out.2 _).mono ?_
        rintro _ w8 ⟨n8, rfl, hn8, hw8⟩
        subst hw8
        go_wp2
        go_ret
        exact ⟨rfl, rfl⟩
    · have hjs' : ¬ (j : Int) < (s.size : Int) := by omega
      obtain rfl : j = s.size := by omega
      have e : s.size = E := by rw [← hej.out, endW_end (Nat.le_refl _)]
      subst e
      clear hej
      go_wp2
      go_ret
      exact ⟨rfl, rfl⟩
end Go.Proofs.YtjgdnainhoipgaaGreatDoor
namespace Go.Proofs.YtjgdnainhoipgaaGreatDoor
open Go.RowKit

theorem results_ct {P : Program} {fn : Func} {p t : Tmp} {ty : TypeId} {v : Value} (h : fn.results = #[.cell p ty, .tmp t]) (tmps : Array Value) (w : World) (a : Addr) (hp : tmps.getD p undef = .pointer (some a)) (hl : (loadVar ty a).run P w = .ok v w) :
    (results fn tmps).run P w = .ok (.tuple #[v, tmps.getD t undef]) w := by
  have hp' : tmps[p]?.getD undef = .pointer (some a) := by simpa [Array.getD_eq_getD_getElem?] using hp
  simp [results, h, hp', asAddr, hl]
/-- what cut tells of a text that is cut so -/
def CutTo (w : World) (L : List ByteArray) (e : Ending) (w' : World) : Prop :=
  ∃ t' : ByteArray, e = .returned (.tuple #[.agg #[.int .i64 (headP L).1, .string (headP L).2], .string t']) ∧ t'.size ≤ 400 ∧ Cuts t'.data.toList L.tail ∧ (∀ x ∈ L.head?, Good x) ∧ Below w.heap.size w w'
theorem tail_one (u : ByteArray) (n : Nat) : (u.extract n u.size).data.toList = u.data.toList.drop n := by
  rw [ba_extract, ← ba_len, List.take_length]
theorem head_of {u : ByteArray} (h : 0 < u.size) : u.data.toList = u[0] :: u.data.toList.drop 1 := by
  have e := drop_at u 0 h
  rwa [List.drop_zero] at e
theorem cut_sign {u : ByteArray} {L : List ByteArray} (h : 0 < u.size) (k : UInt8) (hk : u[0].toNat = k.toNat) (hc : k.toNat = 40 ∨ k.toNat = 41 ∨ k.toNat = 42) (h0 : Cuts u.data.toList L) : ∃ L', L = ⟨#[k]⟩ :: L' ∧ Cuts (u.extract 1 u.size).data.toList L' := by
  have e : u[0] = k := UInt8.toNat_inj.1 hk
  rw [head_of h, e] at h0
  rw [tail_one]
  exact cuts_sign hc h0
theorem cut_quote {u : ByteArray} {L : List ByteArray} (h : 0 < u.size) (hk : u[0].toNat = 34) (h0 : Cuts u.data.toList L) : ∃ n r L', Lib.indexByte (u.extract 1 u.size).data.toList 34 = ((n : Nat) : Int) ∧ n < (u.extract 1 u.size).size ∧ L = ⟨(34 :: r).toArray⟩ :: L' ∧ (u.extract 1 u.size).extract 0 n = ⟨r.toArray⟩ ∧ r.length ≤ u.size ∧ Cuts ((u.extract 1 u.size).extract (n + 1) (u.extract 1 u.size).size).data.toList L' := by
  have e : u[0] = 34 := UInt8.toNat_inj.1 hk
  rw [head_of h, e] at h0
  obtain ⟨h1, L', h2, h3⟩ := cuts_quote (by rfl) h0
  have hs : (u.extract 1 u.size).size = (u.data.toList.drop 1).length := by rw [← ba_len, tail_one]
  refine ⟨((u.data.toList.drop 1).takeWhile notQ).length, (u.data.toList.drop 1).takeWhile notQ, L', ?_, by omega, h2, ?_, ?_, ?_⟩
  · rw [tail_one]; exact ix_at _ h1
  · apply ba_ext
    rw [ba_extract, List.drop_zero, tail_one, take_while]
  · rw [List.length_drop, ba_len] at h1; omega
  · rw [tail_one, tail_one]; exact h3
theorem cut_run {u : ByteArray} {L : List ByteArray} (h : 0 < u.size) (hk : notC u[0] = true) (h0 : Cuts u.data.toList L) : ∃ E c r L', endW notC u 0 = E ∧ E ≤ u.size ∧ L = ⟨(c :: r).toArray⟩ :: L' ∧ u.extract 0 E = ⟨(c :: r).toArray⟩ ∧ r.length < u.size ∧ (∀ d ∈ c :: r, notC d = true) ∧ Cuts (u.extract E u.size).data.toList L' := by
  rw [head_of h] at h0
  obtain ⟨L', h2, h3⟩ := cuts_run hk h0
  have hE : endW notC u 0 = 0 + 1 + ((u.data.toList.drop 1).takeWhile notC).length := endW_step h hk
  have hle := endW_le (p := notC) (s := u) (k := 0) (Nat.zero_le _)
  refine ⟨_, u[0], (u.data.toList.drop 1).takeWhile notC, L', rfl, hle, h2, ?_, ?_, ?_, ?_⟩
  · rw [hE]; exact ext_take u 0 _ h _ (take_while _ _)
  · rw [hE] at hle; omega
  · intro d hd
    rcases List.mem_cons.1 hd with rfl | hd
    · exact hk
    · have := List.all_takeWhile (p := notC) (l := u.data.toList.drop 1)
      rw [List.all_eq_true] at this
      exact this d hd
  · rw [tail_one, hE]
    rw [List.drop_drop] at h3
    exact h3
theorem trim_as (t u : ByteArray) (hu : (⟨(t.data.toList.dropWhile (· == 32)).toArray⟩ : ByteArray) = u) (w : World) (hs : t.size ≤ 400) : Calls Tryz.prog 115 #[.string t, .string ⟨#[32]⟩] w fun e w' => e = .returned (.string u) ∧ w' = w := by
  rw [← hu]; exact trim_any t w (by omega)
theorem trim_le (t : ByteArray) : (⟨(t.data.toList.dropWhile (· == 32)).toArray⟩ : ByteArray).size ≤ t.size := by
  have h := (List.dropWhile_sublist (· == 32) (l := t.data.toList)).length_le
  rw [ba_len] at h
  rw [← ba_len]; exact h
theorem first_no {u : ByteArray} (h : 0 < u.size) (L : List UInt8) (hu : u.data.toList = L.dropWhile (· == 32)) : u[0].toNat ≠ 32 := by
  intro e
  have e0 : u[0] = 32 := UInt8.toNat_inj.1 e
  have h1 := head_of h
  rw [e0, hu] at h1
  have h2 := List.head?_dropWhile_not (· == 32) L
  rw [h1] at h2
  simp at h2

set_option maxRecDepth 100000 in
set_option maxHeartbeats 4000000 in
theorem cut_any (t : ByteArray) (L : List ByteArray) (w : World) (ht : t.size ≤ 400) (hc : Cuts t.data.toList L) : Calls Tryz.prog 74 #[.string t] w fun e w' => CutTo w L e w' := by
  obtain ⟨u, hu⟩ : ∃ u : ByteArray, (⟨(t.data.toList.dropWhile (· == 32)).toArray⟩ : ByteArray) = u := ⟨_, rfl⟩
  have hus : u.size ≤ 400 := by rw [← hu]; exact Nat.le_trans (trim_le t) ht
  have hul : u.data.toList = t.data.toList.dropWhile (· == 32) := by rw [← hu]
  have HC : Hid (Cuts u.data.toList L) := by
    show Cuts _ _
    rw [hul]; exact cuts_trim hc
  have HT : Hid (⟨(t.data.toList.dropWhile (· == 32)).toArray⟩ = u) := hu
  clear hc hu
  by_cases h0 : u.size = 0
  · have e0 : u = ⟨#[]⟩ := ba_ext (by rw [trim_nil h0])
    have HL : Hid (L = []) := cuts_nil (by have := HC.out; rwa [trim_nil h0] at this)
    subst e0
    clear h0 hul
    go_enter Tryz.func74, Tryz.ntmps74
    go_wp2_with (go_at_call 115; refine (trim_as t _ HT.out _ ht).mono ?_; rintro e w' ⟨rfl, rfl⟩)
    refine bodyPost_ret (v := .tuple #[.agg #[.int .i64 0, .string ⟨#[]⟩], .string ⟨#[]⟩]) (results_ct Tryz.results74 _ _ _ rfl ?_) rfl ?_
    · simp [go_sem]
    rw [HL.out]
    exact ⟨⟨#[]⟩, rfl, by decide, cuts_nil_mk, (fun x h => by cases h), (Below.refl _ _).alloc (Nat.le_refl _) _⟩
  · have h1 : 0 < u.size := by omega
    have d0 : (u.toList == []) = false := by
      rw [ByteArray.toList_eq, beq_eq_false_iff_ne]
      intro e
      have := congrArg List.length e
      rw [ba_len] at this
      exact h0 this
    have hn32 := first_no h1 _ hul
    obtain ⟨x, hx⟩ : ∃ x, u[0].toNat = x := ⟨_, rfl⟩
    clear hul
    by_cases x40 : x = 40
    · obtain ⟨L', hL, hC⟩ := cut_sign h1 40 (by rw [hx, x40]; rfl) (by decide) HC.out
      have HL : Hid (L = tOpen :: L' ∧ Cuts (u.extract 1 u.size).data.toList L') := ⟨hL, hC⟩
      have j1 : ((x : Int) == 40) = true := by simp; omega
      clear hL hC HC hn32 x40
      go_enter Tryz.func74, Tryz.ntmps74
      go_wp2_with (go_at_call 115; refine (trim_as t _ HT.out _ ht).mono ?_; rintro e w' ⟨rfl, rfl⟩)
      go_region
      go_wp2
      refine bodyPost_ret (v := .tuple #[.agg #[.int .i64 1, .string ⟨#[]⟩], .string (u.extract 1 u.size)]) (results_ct Tryz.results74 _ _ _ rfl ?_) rfl ?_
      · simp [go_sem]
      rw [HL.out.1]
      exact ⟨u.extract 1 u.size, rfl, by simp; omega, HL.out.2, (fun x h => by cases h; exact .opens), ((Below.refl _ _).alloc (Nat.le_refl _) _).drew⟩
    by_cases x41 : x = 41
    · obtain ⟨L', hL, hC⟩ := cut_sign h1 41 (by rw [hx, x41]; rfl) (by decide) HC.out
      have HL : Hid (L = tShut :: L' ∧ Cuts (u.extract 1 u.size).data.toList L') := ⟨hL, hC⟩
      have j1 : ((x : Int) == 40) = false := by simp; omega
      have j2 : ((x : Int) == 41) = true := by simp; omega
      clear hL hC HC hn32 x41
      go_enter Tryz.func74, Tryz.ntmps74
      go_wp2_with (go_at_call 115; refine (trim_as t _ HT.out _ ht).mono ?_; rintro e w' ⟨rfl, rfl⟩)
      go_region
      go_wp2
      refine bodyPost_ret (v := .tuple #[.agg #[.int .i64 2, .string ⟨#[]⟩], .string (u.extract 1 u.size)]) (results_ct Tryz.results74 _ _ _ rfl ?_) rfl ?_
      · simp [go_sem]
      rw [HL.out.1]
      exact ⟨u.extract 1 u.size, rfl, by simp; omega, HL.out.2, (fun x h => by cases h; exact .shuts), ((Below.refl _ _).alloc (Nat.le_refl _) _).drew⟩
    by_cases x42 : x = 42
    · obtain ⟨L', hL, hC⟩ := cut_sign h1 42 (by rw [hx, x42]; rfl) (by decide) HC.out
      have HL : Hid (L = tStar :: L' ∧ Cuts (u.extract 1 u.size).data.toList L') := ⟨hL, hC⟩
      have j1 : ((x : Int) == 40) = false := by simp; omega
      have j2 : ((x : Int) == 41) = false := by simp; omega
      have j3 : ((x : Int) == 42) = true := by simp; omega
      clear hL hC HC hn32 x42
      go_enter Tryz.func74, Tryz.ntmps74
      go_wp2_with (go_at_call 115; refine (trim_as t _ HT.out _ ht).mono ?_; rintro e w' ⟨rfl, rfl⟩)
      go_region
      go_wp2
      refine bodyPost_ret (v := .tuple #[.agg #[.int .i64 3, .string ⟨#[]⟩], .string (u.extract 1 u.size)]) (results_ct Tryz.results74 _ _ _ rfl ?_) rfl ?_
      · simp [go_sem]
      rw [HL.out.1]
      exact ⟨u.extract 1 u.size, rfl, by simp; omega, HL.out.2, (fun x h => by cases h; exact .star), ((Below.refl _ _).alloc (Nat.le_refl _) _).drew⟩
    have j1 : ((x : Int) == 40) = false := by simp; omega
    have j2 : ((x : Int) == 41) = false := by simp; omega
    have j3 : ((x : Int) == 42) = false := by simp; omega
    by_cases x34 : x = 34
    · obtain ⟨n, r, L', q1, q2, hL, q3, q4, hC⟩ := cut_quote h1 (by rw [hx, x34]) HC.out
      have HL : Hid (L = ⟨(34 :: r).toArray⟩ :: L' ∧ Cuts ((u.extract 1 u.size).extract (n + 1) (u.extract 1 u.size).size).data.toList L') := ⟨hL, hC⟩
      have HQ : Hid (Lib.indexByte (u.extract 1 u.size).data.toList 34 = ((n : Nat) : Int) ∧ (u.extract 1 u.size).extract 0 n = ⟨r.toArray⟩) := ⟨q1, q3⟩
      have j4 : ((x : Int) == 34) = true := by simp; omega
      have hu1 : (u.extract 1 u.size).size ≤ 400 := by simp; omega
      have HB : Hid (r.length ≤ 400) := Nat.le_trans q4 hus
      clear hL hC HC hn32 x34 q1 q3 q4 x40 x41 x42
      go_enter Tryz.func74, Tryz.ntmps74
      go_wp2_with first | (go_at_call 115; refine (trim_as t _ HT.out _ ht).mono ?_; rintro e w' ⟨rfl, rfl⟩) | (go_at_call 62; refine (strCut_any _ n _ (by omega) HQ.out.1 q2).mono ?_; rintro e w' ⟨rfl, m, rfl⟩; rw [HQ.out.2])
      have e1 : (u.extract 1 u.size).size = u.size - 1 := by simp
      refine bodyPost_ret (v := .tuple #[.agg #[.int .i64 4, .string ⟨r.toArray⟩], .string ((u.extract 1 u.size).extract (n + 1) (u.size - 1))]) (results_ct Tryz.results74 _ _ _ rfl ?_) rfl ?_
      · simp [go_sem]
      have h2 := HL.out.2
      rw [e1] at h2
      rw [HL.out.1]
      refine ⟨(u.extract 1 u.size).extract (n + 1) (u.size - 1), ?_, by simp; omega, h2, (fun x h => by cases h; exact .quoted r HB.out), ((below_drewN ((Below.refl _ _).alloc (Nat.le_refl _) _) m).setCell (Nat.le_refl _) _).setCell (Nat.le_refl _) _⟩
      rw [headP, kind_quoted]
    · have hc0 : notC u[0] = true := notC_of hn32 (by rw [hx]; omega) (by rw [hx]; exact x34)
      obtain ⟨E, c, r, L', q1, q2, hL, q3, q4, q5, hC⟩ := cut_run h1 hc0 HC.out
      have HL : Hid (L = ⟨(c :: r).toArray⟩ :: L' ∧ Cuts (u.extract E u.size).data.toList L' ∧ u.extract 0 E = ⟨(c :: r).toArray⟩) := ⟨hL, hC, q3⟩
      have HQ : Hid (endW notC u 0 = E ∧ r.length < 400 ∧ ∀ d ∈ c :: r, notC d = true) := ⟨q1, Nat.lt_of_lt_of_le q4 hus, q5⟩
      have j4 : ((x : Int) == 34) = false := by simp; omega
      have c1 : (E : Int) ≤ (u.size : Int) := by omega
      clear hL hC HC hn32 x34 q1 q3 q4 q5 x40 x41 x42 hc0
      go_enter Tryz.func74, Tryz.ntmps74
      go_wp2_with first | (go_at_call 115; refine (trim_as t _ HT.out _ ht).mono ?_; rintro e w' ⟨rfl, rfl⟩) | (go_at_call 116; refine (runs_any _ E HQ.out.1 _ (by omega)).mono ?_; rintro e w' ⟨rfl, rfl⟩)
      go_region
      go_wp2
      refine bodyPost_ret (v := .tuple #[.agg #[.int .i64 5, .string (u.extract 0 E)], .string (u.extract E u.size)]) (results_ct Tryz.results74 _ _ _ rfl ?_) rfl ?_
      · simp [go_sem]
      rw [HL.out.1]
      refine ⟨u.extract E u.size, ?_, by simp; omega, HL.out.2.1, (fun x h => by cases h; exact .run c r HQ.out.2.1 HQ.out.2.2), ((Below.refl _ _).alloc (Nat.le_refl _) _).drew⟩
      rw [headP, kind_run (HQ.out.2.2 c (by simp)), HL.out.2.2]
end Go.Proofs.YtjgdnainhoipgaaGreatDoor
namespace Go.Proofs.YtjgdnainhoipgaaGreatDoor
open Go.RowKit

/-- block A is the reader: this piece stands there, the rest is cut so -/
def Rd0 (A : Nat) (k : Int) (x : ByteArray) (L : List ByteArray) (w : World) : Prop :=
  (w.cell? ⟨A, 0, none⟩ = some (.int .i64 k) ∧ w.cell? ⟨A, 1, none⟩ = some (.string x) ∧ ∃ t : ByteArray, w.cell? ⟨A, 2, none⟩ = some (.string t) ∧ t.size ≤ 400 ∧ Cuts t.data.toList L) ∧ (w.frozen? ⟨A, 0, none⟩ = false ∧ w.frozen? ⟨A, 1, none⟩ = false ∧ w.frozen? ⟨A, 2, none⟩ = false) ∧ A < w.heap.size ∧ 0 < A ∧ EndsAt w
/-- .. these pieces are left -/
def Rd (A : Nat) (l : List ByteArray) (w : World) : Prop := Rd0 A (headP l).1 (headP l).2 l.tail w ∧ ∀ x ∈ l.head?, Good x

theorem EndsAt.grown {w w' : World} {A : Nat} (h : EndsAt w) (hg : w.grownBy w' (some A)) (hA : 0 < A) : EndsAt w' := by
  have hlt : 0 < w.heap.size := by
    have := h.1
    by_cases hh : 0 < w.heap.size
    · exact hh
    · rw [World.cell?] at this
      simp [Array.getElem?_eq_none (Nat.le_of_not_lt hh)] at this
  have key : ∀ o, w'.cell? ⟨0, o, none⟩ = w.cell? ⟨0, o, none⟩ := fun o => World.cell?_of_block (w := w) (a := ⟨0, o, none⟩) (hg.block 0 hlt (fun e => by cases e; omega))
  unfold EndsAt at *
  simp only [key]
  exact h
theorem Rd0.below {A : Nat} {k : Int} {x : ByteArray} {L : List ByteArray} {w w' : World} (h : Rd0 A k x L w) (hb : Below w.heap.size w w') : Rd0 A k x L w' := by
  obtain ⟨⟨h1, h2, t, h3, h4, h5⟩, ⟨f1, f2, f3⟩, hA, hE, he⟩ := h
  have hs := hb.size
  have fr : ∀ o, w'.frozen? ⟨A, o, none⟩ = w.frozen? ⟨A, o, none⟩ := fun o => World.frozen?_of_block (w := w) (a := ⟨A, o, none⟩) (hb.block A hA)
  exact ⟨⟨by rw [hb.cell (p := ⟨A, _, none⟩) hA]; exact h1, by rw [hb.cell (p := ⟨A, _, none⟩) hA]; exact h2, t, by rw [hb.cell (p := ⟨A, _, none⟩) hA]; exact h3, h4, h5⟩, ⟨by rw [fr]; exact f1, by rw [fr]; exact f2, by rw [fr]; exact f3⟩, by omega, hE, he.below hb⟩
theorem Rd.below {A : Nat} {l : List ByteArray} {w w' : World} (h : Rd A l w) (hb : Below w.heap.size w w') : Rd A l w' := ⟨h.1.below hb, h.2⟩
/-- the reader's three cells, laid anew -/
theorem Rd0.set {A : Nat} {k k' : Int} {x x' : ByteArray} {L L' : List ByteArray} {w : World} (h : Rd0 A k x L w) (t : ByteArray) (ht : t.size ≤ 400) (hc : Cuts t.data.toList L') :
    Rd0 A k' x' L' (((w.setCell ⟨A, 0, none⟩ (.int .i64 k')).setCell ⟨A, 1, none⟩ (.string x')).setCell ⟨A, 2, none⟩ (.string t)) ∧ w.grownBy (((w.setCell ⟨A, 0, none⟩ (.int .i64 k')).setCell ⟨A, 1, none⟩ (.string x')).setCell ⟨A, 2, none⟩ (.string t)) (some A) := by
  obtain ⟨⟨h1, h2, t0, h3, h4, h5⟩, ⟨f1, f2, f3⟩, hA, hE, he⟩ := h
  have g := ((grownA_set w A 0 (.int .i64 k')).trans (grownA_set _ A 1 (.string x'))).trans (grownA_set _ A 2 (.string t))
  refine ⟨⟨⟨?_, ?_, t, ?_, ht, hc⟩, ⟨?_, ?_, ?_⟩, ?_, hE, he.grown g hE⟩, g⟩
  · rw [World.cell?_setCell_other _ _ _ _ (fun e => by cases e), World.cell?_setCell_other _ _ _ _ (fun e => by cases e)]
    exact World.cell?_setCell_same _ _ _ h1
  · rw [World.cell?_setCell_other _ _ _ _ (fun e => by cases e)]
    exact World.cell?_setCell_same _ _ _ (by rw [World.cell?_setCell_other _ _ _ _ (fun e => by cases e)]; exact h2)
  · exact World.cell?_setCell_same _ _ _ (by rw [World.cell?_setCell_other _ _ _ _ (fun e => by cases e), World.cell?_setCell_other _ _ _ _ (fun e => by cases e)]; exact h3)
  · rw [World.frozen?_setCell, World.frozen?_setCell, World.frozen?_setCell]; exact f1
  · rw [World.frozen?_setCell, World.frozen?_setCell, World.frozen?_setCell]; exact f2
  · rw [World.frozen?_setCell, World.frozen?_setCell, World.frozen?_setCell]; exact f3
  · simpa [World.setCell] using hA

theorem Rd0.other {A : Nat} {k : Int} {x : ByteArray} {L : List ByteArray} {w : World} (h : Rd0 A k x L w) (b o : Nat) (v : Value) (hb : b ≠ A) (hb2 : b ≠ 0) : Rd0 A k x L (w.setCell ⟨b, o, none⟩ v) := by
  obtain ⟨⟨h1, h2, t, h3, h4, h5⟩, ⟨f1, f2, f3⟩, hA, hE, he⟩ := h
  have key : ∀ i, (w.setCell ⟨b, o, none⟩ v).cell? ⟨A, i, none⟩ = w.cell? ⟨A, i, none⟩ := fun i => World.cell?_of_block (w := w) (a := ⟨A, i, none⟩) (Below.heap_setCell w ⟨b, o, none⟩ v A (fun e => hb (by simpa using e.symm)))
  have keyE : ∀ i, (w.setCell ⟨b, o, none⟩ v).cell? ⟨0, i, none⟩ = w.cell? ⟨0, i, none⟩ := fun i => World.cell?_of_block (w := w) (a := ⟨0, i, none⟩) (Below.heap_setCell w ⟨b, o, none⟩ v 0 (fun e => hb2 (by simpa using e.symm)))
  refine ⟨⟨by rw [key]; exact h1, by rw [key]; exact h2, t, by rw [key]; exact h3, h4, h5⟩, ⟨?_, ?_, ?_⟩, by simpa [World.setCell] using hA, hE, ?_⟩
  · rw [World.frozen?_setCell]; exact f1
  · rw [World.frozen?_setCell]; exact f2
  · rw [World.frozen?_setCell]; exact f3
  · unfold EndsAt at *
    simp only [keyE]
    exact he
theorem grown_new {w w' : World} {A : Nat} (h : w.grownBy w' (some A)) {b : Nat} (hb : w.heap.size ≤ b) (o : Nat) (v : Value) : w.grownBy (w'.setCell ⟨b, o, none⟩ v) (some A) :=
  ⟨h.os, h.tape, h.output, by have := h.size; simpa [World.setCell] using this, fun k hk hne => (Below.heap_setCell w' ⟨b, o, none⟩ v k (fun e => by simp only at e; omega)).trans (h.block k hk hne)⟩
theorem results_c {P : Program} {fn : Func} {p : Tmp} {ty : TypeId} {v : Value} (h : fn.results = #[.cell p ty]) (tmps : Array Value) (w : World) (a : Addr) (hp : tmps.getD p undef = .pointer (some a)) (hl : (loadVar ty a).run P w = .ok v w) :
    (results fn tmps).run P w = .ok v w := by
  have hp' : tmps[p]?.getD undef = .pointer (some a) := by simpa [Array.getD_eq_getD_getElem?] using hp
  simp [results, h, hp', asAddr, hl]

set_option maxRecDepth 100000 in
set_option maxHeartbeats 4000000 in
theorem take0_any (A : Nat) (k : Int) (x : ByteArray) (L : List ByteArray) (w : World) (h : Rd0 A k x L w) : Calls Tryz.prog 44 #[.pointer (some ⟨A, 0, none⟩)] w fun e w' => e = .returned (.agg #[.int .i64 k, .string x]) ∧ Rd A L w' ∧ w.grownBy w' (some A) := by
  have H : Hid (Rd0 A k x L w) := h
  obtain ⟨⟨h1, h2, t, h3, h4, h5⟩, ⟨f1, f2, f3⟩, hA, hE, he⟩ := h
  have HC : Hid (Cuts t.data.toList L) := h5
  clear h5 he
  go_enter Tryz.func44, Tryz.ntmps44
  go_wp2_with fail
  refine (cut_any t L _ h4 HC.out).mono ?_
  rintro _ w1 ⟨t1, rfl, ht1, hc1, hg1, hb1⟩
  have hs1 := hb1.size
  simp only [World.size_alloc] at hs1
  have HBw : Hid (Below w.heap.size w w1) := (((Below.refl w.heap.size w).alloc (Nat.le_refl _) _).alloc (by simp) _).trans (hb1.mono (by simp; omega))
  have H1 : Hid (Rd0 A k x L w1) := H.out.below HBw.out
  have H2 : Hid (t1.size ≤ 400 ∧ Cuts t1.data.toList L.tail ∧ ∀ x ∈ L.head?, Good x) := ⟨ht1, hc1, hg1⟩
  have p0 : w1.cell? ⟨w.heap.size + 1, 0, none⟩ = some (.int .i64 k) := by rw [hb1.cell (p := ⟨w.heap.size + 1, 0, none⟩) (by simp)]; simp [go_sem]
  have p1 : w1.cell? ⟨w.heap.size + 1, 1, none⟩ = some (.string x) := by rw [hb1.cell (p := ⟨w.heap.size + 1, 1, none⟩) (by simp)]; simp [go_sem]
  have r0 : w1.cell? ⟨w.heap.size, 0, none⟩ = some (.int .i64 0) := by rw [hb1.cell (p := ⟨w.heap.size, 0, none⟩) (by simp; omega)]; simp [go_sem]
  have r1 : w1.cell? ⟨w.heap.size, 1, none⟩ = some (.string ⟨#[]⟩) := by rw [hb1.cell (p := ⟨w.heap.size, 1, none⟩) (by simp; omega)]; simp [go_sem]
  have z0 : w1.frozen? ⟨w.heap.size, 0, none⟩ = false := by rw [World.frozen?_of_block (a := ⟨w.heap.size, 0, none⟩) (hb1.block w.heap.size (by simp; omega))]; simp [go_sem]
  have z1 : w1.frozen? ⟨w.heap.size, 1, none⟩ = false := by rw [World.frozen?_of_block (a := ⟨w.heap.size, 1, none⟩) (hb1.block w.heap.size (by simp; omega))]; simp [go_sem]
  obtain ⟨⟨k1, k2, _, k3, _, _⟩, ⟨q1, q2, q3⟩, _, _, _⟩ := H1.out
  have hAn : ¬ A = w.heap.size := by omega
  have hAn' : ¬ A = w.heap.size + 1 := by omega
  clear ht1 hc1 hg1 hb1 h1 h2 h3 f1 f2 f3
  go_wp2
  refine bodyPost_ret (v := .agg #[.int .i64 k, .string x]) (results_c Tryz.results44 _ _ _ rfl ?_) rfl ?_
  · simp [go_sem, r0, r1]
  have S := Rd0.set (k' := (headP L).1) (x' := (headP L).2) (L' := L.tail) H1.out t1 H2.out.1 H2.out.2.1
  refine ⟨rfl, ⟨(S.1.other _ _ _ (by omega) (by omega)).other _ _ _ (by omega) (by omega), H2.out.2.2⟩, ?_⟩
  exact grown_new (grown_new ((grown_of_belowA HBw.out _).trans S.2) (Nat.le_refl _) _ _) (Nat.le_refl _) _ _
end Go.Proofs.YtjgdnainhoipgaaGreatDoor
namespace Go.Proofs.YtjgdnainhoipgaaGreatDoor
open Go.RowKit

theorem take_any (A : Nat) (l : List ByteArray) (w : World) (h : Rd A l w) : Calls Tryz.prog 44 #[.pointer (some ⟨A, 0, none⟩)] w fun e w' => e = .returned (.agg #[.int .i64 (headP l).1, .string (headP l).2]) ∧ Rd A l.tail w' ∧ w.grownBy w' (some A) := take0_any A _ _ _ w h.1
/-- what stands there is a run, just so written -/
theorem head_is {l : List ByteArray} (hg : ∀ x ∈ l.head?, Good x) {x : ByteArray} (hx : kindT x = (5, x)) (hn : x ≠ tNone) : (decide ((headP l).1 = 5) && decide ((headP l).2 = x)) = decide ((⟨l, 0⟩ : Rst).peek = x) := by
  cases l with
  | nil =>
    have : ¬ (⟨[], 0⟩ : Rst).peek = x := fun e => hn e.symm
    rw [decide_eq_false this]; rfl
  | cons y r =>
    have hp : (⟨y :: r, 0⟩ : Rst).peek = y := rfl
    rw [hp]
    have hy : Good y := hg y rfl
    have key : ∀ k t, k ≠ (5 : Int) → kindT y = (k, t) → (decide ((headP (y :: r)).1 = 5) && decide ((headP (y :: r)).2 = x)) = decide (y = x) := by
      intro k t hk e
      have : ¬ y = x := fun e' => by
        rw [e', hx] at e
        exact hk (congrArg Prod.fst e).symm
      rw [decide_eq_false this, headP, e, decide_eq_false (show ¬ (k, t).1 = 5 from hk)]; rfl
    cases hy with
    | opens => exact key 1 _ (by decide) rfl
    | shuts => exact key 2 _ (by decide) rfl
    | star => exact key 3 _ (by decide) rfl
    | quoted r' _ => exact key 4 _ (by decide) (kind_quoted r')
    | run c r' _ h =>
      rw [headP, kind_run (h c (by simp))]
      simp
theorem kind_or : kindT tOr = (5, tOr) := by decide
theorem kind_and : kindT tAnd = (5, tAnd) := by decide
theorem kind_not : kindT tNot = (5, tNot) := by decide
theorem kind_near : kindT tNear = (5, tNear) := by decide

set_option maxHeartbeats 2000000 in
theorem signN_any (A : Nat) (l : List ByteArray) (x : ByteArray) (w : World) (h : Rd A l w) (hx : kindT x = (5, x)) (hn : x ≠ tNone) (hp : (⟨l, 0⟩ : Rst).peek ≠ x) : Calls Tryz.prog 76 #[.pointer (some ⟨A, 0, none⟩), .string x] w fun e w' => e = .returned (.bool false) ∧ Rd A l w' ∧ w.grownBy w' (some A) := by
  have H : Hid (Rd A l w) := h
  have HB : Hid ((decide ((headP l).1 = 5) && decide ((headP l).2 = x)) = false) := by
    show _ = _
    rw [head_is h.2 hx hn, decide_eq_false hp]
  obtain ⟨⟨⟨h1, h2, _⟩, _⟩, _⟩ := h
  clear hx hn hp
  go_enter Tryz.func76, Tryz.ntmps76
  go_wp2_with fail
  refine (isP_any _ _ x _ HB.out w).mono ?_
  rintro _ w1 ⟨rfl, hb1⟩
  have H1 : Hid (Rd A l w1 ∧ w.grownBy w1 (some A)) := ⟨H.out.below hb1, grown_of_belowA hb1 _⟩
  clear hb1 h1 h2
  go_wp2
  go_ret
  exact ⟨rfl, H1.out.1, H1.out.2⟩
set_option maxHeartbeats 2000000 in
theorem signY_any (A : Nat) (l : List ByteArray) (x : ByteArray) (w : World) (h : Rd A l w) (hx : kindT x = (5, x)) (hn : x ≠ tNone) (hp : (⟨l, 0⟩ : Rst).peek = x) : Calls Tryz.prog 76 #[.pointer (some ⟨A, 0, none⟩), .string x] w fun e w' => e = .returned (.bool true) ∧ Rd A l.tail w' ∧ w.grownBy w' (some A) := by
  have H : Hid (Rd A l w) := h
  have HB : Hid ((decide ((headP l).1 = 5) && decide ((headP l).2 = x)) = true) := by
    show _ = _
    rw [head_is h.2 hx hn, decide_eq_true hp]
  obtain ⟨⟨⟨h1, h2, _⟩, _⟩, _⟩ := h
  clear hx hn hp
  go_enter Tryz.func76, Tryz.ntmps76
  go_wp2_with fail
  refine (isP_any _ _ x _ HB.out w).mono ?_
  rintro _ w1 ⟨rfl, hb1⟩
  have H1 : Hid (Rd A l w1 ∧ w.grownBy w1 (some A)) := ⟨H.out.below hb1, grown_of_belowA hb1 _⟩
  clear hb1 h1 h2
  go_wp2_with fail
  refine (take_any A l w1 H1.out.1).mono ?_
  rintro _ w2 ⟨rfl, hr2, hg2⟩
  have H2 : Hid (Rd A l.tail w2 ∧ w.grownBy w2 (some A)) := ⟨hr2, H1.out.2.trans hg2⟩
  clear hr2 hg2 H1
  go_wp2
  go_ret
  exact ⟨rfl, H2.out.1, H2.out.2⟩

set_option maxHeartbeats 2000000 in
theorem plainY_any (x y : ByteArray) (w : World) (hx : x.size ≤ 1000) (he : EndsAt w) (hw : wordsL x.data.toList = [y]) : Calls Tryz.prog 158 #[.string x] w fun e w' => e = .returned (.string y) ∧ Below w.heap.size w w' := by
  have HW : Hid (wordsL x.data.toList = [y]) := hw
  have HE : Hid (EndsAt w) := he
  clear hw he
  go_enter Tryz.func158, Tryz.ntmps158
  go_wp2_with fail
  refine (split_any x w (by omega) HE.out).mono ?_
  rintro _ w1 ⟨v1, rfl, ho1, hb1⟩
  rw [HW.out] at ho1
  have HB1 : Hid (Below w.heap.size w w1) := hb1
  rcases ho1.2 with ⟨_, h0⟩ | ⟨g, cap, cur, rfl, _⟩
  · cases h0
  have hc := ho1.cells (g := g) rfl 0 (.string y) (by simp [sc])
  rw [Go.WideShapes.add_plain] at hc
  simp only [Nat.add_zero] at hc
  clear ho1 hb1
  go_wp2_with (go_at_call 42; refine (must_yes _).mono ?_; rintro _ _ ⟨rfl, rfl⟩)
  go_ret
  exact ⟨rfl, HB1.out⟩
set_option maxHeartbeats 2000000 in
theorem plainN_any (x : ByteArray) (w : World) (hx : x.size ≤ 1000) (he : EndsAt w) (hw : (wordsL x.data.toList).length ≠ 1) : Calls Tryz.prog 158 #[.string x] w fun e w' => e = .panicked [{ v := .iface 104 (.agg #[.int .i64 3]), recovered := false }] ∧ Below w.heap.size w w' := by
  obtain ⟨ws, hws⟩ : ∃ ws, wordsL x.data.toList = ws := ⟨_, rfl⟩
  rw [hws] at hw
  have HW : Hid (wordsL x.data.toList = ws) := hws
  have hwl : ws.length ≤ 1001 := by rw [← hws]; have := words_length x.data.toList; rw [ba_len] at this; omega
  have HE : Hid (EndsAt w) := he
  clear hws he
  go_enter Tryz.func158, Tryz.ntmps158
  go_wp2_with fail
  refine (split_any x w (by omega) HE.out).mono ?_
  rintro _ w1 ⟨v1, rfl, ho1, hb1⟩
  rw [HW.out] at ho1
  have HB1 : Hid (Below w.heap.size w w1) := hb1
  obtain ⟨a, cap, rfl⟩ : ∃ a cap, v1 = .slice a ws.length cap := by
    rcases ho1.2 with ⟨rfl, h0⟩ | ⟨g, cap, cur, rfl, _⟩
    · exact ⟨none, 0, by rw [h0]⟩
    · exact ⟨_, cap, rfl⟩
  clear ho1 hb1
  obtain ⟨n, hn⟩ : ∃ n, ws.length = n := ⟨_, rfl⟩
  rw [hn] at hw hwl ⊢
  have d1 : ((n : Int) == 1) = false := by simp; omega
  go_wp2_with (go_at_call 42; refine (must_no _).mono ?_; rintro _ _ ⟨rfl, rfl⟩)
  exact ⟨rfl, rfl, HB1.out⟩
end Go.Proofs.YtjgdnainhoipgaaGreatDoor
