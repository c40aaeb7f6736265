/- What the second statement's walk leans on. -/
import Derived.Test.YthmladfoaajklaaDoorWritten
import Derived.Test.YthmladfoaajklaaDoorPage2
namespace Go.Proofs.YthmladfoaajklaaDoor
open Go.RowKit Go.Maps

theorem pageOf_size2 (n : Int) : (pageOf n).size = 1024 := by
  unfold pageOf
  rw [ByteArray.size_append, rep_size, rep_size]
  omega

/-- what was written last, in a map: each is there -/
structure Last (pg : Nat → ByteArray) (D : DataW Unit) : Prop where
  isMap : IsMap D
  yes : ∀ x : Int, Maps.has D (.int .i64 x) = true → ∃ k : Nat, x = k ∧ k < 4001 ∧ ∀ z, D.atKey (.int .i64 x) z = .lit (.string (pg k).data.toList)

theorem Last.put {pg pg' : Nat → ByteArray} {D : DataW Unit} (h : Last pg D) (k : Nat) (hk : k < 4001) (hs : ∀ i, i ≠ k → pg' i = pg i) : Last pg' (D.put (.int .i64 k) (.lit (.string (pg' k).data.toList))) := by
  refine ⟨h.isMap.put _ _, fun x hx => ?_⟩
  by_cases e : x = (k : Int)
  · subst e
    exact ⟨k, rfl, hk, fun z => atKey_put_same h.isMap (isKey k) _ z⟩
  · have hne : (Lit.int .i64 x) ≠ .int .i64 (k : Int) := fun e2 => e (by injection e2)
    rw [has_put_other hne] at hx
    obtain ⟨j, rfl, hj, ha⟩ := h.yes x hx
    refine ⟨j, rfl, hj, fun z => ?_⟩
    rw [atKey_put_other hne, ha z, hs j (fun e3 => e (by rw [e3]))]

/-- a disk, and what was written last, in a round -/
structure EnvT (w : World) (bd bm n : Nat) (s : St) (D : DataW Unit) (W : World) : Prop where
  prg : Prg bd s W
  own : W.ownsMap Tryd.prog 3 (plainElem Tryd.prog 9) bm n D
  below : Below w.heap.size w W
  hg : HG W
  hd : w.heap.size ≤ bd
  hm : w.heap.size ≤ bm
  ne : bd ≠ bm

section
variable {w : World} {bd bm n : Nat} {s : St} {D : DataW Unit} {W W' : World}
theorem EnvT.step (h : EnvT w bd bm n s D W) (hb : Below W.heap.size W W') : EnvT w bd bm n s D W' :=
  ⟨DiskIs.below h.prg hb, h.own.kept (grown_of_below hb none) (by simp), h.below.trans (hb.mono h.below.size), h.hg.below hb h.hg.lt, h.hd, h.hm, h.ne⟩
theorem EnvT.drew (h : EnvT w bd bm n s D W) : EnvT w bd bm n s D W.drew := ⟨DiskIs.drew h.prg, h.own.drew, h.below.drew, h.hg, h.hd, h.hm, h.ne⟩
theorem EnvT.drewN (h : EnvT w bd bm n s D W) (m : Nat) : EnvT w bd bm n s D (W.drewN m) := ⟨DiskIs.block h.prg rfl, h.own.kept (row := none) ⟨rfl, rfl, rfl, Nat.le_refl _, fun _ _ _ => rfl⟩ (by simp), below_drewN h.below m, h.hg, h.hd, h.hm, h.ne⟩
theorem EnvT.wrote (h : EnvT w bd bm n s D W) {s' : St} (hw : HG w) (hp : Prg bd s' W') (hg : W.grownBy W' (some bd)) : EnvT w bd bm n s' D W' := by
  have hb := h.below.grown hg h.below.size (fun k e => by cases e; exact h.hd)
  exact ⟨hp, h.own.kept hg (fun e => h.ne (by cases e; rfl)), hb, hg_of hw hb, h.hd, h.hm, h.ne⟩
theorem EnvT.put (h : EnvT w bd bm n s D W) {n' : Nat} {D' : DataW Unit} (hw : HG w) (ho : W'.ownsMap Tryd.prog 3 (plainElem Tryd.prog 9) bm n' D') (hg : W.grownBy W' (some bm)) : EnvT w bd bm n' s D' W' := by
  have hb := h.below.grown hg h.below.size (fun k e => by cases e; exact h.hm)
  exact ⟨DiskIs.grown h.prg hg (fun e => h.ne (by cases e; rfl)), ho, hb, hg_of hw hb, h.hd, h.hm, h.ne⟩
end

/-- a slice of numbers -/
def Row1 (w : World) (a : Option Addr) (len : Nat) (xs : List Int) : Prop :=
  len = xs.length ∧ len ≤ maxLen ∧ (xs = [] ∨ ∃ b off, a = some ⟨b, off, none⟩ ∧ b < w.heap.size ∧ ∀ i (h : i < xs.length), w.cell? ⟨b, off + i, none⟩ = some (.int .i64 xs[i]))

theorem St.pow_wr {s : St} (k : Int) (p : ByteArray) (h : s.pow = false) : (s.wr k p).pow = false := by
  obtain ⟨pg, ends, left, torn⟩ := s
  unfold St.wr
  split
  · rw [if_neg (by rw [h]; simp)]
    exact h
  · exact h
theorem inside_nat (k : Nat) (hk : k < 4001) : inside (k : Int) = true := by
  simp [inside]; omega
theorem St.code_on {s : St} (k : Nat) (hk : k < 4001) (h : s.pow = true) : s.code k = 0 := by
  simp [St.code, inside_nat k hk, h]
theorem St.code_off {s : St} (k : Nat) (hk : k < 4001) (h : s.pow = false) : s.code k = 14 := by
  simp [St.code, inside_nat k hk, h]
theorem St.wr_on {s : St} (k : Nat) (hk : k < 4001) (p : ByteArray) (h : s.pow = true) : (s.wr k p).pg = upd s.pg k p := by
  simp [St.wr, inside_nat k hk, h]
theorem St.wr_off {s : St} (k : Nat) (hk : k < 4001) (p : ByteArray) (h : s.pow = false) : (s.wr k p).pg = upd s.pg k (tornPage p (s.pg k) s.torn) ∧ (s.wr k p).torn = 0 := by
  simp [St.wr, inside_nat k hk, h]
theorem St.wr_on_torn {s : St} (k : Int) (p : ByteArray) (h : s.pow = true) : (s.wr k p).torn = s.torn := by
  unfold St.wr
  rw [if_pos h]
  split <;> rfl
theorem torn_zero (p old : ByteArray) : tornPage p old 0 = old := by
  unfold tornPage
  simp
theorem torn_after (p old : ByteArray) (t m : Nat) (h : t ≤ m) (hp : p.size = 1024) (ho : old.size = 1024) (ht : t ≤ 1024) : (tornPage p old t).extract m 1024 = old.extract m 1024 := by
  have e1 : p.data.toList.length = 1024 := by simpa using hp
  have e2 : old.data.toList.length = 1024 := by simpa using ho
  apply ByteArray.ext
  apply Array.toList_inj.1
  rw [ByteArray.data_extract, ByteArray.data_extract]
  simp only [Array.toList_extract, tornPage]
  rw [List.extract_eq_take_drop, List.extract_eq_take_drop]
  have e3 : (p.data.toList.take t ++ old.data.toList.drop t).drop m = old.data.toList.drop m := by
    rw [List.drop_append, List.drop_of_length_le (by rw [List.length_take, e1]; omega), List.nil_append, List.drop_drop, List.length_take, e1]
    congr 1
    omega
  show List.take _ (List.drop m (p.data.toList.take t ++ old.data.toList.drop t)) = _
  rw [e3]
theorem torn_ahead (p old : ByteArray) (t m : Nat) (h : m < t) (hp : p.size = 1024) (ht : t ≤ 1024) (h1 : m < (tornPage p old t).size) (h2 : m < p.size) : (tornPage p old t)[m] = p[m] := by
  have e1 : p.data.toList.length = 1024 := by simpa using hp
  have h3 : m < (p.data.toList.take t ++ old.data.toList.drop t).toArray.size := h1
  show (p.data.toList.take t ++ old.data.toList.drop t).toArray[m]'h3 = p.data[m]
  simp only [List.getElem_toArray]
  rw [List.getElem_append_left (by rw [List.length_take, e1]; omega), List.getElem_take]
  simp
theorem upd_same (pg : Nat → ByteArray) (k : Nat) (s : ByteArray) : upd pg k s k = s := by simp [upd]
theorem upd_other (pg : Nat → ByteArray) (k i : Nat) (s : ByteArray) (h : i ≠ k) : upd pg k s i = pg i := by simp [upd, h]

theorem write_as {b : Nat} {s : St} {w : World} (h : Prg b s w) (ho : s.Ok) (k : Nat) (cd : Int) (hc : s.code k = cd) (p : ByteArray) (hp : p.size = 1024) :
    Calls Tryd.prog 15 #[.pointer (some ⟨b, 0, none⟩), .int .i64 (k : Int), .string p] w fun e w' => ∃ E, e = .returned E ∧ ErrNo E cd ∧ Prg b (s.wr k p) w' ∧ w.grownBy w' (some b) := by
  subst hc
  exact write_st h ho k p hp
theorem read_as {b : Nat} {s : St} {w : World} (h : Prg b s w) (k : Nat) (hk : k < 4001) (t : ByteArray) (ht : s.pg k = t) :
    Calls Tryd.prog 20 #[.pointer (some ⟨b, 0, none⟩), .int .i64 (k : Int)] w fun e w' => e = .returned (.tuple #[.string t, .nilIface]) ∧ Below w.heap.size w w' := by
  subst ht
  exact read_yes h k hk
theorem read_eq {b : Nat} {s : St} {w : World} (h : Prg b s w) (x : Int) (k : Nat) (e : x = k) (hk : k < 4001) (t : ByteArray) (ht : s.pg k = t) :
    Calls Tryd.prog 20 #[.pointer (some ⟨b, 0, none⟩), .int .i64 x] w fun e w' => e = .returned (.tuple #[.string t, .nilIface]) ∧ Below w.heap.size w w' := by
  subst e ht
  exact read_yes h k hk
theorem below_of_grown {w w' : World} (h : w.grownBy w' none) : Below w.heap.size w w' := ⟨h.os, h.tape, h.output, h.size, fun k hk => h.block k hk (by simp)⟩
theorem EnvT.iter {w : World} {bd bm n : Nat} {s : St} {D : DataW Unit} {W W' : World} (h : EnvT w bd bm n s D W) {r : Nat} (hw : HG w) (hg : W.grownBy W' (some r)) (hr : w.heap.size ≤ r) (h1 : bd ≠ r) (h2 : bm ≠ r) : EnvT w bd bm n s D W' := by
  have hb := h.below.grown hg h.below.size (fun k e => by cases e; exact hr)
  exact ⟨DiskIs.grown h.prg hg (fun e => h1 (by cases e; rfl)), h.own.kept hg (fun e => h2 (by cases e; rfl)), hb, hg_of hw hb, h.hd, h.hm, h.ne⟩
theorem St.wr_other {s : St} (k : Nat) (hk : k < 4001) (p : ByteArray) (i : Nat) (hi : i ≠ k) : (s.wr k p).pg i = s.pg i := by
  cases h : s.pow
  · rw [(St.wr_off k hk p h).1, upd_other _ _ _ _ hi]
  · rw [St.wr_on k hk p h, upd_other _ _ _ _ hi]
theorem on_off {b : Nat} {s : St} {w : World} (h : Prg b s w) (hp : s.pow = false) :
    Calls Tryd.prog 21 #[.pointer (some ⟨b, 0, none⟩)] w fun e w' => e = .returned (.bool false) ∧ w' = w := by
  rw [← hp]
  exact on_any h
end Go.Proofs.YthmladfoaajklaaDoor
