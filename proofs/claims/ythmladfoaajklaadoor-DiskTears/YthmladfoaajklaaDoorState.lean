/- Both disks, in one state. -/
import Derived.Test.YthmladfoaajklaaDoorRefWrite
import Derived.Test.YthmladfoaajklaaDoorIs
namespace Go.Proofs.YthmladfoaajklaaDoor
open Go.RowKit Go.Maps

/-- what a disk has -/
structure St where
  pg : Nat → ByteArray
  ends : Bool
  left : Int
  torn : Nat

structure St.Ok (s : St) : Prop where
  torn : s.torn ≤ 1024
  low : s.ends = true → 0 ≤ s.left
  high : s.left ≤ 9223372036854775807

/-- how many writes the document's disk has left -/
def St.rest (s : St) : Int := if s.ends then s.left else -1
/-- whether there is power -/
def St.pow (s : St) : Bool := !s.ends || decide (0 < s.left)

def inside (k : Int) : Bool := decide (0 ≤ k) && decide (k < 4001)

/-- what a write of a whole page tells -/
def St.code (s : St) (k : Int) : Int := if inside k then (if s.pow then 0 else 14) else 2
/-- what it leaves -/
def St.wr (s : St) (k : Int) (p : ByteArray) : St :=
  if inside k then
    (if s.pow then ⟨upd s.pg k.toNat p, s.ends, if s.ends then s.left - 1 else s.left, s.torn⟩
     else ⟨upd s.pg k.toNat (tornPage p (s.pg k.toNat) s.torn), s.ends, s.left, 0⟩)
  else s

def St.cut (s : St) (writes t : Int) : St := ⟨s.pg, decide (0 ≤ writes), writes, (clip t).toNat⟩

theorem St.rest_pow {s : St} (h : s.Ok) : (s.rest == 0) = !s.pow := by
  obtain ⟨pg, ends, left, torn⟩ := s
  cases ends
  · rfl
  · have := h.low rfl
    simp [St.rest, St.pow] at *
    by_cases h0 : left = 0
    · simp [h0]
    · have h1 : 0 < left := by omega
      simp [h0, h1]

theorem St.Ok.wr {s : St} (h : s.Ok) (k : Int) (p : ByteArray) : (s.wr k p).Ok := by
  obtain ⟨pg, ends, left, torn⟩ := s
  have h1 := h.torn
  have h2 := h.low
  have h3 := h.high
  simp only at h1 h2 h3
  unfold St.wr
  split
  · split
    · rename_i hp
      cases ends
      · exact ⟨h1, (fun e => by cases e), h3⟩
      · have : 0 < left := by simpa [St.pow] using hp
        exact ⟨h1, fun _ => by show 0 ≤ left - 1; omega, by show left - 1 ≤ _; omega⟩
    · exact ⟨Nat.zero_le _, h2, h3⟩
  · exact h

theorem clip_le (t : Int) : 0 ≤ clip t ∧ clip t ≤ 1024 := by unfold clip; omega
theorem St.Ok.cut {s : St} (writes t : Int) (h : writes ≤ 9223372036854775807) : (s.cut writes t).Ok := by
  have := clip_le t
  exact ⟨by show (clip t).toNat ≤ 1024; omega, fun e => by simpa [St.cut] using e, h⟩

/-- block b is the program's disk in this state -/
def Prg (b : Nat) (s : St) (w : World) : Prop := DiskIs b s.pg s.ends s.left s.torn w
/-- blocks b and m are the document's -/
def Doc (b m n : Nat) (s : St) (w : World) : Prop := RefIs b m n s.pg s.rest s.torn w

/-- the error of a code -/
def ErrNo (E : Value) (n : Int) : Prop := (E = .nilIface ∧ n = 0) ∨ E = .iface 24 (.int .i64 n)
theorem ErrNo.is {E : Value} {n : Int} (h : ErrNo E n) (w : World) : ErrIs E n (-1) w := by
  rcases h with ⟨h1, h2⟩ | h1
  · exact .inl ⟨h1, h2, rfl⟩
  · exact .inr (.inr ⟨h1, rfl⟩)
theorem errIs_zero : ErrNo .nilIface 0 := .inl ⟨rfl, rfl⟩
theorem errIs_no (n : Int) : ErrNo (.iface 24 (.int .i64 n)) n := .inr rfl

theorem outside_of {k : Int} (h : inside k = false) : k < 0 ∨ 4001 ≤ k := by
  simp [inside] at h
  omega
theorem inside_of {k : Int} (h : inside k = true) : ∃ n : Nat, k = n ∧ n < 4001 := by
  simp [inside] at h
  exact ⟨k.toNat, by omega, by omega⟩

theorem write_st {b : Nat} {s : St} {w : World} (h : Prg b s w) (ho : s.Ok) (k : Int) (p : ByteArray) (hp : p.size = 1024) :
    Calls Tryd.prog 15 #[.pointer (some ⟨b, 0, none⟩), .int .i64 k, .string p] w fun e w' => ∃ E, e = .returned E ∧ ErrNo E (s.code k) ∧ Prg b (s.wr k p) w' ∧ w.grownBy w' (some b) := by
  cases hi : inside k
  · refine (write_range b k p w (outside_of hi)).mono ?_
    rintro _ _ ⟨rfl, rfl⟩
    refine ⟨_, rfl, ?_, ?_, ?_⟩
    · simp only [St.code, hi]; exact errIs_no 2
    · simp only [St.wr, hi]; exact h
    · exact grown_of_below (Below.refl _ _) _
  · obtain ⟨n, rfl, hn⟩ := inside_of hi
    obtain ⟨pg, ends, left, torn⟩ := s
    have h1 := ho.torn
    have h2 := ho.low
    have h3 := ho.high
    simp only at h1 h2 h3
    cases ends
    · refine (write_still h n hn p hp).mono ?_
      rintro _ w' ⟨rfl, hd, hg⟩
      refine ⟨_, rfl, ?_, ?_, hg⟩
      · simp only [St.code, hi, St.pow]; exact errIs_zero
      · simp only [Prg, St.wr, hi, St.pow]; exact hd
    · by_cases h0 : 0 < left
      · refine (write_less h h0 h3 n hn p hp).mono ?_
        rintro _ w' ⟨rfl, hd, hg⟩
        refine ⟨_, rfl, ?_, ?_, hg⟩
        · simp only [St.code, hi, St.pow, h0]; exact errIs_zero
        · simp only [Prg, St.wr, hi, St.pow, h0]; exact hd
      · have e0 : left = 0 := by have := h2 rfl; omega
        subst e0
        refine (write_off torn h h1 n hn p hp).mono ?_
        rintro _ w' ⟨rfl, hd, hg⟩
        refine ⟨_, rfl, ?_, ?_, hg⟩
        · simp only [St.code, hi, St.pow]; exact errIs_no 14
        · simp only [Prg, St.wr, hi, St.pow]; exact hd

theorem RefIs.mono {b m n : Nat} {pg : Nat → ByteArray} {left torn : Int} {w : World} (h : RefIs b m n pg left torn w) {n' : Nat} (hn : n ≤ n') : RefIs b m n' pg left torn w := by
  obtain ⟨D, hD, hH⟩ := h.owns
  exact ⟨h.map, h.left, h.torn, h.free, ⟨D, hD.mono hn, hH⟩, h.size⟩

theorem refWrite_st {b m n : Nat} {s : St} {w : World} (h : Doc b m n s w) (ho : s.Ok) (hn : n ≤ 1000) (k : Int) (p : ByteArray) (hp : p.size = 1024) :
    Calls Tryd.prog 17 #[.pointer (some ⟨b, 0, none⟩), .int .i64 k, .string p] w fun e w' => e = .returned (.int .i64 (s.code k)) ∧ Doc b m (n + 1) (s.wr k p) w' ∧ Only2 b m w w' := by
  cases hi : inside k
  · refine (refWrite_range b k p w (outside_of hi)).mono ?_
    rintro _ _ ⟨rfl, rfl⟩
    refine ⟨?_, ?_, Only2.refl _ _ _⟩
    · simp only [St.code, hi]; rfl
    · simp only [St.wr, hi]; exact RefIs.mono h (Nat.le_succ _)
  · obtain ⟨j, rfl, hj⟩ := inside_of hi
    obtain ⟨pg, ends, left, torn⟩ := s
    have h1 := ho.torn
    have h2 := ho.low
    have h3 := ho.high
    simp only at h1 h2 h3
    cases ends
    · refine (refWrite_still h (by show (-1 : Int) < 0; omega) hn j hj p hp).mono ?_
      rintro _ w' ⟨rfl, hd, hg⟩
      refine ⟨?_, ?_, hg⟩
      · simp only [St.code, hi, St.pow]; rfl
      · simp only [Doc, St.wr, hi, St.pow]; exact hd
    · by_cases h0 : 0 < left
      · refine (refWrite_less (left := left) h h0 h3 hn j hj p hp).mono ?_
        rintro _ w' ⟨rfl, hd, hg⟩
        refine ⟨?_, ?_, hg⟩
        · simp only [St.code, hi, St.pow, h0]; rfl
        · simp only [Doc, St.wr, hi, St.pow, h0]; exact hd
      · have e0 : left = 0 := by have := h2 rfl; omega
        subst e0
        refine (refWrite_off torn h h1 hn j hj p hp).mono ?_
        rintro _ w' ⟨rfl, hd, hg⟩
        refine ⟨?_, ?_, hg⟩
        · simp only [St.code, hi, St.pow]; rfl
        · simp only [Doc, St.wr, hi, St.pow]; exact hd

theorem cut_st {b : Nat} {s : St} {w : World} (h : Prg b s w) (writes t : Int) :
    Calls Tryd.prog 18 #[.pointer (some ⟨b, 0, none⟩), .int .i64 writes, .int .i64 t] w fun e w' => e = .returned (.tuple #[]) ∧ Prg b (s.cut writes t) w' ∧ w.grownBy w' (some b) := by
  refine (cut_any h writes t).mono ?_
  rintro _ w' ⟨rfl, hd, hg⟩
  refine ⟨rfl, ?_, hg⟩
  have := clip_le t
  have e : (((clip t).toNat : Nat) : Int) = clip t := by omega
  show DiskIs b s.pg (decide (0 ≤ writes)) writes (((clip t).toNat : Nat) : Int) w'
  rw [e]; exact hd

theorem refCut_st {b m n : Nat} {s : St} {w : World} (h : Doc b m n s w) (writes t : Int) :
    Calls Tryd.prog 19 #[.pointer (some ⟨b, 0, none⟩), .int .i64 writes, .int .i64 t] w fun e w' => e = .returned (.tuple #[]) ∧ Doc b m n (s.cut writes t) w' ∧ w.grownBy w' (some b) := by
  refine (refCut_any h writes t).mono ?_
  rintro _ w' ⟨rfl, hd, hg⟩
  refine ⟨rfl, ?_, hg⟩
  have := clip_le t
  have e : (((clip t).toNat : Nat) : Int) = clip t := by omega
  have e2 : (s.cut writes t).rest = max writes (-1) := by
    simp only [St.rest, St.cut]
    by_cases h0 : 0 ≤ writes
    · simp [h0]; omega
    · simp [h0]; omega
  show RefIs b m n s.pg (s.cut writes t).rest (((clip t).toNat : Nat) : Int) w'
  rw [e, e2]; exact hd

theorem on_st {b : Nat} {s : St} {w : World} (h : Prg b s w) (ho : s.Ok) :
    Calls Tryd.prog 21 #[.pointer (some ⟨b, 0, none⟩)] w fun e w' => e = .returned (.bool (!(s.rest == 0))) ∧ w' = w := by
  rw [St.rest_pow ho, Bool.not_not]
  exact on_any h

/-- what has changed lies from B on -/
theorem below_only {B b m : Nat} {a w w' : World} (h : Below B a w) (ho : Only2 b m w w') (hB : B ≤ w.heap.size) (h1 : B ≤ b) (h2 : B ≤ m) : Below B a w' :=
  ⟨ho.os.trans h.os, ho.tape.trans h.tape, ho.output.trans h.output, Nat.le_trans h.size ho.size, fun k hk => (ho.block k (by omega) (by omega) (by omega)).trans (h.block k hk)⟩

theorem DiskIs.only {b m c : Nat} {pg : Nat → ByteArray} {ends : Bool} {left torn : Int} {w w' : World} (h : DiskIs c pg ends left torn w) (ho : Only2 b m w w') (h1 : c ≠ b) (h2 : c ≠ m) : DiskIs c pg ends left torn w' :=
  h.block (ho.block c h.lt h1 h2)

theorem page_of_sizes {b : Nat} {s : St} {w : World} (h : Prg b s w) (k : Nat) (hk : k < 4001) : (s.pg k).size = 1024 := DiskIs.size h k hk

/-- both disks in a round, and what the round is asked -/
structure Env (w : World) (n bx : Nat) (s1 s2 : St) (a c : Int) (W : World) : Prop where
  prg : Prg w.heap.size s1 W
  doc : Doc (w.heap.size + 2) (w.heap.size + 1) n s2 W
  below : Below w.heap.size w W
  hg : HG W
  hx : w.heap.size + 3 ≤ bx
  x1 : W.cell? ⟨bx, 1, none⟩ = some (.int .i64 a)
  x2 : W.cell? ⟨bx, 2, none⟩ = some (.int .i64 c)

section
variable {w : World} {n bx : Nat} {s1 s2 : St} {a c : Int} {W W' : World}
theorem Env.step (h : Env w n bx s1 s2 a c W) (hb : Below W.heap.size W W') : Env w n bx s1 s2 a c W' :=
  ⟨DiskIs.below h.prg hb, RefIs.below h.doc hb, h.below.trans (hb.mono h.below.size), h.hg.below hb h.hg.lt, h.hx, (hb.cell (p := ⟨bx, 1, none⟩) (World.block_lt_of_cell? _ _ h.x1)).trans h.x1, (hb.cell (p := ⟨bx, 2, none⟩) (World.block_lt_of_cell? _ _ h.x2)).trans h.x2⟩
theorem Env.drew (h : Env w n bx s1 s2 a c W) : Env w n bx s1 s2 a c W.drew := ⟨DiskIs.drew h.prg, RefIs.drew h.doc, h.below.drew, h.hg, h.hx, h.x1, h.x2⟩
theorem hg_of {w W : World} (hg : HG w) (hb : Below w.heap.size w W) : HG W := hg.below hb hg.lt
theorem Env.wrote (h : Env w n bx s1 s2 a c W) {s1' : St} (hw : HG w) (hp : Prg w.heap.size s1' W') (hg : W.grownBy W' (some w.heap.size)) : Env w n bx s1' s2 a c W' := by
  have hx := h.hx
  have hb := h.below.grown hg h.below.size (fun k e => by cases e; exact Nat.le_refl _)
  exact ⟨hp, RefIs.grown h.doc hg (by simp) (by simp), hb, hg_of hw hb, hx, hg.cell h.x1 (by simp; omega), hg.cell h.x2 (by simp; omega)⟩
theorem Env.wrote2 (h : Env w n bx s1 s2 a c W) {n' : Nat} {s2' : St} (hw : HG w) (hd : Doc (w.heap.size + 2) (w.heap.size + 1) n' s2' W') (ho : Only2 (w.heap.size + 2) (w.heap.size + 1) W W') : Env w n' bx s1 s2' a c W' := by
  have hx := h.hx
  have hb := below_only h.below ho h.below.size (by omega) (by omega)
  have hc : ∀ o, W'.cell? ⟨bx, o, none⟩ = W.cell? ⟨bx, o, none⟩ := fun o => World.cell?_of_block (ho.block bx (World.block_lt_of_cell? _ ⟨bx, 1, none⟩ h.x1) (by omega) (by omega))
  exact ⟨DiskIs.only h.prg ho (by omega) (by omega), hd, hb, hg_of hw hb, hx, by rw [hc]; exact h.x1, by rw [hc]; exact h.x2⟩
theorem Env.more (h : Env w n bx s1 s2 a c W) : Env w (n + 1) bx s1 s2 a c W := ⟨h.prg, RefIs.mono h.doc (Nat.le_succ _), h.below, h.hg, h.hx, h.x1, h.x2⟩
end

theorem zero44 : Tryd.zeroCells44.toList = List.replicate 4001 (.string ⟨#[]⟩) ++ [.bool false, .int .i64 0, .int .i64 0] := by kernel_rfl

/-- a disk's zero value -/
theorem disk_new (w : World) : Prg w.heap.size ⟨fun _ => zeros, false, 0, 0⟩ (w.alloc (.cells Tryd.zeroCells44 44)) := by
  have hn : (w.alloc (.cells Tryd.zeroCells44 44)).heap[w.heap.size]? = some (.cells Tryd.zeroCells44 44) := heap_alloc_new w _
  have hc : ∀ k : Nat, (w.alloc (.cells Tryd.zeroCells44 44)).cell? ⟨w.heap.size, k, none⟩ = Tryd.zeroCells44[k]? := fun k => by simp only [World.cell?, hn]; simp
  have hl : ∀ k : Nat, Tryd.zeroCells44[k]? = (List.replicate 4001 (Value.string ⟨#[]⟩) ++ [Value.bool false, Value.int .i64 0, Value.int .i64 0])[k]? := fun (k : Nat) => by rw [← zero44, Array.getElem?_toList]
  refine ⟨fun k hk => .inr ⟨?_, rfl⟩, ?_, ?_, ?_, fun k => ?_⟩
  · rw [hc, hl, List.getElem?_append_left (by rw [List.length_replicate]; exact hk), List.getElem?_replicate, if_pos hk]
  · rw [hc, hl, List.getElem?_append_right (by rw [List.length_replicate]; omega), List.length_replicate]; rfl
  · rw [hc, hl, List.getElem?_append_right (by rw [List.length_replicate]; omega), List.length_replicate]; rfl
  · rw [hc, hl, List.getElem?_append_right (by rw [List.length_replicate]; omega), List.length_replicate]; rfl
  · simp only [World.frozen?, hn]; simp
end Go.Proofs.YthmladfoaajklaaDoor
