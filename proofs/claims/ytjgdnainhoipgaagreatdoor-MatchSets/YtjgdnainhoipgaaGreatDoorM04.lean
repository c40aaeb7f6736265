/- Texts of the proof of MatchSets: Cal, Thv, Tsl, Tjn, WBase, PBase, PRight. -/
import Derived.Test.YtjgdnainhoipgaaGreatDoorM03
import Derived.Deep.AppendLies
import Derived.Laws.OwnMore
import Derived.BigQuiet
import Derived.Deep.DeepCutAuto
import Derived.Laws.AppendOwnNone
import Derived.Laws.IdiomStrings
import Derived.WalkKit
import Derived.WalkSpells
import Derived.WalkLawsBesides
import Derived.Deep.RegionHeld3
import Derived.Laws.MakeOwn
namespace Go.Proofs.YtjgdnainhoipgaaGreatDoor
open Go.RowKit Go.Maps

theorem wrap_u8 (x : Int) : IntKind.u8.wrap x = x % 256 := by
  simp [IntKind.wrap, IntKind.signed, IntKind.bits]
theorem byteI_toNat (x : Int) : IntKind.u8.wrap x = ((byteI x).toNat : Int) := by
  have h1 : (x % 256).toNat < 256 := by omega
  unfold byteI
  rw [UInt8.toNat_ofNat']
  simp [IntKind.wrap, IntKind.signed, IntKind.bits]
  omega
section
variable {bp bd bm n : Nat} {p : Pg} {s : St} {w : World}
end
end Go.Proofs.YtjgdnainhoipgaaGreatDoor
namespace Go.Proofs.YtjgdnainhoipgaaGreatDoor
open Go.RowKit

/-- a pair as it is written -/
def Pr.bytes (x : Pr) : ByteArray := ⟨x.enc.toArray⟩
theorem two_bytesN (x0 x1 : Int) (h00 : 0 ≤ x0) (h01 : x0 < 256) (h10 : 0 ≤ x1) (h11 : x1 < 256) (W : World) (B : Nat) (h0 : W.cell? ⟨B, 0, none⟩ = some (.int .u8 x0)) (h1 : W.cell? ⟨B, 1, none⟩ = some (.int .u8 x1)) :
    (convert 128 9 (.slice (some ⟨B, 0, none⟩) 2 2)).run Tryz.prog W = .ok (.string ⟨#[byteI x0, byteI x1]⟩) W := by
  have e0 : x0 = ((byteI x0).toNat : Int) := by rw [← byteI_toNat, wrap_u8, Int.emod_eq_of_lt h00 h01]
  have e1 : x1 = ((byteI x1).toNat : Int) := by rw [← byteI_toNat, wrap_u8, Int.emod_eq_of_lt h10 h11]
  have := run_convert_bytes_back (P := Tryz.prog) W 128 9 5 ⟨B, 0, none⟩ 2 [byteI x0, byteI x1] Tryz.underlying128 Tryz.underlying5 Tryz.underlying9 (fun j hj => by
    have : j < 2 := by simpa using hj
    have e : j = 0 ∨ j = 1 := by omega
    rcases e with rfl | rfl
    · rw [Addr.add_zero', h0]; exact congrArg (fun z => some (Value.int .u8 z)) e0
    · rw [show (⟨B, 0, none⟩ : Addr).add 1 = ⟨B, 1, none⟩ from rfl, h1]; exact congrArg (fun z => some (Value.int .u8 z)) e1)
  exact this
theorem byteI_nat (n : Nat) : byteI (n : Int) = UInt8.ofNat n := by
  unfold byteI
  apply UInt8.toNat_inj.1
  rw [UInt8.toNat_ofNat', UInt8.toNat_ofNat']
  omega
theorem bytes_eq (x : Pr) : (⟨#[byteI (x.k.size : Int), byteI (x.i.size : Int)]⟩ : ByteArray) ++ x.k ++ x.i = x.bytes := by
  apply ByteArray.ext
  apply Array.toList_inj.1
  rw [ByteArray.data_append, Array.toList_append, ByteArray.data_append, Array.toList_append, byteI_nat, byteI_nat]
  show [UInt8.ofNat x.k.size, UInt8.ofNat x.i.size] ++ x.k.data.toList ++ x.i.data.toList = x.enc.toArray.toList
  unfold Pr.enc
  simp

set_option maxRecDepth 100000 in
theorem writePair_any (x : Pr) (hx : x.Ok) (w : World) :
    Calls Tryz.prog 67 #[.agg #[.string x.k, .string x.i]] w fun e w' => e = .returned (.string x.bytes) ∧ Below w.heap.size w w' := by
  obtain ⟨h1, h2, h3⟩ := hx
  have HB : Hid _ := bytes_eq x
  rw [← HB.out]
  obtain ⟨k, i⟩ := x
  simp only at h1 h2 h3
  have hcA := two_bytesN (k.size : Int) (i.size : Int) (by omega) (by omega) (by omega) (by omega)
  have hs : (⟨#[byteI (k.size : Int), byteI (i.size : Int)]⟩ : ByteArray).size = 2 := rfl
  have hb1 : Hid (Below w.heap.size w ((w.alloc (.cells #[.string k, .string i] 142)).alloc (.cells #[.int .u8 (k.size : Int), .int .u8 (i.size : Int)] 5))) := ((Below.refl _ w).alloc (Nat.le_refl _) _).alloc (by simp) _
  clear HB
  go_enter Tryz.func67, Tryz.ntmps67
  go_wp2
  go_ret
  exact ⟨rfl, hb1.out⟩

/-- where a text is cut in two -/
structure HalvesR (t : ByteArray) (ps : List Pr) (j : Nat) : Prop where
  lt : j < ps.length
  pos : 0 < j
  left : szL (ps.take j) ≤ 1024
  right : szL (ps.drop j) ≤ 1024
theorem szL_drop (ps : List Pr) (j : Nat) : szL (ps.take j) + szL (ps.drop j) = szL ps := by
  rw [← szL_append, List.take_append_drop]
theorem halves_math {ps : List Pr} (hok : ∀ x ∈ ps, x.Ok) (h1 : 1024 < szL ps) (h2 : szL ps ≤ 1186) {j : Nat} (hj : j < ps.length) (hb : szL (ps.take j) < szL ps / 2) (ha : szL ps / 2 ≤ szL (ps.take (j + 1))) : HalvesR ⟨#[]⟩ ps (j + 1) := by
  have e := szL_take_succ hj
  have ok := hok _ (List.getElem_mem hj)
  have hs : ps[j].sz ≤ 162 := by unfold Pr.sz; have := ok.2.1; have := ok.2.2; omega
  have d := szL_drop ps (j + 1)
  refine ⟨?_, by omega, by omega, by omega⟩
  apply Nat.lt_of_not_le
  intro hn
  rw [List.take_of_length_le hn] at e
  omega

theorem halves_cl (x y t : ByteArray) (n : Int) (B C : Nat) (v : Value) (w : World) (h : Own1 B v w) (hC : Own1 C (.string t) w) (hne : C ≠ B) (ht : t.size ≤ 4096) :
    Calls Tryz.prog 138 #[.agg #[.string x, .string y], .int .i64 n, .pointer (some ⟨B, 0, none⟩), .pointer (some ⟨C, 0, none⟩)] w fun e w' => e = .returned (.bool (decide (n < (t.size : Int) / 2))) ∧ Own1 B (.int .i64 n) w' ∧ Own1 C (.string t) w' ∧ w.grownBy w' (some B) := by
  have hb := (Below.refl _ w).alloc (o := .cells #[.string x, .string y] 142) (Nat.le_refl _)
  have h1 := h.below hb
  have c1 := hC.below hb
  have q := h1.cell
  have f := h1.free
  have H1 : Hid _ := h1.set (.int .i64 n)
  have q1 := H1.out.cell
  have C1 : Hid _ := c1.other (u := .int .i64 n) hne
  have q2 := C1.out.cell
  have HG : Hid (w.grownBy ((w.alloc (.cells #[.string x, .string y] 142)).setCell ⟨B, 0, none⟩ (.int .i64 n)) (some B)) := (grown_of_below hb _).trans (grownBy_set _ B 0 _)
  have hd : Int.tdiv (t.size : Int) 2 = (t.size : Int) / 2 := Int.tdiv_eq_ediv_of_nonneg (by omega)
  clear h h1 hC c1 hb
  go_enter Tryz.func138, Tryz.ntmps138
  go_wp2
  go_ret
  exact ⟨rfl, H1.out, C1.out, HG.out⟩

/-- a row of texts that a call has made -/
def SRow (B : Nat) (v : Value) (ts : List ByteArray) (w : World) : Prop := w.ownsRow B 9 1 v ts.length (ts.map Value.string)

theorem row1 (w : World) (B : Nat) (hB : B ≤ w.heap.size) (a : ByteArray) : SRow B (.slice (some ⟨w.heap.size, 0, none⟩) 1 1) [a] (w.alloc (.cells #[.string a] 9)) :=
  ⟨rfl, .inr ⟨w.heap.size, 1, _, rfl, hB, heap_alloc_new w _, Nat.le_refl _, by decide, rfl, rfl⟩⟩
theorem row2 (w : World) (B : Nat) (hB : B ≤ w.heap.size) (a b : ByteArray) : SRow B (.slice (some ⟨w.heap.size, 0, none⟩) 2 2) [a, b] (w.alloc (.cells #[.string a, .string b] 9)) :=
  ⟨rfl, .inr ⟨w.heap.size, 2, _, rfl, hB, heap_alloc_new w _, Nat.le_refl _, by decide, rfl, rfl⟩⟩

set_option maxRecDepth 100000 in
theorem halves_one (t : ByteArray) (ht : t.size ≤ 1024) (w : World) :
    Calls Tryz.prog 107 #[.string t] w fun e w' => ∃ v, e = .returned v ∧ SRow w.heap.size v [t] w' ∧ Below w.heap.size w w' := by
  have h1 : (t.size : Int) ≤ 1024 := by omega
  have q := (Own1.new w (.string t) 9).cell
  have HR : Hid _ := row1 (w.alloc (.cells #[.string t] 9)) w.heap.size (by simp) t
  have HB : Hid (Below w.heap.size w ((w.alloc (.cells #[.string t] 9)).alloc (.cells #[.string t] 9))) := ((Below.refl _ w).alloc (Nat.le_refl _) _).alloc (by simp) _
  rw [World.size_alloc] at HR
  go_enter Tryz.func107, Tryz.ntmps107
  go_wp2
  go_ret
  exact ⟨_, rfl, HR.out, HB.out⟩

set_option maxRecDepth 100000 in
set_option maxHeartbeats 1000000 in
theorem halves_two {t : ByteArray} {ps : List Pr} (hL : Leaf t ps 0) (h1 : 1024 < t.size) (h2 : t.size ≤ 1186) (w : World) :
    Calls Tryz.prog 107 #[.string t] w fun e w' => ∃ v j, e = .returned v ∧ HalvesR ⟨#[]⟩ ps j ∧ SRow w.heap.size v [t.extract 0 (szL (ps.take j)), t.extract (szL (ps.take j)) t.size] w' ∧ Below w.heap.size w w' := by
  have h3 : ¬ (t.size : Int) ≤ 1024 := by omega
  have HL : Hid _ := hL
  have hsz := hL.size
  rw [Nat.add_zero] at hsz
  have hmf : ∀ (fn : Fn) (first cap : Array Value) (w : World), (Instr.makeFunc fn first cap).run Tryz.prog w = .ok (.func fn first cap) w := fun _ _ _ _ => rfl
  have n1 := Own1.new w (.string t) 9
  have n2 := n1.below ((Below.refl _ _).alloc (o := .cells #[.int .i64 0] 3) (Nat.le_refl _))
  have n3 := Own1.new (w.alloc (.cells #[.string t] 9)) (.int .i64 0) 3
  rw [World.size_alloc] at n3
  have hb := ((Below.refl _ w).alloc (o := .cells #[.string t] 9) (Nat.le_refl _)).alloc (o := .cells #[.int .i64 0] 3) (by simp)
  have H0 : Hid (Own1 (w.heap.size + 1) (.int .i64 0) ((w.alloc (.cells #[.string t] 9)).alloc (.cells #[.int .i64 0] 3)) ∧ Own1 w.heap.size (.string t) ((w.alloc (.cells #[.string t] 9)).alloc (.cells #[.int .i64 0] 3)) ∧ Below w.heap.size w ((w.alloc (.cells #[.string t] 9)).alloc (.cells #[.int .i64 0] 3))) := ⟨n3, n2, hb⟩
  have q1 := n1.cell
  have q2 := n2.cell
  have HZ : Hid (t.size = szL ps) := hsz
  clear n1 n2 n3 hb hL hsz
  go_enter Tryz.func107, Tryz.ntmps107
  go_wp2_with fail
  refine (each_any (fun j wx => (j = 0 ∨ szL (ps.take j) < t.size / 2) ∧ (∃ c : Int, Own1 (w.heap.size + 1) (.int .i64 c) wx) ∧ Own1 w.heap.size (.string t) wx ∧ Below w.heap.size w wx)
    (fun wx => ∃ j, HalvesR ⟨#[]⟩ ps j ∧ Own1 (w.heap.size + 1) (.int .i64 (szL (ps.take j) : Nat)) wx ∧ Own1 w.heap.size (.string t) wx ∧ Below w.heap.size w wx) (enters_of Tryz.func138 (by kernel_rfl) rfl) HL.out (fun j wx hh => ⟨hh.1, hh.2.1.elim fun c hc => ⟨c, hc.drew⟩, hh.2.2.1.drew, hh.2.2.2.drew⟩) (fun j hj wx hh => ?_) _ ⟨.inl rfl, ⟨0, H0.out.1⟩, H0.out.2.1, H0.out.2.2⟩).mono ?_
  · obtain ⟨g1, ⟨c, g2⟩, g3, g4⟩ := hh
    have hle := szL_take_le ps (j + 1)
    have hz := HZ.out
    refine (halves_cl _ _ t _ _ _ _ _ g2 g3 (by omega) (by omega)).mono ?_
    rintro _ wy ⟨rfl, k1, k2, k3⟩
    have k4 : Below w.heap.size w wy := g4.grown k3 g4.size (fun k e => by cases e; omega)
    by_cases hc : szL (ps.take (j + 1)) < t.size / 2
    · rw [decide_eq_true (show ((szL (ps.take (j + 1)) : Nat) : Int) < (t.size : Int) / 2 by omega)]
      exact ⟨true, rfl, .inr hc, ⟨_, k1⟩, k2, k4⟩
    · rw [decide_eq_false (show ¬ ((szL (ps.take (j + 1)) : Nat) : Int) < (t.size : Int) / 2 by omega)]
      refine ⟨false, rfl, j + 1, halves_math HL.out.ok (by omega) (by omega) hj ?_ (by omega), k1, k2, k4⟩
      rcases g1 with g1 | g1
      · subst g1
        show 0 < _
        omega
      · omega
  rintro _ w1 ⟨b, rfl, h4⟩
  obtain ⟨j, g1, g2, g3, g4⟩ : ∃ j, HalvesR ⟨#[]⟩ ps j ∧ Own1 (w.heap.size + 1) (.int .i64 (szL (ps.take j) : Nat)) w1 ∧ Own1 w.heap.size (.string t) w1 ∧ Below w.heap.size w w1 := by
    cases b
    · exact h4
    · exfalso
      have hz := HZ.out
      rcases h4.1 with e | e
      · have : ps = [] := List.length_eq_zero_iff.1 e
        subst this
        change t.size = 0 at hz
        omega
      · rw [List.take_length] at e
        omega
  have hle := szL_take_le ps j
  have hz := HZ.out
  have HR : Hid _ := row2 w1.drew w.heap.size g4.size (t.extract 0 (szL (ps.take j))) (t.extract (szL (ps.take j)) t.size)
  have HB : Hid (Below w.heap.size w (w1.drew.alloc (.cells #[.string (t.extract 0 (szL (ps.take j))), .string (t.extract (szL (ps.take j)) t.size)] 9))) := g4.drew.alloc g4.size _
  have G1 : Hid _ := g1
  have c1 := g2.drew.cell
  have c2 := g3.drew.cell
  clear g2 g3 g4 h4 H0 q1 q2
  have hcle : szL (ps.take j) ≤ t.size := by omega
  obtain ⟨cut, hcut⟩ : ∃ c, szL (ps.take j) = c := ⟨_, rfl⟩
  rw [hcut] at HR HB c1 hcle
  have HCUT : Hid _ := hcut
  clear hcut hle hz
  have hi : (cut : Int) ≤ (t.size : Int) := by omega
  have C0 : Hid (w1.drew.cell? ⟨w.heap.size, 0, none⟩ = some (.string t) ∧ w1.drew.cell? ⟨w.heap.size + 1, 0, none⟩ = some (.int .i64 (cut : Nat))) := ⟨c2, c1⟩
  have C1 : Hid ((w1.drew.alloc (.cells #[.string (t.extract 0 cut), .string (t.extract cut t.size)] 9)).cell? ⟨w.heap.size, 0, none⟩ = some (.string t) ∧ (w1.drew.alloc (.cells #[.string (t.extract 0 cut), .string (t.extract cut t.size)] 9)).cell? ⟨w.heap.size + 1, 0, none⟩ = some (.int .i64 (cut : Nat))) :=
    ⟨by rw [World.cell?_alloc_some _ _ _ (by rw [c2]; rfl)]; exact c2, by rw [World.cell?_alloc_some _ _ _ (by rw [c1]; rfl)]; exact c1⟩
  clear c1 c2
  go_wp2_with fail
  go_region_held3 (fun wx => wx.cell? ⟨w.heap.size, 0, none⟩ = some (.string t) ∧ wx.cell? ⟨w.heap.size + 1, 0, none⟩ = some (.int .i64 (cut : Nat))) (first | exact C0.out | exact C1.out) (fail)
  go_wp2
  go_ret
  exact ⟨_, j, rfl, G1.out, by rw [HCUT.out]; exact HR.out, HB.out⟩
end Go.Proofs.YtjgdnainhoipgaaGreatDoor
namespace Go.Proofs.YtjgdnainhoipgaaGreatDoor
open Go.RowKit

theorem add_pl (b off i : Nat) : (⟨b, off, none⟩ : Addr).add i = ⟨b, off + i, none⟩ := by
  unfold Addr.add
  split <;> simp_all

/-- a slice whose cells read so; it lies in blocks from B on -/
structure View (B : Nat) (v : Value) (xs : List Value) (w : World) : Prop where
  is : ∃ (a : Option Addr) (cap : Nat), v = .slice a xs.length cap ∧ xs.length ≤ cap ∧ cap ≤ maxLen ∧ (a = none → cap = 0) ∧ ∀ ad, a = some ad → ∃ b off, ad = ⟨b, off, none⟩ ∧ B ≤ b ∧ b < w.heap.size ∧ ∀ i (hi : i < xs.length), w.cell? ⟨b, off + i, none⟩ = some xs[i]
section
variable {B : Nat} {v : Value} {xs : List Value} {w w' : World}
theorem View.of_own {e : TypeId} (h : w.ownsRow B e 1 v xs.length xs) : View B v xs w := by
  rcases h.2 with ⟨rfl, hn⟩ | ⟨g, cap, cur, rfl, h1, h2, h3, h4, h5, h6⟩
  · refine ⟨none, 0, by rw [hn], by omega, Nat.zero_le _, fun _ => rfl, fun _ e => by cases e⟩
  · refine ⟨some ⟨g, 0, none⟩, cap, rfl, h3, h4, (fun e => by cases e), fun ad e => ?_⟩
    cases e
    refine ⟨g, 0, rfl, h1, (Array.getElem?_eq_some_iff.1 h2).1, fun i hi => ?_⟩
    have := h.cells (g := g) rfl i xs[i] (List.getElem?_eq_getElem hi)
    rwa [show (⟨g, 0, none⟩ : Addr).add i = ⟨g, 0 + i, none⟩ by rw [add_pl]] at this
theorem View.below (h : View B v xs w) (hb : Below w.heap.size w w') : View B v xs w' := by
  obtain ⟨a, cap, h1, h2, h3, h4, h5⟩ := h.is
  refine ⟨a, cap, h1, h2, h3, h4, fun ad e => ?_⟩
  obtain ⟨b, off, k1, k2, k3, k4⟩ := h5 ad e
  exact ⟨b, off, k1, k2, Nat.lt_of_lt_of_le k3 hb.size, fun i hi => (hb.cell (p := ⟨b, off + i, none⟩) k3).trans (k4 i hi)⟩
theorem View.only {S : Nat → Prop} (h : View B v xs w) (ho : Only S w w') (hS : ∀ b, S b → b < B) : View B v xs w' := by
  obtain ⟨a, cap, h1, h2, h3, h4, h5⟩ := h.is
  refine ⟨a, cap, h1, h2, h3, h4, fun ad e => ?_⟩
  obtain ⟨b, off, k1, k2, k3, k4⟩ := h5 ad e
  exact ⟨b, off, k1, k2, Nat.lt_of_lt_of_le k3 ho.size, fun i hi => (ho.cell k3 (fun s => by have := hS b s; omega) (off + i)).trans (k4 i hi)⟩
theorem View.drew (h : View B v xs w) : View B v xs w.drew := h.below (Below.refl _ w).drew
theorem View.mono {C : Nat} (h : View B v xs w) (hC : C ≤ B) : View C v xs w := by
  obtain ⟨a, cap, h1, h2, h3, h4, h5⟩ := h.is
  refine ⟨a, cap, h1, h2, h3, h4, fun ad e => ?_⟩
  obtain ⟨b, off, k1, k2, k3, k4⟩ := h5 ad e
  exact ⟨b, off, k1, Nat.le_trans hC k2, k3, k4⟩
theorem View.sliced {a : Option Addr} {cap : Nat} (h : View B (.slice a xs.length cap) xs w) (i j : Nat) (hij : i ≤ j) (hj : j ≤ xs.length) : View B (Go.sliced a i j cap 1) ((xs.drop i).take (j - i)) w := by
  obtain ⟨a', cap', e, h2, h3, h4, h5⟩ := h.is
  cases e
  have hl : ((xs.drop i).take (j - i)).length = j - i := by rw [List.length_take, List.length_drop]; omega
  unfold Go.sliced
  by_cases hc : cap = i
  · rw [if_pos hc]
    refine ⟨a, cap - i, by rw [hl], by omega, by omega, fun e => by have := h4 e; omega, fun ad e => ?_⟩
    obtain ⟨b, off, k1, k2, k3, k4⟩ := h5 ad e
    exact ⟨b, off, k1, k2, k3, fun k hk => absurd hk (by omega)⟩
  · rw [if_neg hc]
    refine ⟨a.map (·.add (i * 1)), cap - i, by rw [hl], by omega, by omega, fun e => ?_, fun ad e => ?_⟩
    · cases a with
      | none => have := h4 rfl; omega
      | some _ => cases e
    · cases a with
      | none => cases e
      | some a0 =>
        obtain ⟨b, off, rfl, k2, k3, k4⟩ := h5 a0 rfl
        cases e
        refine ⟨b, off + i, by show (⟨b, off, none⟩ : Addr).add (i * 1) = _; rw [add_pl, Nat.mul_one], k2, k3, fun k hk => ?_⟩
        have := k4 (i + k) (by omega)
        rw [Nat.add_assoc, this]
        simp
/-- what is asked of a slice -/
theorem View.len (h : View B v xs w) {t e : TypeId} (ht : Tryz.prog.underlying t = some (.slice e)) (ty : TypeId) (wx : World) : (Builtin.len_ #[t] ty #[v]).run Tryz.prog wx = .ok (.int .i64 (xs.length : Nat)) wx := by
  obtain ⟨a, cap, rfl, _⟩ := h.is
  simp [Builtin.len_, run_underlying ht, goInt]
theorem View.cut (h : View B v xs w) (i j : Nat) (hij : i ≤ j) (hj : j ≤ xs.length) : ∃ v', View B v' ((xs.drop i).take (j - i)) w ∧
    (∀ {t e : TypeId}, Tryz.prog.underlying t = some (.slice e) → Tryz.prog.elem t = e → (Tryz.prog.info? e).map (·.size) = some 1 → ∀ (x y : Int), x = i → y = j → ∀ wx, (Instr.slice t v (some (.int .i64 x)) (some (.int .i64 y)) none).run Tryz.prog wx = .ok v' wx ∧
      (i = 0 → (Instr.slice t v none (some (.int .i64 y)) none).run Tryz.prog wx = .ok v' wx) ∧ (j = xs.length → (Instr.slice t v (some (.int .i64 x)) none none).run Tryz.prog wx = .ok v' wx)) := by
  obtain ⟨a, cap, rfl, h2, h3, h4, h5⟩ := h.is
  refine ⟨_, h.sliced i j hij hj, ?_⟩
  intro t e ht he hs x y hx hy wx
  subst hx hy he
  have hz : (sizeOf (Tryz.prog.elem t)).run Tryz.prog wx = .ok 1 wx := by
    cases hq : Tryz.prog.info? (Tryz.prog.elem t) with
    | none => rw [hq] at hs; cases hs
    | some i => rw [hq] at hs; simp [sizeOf, typeInfo, hq]; simpa using hs
  refine ⟨?_, fun e => ?_, fun e => ?_⟩
  · rw [run_slice_lh wx t a _ cap ht .i64 .i64 i j (by omega) (by omega) (by omega), hz]
    rfl
  · subst e
    rw [run_slice_h wx t a _ cap ht .i64 j (by omega) (by omega), hz]
    rfl
  · subst e
    rw [run_slice_l wx t a _ cap ht .i64 i (by omega) (by omega), hz]
    rfl
theorem View.at (h : View B v xs w) {i : Nat} (hi : i < xs.length) : ∃ b off, B ≤ b ∧ b < w.heap.size ∧ w.cell? ⟨b, off, none⟩ = some xs[i] ∧
    ∀ {t e : TypeId}, Tryz.prog.underlying t = some (.slice e) → Tryz.prog.elem t = e → (Tryz.prog.info? e).map (·.size) = some 1 → ∀ x : Int, x = i → ∀ wx, (Instr.indexAt t v (.int .i64 x)).run Tryz.prog wx = .ok (.pointer (some ⟨b, off, none⟩)) wx := by
  obtain ⟨a, cap, rfl, h2, h3, h4, h5⟩ := h.is
  cases a with
  | none => have := h4 rfl; omega
  | some a0 =>
    obtain ⟨b, off, rfl, k2, k3, k4⟩ := h5 a0 rfl
    refine ⟨b, off + i, k2, k3, k4 i hi, ?_⟩
    intro t e ht he hs x hx wx
    subst hx he
    have hz : (sizeOf (Tryz.prog.elem t)).run Tryz.prog wx = .ok 1 wx := by
      cases hq : Tryz.prog.info? (Tryz.prog.elem t) with
      | none => rw [hq] at hs; cases hs
      | some i => rw [hq] at hs; simp [sizeOf, typeInfo, hq]; simpa using hs
    have h7 : (i : Int) < (xs.length : Int) := by omega
    rw [run_indexAt_slice (h := ht), if_pos ⟨by omega, h7⟩, hz]
    simp [Result.andThen, add_pl]
end
end Go.Proofs.YtjgdnainhoipgaaGreatDoor
namespace Go.Proofs.YtjgdnainhoipgaaGreatDoor
open Go.RowKit

/-- one more text is joined to the last one, if a page has room for both -/
def joinStep (l : List ByteArray) (s : ByteArray) : List ByteArray :=
  match l.getLast? with
  | none => [s]
  | some x => if x.size + s.size ≤ 1024 then l.dropLast ++ [x ++ s] else l ++ [s]
def joinL (ts : List ByteArray) : List ByteArray := ts.foldl joinStep []
theorem joinL_take_succ {ts : List ByteArray} {k : Nat} (hk : k < ts.length) : joinL (ts.take (k + 1)) = joinStep (joinL (ts.take k)) ts[k] := by
  unfold joinL
  rw [List.take_succ_eq_append_getElem hk, List.foldl_append]
  rfl
theorem joinStep_len (l : List ByteArray) (s : ByteArray) : (joinStep l s).length ≤ l.length + 1 := by
  unfold joinStep
  cases h : l.getLast? with
  | none => simp
  | some x =>
    simp only []
    split
    · rw [List.length_append, List.length_dropLast]; simp
    · rw [List.length_append]; simp
theorem joinStep_small {l : List ByteArray} {s : ByteArray} (hl : ∀ x ∈ l, x.size ≤ 2000) (hs : s.size ≤ 2000) : ∀ x ∈ joinStep l s, x.size ≤ 2000 := by
  unfold joinStep
  cases h : l.getLast? with
  | none => intro x hx; simp at hx; subst hx; exact hs
  | some y =>
    simp only []
    split
    · rename_i e
      intro x hx
      rw [List.mem_append] at hx
      rcases hx with hx | hx
      · exact hl x (List.dropLast_subset l hx)
      · simp at hx; subst hx; rw [ByteArray.size_append]; omega
    · intro x hx
      rw [List.mem_append] at hx
      rcases hx with hx | hx
      · exact hl x hx
      · simp at hx; subst hx; exact hs
theorem joinL_len (ts : List ByteArray) : ∀ k, (joinL (ts.take k)).length ≤ k
  | 0 => Nat.le_refl _
  | k + 1 => by
    by_cases hk : k < ts.length
    · rw [joinL_take_succ hk]
      have := joinStep_len (joinL (ts.take k)) ts[k]
      have := joinL_len ts k
      omega
    · rw [List.take_of_length_le (by omega)]
      have := joinL_len ts k
      rw [List.take_of_length_le (by omega)] at this
      omega
theorem joinL_small {ts : List ByteArray} (h : ∀ x ∈ ts, x.size ≤ 2000) : ∀ k, ∀ x ∈ joinL (ts.take k), x.size ≤ 2000
  | 0 => fun x hx => by simp [joinL] at hx
  | k + 1 => by
    by_cases hk : k < ts.length
    · rw [joinL_take_succ hk]
      exact joinStep_small (joinL_small h k) (h _ (List.getElem_mem hk))
    · rw [List.take_of_length_le (by omega)]
      have := joinL_small h k
      rw [List.take_of_length_le (by omega)] at this
      exact this

theorem SRow.view {B : Nat} {v : Value} {ts : List ByteArray} {w : World} (h : SRow B v ts w) : View B v (ts.map Value.string) w :=
  View.of_own (e := 9) (by rw [List.length_map]; exact h)
theorem elem137 : Tryz.prog.elem 22 = 9 := by kernel_rfl
theorem size9 : (Tryz.prog.info? 9).map (·.size) = some 1 := by kernel_rfl
theorem elem93 : Tryz.prog.elem 68 = 3 := by kernel_rfl
theorem size3 : (Tryz.prog.info? 3).map (·.size) = some 1 := by kernel_rfl
theorem info9 : ∃ i0 : TypeInfo, Tryz.prog.info? 9 = some i0 ∧ i0.zero = some (.string ⟨#[]⟩) ∧ i0.size = 1 ∧ i0.bytes = 16 := by
  have h : (Tryz.prog.info? 9).map (fun i => (i.zero, i.size, i.bytes)) = some (some (.string ⟨#[]⟩), 1, 16) := by kernel_rfl
  cases hq : Tryz.prog.info? 9 with
  | none => rw [hq] at h; cases h
  | some i =>
    rw [hq] at h
    simp at h
    exact ⟨i, rfl, h.1, h.2.1, h.2.2⟩
theorem info3 : ∃ i0 : TypeInfo, Tryz.prog.info? 3 = some i0 ∧ i0.zero = some (.int .i64 0) ∧ i0.size = 1 ∧ i0.bytes = 8 := by
  have h : (Tryz.prog.info? 3).map (fun i => (i.zero, i.size, i.bytes)) = some (some (.int .i64 0), 1, 8) := by kernel_rfl
  cases hq : Tryz.prog.info? 3 with
  | none => rw [hq] at h; cases h
  | some i =>
    rw [hq] at h
    simp at h
    exact ⟨i, rfl, h.1, h.2.1, h.2.2⟩
theorem news_str (w : World) (x : ByteArray) (t : TypeId) : ∀ j u, ([Value.string x] : List Value)[j]? = some u → (w.alloc (.cells #[.string x] t)).cell? ((⟨w.heap.size, 0, none⟩ : Addr).add j) = some u := by
  intro j u hu
  have hn : (w.alloc (.cells #[.string x] t)).heap[w.heap.size]? = some (.cells #[.string x] t) := heap_alloc_new w _
  cases j with
  | zero => simp at hu; subst hu; rw [add_pl]; simp only [World.cell?, hn]; rfl
  | succ j => simp at hu

set_option maxRecDepth 100000 in
set_option maxHeartbeats 4000000 in
theorem join_any {B : Nat} {v : Value} {ts : List ByteArray} (w : World) (hV : View B v (ts.map Value.string) w) (hs : ∀ x ∈ ts, x.size ≤ 2000) (hn : ts.length ≤ 1000) :
    Calls Tryz.prog 110 #[v] w fun e w' => ∃ v', e = .returned v' ∧ SRow w.heap.size v' (joinL ts) w' ∧ Below w.heap.size w w' := by
  have hlen := hV.len Tryz.underlying22
  rw [List.length_map] at hlen
  have HV : Hid _ := hV
  have HS : Hid _ := hs
  clear hV hs
  go_enter Tryz.func110, Tryz.ntmps110
  go_wp2_with fail
  go_loopw [3, 9] (fun l i wr => ∃ k : Nat, k ≤ ts.length ∧ i = .int .i64 k ∧ Hid (SRow w.heap.size l (joinL (ts.take k)) wr) ∧ Hid (Below w.heap.size w wr)) (fun _ i _ => ts.length - (intOf i).toNat)
  case atStart => exact ⟨0, Nat.zero_le _, rfl, World.ownsRow_nil _ _ _ _, Below.refl _ _⟩
  case round =>
    obtain ⟨k, hk, rfl, HR, HB⟩ := hrel
    by_cases hlt : k < ts.length
    · have h1 : (k : Int) < (ts.length : Int) := by omega
      obtain ⟨b0, o0, k1, k2, k3, k4⟩ := (HV.out.below HB.out).at (i := k) (by rw [List.length_map]; exact hlt)
      have hix := k4 Tryz.underlying22 elem137 size9 (k : Int) rfl
      rw [List.getElem_map] at k3
      have hsk := HS.out _ (List.getElem_mem hlt)
      have HJ : Hid (joinL (ts.take (k + 1)) = joinStep (joinL (ts.take k)) ts[k]) := joinL_take_succ hlt
      have hjl := joinL_len ts k
      have HSM : Hid _ := joinL_small HS.out k
      obtain ⟨x, hx⟩ : ∃ x, ts[k] = x := ⟨_, rfl⟩
      rw [hx] at k3 hsk HJ
      obtain ⟨L, hL⟩ : ∃ L, joinL (ts.take k) = L := ⟨_, rfl⟩
      rw [hL] at HR HJ hjl HSM
      clear hx hL k1 k2 k4
      have hln := (SRow.view HR.out).len Tryz.underlying22
      rw [List.length_map] at hln
      obtain ⟨i0, hi, hz0, hz1, hz2⟩ := info9
      rcases List.eq_nil_or_concat L with rfl | ⟨M, y, rfl⟩
      · have HO2 : Hid _ := HR.out.alloc (.cells #[.string x] 9)
        go_wp2_with (at_builtin; refine wpList_append_own _ rfl _ _ 22 rfl w.heap.size 9 i0 (.string ⟨#[]⟩) 1 16 Tryz.underlying22 hi hz0 hz1 hz2 rfl (by decide) _ _ _ rfl HO2.out ⟨wr.heap.size, 0, none⟩ 1 1 [.string x] rfl rfl (news_str wr x 9) (by intro u hu; simp at hu; subst hu; rfl) (by simp [maxLen]) (by simp) (by have := HB.out.size; simp; omega) ?_; intro v' w' hO hG hN)
        refine ⟨⟨k + 1, by omega, by go_num, ?_, ?_⟩, by simp [intOf]; omega⟩
        · show SRow _ _ _ _
          rw [HJ.out]
          exact hO
        · exact (HB.out.alloc HB.out.size _).grown hG (by have := HB.out.size; simp; omega) (fun k e => (HR.out.lt k e).1)
      · have hy := HSM.out y (by simp)
        have HJ2 : Hid (joinStep (M ++ [y]) x = if y.size + x.size ≤ 1024 then M ++ [y ++ x] else (M ++ [y]) ++ [x]) := by
          show joinStep (M ++ [y]) x = _
          unfold joinStep
          simp
        rw [List.concat_eq_append] at HR hjl hln
        have hml : (M ++ [y]).length = M.length + 1 := by simp
        rw [hml] at hln hjl
        obtain ⟨g, cap, hv, hg1, hg2⟩ := HR.out.form (by rw [hml]; omega)
        subst hv
        rw [hml] at hln
        have c0 : wr.cell? ⟨g, M.length, none⟩ = some (.string y) := by
          have := HR.out.cellAt M.length (by rw [hml]; omega)
          rw [this]
          simp
        have f0 := HR.out.frozenAt M.length
        obtain ⟨st1, st2⟩ := HR.out.stored M.length (.string (y ++ x))
        have HST : Hid (SRow w.heap.size (.slice (some ⟨g, 0, none⟩) (M ++ [y]).length cap) (M ++ [y ++ x]) (wr.setCell ⟨g, M.length, none⟩ (.string (y ++ x)))) := by
          have e : (List.map Value.string (M ++ [y])).set M.length (.string (y ++ x)) = List.map Value.string (M ++ [y ++ x]) := by
            rw [List.map_append, List.map_append]
            have : (List.map Value.string M).length = M.length := List.length_map _
            rw [List.set_append_right _ _ (by rw [this]; omega), this, Nat.sub_self]
            rfl
          rw [e] at st1
          show World.ownsRow _ _ _ _ _ _ _
          have e2 : (M ++ [y ++ x]).length = (M ++ [y]).length := by simp
          rw [e2]
          exact st1
        have HB2 : Hid (Below w.heap.size w (wr.setCell ⟨g, M.length, none⟩ (.string (y ++ x)))) := HB.out.setCell hg1 _
        clear st1 st2
        rw [hml] at HST HR
        rw [hml]
        generalize M.length = m at *
        by_cases hle : y.size + x.size ≤ 1024
        · have hle2 : (y.size : Int) + (x.size : Int) ≤ 1024 := by omega
          have HJ3 : Hid (joinL (ts.take (k + 1)) = M ++ [y ++ x]) := by
            show _ = _
            rw [HJ.out, List.concat_eq_append, HJ2.out, if_pos hle]
          clear HJ HJ2 HR HB
          go_wp2_with fail
          go_roundw
          case rel => exact ⟨k + 1, by omega, by go_num, by rw [HJ3.out]; exact HST.out, HB2⟩
          case measure => simp [intOf]; omega
        · have hle2 : ¬ (y.size : Int) + (x.size : Int) ≤ 1024 := by omega
          have HJ3 : Hid (joinL (ts.take (k + 1)) = (M ++ [y]) ++ [x]) := by
            show _ = _
            rw [HJ.out, List.concat_eq_append, HJ2.out, if_neg hle]
          have HO2 : Hid _ := HR.out.alloc (.cells #[.string x] 9)
          clear HJ HJ2 HST HB2
          go_wp2_with (at_builtin; refine wpList_append_own _ rfl _ _ 22 rfl w.heap.size 9 i0 (.string ⟨#[]⟩) 1 16 Tryz.underlying22 hi hz0 hz1 hz2 rfl (by decide) _ _ _ rfl HO2.out ⟨wr.heap.size, 0, none⟩ 1 1 [.string x] rfl rfl (news_str wr x 9) (by intro u hu; simp at hu; subst hu; rfl) (by rw [hml]; simp only [maxLen]; omega) (by rw [hml]; omega) (by have := HB.out.size; simp; omega) ?_; intro v' w' hO hG hN)
          refine ⟨⟨k + 1, by omega, by go_num, ?_, ?_⟩, by simp [intOf]; omega⟩
          · show SRow _ _ _ _
            rw [HJ3.out]
            show World.ownsRow _ _ _ _ _ _ _
            rw [List.map_append, List.length_append]
            exact hO
          · exact (HB.out.alloc HB.out.size _).grown hG (by have := HB.out.size; simp; omega) (fun k e => by cases e; exact hg1)
    · have h1 : ¬ (k : Int) < (ts.length : Int) := by omega
      obtain rfl : k = ts.length := by omega
      rw [List.take_length] at HR
      go_wp2
      go_ret
      exact ⟨_, rfl, HR.out, HB.out⟩
end Go.Proofs.YtjgdnainhoipgaaGreatDoor

namespace Go.Proofs.YtjgdnainhoipgaaGreatDoor
open Go.RowKit

theorem pret_int {k : IntKind} {a b : Int} (h : a = b) : Ending.returned (.int k a) = .returned (.int k b) := by rw [h]
theorem pret_bool {a b : Bool} (h : a = b) : Ending.returned (.bool a) = .returned (.bool b) := by rw [h]
theorem infoPl : (Tryz.prog.info? 117).map (fun i => (i.zero, i.size, i.bytes)) = some (some (.agg #[.int .i64 0, .int .i64 0]), 2, 16) := by kernel_rfl
theorem infoByte : (Tryz.prog.info? 5).map (fun i => (i.zero, i.size, i.bytes)) = some (some (.int .u8 0), 1, 1) := by kernel_rfl
theorem pinfo_parts {P : Program} {t : TypeId} {z : Value} {n b : Nat} (h : (P.info? t).map (fun i => (i.zero, i.size, i.bytes)) = some (some z, n, b)) : ∃ i, P.info? t = some i ∧ i.zero = some z ∧ i.size = n ∧ i.bytes = b := by
  cases hi : P.info? t with
  | none => simp [hi] at h
  | some i => simp [hi] at h; exact ⟨i, rfl, h.1, h.2.1, h.2.2⟩

/-- a place: its row, and where it stands in it -/
structure Pl where
  r : Int
  a : Int
deriving DecidableEq

def plc (l : List Pl) : List Value := l.flatMap fun p => [.int .i64 p.r, .int .i64 p.a]
theorem plc_cons (p : Pl) (l : List Pl) : plc (p :: l) = .int .i64 p.r :: .int .i64 p.a :: plc l := rfl
theorem plc_append (a b : List Pl) : plc (a ++ b) = plc a ++ plc b := by simp [plc]
theorem plc_length (l : List Pl) : (plc l).length = l.length * 2 := by
  induction l with
  | nil => rfl
  | cons p l ih => simp only [plc_cons, List.length_cons, ih]; omega
theorem plc_get (xs : List Pl) (i : Nat) (h : i < xs.length) : (plc xs)[i * 2]? = some (.int .i64 xs[i].r) ∧ (plc xs)[i * 2 + 1]? = some (.int .i64 xs[i].a) := by
  induction xs generalizing i with
  | nil => simp at h
  | cons x xs ih =>
    cases i with
    | zero => simp [plc_cons]
    | succ i =>
      have := ih i (by simpa using h)
      rw [plc_cons, show (i + 1) * 2 = i * 2 + 2 by omega]
      simpa using this
theorem plc_one (xs : List Pl) : ∀ u ∈ plc xs, u.oneCell' = true := by
  intro u hu
  simp [plc] at hu
  obtain ⟨x, _, h⟩ := hu
  rcases h with rfl | rfl <;> rfl

/-- places in a row -/
def RowP (w : World) (a : Option Addr) (len : Nat) (xs : List Pl) : Prop :=
  len = xs.length ∧ xs.length ≤ 1000000 ∧ (xs = [] ∨ ∃ b off, a = some ⟨b, off, none⟩ ∧ b < w.heap.size ∧ ∀ i (h : i < xs.length), w.cell? ⟨b, off + i * 2, none⟩ = some (.int .i64 xs[i].r) ∧ w.cell? ⟨b, off + i * 2 + 1, none⟩ = some (.int .i64 xs[i].a))

theorem RowP.below {w w' : World} {a : Option Addr} {len : Nat} {xs : List Pl} (h : RowP w a len xs) (hb : Below w.heap.size w w') : RowP w' a len xs := by
  obtain ⟨h1, h2, h3⟩ := h
  refine ⟨h1, h2, ?_⟩
  rcases h3 with h3 | ⟨b, off, e, hlt, hc⟩
  · exact .inl h3
  · exact .inr ⟨b, off, e, Nat.lt_of_lt_of_le hlt hb.size, fun i hi => by rw [hb.cell (p := ⟨b, _, none⟩) hlt, hb.cell (p := ⟨b, _, none⟩) hlt]; exact hc i hi⟩

theorem own_eqP {w : World} {B : Nat} {t : TypeId} {z : Nat} {v : Value} {n n' : Nat} {xs xs' : List Value} (h : w.ownsRow B t z v n xs) (hn : n = n') (hx : xs = xs') : w.ownsRow B t z v n' xs' := by rw [← hn, ← hx]; exact h
theorem own_belowP {w w' : World} {B : Nat} {t : TypeId} {z : Nat} {v : Value} {n : Nat} {xs : List Value} (h : w.ownsRow B t z v n xs) (hb : Below w.heap.size w w') : w'.ownsRow B t z v n xs := by
  refine ⟨h.1, ?_⟩
  rcases h.2 with h2 | ⟨g, cap, cur, h1, h2, h3, h4⟩
  · exact .inl h2
  · exact .inr ⟨g, cap, cur, h1, h2, by rw [hb.block g (Array.getElem?_eq_some_iff.1 h3).1]; exact h3, h4⟩

theorem rowP_of_own {w : World} {B : Nat} {v : Value} {xs : List Pl} (h : w.ownsRow B 117 2 v xs.length (plc xs)) (hl : xs.length ≤ 1000000) : ∃ a cap, v = .slice a xs.length cap ∧ RowP w a xs.length xs ∧ (a = none → cap = 0) := by
  rcases h.2 with ⟨rfl, h0⟩ | ⟨g, cap, cur, rfl, _, hg, _⟩
  · have : xs = [] := List.length_eq_zero_iff.1 h0
    subst this
    exact ⟨none, 0, rfl, ⟨rfl, hl, .inl rfl⟩, fun _ => rfl⟩
  · refine ⟨some ⟨g, 0, none⟩, cap, rfl, ⟨rfl, hl, .inr ⟨g, 0, rfl, (Array.getElem?_eq_some_iff.1 hg).1, fun i hi => ?_⟩⟩, fun e => by simp at e⟩
    obtain ⟨c0, c1⟩ := plc_get xs i hi
    have k0 := h.cells (g := g) rfl _ _ c0
    have k1 := h.cells (g := g) rfl _ _ c1
    rw [Go.WideShapes.add_plain] at k0 k1
    exact ⟨k0, k1⟩

/-- the order of numbers -/
def cmpI (a b : Int) : Int := if a < b then -1 else if b < a then 1 else 0
def cmpP (a b : Pl) : Int := if a.r = b.r then cmpI a.a b.a else cmpI a.r b.r

theorem nan_int (x : Int) (w : World) : Calls Tryz.prog 185 #[.int .i64 x] w fun e w' => e = .returned (.bool false) ∧ w' = w := by
  go_enter Tryz.func185, Tryz.ntmps185
  go_wp2
  go_ret
  exact ⟨by simp, rfl⟩

set_option maxHeartbeats 400000 in
theorem cmp_int (x y : Int) (w : World) : Calls Tryz.prog 166 #[.int .i64 x, .int .i64 y] w fun e w' => e = .returned (.int .i64 (cmpI x y)) ∧ w' = w := by
  unfold cmpI
  by_cases h1 : x < y
  · go_enter Tryz.func166, Tryz.ntmps166
    go_wp2_with (go_at_call 185; refine (nan_int _ _).mono ?_; rintro e w' ⟨rfl, rfl⟩)
    go_ret
    exact ⟨by simp, rfl⟩
  · by_cases h2 : y < x
    · go_enter Tryz.func166, Tryz.ntmps166
      go_wp2_with (go_at_call 185; refine (nan_int _ _).mono ?_; rintro e w' ⟨rfl, rfl⟩)
      go_ret
      exact ⟨by simp, rfl⟩
    · go_enter Tryz.func166, Tryz.ntmps166
      go_wp2_with (go_at_call 185; refine (nan_int _ _).mono ?_; rintro e w' ⟨rfl, rfl⟩)
      go_ret
      exact ⟨by simp, rfl⟩

set_option maxHeartbeats 400000 in
theorem compare_any (p q : Pl) (w : World) : Calls Tryz.prog 137 #[.agg #[.int .i64 p.r, .int .i64 p.a], .agg #[.int .i64 q.r, .int .i64 q.a]] w fun e w' => e = .returned (.int .i64 (cmpP p q)) ∧ Below w.heap.size w w' := by
  unfold cmpP
  obtain ⟨r, a⟩ := p
  obtain ⟨r', a'⟩ := q
  by_cases h : r = r'
  · subst h
    go_enter Tryz.func137, Tryz.ntmps137
    go_wp2_with (go_at_call 166; refine (cmp_int _ _ _).mono ?_; rintro e w' ⟨rfl, rfl⟩)
    go_ret
    exact ⟨by simp, ((Below.refl _ _).alloc (Nat.le_refl _) _).alloc (by simp) _⟩
  · go_enter Tryz.func137, Tryz.ntmps137
    go_wp2_with (go_at_call 166; refine (cmp_int _ _ _).mono ?_; rintro e w' ⟨rfl, rfl⟩)
    go_ret
    exact ⟨by simp, ((Below.refl _ _).alloc (Nat.le_refl _) _).alloc (by simp) _⟩

/-- a place that may be -/
def okB (p : Pl) : Bool := decide (1 ≤ p.r) && decide (p.r ≤ 1073741824) && decide (0 ≤ p.a) && decide (p.a < 1073741824)
def follB (p q : Pl) : Bool := okB q && decide (cmpP p q < 0)

theorem compare_as (p q : Pl) (c : Int) (hc : cmpP p q = c) (w : World) : Calls Tryz.prog 137 #[.agg #[.int .i64 p.r, .int .i64 p.a], .agg #[.int .i64 q.r, .int .i64 q.a]] w fun e w' => e = .returned (.int .i64 c) ∧ Below w.heap.size w w' := by
  rw [← hc]; exact compare_any p q w

set_option maxHeartbeats 1000000 in
theorem follows_any (p q : Pl) (w : World) : Calls Tryz.prog 102 #[.agg #[.int .i64 p.r, .int .i64 p.a], .agg #[.int .i64 q.r, .int .i64 q.a]] w fun e w' => e = .returned (.bool (follB p q)) ∧ Below w.heap.size w w' := by
  obtain ⟨c, hc⟩ : ∃ c, cmpP p q = c := ⟨_, rfl⟩
  have HC : Hid (cmpP p q = c) := hc
  obtain ⟨b1, e1⟩ : ∃ b, decide ((1 : Int) ≤ q.r) = b := ⟨_, rfl⟩
  obtain ⟨b2, e2⟩ : ∃ b, decide (q.r ≤ 1073741824) = b := ⟨_, rfl⟩
  obtain ⟨b3, e3⟩ : ∃ b, decide ((0 : Int) ≤ q.a) = b := ⟨_, rfl⟩
  obtain ⟨b4, e4⟩ : ∃ b, decide (q.a < 1073741824) = b := ⟨_, rfl⟩
  have HF : Hid (follB p q = (b1 && b2 && b3 && b4 && decide (c < 0))) := by
    show _ = _
    rw [follB, okB, hc, e1, e2, e3, e4]
  clear hc
  cases b1
  · go_enter Tryz.func102, Tryz.ntmps102
    go_wp2
    go_ret
    exact ⟨pret_bool (by rw [HF.out]; simp), ((Below.refl _ _).alloc (Nat.le_refl _) _).alloc (by simp) _⟩
  · cases b2
    · go_enter Tryz.func102, Tryz.ntmps102
      go_wp2
      go_ret
      exact ⟨pret_bool (by rw [HF.out]; simp), ((Below.refl _ _).alloc (Nat.le_refl _) _).alloc (by simp) _⟩
    · cases b3
      · go_enter Tryz.func102, Tryz.ntmps102
        go_wp2
        go_ret
        exact ⟨pret_bool (by rw [HF.out]; simp), ((Below.refl _ _).alloc (Nat.le_refl _) _).alloc (by simp) _⟩
      · cases b4
        · go_enter Tryz.func102, Tryz.ntmps102
          go_wp2
          go_ret
          exact ⟨pret_bool (by rw [HF.out]; simp), ((Below.refl _ _).alloc (Nat.le_refl _) _).alloc (by simp) _⟩
        · go_enter Tryz.func102, Tryz.ntmps102
          go_wp2_with fail
          refine (compare_as p q c HC.out _).mono ?_
          rintro _ w1 ⟨rfl, hb1⟩
          go_wp2
          go_ret
          exact ⟨pret_bool (by rw [HF.out]; simp), (((Below.refl _ _).alloc (Nat.le_refl _) _).alloc (by simp) _).trans (hb1.mono (by simp; omega))⟩
end Go.Proofs.YtjgdnainhoipgaaGreatDoor
namespace Go.Proofs.YtjgdnainhoipgaaGreatDoor
open Go.RowKit

def rightFrom : Pl → List Pl → Bool
  | _, [] => true
  | p, q :: l => follB p q && rightFrom q l
def rightL (l : List Pl) : Bool := rightFrom ⟨0, 0⟩ l

theorem right_drop (p : Pl) (xs : List Pl) (k : Nat) (hk : k < xs.length) (R : Bool) (h : rightFrom p (xs.drop k) = R) : (follB p xs[k] = false → R = false) ∧ (follB p xs[k] = true → rightFrom xs[k] (xs.drop (k + 1)) = R) := by
  rw [List.drop_eq_getElem_cons hk, rightFrom] at h
  constructor
  · intro e; rw [e] at h; simpa using h.symm
  · intro e; rw [e] at h; simpa using h

/-- a variable that holds a place -/
def VarP (B : Nat) (p : Pl) (w : World) : Prop := w.cell? ⟨B, 0, none⟩ = some (.int .i64 p.r) ∧ w.cell? ⟨B, 1, none⟩ = some (.int .i64 p.a) ∧ w.frozen? ⟨B, 0, none⟩ = false ∧ w.frozen? ⟨B, 1, none⟩ = false ∧ B < w.heap.size

theorem VarP.below {B : Nat} {p : Pl} {w w' : World} (h : VarP B p w) (hb : Below w.heap.size w w') : VarP B p w' := by
  obtain ⟨h1, h2, h3, h4, h5⟩ := h
  have e : w'.heap[B]? = w.heap[B]? := hb.block B h5
  refine ⟨by rw [hb.cell (p := ⟨B, 0, none⟩) h5]; exact h1, by rw [hb.cell (p := ⟨B, 1, none⟩) h5]; exact h2, ?_, ?_, Nat.lt_of_lt_of_le h5 hb.size⟩
  · rw [← h3]; simp only [World.frozen?, e]
  · rw [← h4]; simp only [World.frozen?, e]

theorem VarP.new (w : World) : VarP w.heap.size ⟨0, 0⟩ (w.alloc (.cells #[.int .i64 0, .int .i64 0] 117)) := by
  have hn := heap_alloc_new w (.cells #[.int .i64 0, .int .i64 0] 117)
  refine ⟨by simp, by simp, ?_, ?_, by simp⟩
  · simp only [World.frozen?, hn]; simp
  · simp only [World.frozen?, hn]; simp

theorem VarP.set {B : Nat} {p : Pl} {w : World} (h : VarP B p w) (q : Pl) : VarP B q ((w.setCell ⟨B, 0, none⟩ (.int .i64 q.r)).setCell ⟨B, 1, none⟩ (.int .i64 q.a)) := by
  obtain ⟨h1, h2, h3, h4, h5⟩ := h
  have o : (w.setCell ⟨B, 0, none⟩ (.int .i64 q.r)).cell? ⟨B, 1, none⟩ = some (.int .i64 p.a) := by rw [World.cell?_setCell_other _ _ _ _ (fun e => by cases e)]; exact h2
  refine ⟨?_, World.cell?_setCell_same _ _ _ o, ?_, ?_, ?_⟩
  · rw [World.cell?_setCell_other _ _ _ _ (fun e => by cases e)]; exact World.cell?_setCell_same _ _ _ h1
  · rw [World.frozen?_setCell, World.frozen?_setCell]; exact h3
  · rw [World.frozen?_setCell, World.frozen?_setCell]; exact h4
  · simpa [World.setCell] using h5

theorem follows_as (p q : Pl) (b : Bool) (hb : follB p q = b) (w : World) : Calls Tryz.prog 102 #[.agg #[.int .i64 p.r, .int .i64 p.a], .agg #[.int .i64 q.r, .int .i64 q.a]] w fun e w' => e = .returned (.bool b) ∧ Below w.heap.size w w' := by
  rw [← hb]; exact follows_any p q w

set_option maxRecDepth 100000 in
set_option maxHeartbeats 1000000 in
theorem right_any (a : Option Addr) (len cap : Nat) (xs : List Pl) (w : World) (hr : RowP w a len xs) :
    Calls Tryz.prog 64 #[.slice a len cap] w fun e w' => e = .returned (.bool (rightL xs)) ∧ Below w.heap.size w w' := by
  obtain ⟨rfl, hm, hx⟩ := hr
  have HR : Hid (rightFrom ⟨0, 0⟩ (xs.drop 0) = rightL xs) := rfl
  generalize rightL xs = R at *
  go_enter Tryz.func64, Tryz.ntmps64
  go_wp2
  go_loopw [8] (fun i wr => ∃ (k : Nat) (p : Pl), k ≤ xs.length ∧ i = .int .i64 k ∧ Hid (VarP w.heap.size p wr ∧ Below w.heap.size w wr ∧ rightFrom p (xs.drop k) = R)) (fun i _ => xs.length - (intOf i).toNat)
  case atStart => exact ⟨0, ⟨0, 0⟩, Nat.zero_le _, rfl, VarP.new w, (Below.refl _ _).alloc (Nat.le_refl _) _, HR.out⟩
  case round =>
    clear HR
    obtain ⟨k, p, hk, rfl, hz⟩ := hrel
    by_cases hlt : k < xs.length
    · rcases hx with hx | ⟨b, off, rfl, hb, hrow⟩
      · simp [hx] at hlt
      obtain ⟨g1, g2⟩ := hrow k hlt
      clear hrow
      rw [← hz.out.2.1.cell (p := ⟨b, _, none⟩) hb] at g1 g2
      obtain ⟨hR1, hR2⟩ := right_drop p xs k hlt R hz.out.2.2
      have i1 : (k : Int) < (xs.length : Int) := by omega
      generalize xs[k] = q at *
      have HV : Hid (VarP w.heap.size p wr) := hz.out.1
      have HB : Hid (Below w.heap.size w wr) := hz.out.2.1
      have H1 : Hid _ := hR1
      have H2 : Hid _ := hR2
      clear hz hR1 hR2
      have HA : Hid (Below wr.heap.size wr (wr.alloc (.cells #[.int .i64 q.r, .int .i64 q.a] 117))) := (Below.refl _ _).alloc (Nat.le_refl _) _
      have HV1 : Hid (VarP w.heap.size p (wr.alloc (.cells #[.int .i64 q.r, .int .i64 q.a] 117))) := VarP.below HV.out HA.out
      obtain ⟨c1, c2, f1, f2, _⟩ := HV1.out
      have c3 : (wr.alloc (.cells #[.int .i64 q.r, .int .i64 q.a] 117)).cell? ⟨wr.heap.size, 0, none⟩ = some (.int .i64 q.r) := by simp
      have c4 : (wr.alloc (.cells #[.int .i64 q.r, .int .i64 q.a] 117)).cell? ⟨wr.heap.size, 1, none⟩ = some (.int .i64 q.a) := by simp
      go_wp2_with fail
      obtain ⟨bb, hbb⟩ : ∃ bb, follB p q = bb := ⟨_, rfl⟩
      refine (follows_as p q bb hbb _).mono ?_
      rintro _ w2 ⟨rfl, hb2⟩
      have HV2 : Hid (VarP w.heap.size p w2) := VarP.below HV1.out hb2
      have HW2 : Hid (Below w.heap.size w w2) := (HB.out.trans (HA.out.mono HB.out.size)).trans (hb2.mono (by have := HB.out.size; simp; omega))
      rw [← hb2.cell (p := ⟨wr.heap.size, 0, none⟩) (by simp)] at c3
      rw [← hb2.cell (p := ⟨wr.heap.size, 1, none⟩) (by simp)] at c4
      clear c1 c2 f1 f2 hb2 HV1 HA HV HB g1 g2
      cases bb
      · have e := H1.out hbb
        subst e
        go_wp2
        go_ret
        exact ⟨rfl, HW2.out⟩
      · have HR : Hid _ := H2.out hbb
        clear H1 H2 hbb
        obtain ⟨c1, c2, f1, f2, _⟩ := HV2.out
        go_wp2
        go_roundw
        case rel => exact ⟨k + 1, q, by omega, by go_num, HV2.out.set q, (HW2.out.setCell (p := ⟨_, 0, none⟩) (Nat.le_refl _) _).setCell (p := ⟨_, 1, none⟩) (Nat.le_refl _) _, HR.out⟩
        case measure => simp [intOf]; omega
    · have e : R = true := by
        have := hz.out.2.2
        rw [List.drop_eq_nil_of_le (by omega)] at this
        exact this.symm
      subst e
      go_wp2
      go_ret
      exact ⟨rfl, hz.out.2.1⟩

theorem stoodPl : Tryz.prog.stoodInHeld 117 = false := by kernel_rfl
theorem guardPl : Tryz.prog.eqGuardType Tryz.prog.depth 117 = false := by kernel_rfl
end Go.Proofs.YtjgdnainhoipgaaGreatDoor
