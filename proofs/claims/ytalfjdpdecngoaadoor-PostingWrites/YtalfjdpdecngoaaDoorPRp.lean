/- The contract of the document's ReadPlaces. -/
import Derived.Test.YtalfjdpdecngoaaDoorPWp
import Derived.Test.YtalfjdpdecngoaaDoorPWrM
namespace Go.Proofs.YtalfjdpdecngoaaDoor
open Go.RowKit

theorem infoInt2 : (Tryd.prog.info? 3).map (fun i => (i.zero, i.size, i.bytes)) = some (some (.int .i64 0), 1, 8) := by kernel_rfl
def ncc (l : List Nat) : List Value := l.map fun (x : Nat) => Value.int .i64 (x : Int)
theorem ncc_append (a b : List Nat) : ncc (a ++ b) = ncc a ++ ncc b := by simp [ncc]
theorem one_int2 (x : Int) : ∀ u ∈ [Value.int .i64 x], u.oneCell' = true := by intro y hy; simp at hy; subst hy; rfl

def ref3 (s : List UInt8) : Option (List Pl) → Option (List Pl)
  | none => none
  | some l => if rightL l = true ∧ encL l = s then some l else none
def ref2 (s : List UInt8) : Option (List Nat) → Option (List Pl)
  | none => none
  | some ns => ref3 s (plsL ⟨0, 0⟩ ns)
theorem refR_2 (s : List UInt8) : refR s = ref2 s (numsF s.length s) := by
  unfold refR
  cases numsF s.length s with
  | none => rfl
  | some ns =>
    simp only [ref2]
    cases plsL ⟨0, 0⟩ ns with
    | none => rfl
    | some l => rfl

theorem nums_step (f : Nat) (l : List UInt8) (hl : 0 < l.length) (hf : l.length ≤ f) (N : Option (List Nat)) (ns : List Nat) (h : (numsF f l).map (ns ++ ·) = N) :
    (lnL 0 0 l = none → N = none) ∧ ∀ n r, lnL 0 0 l = some (n, r) → (numsF (f - 1) r).map ((ns ++ [n]) ++ ·) = N := by
  cases l with
  | nil => simp at hl
  | cons c l =>
    cases f with
    | zero => simp at hf
    | succ f =>
      rw [numsF] at h
      refine ⟨fun e => ?_, fun n r e => ?_⟩
      · rw [e] at h; exact h.symm
      · rw [e] at h
        rw [← h]
        simp only [Nat.add_sub_cancel]
        cases numsF f r <;> simp

theorem ints_form {w : World} {B : Nat} {v : Value} {ns : List Nat} (h : w.ownsRow B 3 1 v ns.length (ncc ns)) : ∃ a c, v = .slice a ns.length c ∧ (ns = [] ∨ ∃ g, a = some ⟨g, 0, none⟩ ∧ g < w.heap.size ∧ ∀ i (hi : i < ns.length), w.cell? ⟨g, i, none⟩ = some (.int .i64 (ns[i] : Nat))) := by
  rcases h.2 with ⟨rfl, h0⟩ | ⟨g, cap, cur, rfl, _, hg, _⟩
  · exact ⟨none, 0, by rw [h0], .inl (List.length_eq_zero_iff.1 h0)⟩
  · refine ⟨_, cap, rfl, .inr ⟨g, rfl, (Array.getElem?_eq_some_iff.1 hg).1, fun i hi => ?_⟩⟩
    have k0 := h.cells (g := g) rfl i (.int .i64 (ns[i] : Nat)) (by simp [ncc, hi])
    rw [Go.WideShapes.add_plain, Nat.zero_add] at k0
    exact k0

theorem pls_step (p : Pl) (n : Nat) (rest : List Nat) (l : List Pl) (PL : Option (List Pl)) (h : (plsL p (n :: rest)).map (l ++ ·) = PL) :
    (n % 2 = 0 → (plsL ⟨p.r, p.a + (n / 2 : Nat)⟩ rest).map ((l ++ [⟨p.r, p.a + (n / 2 : Nat)⟩]) ++ ·) = PL) ∧
    (n % 2 ≠ 0 → rest = [] → PL = none) ∧
    (n % 2 ≠ 0 → ∀ m r, rest = m :: r → (plsL ⟨p.r + (n / 2 : Nat), (m : Nat)⟩ r).map ((l ++ [⟨p.r + (n / 2 : Nat), (m : Nat)⟩]) ++ ·) = PL) := by
  cases rest with
  | nil =>
    refine ⟨fun e => ?_, fun e _ => ?_, fun _ m r e => (by cases e)⟩
    · rw [plsL, if_pos e] at h; rw [← h]; simp [plsL]
    · rw [plsL, if_neg e] at h; exact h.symm
  | cons m r =>
    refine ⟨fun e => ?_, fun _ e2 => (by cases e2), fun e m' r' e2 => ?_⟩
    · rw [plsL, if_pos e] at h; rw [← h]; cases plsL ⟨p.r, p.a + ((n / 2 : Nat) : Int)⟩ (m :: r) <;> simp
    · cases e2
      rw [plsL, if_neg e] at h; rw [← h]; cases plsL ⟨p.r + ((n / 2 : Nat) : Int), ((m : Nat) : Int)⟩ r <;> simp

theorem VarP.grown {B : Nat} {p : Pl} {w w' : World} {row : Option Nat} (h : VarP B p w) (hg : w.grownBy w' row) (hn : row ≠ some B) : VarP B p w' := by
  obtain ⟨h1, h2, h3, h4, h5⟩ := h
  have e : w'.heap[B]? = w.heap[B]? := hg.block B h5 (fun e => hn e.symm)
  refine ⟨?_, ?_, ?_, ?_, Nat.lt_of_lt_of_le h5 hg.size⟩
  · rw [← h1]; exact World.cell?_of_block e
  · rw [← h2]; exact World.cell?_of_block e
  · rw [← h3]; exact World.frozen?_of_block e
  · rw [← h4]; exact World.frozen?_of_block e
theorem VarP.set1 {B : Nat} {p : Pl} {w : World} (h : VarP B p w) (x : Int) : VarP B ⟨p.r, x⟩ (w.setCell ⟨B, 1, none⟩ (.int .i64 x)) := by
  obtain ⟨h1, h2, h3, h4, h5⟩ := h
  refine ⟨?_, World.cell?_setCell_same _ _ _ h2, ?_, ?_, ?_⟩
  · rw [World.cell?_setCell_other _ _ _ _ (fun e => by cases e)]; exact h1
  · rw [World.frozen?_setCell]; exact h3
  · rw [World.frozen?_setCell]; exact h4
  · simpa [World.setCell] using h5

set_option maxRecDepth 100000 in
set_option maxHeartbeats 16000000 in
theorem readPlaces_any (s : ByteArray) (w : World) (hs : s.size ≤ 200) :
    Calls Tryd.prog 21 #[.string s] w fun e w' => ((∃ ps v, refR s.data.toList = some ps ∧ e = .returned (.tuple #[v, .int .i64 0]) ∧ ps.length ≤ 900000 ∧ w'.ownsRow w.heap.size 47 2 v ps.length (plc ps)) ∨
      (refR s.data.toList = none ∧ e = .returned (.tuple #[.slice none 0 0, .int .i64 3]))) ∧ Below w.heap.size w w' := by
  obtain ⟨i0, hi, hz0, hz1, hz2⟩ := pinfo_parts infoInt2
  obtain ⟨R, hR⟩ : ∃ R, refR s.data.toList = R := ⟨_, rfl⟩
  obtain ⟨N, hN⟩ : ∃ N, numsF s.size s.data.toList = N := ⟨_, rfl⟩
  have HN : Hid ((numsF s.size (s.data.toList.drop 0)).map ([] ++ ·) = N) := by
    show _ = _
    rw [← hN, List.drop_zero]
    cases numsF s.size s.data.toList <;> simp
  have HR : Hid (R = ref2 s.data.toList N) := by
    show _ = _
    rw [← hR, refR_2, show s.data.toList.length = s.size by simp, hN]
  rw [hR]
  clear hR hN
  go_enter Tryd.func21, Tryd.ntmps21
  go_wp2
  go_loopw [4, 5] (fun v i wr => ∃ (k : Nat) (ns : List Nat) (f : Nat), k ≤ s.size ∧ s.size - k ≤ f ∧ ns.length ≤ k ∧ i = .int .i64 k ∧ Hid ((numsF f (s.data.toList.drop k)).map (ns ++ ·) = N ∧ ∀ n ∈ ns, n < 34359738368) ∧ Hid (wr.ownsRow w.heap.size 3 1 v ns.length (ncc ns) ∧ Below w.heap.size w wr)) (fun _ i _ => s.size - (intOf i).toNat)
  case atStart => exact ⟨0, [], s.size, Nat.zero_le _, by omega, by simp, rfl, ⟨HN.out, fun n h => by cases h⟩, World.ownsRow_nil _ _ _ _, Below.refl _ _⟩
  case round =>
    clear HN
    obtain ⟨k, ns, f, hk, hf, hnk, rfl, hzN, hown⟩ := hrel
    by_cases hlt : k < s.size
    · obtain ⟨hs1, hs2⟩ := nums_step f (s.data.toList.drop k) (by simp; omega) (by simp; omega) N ns hzN.out.1
      obtain ⟨X, hX⟩ : ∃ X, lnL 0 0 (s.data.toList.drop k) = X := ⟨_, rfl⟩
      have HX : Hid (lnL 0 0 (s.data.toList.drop k) = X) := hX
      rw [hX] at hs1 hs2
      have HS1 : Hid (X = none → N = none) := hs1
      have HS2 : Hid (∀ n r, X = some (n, r) → (numsF (f - 1) r).map ((ns ++ [n]) ++ ·) = N) := hs2
      have HNS : Hid (∀ n ∈ ns, n < 34359738368) := hzN.out.2
      clear hs1 hs2 hX hzN
      go_wp2
      go_loop [5, 6, 7] (fun i n c => ∃ m acc kk : Nat, m ≤ s.size ∧ kk ≤ 5 ∧ acc < 128 ^ kk ∧ i = .int .i64 m ∧ n = .int .i64 acc ∧ c = .int .i64 kk ∧ k ≤ m ∧ Hid (lnL kk acc (s.data.toList.drop m) = X)) (fun i _ _ => s.size - (intOf i).toNat)
      case atStart => exact ⟨k, 0, 0, hk, by omega, by omega, rfl, rfl, rfl, Nat.le_refl _, HX⟩
      case round =>
        clear HX
        obtain ⟨m, acc, kk, hm, hkk, hacc, rfl, rfl, rfl, hkm, hz⟩ := hrel
        by_cases h1 : m < s.size
        · have h1' : (m : Int) < (s.size : Int) := by omega
          have h1d : decide ((m : Int) < (s.size : Int)) = true := by simpa using h1'
          have h1e : ((m : Int) == (s.size : Int)) = false := by simp; omega
          have hx := UInt8.toNat_lt s[m]
          obtain ⟨x, hy⟩ : ∃ x, s[m].toNat = x := ⟨_, rfl⟩
          rw [hy] at hx
          have hst := drop_cons s m h1
          have HDC : Hid (lnL kk acc (s.data.toList.drop m) = if 128 ≤ x ∧ kk < 5 then lnL (kk + 1) (acc + (x - 128) * 128 ^ kk) (s.data.toList.drop (m + 1)) else if kk = 5 then none else some (acc + x * 128 ^ kk, s.data.toList.drop (m + 1))) := by
            show _ = _
            rw [hst, lnL, hy]
          clear hst
          by_cases hc : 128 ≤ x
          · have hc' : (128 : Int) ≤ (x : Int) := by omega
            have hcd : decide ((128 : Int) ≤ (x : Int)) = true := by simpa using hc'
            have hk' : kk = 0 ∨ kk = 1 ∨ kk = 2 ∨ kk = 3 ∨ kk = 4 ∨ kk = 5 := by omega
            rcases hk' with rfl | rfl | rfl | rfl | rfl | rfl
            · have HZ2 : Hid (lnL 1 (acc + (x - 128) * 1) (s.data.toList.drop (m + 1)) = X) := by
                have h := HDC.out.symm.trans hz.out
                rw [if_pos ⟨hc, by omega⟩] at h
                exact h
              have hacc' : acc < 1 := hacc
              have e8 : ((x : Int) - 128) * 1 = (((x - 128) * 1 : Nat) : Int) := by omega
              clear hz HDC
              go_wp2
              go_round
              case rel => exact ⟨m + 1, acc + (x - 128) * 1, 1, by omega, by omega, by show _ < 128; omega, by go_num, by simp <;> omega, by go_num, by omega, HZ2⟩
              case measure => simp [intOf]; omega
            · have HZ2 : Hid (lnL 2 (acc + (x - 128) * 128) (s.data.toList.drop (m + 1)) = X) := by
                have h := HDC.out.symm.trans hz.out
                rw [if_pos ⟨hc, by omega⟩] at h
                exact h
              have hacc' : acc < 128 := hacc
              have e8 : ((x : Int) - 128) * 128 = (((x - 128) * 128 : Nat) : Int) := by omega
              clear hz HDC
              go_wp2
              go_round
              case rel => exact ⟨m + 1, acc + (x - 128) * 128, 2, by omega, by omega, by show _ < 16384; omega, by go_num, by simp <;> omega, by go_num, by omega, HZ2⟩
              case measure => simp [intOf]; omega
            · have HZ2 : Hid (lnL 3 (acc + (x - 128) * 16384) (s.data.toList.drop (m + 1)) = X) := by
                have h := HDC.out.symm.trans hz.out
                rw [if_pos ⟨hc, by omega⟩] at h
                exact h
              have hacc' : acc < 16384 := hacc
              have e8 : ((x : Int) - 128) * 16384 = (((x - 128) * 16384 : Nat) : Int) := by omega
              clear hz HDC
              go_wp2
              go_round
              case rel => exact ⟨m + 1, acc + (x - 128) * 16384, 3, by omega, by omega, by show _ < 2097152; omega, by go_num, by simp <;> omega, by go_num, by omega, HZ2⟩
              case measure => simp [intOf]; omega
            · have HZ2 : Hid (lnL 4 (acc + (x - 128) * 2097152) (s.data.toList.drop (m + 1)) = X) := by
                have h := HDC.out.symm.trans hz.out
                rw [if_pos ⟨hc, by omega⟩] at h
                exact h
              have hacc' : acc < 2097152 := hacc
              have e8 : ((x : Int) - 128) * 2097152 = (((x - 128) * 2097152 : Nat) : Int) := by omega
              clear hz HDC
              go_wp2
              go_round
              case rel => exact ⟨m + 1, acc + (x - 128) * 2097152, 4, by omega, by omega, by show _ < 268435456; omega, by go_num, by simp <;> omega, by go_num, by omega, HZ2⟩
              case measure => simp [intOf]; omega
            · have HZ2 : Hid (lnL 5 (acc + (x - 128) * 268435456) (s.data.toList.drop (m + 1)) = X) := by
                have h := HDC.out.symm.trans hz.out
                rw [if_pos ⟨hc, by omega⟩] at h
                exact h
              have hacc' : acc < 268435456 := hacc
              have e8 : ((x : Int) - 128) * 268435456 = (((x - 128) * 268435456 : Nat) : Int) := by omega
              clear hz HDC
              go_wp2
              go_round
              case rel => exact ⟨m + 1, acc + (x - 128) * 268435456, 5, by omega, by omega, by show _ < 34359738368; omega, by go_num, by simp <;> omega, by go_num, by omega, HZ2⟩
              case measure => simp [intOf]; omega
            · have hX : X = none := by rw [← hz.out, HDC.out, if_neg (by omega), if_pos rfl]
              have e := HS1.out hX
              have hR := HR.out
              rw [e] at hR
              have hR2 : R = none := hR
              subst hR2
              have HO : Hid (Below w.heap.size w wr) := hown.out.2
              clear hz HDC hX e hR HR HS1 HS2 hown HNS
              go_wp2
              go_ret2
              exact ⟨rfl, HO.out⟩
          · have hc' : ¬ (128 : Int) ≤ (x : Int) := by omega
            have hcd : decide ((128 : Int) ≤ (x : Int)) = false := by simpa using hc'
            have hk' : kk = 0 ∨ kk = 1 ∨ kk = 2 ∨ kk = 3 ∨ kk = 4 ∨ kk = 5 := by omega
            rcases hk' with rfl | rfl | rfl | rfl | rfl | rfl
            · have hX : X = some (acc + x * 1, s.data.toList.drop (m + 1)) := by rw [← hz.out, HDC.out, if_neg (by omega), if_neg (by omega)]
              have hacc' : acc < 1 := hacc
              obtain ⟨y, hyy⟩ : ∃ y, acc + x * 1 = y := ⟨_, rfl⟩
              have hyb : y < 34359738368 := by omega
              have hyI : (acc : Int) + (x : Int) = (y : Int) := by omega
              have HZ2 : Hid ((numsF (f - 1) (s.data.toList.drop (m + 1))).map ((ns ++ [y]) ++ ·) = N) := HS2.out y _ (by rw [hX, hyy])
              have HB : Hid (Below w.heap.size w wr) := hown.out.2
              have HO : Hid (wr.ownsRow w.heap.size 3 1 u4 ns.length (ncc ns)) := hown.out.1
              have hsz := HB.out.size
              clear hz HDC hX HS1 HS2 hown hyy
              go_wp2_with (at_builtin; refine wpList_append_own _ rfl _ _ 68 rfl w.heap.size 3 i0 (.int .i64 0) 1 8 Tryd.underlying68 hi hz0 hz1 hz2 rfl (by decide) _ _ _ rfl (HO.out.alloc _) ⟨wr.heap.size, 0, none⟩ 1 1 [.int .i64 (y : Int)] rfl rfl (cell_one_new _ _ _) (one_int2 _) (by simp [maxLen]; omega) (by omega) (by simp; omega) ?_)
              intro v' w2 ho2 hg2 _
              have HB2 : Hid (Below w.heap.size w w2) := (HB.out.alloc hsz _).grown hg2 (by simp; omega) (fun g hg => (HO.out.lt g hg).1)
              have HO2 : Hid (w2.ownsRow w.heap.size 3 1 v' (ns ++ [y]).length (ncc (ns ++ [y]))) := own_eqP ho2 (by simp) (by simp [ncc])
              have HNS2 : Hid (∀ n ∈ ns ++ [y], n < 34359738368) := fun n hn => by
                rcases List.mem_append.1 hn with h | h
                · exact HNS.out n h
                · obtain rfl := List.mem_singleton.1 h; exact hyb
              clear ho2 hg2 HO HB HNS
              go_wp2
              go_roundw
              case rel => exact ⟨m + 1, ns ++ [y], f - 1, by omega, by omega, by simp; omega, by go_num, ⟨HZ2.out, HNS2.out⟩, HO2.out, HB2.out⟩
              case measure => simp [intOf]; omega
            · have hX : X = some (acc + x * 128, s.data.toList.drop (m + 1)) := by rw [← hz.out, HDC.out, if_neg (by omega), if_neg (by omega)]
              have hacc' : acc < 128 := hacc
              obtain ⟨y, hyy⟩ : ∃ y, acc + x * 128 = y := ⟨_, rfl⟩
              have hyb : y < 34359738368 := by omega
              have hyI : (acc : Int) + (x : Int) * 128 = (y : Int) := by omega
              have HZ2 : Hid ((numsF (f - 1) (s.data.toList.drop (m + 1))).map ((ns ++ [y]) ++ ·) = N) := HS2.out y _ (by rw [hX, hyy])
              have HB : Hid (Below w.heap.size w wr) := hown.out.2
              have HO : Hid (wr.ownsRow w.heap.size 3 1 u4 ns.length (ncc ns)) := hown.out.1
              have hsz := HB.out.size
              clear hz HDC hX HS1 HS2 hown hyy
              go_wp2_with (at_builtin; refine wpList_append_own _ rfl _ _ 68 rfl w.heap.size 3 i0 (.int .i64 0) 1 8 Tryd.underlying68 hi hz0 hz1 hz2 rfl (by decide) _ _ _ rfl (HO.out.alloc _) ⟨wr.heap.size, 0, none⟩ 1 1 [.int .i64 (y : Int)] rfl rfl (cell_one_new _ _ _) (one_int2 _) (by simp [maxLen]; omega) (by omega) (by simp; omega) ?_)
              intro v' w2 ho2 hg2 _
              have HB2 : Hid (Below w.heap.size w w2) := (HB.out.alloc hsz _).grown hg2 (by simp; omega) (fun g hg => (HO.out.lt g hg).1)
              have HO2 : Hid (w2.ownsRow w.heap.size 3 1 v' (ns ++ [y]).length (ncc (ns ++ [y]))) := own_eqP ho2 (by simp) (by simp [ncc])
              have HNS2 : Hid (∀ n ∈ ns ++ [y], n < 34359738368) := fun n hn => by
                rcases List.mem_append.1 hn with h | h
                · exact HNS.out n h
                · obtain rfl := List.mem_singleton.1 h; exact hyb
              clear ho2 hg2 HO HB HNS
              go_wp2
              go_roundw
              case rel => exact ⟨m + 1, ns ++ [y], f - 1, by omega, by omega, by simp; omega, by go_num, ⟨HZ2.out, HNS2.out⟩, HO2.out, HB2.out⟩
              case measure => simp [intOf]; omega
            · have hX : X = some (acc + x * 16384, s.data.toList.drop (m + 1)) := by rw [← hz.out, HDC.out, if_neg (by omega), if_neg (by omega)]
              have hacc' : acc < 16384 := hacc
              obtain ⟨y, hyy⟩ : ∃ y, acc + x * 16384 = y := ⟨_, rfl⟩
              have hyb : y < 34359738368 := by omega
              have hyI : (acc : Int) + (x : Int) * 16384 = (y : Int) := by omega
              have HZ2 : Hid ((numsF (f - 1) (s.data.toList.drop (m + 1))).map ((ns ++ [y]) ++ ·) = N) := HS2.out y _ (by rw [hX, hyy])
              have HB : Hid (Below w.heap.size w wr) := hown.out.2
              have HO : Hid (wr.ownsRow w.heap.size 3 1 u4 ns.length (ncc ns)) := hown.out.1
              have hsz := HB.out.size
              clear hz HDC hX HS1 HS2 hown hyy
              go_wp2_with (at_builtin; refine wpList_append_own _ rfl _ _ 68 rfl w.heap.size 3 i0 (.int .i64 0) 1 8 Tryd.underlying68 hi hz0 hz1 hz2 rfl (by decide) _ _ _ rfl (HO.out.alloc _) ⟨wr.heap.size, 0, none⟩ 1 1 [.int .i64 (y : Int)] rfl rfl (cell_one_new _ _ _) (one_int2 _) (by simp [maxLen]; omega) (by omega) (by simp; omega) ?_)
              intro v' w2 ho2 hg2 _
              have HB2 : Hid (Below w.heap.size w w2) := (HB.out.alloc hsz _).grown hg2 (by simp; omega) (fun g hg => (HO.out.lt g hg).1)
              have HO2 : Hid (w2.ownsRow w.heap.size 3 1 v' (ns ++ [y]).length (ncc (ns ++ [y]))) := own_eqP ho2 (by simp) (by simp [ncc])
              have HNS2 : Hid (∀ n ∈ ns ++ [y], n < 34359738368) := fun n hn => by
                rcases List.mem_append.1 hn with h | h
                · exact HNS.out n h
                · obtain rfl := List.mem_singleton.1 h; exact hyb
              clear ho2 hg2 HO HB HNS
              go_wp2
              go_roundw
              case rel => exact ⟨m + 1, ns ++ [y], f - 1, by omega, by omega, by simp; omega, by go_num, ⟨HZ2.out, HNS2.out⟩, HO2.out, HB2.out⟩
              case measure => simp [intOf]; omega
            · have hX : X = some (acc + x * 2097152, s.data.toList.drop (m + 1)) := by rw [← hz.out, HDC.out, if_neg (by omega), if_neg (by omega)]
              have hacc' : acc < 2097152 := hacc
              obtain ⟨y, hyy⟩ : ∃ y, acc + x * 2097152 = y := ⟨_, rfl⟩
              have hyb : y < 34359738368 := by omega
              have hyI : (acc : Int) + (x : Int) * 2097152 = (y : Int) := by omega
              have HZ2 : Hid ((numsF (f - 1) (s.data.toList.drop (m + 1))).map ((ns ++ [y]) ++ ·) = N) := HS2.out y _ (by rw [hX, hyy])
              have HB : Hid (Below w.heap.size w wr) := hown.out.2
              have HO : Hid (wr.ownsRow w.heap.size 3 1 u4 ns.length (ncc ns)) := hown.out.1
              have hsz := HB.out.size
              clear hz HDC hX HS1 HS2 hown hyy
              go_wp2_with (at_builtin; refine wpList_append_own _ rfl _ _ 68 rfl w.heap.size 3 i0 (.int .i64 0) 1 8 Tryd.underlying68 hi hz0 hz1 hz2 rfl (by decide) _ _ _ rfl (HO.out.alloc _) ⟨wr.heap.size, 0, none⟩ 1 1 [.int .i64 (y : Int)] rfl rfl (cell_one_new _ _ _) (one_int2 _) (by simp [maxLen]; omega) (by omega) (by simp; omega) ?_)
              intro v' w2 ho2 hg2 _
              have HB2 : Hid (Below w.heap.size w w2) := (HB.out.alloc hsz _).grown hg2 (by simp; omega) (fun g hg => (HO.out.lt g hg).1)
              have HO2 : Hid (w2.ownsRow w.heap.size 3 1 v' (ns ++ [y]).length (ncc (ns ++ [y]))) := own_eqP ho2 (by simp) (by simp [ncc])
              have HNS2 : Hid (∀ n ∈ ns ++ [y], n < 34359738368) := fun n hn => by
                rcases List.mem_append.1 hn with h | h
                · exact HNS.out n h
                · obtain rfl := List.mem_singleton.1 h; exact hyb
              clear ho2 hg2 HO HB HNS
              go_wp2
              go_roundw
              case rel => exact ⟨m + 1, ns ++ [y], f - 1, by omega, by omega, by simp; omega, by go_num, ⟨HZ2.out, HNS2.out⟩, HO2.out, HB2.out⟩
              case measure => simp [intOf]; omega
            · have hX : X = some (acc + x * 268435456, s.data.toList.drop (m + 1)) := by rw [← hz.out, HDC.out, if_neg (by omega), if_neg (by omega)]
              have hacc' : acc < 268435456 := hacc
              obtain ⟨y, hyy⟩ : ∃ y, acc + x * 268435456 = y := ⟨_, rfl⟩
              have hyb : y < 34359738368 := by omega
              have hyI : (acc : Int) + (x : Int) * 268435456 = (y : Int) := by omega
              have HZ2 : Hid ((numsF (f - 1) (s.data.toList.drop (m + 1))).map ((ns ++ [y]) ++ ·) = N) := HS2.out y _ (by rw [hX, hyy])
              have HB : Hid (Below w.heap.size w wr) := hown.out.2
              have HO : Hid (wr.ownsRow w.heap.size 3 1 u4 ns.length (ncc ns)) := hown.out.1
              have hsz := HB.out.size
              clear hz HDC hX HS1 HS2 hown hyy
              go_wp2_with (at_builtin; refine wpList_append_own _ rfl _ _ 68 rfl w.heap.size 3 i0 (.int .i64 0) 1 8 Tryd.underlying68 hi hz0 hz1 hz2 rfl (by decide) _ _ _ rfl (HO.out.alloc _) ⟨wr.heap.size, 0, none⟩ 1 1 [.int .i64 (y : Int)] rfl rfl (cell_one_new _ _ _) (one_int2 _) (by simp [maxLen]; omega) (by omega) (by simp; omega) ?_)
              intro v' w2 ho2 hg2 _
              have HB2 : Hid (Below w.heap.size w w2) := (HB.out.alloc hsz _).grown hg2 (by simp; omega) (fun g hg => (HO.out.lt g hg).1)
              have HO2 : Hid (w2.ownsRow w.heap.size 3 1 v' (ns ++ [y]).length (ncc (ns ++ [y]))) := own_eqP ho2 (by simp) (by simp [ncc])
              have HNS2 : Hid (∀ n ∈ ns ++ [y], n < 34359738368) := fun n hn => by
                rcases List.mem_append.1 hn with h | h
                · exact HNS.out n h
                · obtain rfl := List.mem_singleton.1 h; exact hyb
              clear ho2 hg2 HO HB HNS
              go_wp2
              go_roundw
              case rel => exact ⟨m + 1, ns ++ [y], f - 1, by omega, by omega, by simp; omega, by go_num, ⟨HZ2.out, HNS2.out⟩, HO2.out, HB2.out⟩
              case measure => simp [intOf]; omega
            · have hX : X = none := by rw [← hz.out, HDC.out, if_neg (by omega), if_pos rfl]
              have e := HS1.out hX
              have hR := HR.out
              rw [e] at hR
              have hR2 : R = none := hR
              subst hR2
              have HO : Hid (Below w.heap.size w wr) := hown.out.2
              clear hz HDC hX e hR HR HS1 HS2 hown HNS
              go_wp2
              go_ret2
              exact ⟨rfl, HO.out⟩
        · have h1' : ¬ (m : Int) < (s.size : Int) := by omega
          have h1d : decide ((m : Int) < (s.size : Int)) = false := by simpa using h1'
          have h1e : ((m : Int) == (s.size : Int)) = true := by simp; omega
          have hX : X = none := by rw [← hz.out, List.drop_eq_nil_of_le (by simp; omega)]; rfl
          have e := HS1.out hX
          have hR := HR.out
          rw [e] at hR
          have hR2 : R = none := hR
          subst hR2
          have HO : Hid (Below w.heap.size w wr) := hown.out.2
          clear hz hX e hR HR HS1 HS2 hown HNS
          go_wp2
          go_ret2
          exact ⟨rfl, HO.out⟩
    · obtain ⟨w5, rfl⟩ : ∃ w5, w5 = wr := ⟨wr, rfl⟩
      obtain ⟨j0, hj, hj0, hj1, hj2⟩ := pinfo_parts infoPl
      have hNs : N = some ns := by
        have := hzN.out.1
        rw [List.drop_eq_nil_of_le (by simp; omega)] at this
        rw [← this]
        cases f <;> simp [numsF]
      have HR2 : Hid (R = ref3 s.data.toList (plsL ⟨0, 0⟩ ns)) := by show _ = _; rw [HR.out, hNs]; rfl
      obtain ⟨PL, hPL⟩ : ∃ PL, plsL ⟨0, 0⟩ ns = PL := ⟨_, rfl⟩
      have HP : Hid ((plsL ⟨0, 0⟩ (ns.drop 0)).map ([] ++ ·) = PL) := by
        show _ = _
        rw [← hPL, List.drop_zero]
        cases plsL ⟨0, 0⟩ ns <;> simp
      rw [hPL] at HR2
      have HNS : Hid (∀ n ∈ ns, n < 34359738368) := hzN.out.2
      have HB : Hid (Below w.heap.size w w5) := hown.out.2
      obtain ⟨an, cn, hvn, hfn⟩ := ints_form hown.out.1
      subst hvn
      have hlt' : ¬ (k : Int) < (s.size : Int) := by omega
      clear hNs hPL hzN hown HR
      go_wp2
      go_loopw [8, 10] (fun v i wr => ∃ (k : Nat) (p : Pl) (l : List Pl), k ≤ ns.length ∧ l.length ≤ k ∧ i = .int .i64 k ∧ Hid (VarP w5.heap.size p wr ∧ Below w5.heap.size w5 wr ∧ (plsL p (ns.drop k)).map (l ++ ·) = PL) ∧ Hid (wr.ownsRow (w5.heap.size + 1) 47 2 v l.length (plc l)) ∧ Hid (0 ≤ p.r ∧ p.r ≤ k * 34359738368 ∧ 0 ≤ p.a ∧ p.a ≤ (k + 1) * 34359738368)) (fun _ i _ => ns.length - (intOf i).toNat)
      case atStart => exact ⟨0, ⟨0, 0⟩, [], Nat.zero_le _, by simp, rfl, ⟨VarP.new w5, (Below.refl _ _).alloc (Nat.le_refl _) _, HP.out⟩, World.ownsRow_nil _ _ _ _, ⟨by decide, by decide, by decide, by decide⟩⟩
      case round =>
        clear HP
        obtain ⟨k, p, l, hk2, hlk, rfl, hz, hown, hbd⟩ := hrel
        by_cases hlt : k < ns.length
        · rcases hfn with hfn | ⟨g, rfl, hg, hcells⟩
          · simp [hfn] at hlt
          have hn0 := hcells k hlt
          have hdr : ns.drop k = ns[k] :: ns.drop (k + 1) := List.drop_eq_getElem_cons hlt
          have hz3 := hz.out.2.2
          rw [hdr] at hz3
          obtain ⟨ev1, ev2, ev3⟩ := pls_step p ns[k] (ns.drop (k + 1)) l PL hz3
          have hnb := HNS.out ns[k] (List.getElem_mem hlt)
          have HC : Hid (∀ i (hi : i < ns.length), w5.cell? ⟨g, i, none⟩ = some (.int .i64 (ns[i] : Nat))) := hcells
          have i1 : (k : Int) < (ns.length : Int) := by omega
          obtain ⟨n, hn⟩ : ∃ n, ns[k] = n := ⟨_, rfl⟩
          rw [hn] at hn0 ev1 ev2 ev3 hnb
          have e2 : ((n / 2 : Nat) : Int) = (n : Int) / 2 := by omega
          rw [e2] at ev1 ev3
          clear e2
          have E1 : Hid _ := ev1
          have E2 : Hid _ := ev2
          have E3 : Hid _ := ev3
          have HV : Hid (VarP w5.heap.size p wr) := hz.out.1
          have HW : Hid (Below w5.heap.size w5 wr) := hz.out.2.1
          rw [← HW.out.cell (p := ⟨g, k, none⟩) hg] at hn0
          obtain ⟨v1, v2, v3, v4, v5⟩ := HV.out
          obtain ⟨q1, q2, q3, q4⟩ := hbd.out
          clear hz hz3 hdr hn ev1 ev2 ev3 hcells
          by_cases hev : n % 2 = 0
          · have j1 : ((n : Int) % 2 == 0) = true := by simp; omega
            have j2 : ((n : Int).tmod 2 == 0) = true := by rw [Int.tmod_eq_emod_of_nonneg (by omega)]; exact j1
            have HE : Hid _ := E1.out hev
            go_wp2
            go_region
            have HWW : ∃ W3 : World, W3 = (wr.setCell ⟨w5.heap.size, 1, none⟩ (.int .i64 (p.a + (n : Int) / 2))).drew ∧ Hid (VarP w5.heap.size ⟨p.r, p.a + (n : Int) / 2⟩ W3) ∧ Hid (Below w5.heap.size w5 W3) ∧ Hid (W3.ownsRow (w5.heap.size + 1) 47 2 u8 l.length (plc l)) :=
              ⟨_, rfl, (HV.out.set1 _).below (Below.refl _ _).drew, (HW.out.setCell (p := ⟨_, 1, none⟩) (Nat.le_refl _) _).drew, own_set hown.out _ _ (by omega) _⟩
            clear v1 v2 v3 v4 v5 hn0 HV HW hown
            obtain ⟨W3, hW3, HV3, HB3, HO3⟩ := HWW
            rw [← hW3]
            clear hW3
            obtain ⟨y1, y2, y3, y4, y5⟩ := HV3.out
            have hB3 := HB3.out.size
            go_wp2_with (at_builtin; refine wpList_append_own _ rfl _ _ 30 rfl (w5.heap.size + 1) 47 j0 (.agg #[.int .i64 0, .int .i64 0]) 2 16 Tryd.underlying30 hj hj0 hj1 hj2 rfl (by decide) _ _ _ rfl (HO3.out.alloc _) ⟨W3.heap.size, 0, none⟩ 1 1 (plc [(⟨p.r, p.a + (n : Int) / 2⟩ : Pl)]) rfl rfl (news_pl W3 (⟨p.r, p.a + (n : Int) / 2⟩ : Pl) 47) (one_pl (⟨p.r, p.a + (n : Int) / 2⟩ : Pl)) (by simp [maxLen]; omega) (by omega) (by simp; omega) ?_)
            intro v4 w4 ho4 hg4 _
            have HV4 : Hid (VarP w5.heap.size ⟨p.r, p.a + (n : Int) / 2⟩ w4) := VarP.grown (HV3.out.below ((Below.refl _ _).alloc (Nat.le_refl _) _)) hg4 (own_ne HO3.out _ (.inl (by omega)))
            have HB4 : Hid (Below w5.heap.size w5 w4) := (HB3.out.alloc hB3 _).grown hg4 (by simp; omega) (fun g hg => by have := (HO3.out.lt g hg).1; omega)
            have HO4 : Hid (w4.ownsRow (w5.heap.size + 1) 47 2 v4 (l ++ [(⟨p.r, p.a + (n : Int) / 2⟩ : Pl)]).length (plc (l ++ [(⟨p.r, p.a + (n : Int) / 2⟩ : Pl)]))) := own_eqP ho4 (by simp) (by rw [plc_append])
            clear ho4 hg4 y1 y2 y3 y4 y5 HV3 HB3 HO3
            go_wp2
            go_roundw
            case rel => exact ⟨k + 1, ⟨p.r, p.a + (n : Int) / 2⟩, l ++ [(⟨p.r, p.a + (n : Int) / 2⟩ : Pl)], by omega, by simp; omega, by go_num, ⟨HV4.out, HB4.out, HE.out⟩, HO4, ⟨by simp only; omega, by simp only; omega, by simp only; omega, by simp only; omega⟩⟩
            case measure => simp [intOf]; omega
          · have j1 : ((n : Int) % 2 == 0) = false := by simp; omega
            have j2 : ((n : Int).tmod 2 == 0) = false := by rw [Int.tmod_eq_emod_of_nonneg (by omega)]; exact j1
            by_cases hend : k + 1 = ns.length
            · have e := E2.out hev (List.drop_eq_nil_of_le (by omega))
              have hR := HR2.out
              rw [e] at hR
              have hR2 : R = none := hR
              subst hR2
              have j3 : ((k : Int) + 1 == (ns.length : Int)) = true := by simp; omega
              have HF : Hid (Below w.heap.size w wr) := HB.out.trans (HW.out.mono HB.out.size)
              clear E1 E2 E3 hR e HR2
              go_wp2
              go_ret2
              exact ⟨rfl, HF.out⟩
            · have j3 : ((k : Int) + 1 == (ns.length : Int)) = false := by simp; omega
              have hlt2 : k + 1 < ns.length := by omega
              have hm0 := HC.out (k + 1) hlt2
              rw [← HW.out.cell (p := ⟨g, k + 1, none⟩) hg] at hm0
              have hmb := HNS.out ns[k + 1] (List.getElem_mem hlt2)
              have hdr2 : ns.drop (k + 1) = ns[k + 1] :: ns.drop (k + 1 + 1) := List.drop_eq_getElem_cons hlt2
              obtain ⟨m, hmm⟩ : ∃ m, ns[k + 1] = m := ⟨_, rfl⟩
              rw [hmm] at hm0 hmb hdr2
              have HE : Hid _ := E3.out hev m _ hdr2
              have i2 : (k : Int) + 1 < (ns.length : Int) := by omega
              clear hmm hdr2 E1 E2 E3
              go_wp2
              go_region
              have HWW : ∃ W3 : World, W3 = ((wr.setCell ⟨w5.heap.size, 0, none⟩ (.int .i64 (p.r + (n : Int) / 2))).setCell ⟨w5.heap.size, 1, none⟩ (.int .i64 (m : Int))).drew ∧ Hid (VarP w5.heap.size ⟨p.r + (n : Int) / 2, (m : Int)⟩ W3) ∧ Hid (Below w5.heap.size w5 W3) ∧ Hid (W3.ownsRow (w5.heap.size + 1) 47 2 u8 l.length (plc l)) :=
                ⟨_, rfl, (HV.out.set ⟨p.r + (n : Int) / 2, (m : Int)⟩).below (Below.refl _ _).drew, ((HW.out.setCell (p := ⟨_, 0, none⟩) (Nat.le_refl _) _).setCell (p := ⟨_, 1, none⟩) (Nat.le_refl _) _).drew, own_set (own_set hown.out _ _ (by omega) _) _ _ (by omega) _⟩
              clear v1 v2 v3 v4 v5 hn0 hm0 HV HW hown
              obtain ⟨W3, hW3, HV3, HB3, HO3⟩ := HWW
              rw [← hW3]
              clear hW3
              obtain ⟨y1, y2, y3, y4, y5⟩ := HV3.out
              have hB3 := HB3.out.size
              go_wp2_with (at_builtin; refine wpList_append_own _ rfl _ _ 30 rfl (w5.heap.size + 1) 47 j0 (.agg #[.int .i64 0, .int .i64 0]) 2 16 Tryd.underlying30 hj hj0 hj1 hj2 rfl (by decide) _ _ _ rfl (HO3.out.alloc _) ⟨W3.heap.size, 0, none⟩ 1 1 (plc [(⟨p.r + (n : Int) / 2, (m : Int)⟩ : Pl)]) rfl rfl (news_pl W3 (⟨p.r + (n : Int) / 2, (m : Int)⟩ : Pl) 47) (one_pl (⟨p.r + (n : Int) / 2, (m : Int)⟩ : Pl)) (by simp [maxLen]; omega) (by omega) (by simp; omega) ?_)
              intro v4 w4 ho4 hg4 _
              have HV4 : Hid (VarP w5.heap.size ⟨p.r + (n : Int) / 2, (m : Int)⟩ w4) := VarP.grown (HV3.out.below ((Below.refl _ _).alloc (Nat.le_refl _) _)) hg4 (own_ne HO3.out _ (.inl (by omega)))
              have HB4 : Hid (Below w5.heap.size w5 w4) := (HB3.out.alloc hB3 _).grown hg4 (by simp; omega) (fun g hg => by have := (HO3.out.lt g hg).1; omega)
              have HO4 : Hid (w4.ownsRow (w5.heap.size + 1) 47 2 v4 (l ++ [(⟨p.r + (n : Int) / 2, (m : Int)⟩ : Pl)]).length (plc (l ++ [(⟨p.r + (n : Int) / 2, (m : Int)⟩ : Pl)]))) := own_eqP ho4 (by simp) (by rw [plc_append])
              clear ho4 hg4 y1 y2 y3 y4 y5 HV3 HB3 HO3
              go_wp2
              go_roundw
              case rel => exact ⟨k + 1 + 1, ⟨p.r + (n : Int) / 2, (m : Int)⟩, l ++ [(⟨p.r + (n : Int) / 2, (m : Int)⟩ : Pl)], by omega, by simp; omega, by go_num, ⟨HV4.out, HB4.out, HE.out⟩, HO4, ⟨by simp only; omega, by simp only; omega, by simp only; omega, by simp only; omega⟩⟩
              case measure => simp [intOf]; omega
        · have hkl : k = ns.length := by omega
          have hPL : PL = some l := by
            have := hz.out.2.2
            rw [List.drop_eq_nil_of_le (by omega)] at this
            rw [← this]
            simp [plsL]
          have HR3 : Hid (R = ref3 s.data.toList (some l)) := by show _ = _; rw [HR2.out, hPL]
          have hll : l.length ≤ 200 := by omega
          have HW : Hid (Below w.heap.size w wr) := HB.out.trans (hz.out.2.1.mono HB.out.size)
          have HO : Hid (wr.ownsRow w.heap.size 47 2 u8 l.length (plc l)) := own_monoP hown.out (by have := HB.out.size; omega)
          obtain ⟨al, cl, hvl, hrl, _⟩ := rowP_of_own HO.out (by omega)
          subst hvl
          have HRL : Hid (RowP wr al l.length l) := hrl
          clear hrl hPL HR2 hz hown hbd hfn HNS
          cases hrt : rightL l with
          | false =>
            have hR2 : R = none := by rw [HR3.out, ref3, if_neg (by rw [hrt]; simp)]
            subst hR2
            clear HR3
            go_wp2_with fail
            refine (wp_no al l.length cl l wr HRL.out hrt).mono ?_
            rintro _ w7 ⟨rfl, hb7⟩
            have HF : Hid (Below w.heap.size w w7) := HW.out.trans (hb7.mono HW.out.size)
            clear hb7
            go_wp2
            go_ret2
            exact ⟨rfl, HF.out⟩
          | true =>
            obtain ⟨E, hE⟩ : ∃ E : ByteArray, (⟨(encL l).toArray⟩ : ByteArray) = E := ⟨_, rfl⟩
            have hEl : E.data.toList = encL l := by rw [← hE]
            obtain ⟨bb, hbb⟩ : ∃ bb, (E.toList == s.toList) = bb := ⟨_, rfl⟩
            have hbe : bb = true ↔ encL l = s.data.toList := by
              rw [← hbb, beq_iff_eq, ByteArray.toList_eq, ByteArray.toList_eq, hEl]
            have HE : Hid ((⟨(encL l).toArray⟩ : ByteArray) = E) := hE
            clear hE hEl
            go_wp2_with fail
            refine (wp_yes al l.length cl l wr HRL.out hrt (by omega)).mono ?_
            rintro _ w7 ⟨rfl, hb7⟩
            rw [HE.out]
            have HF : Hid (Below w.heap.size w w7) := HW.out.trans (hb7.mono HW.out.size)
            have HO7 : Hid (w7.ownsRow w.heap.size 47 2 (.slice al l.length cl) l.length (plc l)) := own_belowP HO.out hb7
            clear hb7
            cases bb
            · have hR2 : R = none := by rw [HR3.out, ref3, if_neg (fun h => by have := hbe.2 h.2; cases this)]
              subst hR2
              clear HR3 hbe
              go_wp2
              go_ret2
              exact ⟨rfl, HF.out⟩
            · have hR2 : R = some l := by rw [HR3.out, ref3, if_pos ⟨hrt, hbe.1 rfl⟩]
              subst hR2
              clear HR3 hbe
              go_wp2
              go_ret2
              exact ⟨.inl ⟨l, _, rfl, rfl, by omega, HO7.out⟩, HF.out⟩
end Go.Proofs.YtalfjdpdecngoaaDoor
