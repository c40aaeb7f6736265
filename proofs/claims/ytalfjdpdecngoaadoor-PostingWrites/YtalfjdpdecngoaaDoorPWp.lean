/- The contract of the document's WritePlaces. -/
import Derived.Test.YtalfjdpdecngoaaDoorPSeven
namespace Go.Proofs.YtalfjdpdecngoaaDoor
open Go.RowKit

/-- what seven answers -/
def sv (x : Int) : ByteArray := ⟨(numL x.toNat).toArray⟩
theorem sv_list (x : Int) : (sv x).data.toList = numL x.toNat := rfl
theorem sv_size (x : Int) (hx : x < 1099511627776) : (sv x).size ≤ 10 := by
  show (numL x.toNat).toArray.size ≤ 10
  have := numL_len 9 x.toNat (by omega)
  simpa using this
theorem seven_as (x : Int) (h0 : 0 ≤ x) (hx : x < 1099511627776) (w : World) : Calls Tryd.prog 30 #[.int .i64 x] w fun e w' => e = .returned (.string (sv x)) ∧ Below w.heap.size w w' := by
  have h := seven_any x.toNat w (by omega)
  rw [Int.toNat_of_nonneg h0] at h
  exact h

theorem places_as (b : Bool) (a : Option Addr) (len cap : Nat) (xs : List Pl) (hb : rightL xs = b) (w : World) (hr : RowP w a len xs) :
    Calls Tryd.prog 20 #[.slice a len cap] w fun e w' => e = .returned (.bool b) ∧ Below w.heap.size w w' := by
  rw [← hb]; exact places_any a len cap xs w hr

set_option maxRecDepth 100000 in
set_option maxHeartbeats 1000000 in
theorem wp_no (a : Option Addr) (len cap : Nat) (xs : List Pl) (w : World) (hr : RowP w a len xs) (hn : rightL xs = false) :
    Calls Tryd.prog 16 #[.slice a len cap] w fun e w' => e = .returned (.tuple #[.string ⟨#[]⟩, .int .i64 1]) ∧ Below w.heap.size w w' := by
  have HR : Hid (RowP w a len xs ∧ rightL xs = false) := ⟨hr, hn⟩
  clear hr hn
  go_enter Tryd.func16, Tryd.ntmps16
  go_wp2_with fail
  refine (places_as false a len cap xs HR.out.2 w HR.out.1).mono ?_
  rintro _ w1 ⟨rfl, hb1⟩
  go_wp2
  go_ret2
  exact ⟨rfl, hb1⟩

/-- what is known in a round: the boxes of the place and of the one ahead -/
def WE (bx by' : Nat) (q p : Pl) (w wa wx : World) : Prop :=
  (wx.cell? ⟨bx, 0, none⟩ = some (.int .i64 q.r) ∧ wx.cell? ⟨bx, 1, none⟩ = some (.int .i64 q.a) ∧ wx.cell? ⟨by', 0, none⟩ = some (.int .i64 p.r) ∧ wx.cell? ⟨by', 1, none⟩ = some (.int .i64 p.a)) ∧ (bx < wa.heap.size ∧ by' < wa.heap.size) ∧ Below w.heap.size w wx ∧ Below wa.heap.size wa wx
theorem WE.step {bx by' : Nat} {p q : Pl} {w wa wx wy : World} (h : WE bx by' q p w wa wx) (hb : Below wx.heap.size wx wy) : WE bx by' q p w wa wy := by
  obtain ⟨⟨h1, h2, h3, h4⟩, ⟨h5, h6⟩, h8, h9⟩ := h
  have s := h9.size
  refine ⟨⟨?_, ?_, ?_, ?_⟩, ⟨h5, h6⟩, h8.trans (hb.mono h8.size), h9.trans (hb.mono s)⟩
  · rw [hb.cell (p := ⟨bx, _, none⟩) (by show bx < _; omega)]; exact h1
  · rw [hb.cell (p := ⟨bx, _, none⟩) (by show bx < _; omega)]; exact h2
  · rw [hb.cell (p := ⟨by', _, none⟩) (by show by' < _; omega)]; exact h3
  · rw [hb.cell (p := ⟨by', _, none⟩) (by show by' < _; omega)]; exact h4
theorem WE.drew {bx by' : Nat} {p q : Pl} {w wa wx : World} (h : WE bx by' q p w wa wx) : WE bx by' q p w wa wx.drew := h.step (Below.refl _ _).drew
theorem two_boxes (w wr : World) (q p : Pl) (hb : Below w.heap.size w wr) : WE wr.heap.size (wr.heap.size + 1) q p w ((wr.alloc (.cells #[.int .i64 q.r, .int .i64 q.a] 47)).alloc (.cells #[.int .i64 p.r, .int .i64 p.a] 47)) ((wr.alloc (.cells #[.int .i64 q.r, .int .i64 q.a] 47)).alloc (.cells #[.int .i64 p.r, .int .i64 p.a] 47)) := by
  refine ⟨⟨by simp, by simp, by simp, by simp⟩, ⟨by simp; omega, by simp⟩, (hb.alloc hb.size _).alloc (by have := hb.size; simp; omega) _, Below.refl _ _⟩

theorem ba_eq (l m : List UInt8) (h : l = m) : (⟨l.toArray⟩ : ByteArray) = ⟨m.toArray⟩ := by rw [h]
theorem ba_app1 (l : List UInt8) (x : Int) : (⟨l.toArray⟩ : ByteArray) ++ sv x = ⟨(l ++ numL x.toNat).toArray⟩ := by
  cases h : (⟨l.toArray⟩ : ByteArray) ++ sv x with
  | mk d =>
    have e : d.toList = l ++ numL x.toNat := by
      have : ((⟨l.toArray⟩ : ByteArray) ++ sv x).data.toList = l ++ numL x.toNat := by rw [ByteArray.data_append, Array.toList_append, sv_list]
      rw [h] at this
      exact this
    rw [← e]
theorem ba_app2 (l : List UInt8) (x y : Int) : (⟨l.toArray⟩ : ByteArray) ++ (sv x ++ sv y) = ⟨(l ++ (numL x.toNat ++ numL y.toNat)).toArray⟩ := by
  cases h : (⟨l.toArray⟩ : ByteArray) ++ (sv x ++ sv y) with
  | mk d =>
    have e : d.toList = l ++ (numL x.toNat ++ numL y.toNat) := by
      have : ((⟨l.toArray⟩ : ByteArray) ++ (sv x ++ sv y)).data.toList = l ++ (numL x.toNat ++ numL y.toNat) := by rw [ByteArray.data_append, Array.toList_append, ByteArray.data_append, Array.toList_append, sv_list, sv_list]
      rw [h] at this
      exact this
    rw [← e]

theorem str_add (x y : ByteArray) (h : x.size + y.size ≤ 1000000) : Op.stringOp .add x y = pure (.string (x ++ y)) := by
  have hn : ¬ (((x.size + y.size : Nat) : Int) > IntKind.i64.max) := by
    have : IntKind.i64.max = 9223372036854775807 := by decide
    omega
  simp only [Op.stringOp, if_neg hn]

set_option maxRecDepth 100000 in
set_option maxHeartbeats 4000000 in
theorem wp_yes (a : Option Addr) (len cap : Nat) (xs : List Pl) (w : World) (hr : RowP w a len xs) (hn : rightL xs = true) (hl : xs.length ≤ 1000) :
    Calls Tryd.prog 16 #[.slice a len cap] w fun e w' => e = .returned (.tuple #[.string ⟨(encL xs).toArray⟩, .int .i64 0]) ∧ Below w.heap.size w w' := by
  have HR : Hid (RowP w a len xs ∧ rightL xs = true) := ⟨hr, hn⟩
  obtain ⟨rfl, _, _⟩ := hr
  clear hn
  obtain ⟨T, hT⟩ : ∃ T, encL xs = T := ⟨_, rfl⟩
  have HT : Hid (encFrom ⟨0, 0⟩ (xs.drop 0) = T ∧ T.length ≤ 10000) := ⟨hT, by
    have := (enc_len xs ⟨0, 0⟩ ⟨by decide, by decide, by decide, by decide⟩ HR.out.2).1
    rw [← hT]
    show (encFrom ⟨0, 0⟩ xs).length ≤ 10000
    omega⟩
  rw [hT]
  clear hT
  go_enter Tryd.func16, Tryd.ntmps16
  go_wp2_with fail
  refine (places_as true a _ cap xs HR.out.2 w HR.out.1).mono ?_
  rintro _ w1 ⟨rfl, hb1⟩
  have HB1 : Hid (Below w.heap.size w w1) := hb1
  have hx := (RowP.below HR.out.1 hb1).2.2
  clear hb1
  go_wp2
  go_loopw [4, 13] (fun v i wr => ∃ (k : Nat) (p : Pl) (S : ByteArray), k ≤ xs.length ∧ S.size ≤ 10000 ∧ i = .int .i64 k ∧ v = .string S ∧ Hid (Below w1.heap.size w1 wr ∧ rightFrom p (xs.drop k) = true ∧ S.data.toList ++ encFrom p (xs.drop k) = T ∧ ((k = 0 ∧ p = ⟨0, 0⟩) ∨ (0 < k ∧ xs[k - 1]? = some p))) ∧ Hid (Ahead p)) (fun _ i _ => xs.length - (intOf i).toNat)
  case atStart => exact ⟨0, ⟨0, 0⟩, ⟨#[]⟩, Nat.zero_le _, by decide, rfl, rfl, ⟨Below.refl _ _, HR.out.2, HT.out.1, .inl ⟨rfl, rfl⟩⟩, ⟨by decide, by decide, by decide, by decide⟩⟩
  case round =>
    obtain ⟨k, p, S, hk, hS, rfl, rfl, hz, hahead⟩ := hrel
    by_cases hlt : k < xs.length
    · rcases hx with hx | ⟨b, off, rfl, hb, hrow⟩
      · simp [hx] at hlt
      obtain ⟨g1, g2⟩ := hrow k hlt
      have HROW : Hid (∀ i (h : i < xs.length), w1.cell? ⟨b, off + i * 2, none⟩ = some (.int .i64 xs[i].r) ∧ w1.cell? ⟨b, off + i * 2 + 1, none⟩ = some (.int .i64 xs[i].a)) := hrow
      clear hrow
      rw [← hz.out.1.cell (p := ⟨b, _, none⟩) hb] at g1 g2
      have hf : follB p xs[k] = true ∧ rightFrom xs[k] (xs.drop (k + 1)) = true ∧ (S.data.toList ++ encP p xs[k]) ++ encFrom xs[k] (xs.drop (k + 1)) = T := by
        have h1 := hz.out.2.1
        have h2 := hz.out.2.2.1
        rw [List.drop_eq_getElem_cons hlt, rightFrom, Bool.and_eq_true] at h1
        rw [List.drop_eq_getElem_cons hlt, encFrom] at h2
        exact ⟨h1.1, h1.2, by rw [List.append_assoc]; exact h2⟩
      have i1 : (k : Int) < (xs.length : Int) := by omega
      have HNX : Hid (0 < k + 1 ∧ xs[k + 1 - 1]? = some xs[k]) := ⟨by omega, by simp [hlt]⟩
      have HPV : Hid ((k = 0 ∧ p = ⟨0, 0⟩) ∨ (0 < k ∧ xs[k - 1]? = some p)) := hz.out.2.2.2
      obtain ⟨q, hq⟩ : ∃ q, xs[k] = q := ⟨_, rfl⟩
      rw [hq] at g1 g2 hf HNX
      clear hq
      obtain ⟨⟨a1, a2⟩, ⟨a3, a4⟩, h5⟩ := foll_facts hf.1
      obtain ⟨b1, b2, b3, b4⟩ := hahead.out
      have HF : Hid (rightFrom q (xs.drop (k + 1)) = true ∧ (S.data.toList ++ encP p q) ++ encFrom q (xs.drop (k + 1)) = T) := hf.2
      have HLL : Hid ((S.data.toList ++ encP p q).length ≤ 10000) := by
        show _ ≤ _
        have h1 := HT.out.2
        rw [← hf.2.2] at h1
        rw [List.length_append] at h1
        omega
      have HB : Hid (Below w1.heap.size w1 wr) := hz.out.1
      clear hz hahead hf
      have s1 := sv_size (2 * (q.a - p.a)) (by omega)
      have s2 := sv_size (2 * (q.r - p.r) + 1) (by omega)
      have s3 := sv_size q.a (by omega)
      go_upto_if 20 with fail
      go_cut [] (fun wx => ∃ wa, Hid (WE wr.heap.size (wr.heap.size + 1) q p w1 wa wx))
      case first =>
        by_cases hk0 : k = 0
        · subst hk0
          obtain rfl : p = ⟨0, 0⟩ := by
            rcases HPV.out with ⟨_, e⟩ | ⟨h, _⟩
            · exact e
            · omega
          have HWE : Hid (WE wr.heap.size (wr.heap.size + 1) q ⟨0, 0⟩ w1 _ _) := two_boxes w1 wr q ⟨0, 0⟩ HB.out
          go_wp2
          go_meet
          exact ⟨_, HWE⟩
        · obtain ⟨j, rfl⟩ : ∃ j, k = j + 1 := ⟨k - 1, by omega⟩
          have hpe : xs[j]? = some p := by
            rcases HPV.out with ⟨h, _⟩ | ⟨_, h⟩
            · exact absurd h hk0
            · simpa using h
          obtain ⟨g3, g4⟩ := HROW.out j (by omega)
          have hpe2 : xs[j]'(by omega) = p := by rw [List.getElem?_eq_getElem (by omega)] at hpe; exact Option.some.inj hpe
          rw [hpe2, ← HB.out.cell (p := ⟨b, _, none⟩) hb] at g3 g4
          have i2 : (j : Int) < (xs.length : Int) := by omega
          have i5 : IntKind.i64.wrap (j : Int) = (j : Int) := by rw [IntKind.wrap_i64]; omega
          have hbr : b < wr.heap.size := Nat.lt_of_lt_of_le hb HB.out.size
          clear hpe hpe2 HPV HROW
          have HWE : Hid (WE wr.heap.size (wr.heap.size + 1) q p w1 _ _) := two_boxes w1 wr q p HB.out
          go_wp2
          go_meet
          exact ⟨_, HWE⟩
      case rest =>
        obtain ⟨wa, HWE⟩ := hcut
        clear HPV HROW g1 g2
        rcases h5 with ⟨h5, h6⟩ | ⟨h5, h6⟩
        · have HE : Hid (encP p q = numL (2 * (q.a - p.a)).toNat) := by show _ = _; rw [encP, if_pos h5]
          have j1 : (q.r == p.r) = true := by simpa using h5
          obtain ⟨k1, k2, k3, k4⟩ := HWE.out.1
          clear h5
          go_wp2_with fail
          refine (seven_as _ (by omega) (by omega) _).mono ?_
          rintro _ w2 ⟨rfl, hb2⟩
          have HWE : Hid _ := WE.step HWE.out hb2
          clear hb2 k1 k2 k3 k4
          have HQ : Hid ((S ++ sv (2 * (q.a - p.a))).data.toList = S.data.toList ++ encP p q) := by show _ = _; rw [HE.out, ByteArray.data_append, Array.toList_append, sv_list]
          have hS2 : (S ++ sv (2 * (q.a - p.a))).size ≤ 10000 := by have h := HLL.out; rw [← HQ.out] at h; simpa using h
          go_wp2
          go_roundw
          case rel => exact ⟨k + 1, q, S ++ sv (2 * (q.a - p.a)), by omega, hS2, by go_num, rfl, ⟨HWE.out.2.2.1, HF.out.1, by rw [HQ.out]; exact HF.out.2, .inr HNX.out⟩, ⟨by omega, by omega, by omega, by omega⟩⟩
          case measure => simp [intOf]; omega
        · have wr1 : IntKind.i64.wrap (q.r - p.r) = q.r - p.r := by rw [IntKind.wrap_i64]; omega
          have wr2 : IntKind.i64.wrap (2 * (q.r - p.r)) = 2 * (q.r - p.r) := by rw [IntKind.wrap_i64]; omega
          have wr3 : IntKind.i64.wrap (2 * (q.r - p.r) + 1) = 2 * (q.r - p.r) + 1 := by rw [IntKind.wrap_i64]; omega
          have ad1 := str_add (sv (2 * (q.r - p.r) + 1)) (sv q.a) (by omega)
          have ad2 := str_add S (sv (2 * (q.r - p.r) + 1) ++ sv q.a) (by rw [ByteArray.size_append]; omega)
          have HE : Hid (encP p q = numL (2 * (q.r - p.r) + 1).toNat ++ numL q.a.toNat) := by show _ = _; rw [encP, if_neg h5]
          have j1 : (q.r == p.r) = false := by simpa using h5
          obtain ⟨k1, k2, k3, k4⟩ := HWE.out.1
          go_wp2_with fail
          clear k1 k2 k3 k4
          have HWE : Hid _ := WE.drew HWE.out
          go_region_held3 (fun w' => w'.cell? ⟨wr.heap.size, 0, none⟩ = some (.int .i64 q.r) ∧ w'.cell? ⟨wr.heap.size, 1, none⟩ = some (.int .i64 q.a) ∧ w'.cell? ⟨wr.heap.size + 1, 0, none⟩ = some (.int .i64 p.r) ∧ w'.cell? ⟨wr.heap.size + 1, 1, none⟩ = some (.int .i64 p.a)) (exact HWE.out.1)
            ((go_at_call 30; refine Calls.mono (seven_as _ (by omega) (by omega) _) ?_; rintro _ w2 ⟨rfl, hb2⟩; have HWE : Hid _ := WE.step HWE.out hb2; clear hb2))
          have HQ : Hid ((S ++ (sv (2 * (q.r - p.r) + 1) ++ sv q.a)).data.toList = S.data.toList ++ encP p q) := by show _ = _; rw [HE.out, ByteArray.data_append, Array.toList_append, ByteArray.data_append, Array.toList_append, sv_list, sv_list]
          have hS2 : (S ++ (sv (2 * (q.r - p.r) + 1) ++ sv q.a)).size ≤ 10000 := by have h := HLL.out; rw [← HQ.out] at h; simpa using h
          go_wp2
          go_roundw
          case rel => exact ⟨k + 1, q, _, by omega, hS2, by go_num, rfl, ⟨HWE.out.2.2.1, HF.out.1, by rw [HQ.out]; exact HF.out.2, .inr HNX.out⟩, ⟨by omega, by omega, by omega, by omega⟩⟩
          case measure => simp [intOf]; omega
    · have e : S = ⟨T.toArray⟩ := by
        have := hz.out.2.2.1
        rw [List.drop_eq_nil_of_le (by omega), encFrom, List.append_nil] at this
        rw [← this]
      subst e
      go_wp2
      go_ret2
      exact ⟨rfl, HB1.out.trans (hz.out.1.mono HB1.out.size)⟩
end Go.Proofs.YtalfjdpdecngoaaDoor
