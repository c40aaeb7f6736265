/- The contract of the document's Read. -/
import Derived.Test.YtkbnbkhloajmbaaDoorIndex
namespace Go.Proofs.YtkbnbkhloajmbaaDoor
open Go.RowKit Go.Lib

/-- what the document's Read answers -/
def RefPost (w : World) (out : Option (List Vl)) (e : Ending) (w' : World) : Prop :=
  Below w.heap.size w w' ∧ match out with
  | none => e = .returned (.tuple #[.slice none 0 0, .int .i64 3])
  | some xs => ∃ v, e = .returned (.tuple #[v, .int .i64 0]) ∧ w'.ownsRow w.heap.size 42 3 v xs.length (cellsL xs)

theorem dec_1 (r : List UInt8) : decV (1 :: r) = (⟨0, 0, ⟨#[]⟩⟩, 1) := by simp [decV, dec1]
theorem dec_2 (r : List UInt8) (h : 8 ≤ r.length) : decV (2 :: r) = (⟨1, (numOf (r.take 8) : Int) - 9223372036854775808, ⟨#[]⟩⟩, 9) := by simp [decV, dec1, h]
theorem dec_2n (r : List UInt8) (h : ¬ 8 ≤ r.length) : (decV (2 :: r)).2 = 0 := by simp [decV, dec1, h]
theorem dec_3e (r : List UInt8) : decV (3 :: r) = if lets (r.take 41) = (r.take 41).length then (⟨0, 0, ⟨#[]⟩⟩, 0) else (⟨2, 0, strOf (r.take (lets (r.take 41)))⟩, 1 + lets (r.take 41) + 1) := by
  have e : dec1 (3 :: r) = if lets (r.take 41) = (r.take 41).length then none else some (⟨2, 0, strOf (r.take (lets (r.take 41)))⟩, 1 + lets (r.take 41) + 1) := rfl
  unfold decV
  rw [e]
  by_cases h : lets (r.take 41) = (r.take 41).length
  · simp [h]
  · simp only [if_neg h]; rfl
theorem dec_else (c : UInt8) (r : List UInt8) (h1 : c ≠ 1) (h2 : c ≠ 2) (h3 : c ≠ 3) : (decV (c :: r)).2 = 0 := by simp [decV, dec1, h1, h2, h3]

/-- a text that ends within what is looked at -/
theorem lets_take (r : List UInt8) (h : lets r < r.length) (h40 : lets r ≤ 40) : lets (r.take 41) = lets r ∧ ¬ lets (r.take 41) = (r.take 41).length := by
  have hsplit : r = r.take (lets r) ++ 0 :: r.drop (lets r + 1) := by
    have hz : r[lets r] = 0 := by
      have := List.findIdx_getElem (p := fun c : UInt8 => c == 0) (xs := r) (w := h)
      exact eq_of_beq this
    have e1 : r.drop (lets r) = 0 :: r.drop (lets r + 1) := by rw [List.drop_eq_getElem_cons h, hz]
    rw [← e1, List.take_append_drop]
  have hno : ∀ c ∈ r.take (lets r), c ≠ 0 := by
    intro c hc
    obtain ⟨i, hi, rfl⟩ := List.getElem_of_mem hc
    have hi' : i < lets r := by simp at hi; omega
    rw [List.getElem_take]
    have := List.not_of_lt_findIdx (p := fun c : UInt8 => c == 0) (xs := r) hi'
    simpa using this
  have hl : (r.take (lets r)).length = lets r := by simp; omega
  have h1 : lets (r.take 41) = lets r := by
    have := lets_text (r.take (lets r)) (r.drop (lets r + 1)) (by omega) hno
    rw [← hsplit, hl] at this
    exact this
  refine ⟨h1, ?_⟩
  rw [h1, List.length_take]
  omega
theorem lets_long (r : List UInt8) (h : r.length ≤ lets r ∨ 40 < lets r) : lets (r.take 41) = (r.take 41).length := by
  unfold lets
  rw [List.findIdx_eq_length]
  intro c hc
  obtain ⟨i, hi, rfl⟩ := List.getElem_of_mem hc
  simp at hi
  have hle := lets_le r
  have hi' : i < lets r := by omega
  rw [List.getElem_take]
  have := List.not_of_lt_findIdx (p := fun c : UInt8 => c == 0) (xs := r) hi'
  simpa using this

theorem contains_as (s : ByteArray) (b : Bool) (hb : decide (0 ≤ idx0 s.data.toList) = b) (w : World) : Calls Tryd.prog 15 #[.string s, .string ⟨#[0]⟩] w fun e w' => e = .returned (.bool b) ∧ w' = w := by
  rw [← hb]; exact contains_any s w
theorem index_as (s : ByteArray) (i : Int) (hi : idx0 s.data.toList = i) (w : World) : Calls Tryd.prog 16 #[.string s, .string ⟨#[0]⟩] w fun e w' => e = .returned (.int .i64 i) ∧ w' = w := by
  rw [← hi]; exact index_any s w
theorem right_0 : rightB 0 0 ⟨#[]⟩ = true := by decide +kernel
theorem right_1 (n : Int) : rightB 1 n ⟨#[]⟩ = true := by
  have : ByteArray.toList ⟨#[]⟩ = [] := by rw [ByteArray.toList_eq]
  simp [rightB, this]
theorem right_2 (q : ByteArray) (e : Nat) (he : lets q.data.toList = e) (hlt : e < q.size) : rightB 2 0 (q.extract 0 e) = decide (e ≤ 40) := by
  have hl : (q.extract 0 e).data.toList = q.data.toList.take e := by rw [extract_list]; simp
  have hz : (q.extract 0 e).size = e := by rw [size_list, hl, List.length_take, ← size_list]; omega
  have hno : lets (q.data.toList.take e) = e := by
    have h2 : (q.data.toList.take e).length = e := by rw [List.length_take, ← size_list]; omega
    unfold lets
    conv => rhs; rw [← h2]
    rw [List.findIdx_eq_length]
    intro c hc
    obtain ⟨i, hi, rfl⟩ := List.getElem_of_mem hc
    have hi' : i < lets q.data.toList := by rw [he]; omega
    rw [List.getElem_take]
    have := List.not_of_lt_findIdx (p := fun c : UInt8 => c == 0) (xs := q.data.toList) hi'
    simpa using this
  have ht : textB (q.extract 0 e) = decide (e ≤ 40) := by
    unfold textB
    rw [hl, hz, hno]
    simp
  simp [rightB, ht]
theorem add_u64 (m c : Nat) (hm : m * 256 < 18446744073709551616) (hc : c < 256) : IntKind.u64.wrap (IntKind.u64.wrap ((m : Int) * 256) + IntKind.u64.wrap (c : Int)) = ((m * 256 + c : Nat) : Int) := by
  rw [IntKind.wrap_u64, IntKind.wrap_u64, IntKind.wrap_u64]
  omega

theorem cell_triple0 (w : World) (x : Vl) : ∀ j u, (cellsW x)[j]? = some u →
    (w.alloc (.cells #[.int .i64 x.k, .int .i64 x.n, .string x.s] 42)).cell? ((⟨w.heap.size, 0, none⟩ : Addr).add j) = some u := by
  intro j u hj
  rw [Go.WideShapes.add_plain]
  match j, hj with
  | 0, hj => simp [cellsW] at hj; subst hj; simp
  | 1, hj => simp [cellsW] at hj; subst hj; simp
  | 2, hj => simp [cellsW] at hj; subst hj; simp
  | j + 3, hj => simp [cellsW] at hj

theorem fin_step (t q : ByteArray) (acc : List Vl) (f : Nat) (x : Vl) (m : Nat) (out : Option (List Vl)) (hf : t.size ≤ f ∧ (readF f t.data.toList).map (acc ++ ·) = out) (hne : t.data.toList ≠ []) (hd : decV t.data.toList = (x, m)) (hm : m ≠ 0) (hq : q.data.toList = t.data.toList.drop m) :
    ∃ f', q.size + (acc ++ [x]).length ≤ t.size + acc.length ∧ q.size < t.size ∧ (q.size ≤ f' ∧ (readF f' q.data.toList).map ((acc ++ [x]) ++ ·) = out) := by
  obtain ⟨f', hf1, hf2⟩ := readF_step f _ (by rw [← size_list]; exact hf.1) hne x m hd hm
  have hle := decV_le t.data.toList
  rw [hd, ← size_list] at hle
  simp only at hle
  have hqs : q.size = t.size - m := by rw [size_list, hq, List.length_drop, ← size_list]
  refine ⟨f', by rw [hqs]; simp; omega, by omega, by rw [size_list, hq]; exact hf1, ?_⟩
  rw [hq, ← hf.2, hf2]
  simp [Option.map_map, Function.comp_def]

set_option maxRecDepth 100000 in
set_option maxHeartbeats 2000000 in
theorem refRead_any (s : ByteArray) (w : World) (hs : s.size ≤ 100000) :
    Calls Tryd.prog 7 #[.string s] w (RefPost w (readF s.size s.data.toList)) := by
  obtain ⟨out, hout⟩ : ∃ out, readF s.size s.data.toList = out := ⟨_, rfl⟩
  rw [hout]
  have HO : Hid _ := hout
  clear hout
  obtain ⟨i0, hi, hz0, hz1, hz2⟩ := info_parts info26
  go_enter Tryd.func7, Tryd.ntmps7
  go_wp2
  go_loopw [0, 4] (fun sv v wr => ∃ (t : ByteArray) (acc : List Vl) (f : Nat), sv = .string t ∧ t.size + acc.length ≤ s.size ∧ wr.ownsRow w.heap.size 42 3 v acc.length (cellsL acc) ∧ Below w.heap.size w wr ∧ Hid (t.size ≤ f ∧ (readF f t.data.toList).map (acc ++ ·) = out))
    (fun sv _ _ => strLen sv)
  case atStart => exact ⟨s, [], s.size, rfl, by simp, World.ownsRow_nil _ _ _ _, Below.refl _ _, Nat.le_refl _, by rw [HO.out]; simp⟩
  case round =>
    obtain ⟨t, acc, f, rfl, hsz, hown, hbl, hf⟩ := hrel
    have hbs := hbl.size
    by_cases hpos : 0 < t.size
    · have hpos' : (0 : Int) < (t.size : Int) := by omega
      obtain ⟨c, r, h⟩ : ∃ c r, t.data.toList = c :: r := by
        cases e : t.data.toList with
        | nil => rw [size_list, e] at hpos; simp at hpos
        | cons c r => exact ⟨c, r, rfl⟩
      have h0 : t[0] = c := by
        have : t[0] = t.data.toList[0]'(by rw [← size_list]; exact hpos) := by simp; rfl
        rw [this]
        simp only [h]
        rfl
      have b1 : ((t[0].toNat : Int) == 1) = decide (c = 1) := by rw [h0]; exact byte_is c 1 (by omega)
      have b2 : ((t[0].toNat : Int) == 2) = decide (c = 2) := by rw [h0]; exact byte_is c 2 (by omega)
      have b3 : ((t[0].toNat : Int) == 3) = decide (c = 3) := by rw [h0]; exact byte_is c 3 (by omega)
      have hrl : (t.extract 1 t.size).data.toList = r := by rw [Lib.extract_to_end, h]; rfl
      have hrz : (t.extract 1 t.size).size = r.length := by rw [size_list, hrl]
      have htz : t.size = r.length + 1 := by rw [size_list, h]; rfl
      have hne : t.data.toList ≠ [] := by rw [h]; simp
      have HRZ : Hid _ := hrz
      have HTZ : Hid _ := htz
      clear h0 hrz htz
      have HF : Hid _ := hf
      have HRL : Hid _ := hrl
      have HE : Hid _ := h
      clear hrl h hf
      by_cases c1 : c = 1
      · have t1 : ((t[0].toNat : Int) == 1) = true := by rw [b1]; simp [c1]
        have HC : Hid _ := c1
        clear b1 b2 b3 c1
        have hd : decV t.data.toList = (⟨0, 0, ⟨#[]⟩⟩, 1) := by rw [HE.out, HC.out]; exact dec_1 r
        have HS : Hid _ := fin_step t (t.extract 1 t.size) acc f ⟨0, 0, ⟨#[]⟩⟩ 1 out HF.out hne hd (by decide) (Lib.extract_to_end t 1)
        clear hd hne
        go_wp2_with fail
        refine (refRight_as _ _ _ true right_0 _ (Nat.zero_le _)).mono ?_
        rintro e w1 ⟨rfl, hb1⟩
        have hown1 := own_below (hown.alloc _) hb1 (Nat.le_refl _)
        have hbl1 := (hbl.alloc hbs _).trans (hb1.mono (by simp; omega))
        have hbs1 := hbl1.size
        have hc1 := fun o => bcell hb1 wr.heap.size o (by simp)
        clear hown hbl hb1
        go_wp2_with (at_builtin; refine wpList_append_own _ rfl (.tmp 66) (.tmp 68) 22 rfl w.heap.size 42 i0 (.agg #[.int .i64 0, .int .i64 0, .string ⟨#[]⟩]) 3 32 Tryd.underlying22 hi hz0 hz1 hz2 rfl (by decide) _ _ _ rfl (hown1.alloc _) ⟨w1.heap.size, 0, none⟩ 1 1 (cellsW (⟨0, 0, ⟨#[]⟩⟩ : Vl)) rfl rfl ?c1 ?c2 ?c3 ?c4 ?c5 ?_)
        case c1 => exact cell_triple0 _ (⟨0, 0, ⟨#[]⟩⟩ : Vl)
        case c2 => intro u hu; simp [cellsW] at hu; rcases hu with rfl | rfl | rfl <;> rfl
        case c3 => unfold maxLen; omega
        case c4 => omega
        case c5 => simp; omega
        · intro v2 w2 hown2 hgrow _
          have hb2 : Below w.heap.size w w2 := (hbl1.alloc hbs1 _).grown hgrow (by simp; omega) (fun g hg => (hown1.lt g hg).1)
          have hown3 : w2.ownsRow w.heap.size 42 3 v2 (acc ++ [(⟨0, 0, ⟨#[]⟩⟩ : Vl)]).length (cellsL (acc ++ [(⟨0, 0, ⟨#[]⟩⟩ : Vl)])) := by
            rw [cellsL_snoc, List.length_append]
            exact hown2
          clear hown1 hown2 hgrow hbl1
          go_wp2
          go_roundw
          case rel =>
            obtain ⟨f', g1, g2, g3⟩ := HS.out
            exact ⟨_, acc ++ [(⟨0, 0, ⟨#[]⟩⟩ : Vl)], f', rfl, by omega, hown3, hb2, g3⟩
          case measure => exact HS.out.choose_spec.2.1
      · have t1 : ((t[0].toNat : Int) == 1) = false := by rw [b1]; simp [c1]
        by_cases c2 : c = 2
        · have t2 : ((t[0].toNat : Int) == 2) = true := by rw [b2]; simp [c2]
          have t3 : ((t[0].toNat : Int) == 3) = false := by rw [b3, c2]; decide
          by_cases h8 : 8 ≤ r.length
          · have h9 : 9 ≤ t.size := by rw [HTZ.out]; omega
            have h8' : (8 : Int) ≤ (t.size : Int) - 1 := by omega
            have HD : Hid (decV t.data.toList = (⟨1, (numOf (r.take 8) : Int) - 9223372036854775808, ⟨#[]⟩⟩, 9)) := by
              show _ = _
              rw [HE.out, c2]
              exact dec_2 r h8
            have HC1 : Hid _ := c1
            have HC2 : Hid _ := c2
            clear b1 b2 b3 c1 c2
            go_wp2_with fail
            have hqz : (t.extract 1 t.size).size = t.size - 1 := by rw [HRZ.out, HTZ.out]; omega
            have hq8 : 8 ≤ (t.extract 1 t.size).size := by omega
            have hqb : (t.extract 1 t.size).size ≤ 100000 := by omega
            have HQ : Hid _ := hqz
            have HQL : Hid _ := HRL.out
            generalize hqe : t.extract 1 t.size = q at *
            have HQE : Hid _ := hqe
            clear hqe hqz
            go_loop [7, 29] (fun u i => ∃ k m : Nat, k ≤ 8 ∧ i = .int .i64 k ∧ u = .int .u64 m ∧ Hid (m = numOf (r.take k)) ∧ m < 256 ^ k) (fun _ i => 8 - (intOf i).toNat)
            case atStart => exact ⟨0, 0, by omega, rfl, rfl, rfl, by simp⟩
            case round =>
              obtain ⟨k, m, hk, rfl, rfl, hn, hlt2⟩ := hrel
              by_cases hlt : k < 8
              · have hlt' : (k : Int) < 8 := by omega
                have hix : k < q.size := by omega
                have hdl : k < r.length := by omega
                have hst := numOf_step r k hdl
                have HO : Hid _ := add_u64 m q[k].toNat (pow_le k m hlt hlt2) q[k].toNat_lt
                have HC : Hid _ := q[k].toNat_lt
                have hgt : r[k] = q[k] := by
                  have e : r = q.data.toList := HRL.out.symm
                  subst e
                  rw [Array.getElem_toList]
                  rfl
                rw [hgt] at hst
                have HS : Hid _ := hst
                have HL : Hid _ := hlt2
                clear hst hgt hlt2
                go_wp2
                go_round
                case rel =>
                  refine ⟨k + 1, m * 256 + q[k].toNat, by omega, by go_num, by rw [HO.out], ?_, ?_⟩
                  · show _ = _
                    rw [HS.out, ← hn.out]
                  · have h1 := HL.out
                    have h2 := HC.out
                    rw [Nat.pow_succ]
                    omega
                case measure => simp [intOf]; omega
              · obtain rfl : k = 8 := by omega
                obtain ⟨y, hy⟩ : ∃ y : Int, y = (m : Int) - 9223372036854775808 := ⟨_, rfl⟩
                have HB : Hid (wrap64 (IntKind.u64.wrap ((m : Int) - 9223372036854775808)) = y) := by
                  show _ = _
                  rw [hy]
                  exact back_num m hlt2
                have hd : decV t.data.toList = (⟨1, y, ⟨#[]⟩⟩, 9) := by rw [HD.out, ← hn.out, hy]
                have hdrop : (q.extract 8 q.size).data.toList = t.data.toList.drop 9 := by
                  rw [Lib.extract_to_end, HRL.out, HE.out]
                  rfl
                have HS : Hid _ := fin_step t (q.extract 8 q.size) acc f ⟨1, y, ⟨#[]⟩⟩ 9 out HF.out hne hd (by decide) hdrop
                clear hd hne hdrop hlt2 hy HD
                go_wp2_with fail
                rw [HB.out]
                clear HB
                refine (refRight_as _ _ _ true (right_1 y) _ (Nat.zero_le _)).mono ?_
                rintro e w1 ⟨rfl, hb1⟩
                have hown1 := own_below (hown.alloc _) hb1 (Nat.le_refl _)
                have hbl1 := (hbl.alloc hbs _).trans (hb1.mono (by simp; omega))
                have hbs1 := hbl1.size
                have hc1 := fun o => bcell hb1 wr.heap.size o (by simp)
                clear hown hbl hb1
                go_wp2_with (at_builtin; refine wpList_append_own _ rfl (.tmp 66) (.tmp 68) 22 rfl w.heap.size 42 i0 (.agg #[.int .i64 0, .int .i64 0, .string ⟨#[]⟩]) 3 32 Tryd.underlying22 hi hz0 hz1 hz2 rfl (by decide) _ _ _ rfl (hown1.alloc _) ⟨w1.heap.size, 0, none⟩ 1 1 (cellsW (⟨1, y, ⟨#[]⟩⟩ : Vl)) rfl rfl ?c1 ?c2 ?c3 ?c4 ?c5 ?_)
                case c1 => exact cell_triple0 _ (⟨1, y, ⟨#[]⟩⟩ : Vl)
                case c2 => intro u hu; simp [cellsW] at hu; rcases hu with rfl | rfl | rfl <;> rfl
                case c3 => unfold maxLen; omega
                case c4 => omega
                case c5 => simp; omega
                · intro v2 w2 hown2 hgrow _
                  have hb2 : Below w.heap.size w w2 := (hbl1.alloc hbs1 _).grown hgrow (by simp; omega) (fun g hg => (hown1.lt g hg).1)
                  have hown3 : w2.ownsRow w.heap.size 42 3 v2 (acc ++ [(⟨1, y, ⟨#[]⟩⟩ : Vl)]).length (cellsL (acc ++ [(⟨1, y, ⟨#[]⟩⟩ : Vl)])) := by
                    rw [cellsL_snoc, List.length_append]
                    exact hown2
                  clear hown1 hown2 hgrow hbl1
                  go_wp2
                  go_roundw
                  case rel =>
                    obtain ⟨f', g1, g2, g3⟩ := HS.out
                    exact ⟨_, acc ++ [(⟨1, y, ⟨#[]⟩⟩ : Vl)], f', rfl, by omega, hown3, hb2, g3⟩
                  case measure => exact HS.out.choose_spec.2.1
          · have h9 : ¬ 9 ≤ t.size := by rw [HTZ.out]; omega
            have h8' : decide ((8 : Int) ≤ (t.size : Int) - 1) = false := by simp; omega
            have HZ : Hid ((decV t.data.toList).2 = 0) := by
              show _ = _
              rw [HE.out, c2]
              exact dec_2n r h8
            have HN : Hid (out = none) := by
              show _ = _
              rw [← HF.out.2, readF_bad f _ (by rw [← size_list]; exact HF.out.1) hne HZ.out]
              rfl
            have HC1 : Hid _ := c1
            have HC2 : Hid _ := c2
            clear b1 b2 b3 c1 c2
            go_wp2
            go_ret2
            rw [HN.out]
            exact ⟨hbl.alloc hbs _, rfl⟩
        · have t2 : ((t[0].toNat : Int) == 2) = false := by rw [b2]; simp [c2]
          by_cases c3 : c = 3
          · have t3 : ((t[0].toNat : Int) == 3) = true := by rw [b3]; simp [c3]
            have HDE : Hid _ := dec_3e r
            have HE3 : Hid (t.data.toList = 3 :: r) := by show _ = _; rw [HE.out, c3]
            clear b1 b2 b3 c1 c2 c3
            have hqz : (t.extract 1 t.size).size = t.size - 1 := by rw [HRZ.out, HTZ.out]; omega
            have HQ : Hid _ := hqz
            go_wp2_with fail
            have HQE : Hid (t.extract 1 t.size = t.extract 1 t.size) := rfl
            generalize hqe : t.extract 1 t.size = q at *
            have hqb : q.size ≤ 100000 := by omega
            clear hqe HQE hqz
            obtain ⟨e, he⟩ : ∃ e, lets r = e := ⟨_, rfl⟩
            have hle := lets_le r
            rw [he] at hle
            by_cases hz : e < r.length
            · have hi0 : idx0 q.data.toList = e := by rw [HRL.out, idx0, he, if_pos hz]
              have hzq : e < q.size := by rw [HRZ.out]; exact hz
              refine (contains_as q true (by rw [hi0]; simp) _).mono ?_
              rintro _ _ ⟨rfl, rfl⟩
              have HI : Hid _ := hi0
              have HLE : Hid (lets q.data.toList = e) := by show _ = _; rw [HRL.out]; exact he
              clear hi0
              by_cases h40 : e ≤ 40
              · obtain ⟨l1, l2⟩ := lets_take r (by rw [he]; exact hz) (by rw [he]; exact h40)
                have hd : decV t.data.toList = (⟨2, 0, q.extract 0 e⟩, 1 + e + 1) := by
                  rw [HE3.out, HDE.out, if_neg l2, l1, he]
                  have : q.extract 0 e = strOf (r.take e) := by
                    apply bytes_ext
                    rw [extract_list, HRL.out, strOf_list]
                    simp
                  rw [this]
                have hdrop : (q.extract (e + 1) q.size).data.toList = t.data.toList.drop (1 + e + 1) := by
                  rw [Lib.extract_to_end, HRL.out, HE3.out, show 1 + e + 1 = (e + 1) + 1 by omega]
                  rfl
                have HS : Hid _ := fin_step t (q.extract (e + 1) q.size) acc f ⟨2, 0, q.extract 0 e⟩ (1 + e + 1) out HF.out hne hd (by omega) hdrop
                have HR : Hid _ := (right_2 q e HLE.out hzq).trans (decide_eq_true h40)
                have HEZ : Hid _ := he
                clear hd hne hdrop l1 l2 he
                have hes : (q.extract 0 e).size ≤ maxLen := by simp [maxLen]; omega
                go_wp2_with (go_at_call 16; refine (index_as q e HI.out _).mono ?_; rintro _ _ ⟨rfl, rfl⟩)
                refine (refRight_as _ _ _ true HR.out _ hes).mono ?_
                rintro _ w1 ⟨rfl, hb1⟩
                have hown1 := own_below (hown.alloc _) hb1 (Nat.le_refl _)
                have hbl1 := (hbl.alloc hbs _).trans (hb1.mono (by simp; omega))
                have hbs1 := hbl1.size
                have hc1 := fun o => bcell hb1 wr.heap.size o (by simp)
                clear hown hbl hb1
                go_wp2_with (at_builtin; refine wpList_append_own _ rfl (.tmp 66) (.tmp 68) 22 rfl w.heap.size 42 i0 (.agg #[.int .i64 0, .int .i64 0, .string ⟨#[]⟩]) 3 32 Tryd.underlying22 hi hz0 hz1 hz2 rfl (by decide) _ _ _ rfl (hown1.alloc _) ⟨w1.heap.size, 0, none⟩ 1 1 (cellsW (⟨2, 0, q.extract 0 e⟩ : Vl)) rfl rfl ?c1 ?c2 ?c3 ?c4 ?c5 ?_)
                case c1 => exact cell_triple0 _ (⟨2, 0, q.extract 0 e⟩ : Vl)
                case c2 => intro u hu; simp [cellsW] at hu; rcases hu with rfl | rfl | rfl <;> rfl
                case c3 => unfold maxLen; omega
                case c4 => omega
                case c5 => simp; omega
                · intro v2 w2 hown2 hgrow _
                  have hb2 : Below w.heap.size w w2 := (hbl1.alloc hbs1 _).grown hgrow (by simp; omega) (fun g hg => (hown1.lt g hg).1)
                  have hown3 : w2.ownsRow w.heap.size 42 3 v2 (acc ++ [(⟨2, 0, q.extract 0 e⟩ : Vl)]).length (cellsL (acc ++ [(⟨2, 0, q.extract 0 e⟩ : Vl)])) := by
                    rw [cellsL_snoc, List.length_append]
                    exact hown2
                  clear hown1 hown2 hgrow hbl1
                  go_wp2
                  go_roundw
                  case rel =>
                    obtain ⟨f', g1, g2, g3⟩ := HS.out
                    exact ⟨_, acc ++ [(⟨2, 0, q.extract 0 e⟩ : Vl)], f', rfl, by omega, hown3, hb2, g3⟩
                  case measure => exact HS.out.choose_spec.2.1
              · have HZ : Hid ((decV t.data.toList).2 = 0) := by
                  show _ = _
                  rw [HE3.out, HDE.out, if_pos (lets_long r (.inr (by rw [he]; omega)))]
                have HN : Hid (out = none) := by
                  show _ = _
                  rw [← HF.out.2, readF_bad f _ (by rw [← size_list]; exact HF.out.1) hne HZ.out]
                  rfl
                have HR : Hid _ := (right_2 q e HLE.out hzq).trans (decide_eq_false h40)
                have HEZ : Hid _ := he
                clear hne he
                have hes : (q.extract 0 e).size ≤ maxLen := by simp [maxLen]; omega
                go_wp2_with (go_at_call 16; refine (index_as q e HI.out _).mono ?_; rintro _ _ ⟨rfl, rfl⟩)
                refine (refRight_as _ _ _ false HR.out _ hes).mono ?_
                rintro _ w1 ⟨rfl, hb1⟩
                have hbl1 := (hbl.alloc hbs _).trans (hb1.mono (by simp; omega))
                clear hown hbl hb1
                go_wp2
                go_ret2
                rw [HN.out]
                exact ⟨hbl1, rfl⟩
            · have hi0 : idx0 q.data.toList = -1 := by rw [HRL.out, idx0, he, if_neg hz]
              have HZ : Hid ((decV t.data.toList).2 = 0) := by
                show _ = _
                rw [HE3.out, HDE.out, if_pos (lets_long r (.inl (by rw [he]; omega)))]
              have HN : Hid (out = none) := by
                show _ = _
                rw [← HF.out.2, readF_bad f _ (by rw [← size_list]; exact HF.out.1) hne HZ.out]
                rfl
              refine (contains_as q false (by rw [hi0]; decide) _).mono ?_
              rintro _ _ ⟨rfl, rfl⟩
              clear hi0 he
              go_wp2
              go_ret2
              rw [HN.out]
              exact ⟨hbl.alloc hbs _, rfl⟩
          · have t3 : ((t[0].toNat : Int) == 3) = false := by rw [b3]; simp [c3]
            have HZ : Hid ((decV t.data.toList).2 = 0) := by
              show _ = _
              rw [HE.out]
              exact dec_else c r c1 c2 c3
            have HN : Hid (out = none) := by
              show _ = _
              rw [← HF.out.2, readF_bad f _ (by rw [← size_list]; exact HF.out.1) hne HZ.out]
              rfl
            have HC1 : Hid _ := c1
            have HC2 : Hid _ := c2
            have HC3 : Hid _ := c3
            clear b1 b2 b3 c1 c2 c3
            go_wp2
            go_ret2
            rw [HN.out]
            exact ⟨hbl.alloc hbs _, rfl⟩
    · have hpos' : ¬ (0 : Int) < (t.size : Int) := by omega
      have HN : Hid (out = some acc) := by
        show _ = _
        rw [← hf.out.2, readF_nil f _ (List.length_eq_zero_iff.1 (by rw [← size_list]; omega))]
        simp
      go_wp2
      go_ret2
      rw [HN.out]
      exact ⟨hbl, _, rfl, hown⟩
end Go.Proofs.YtkbnbkhloajmbaaDoor
