/- Texts of the proof of MatchSets: Gcn, WSplit, PBackM, Gma. -/
import Derived.Test.YtjgdnainhoipgaaGreatDoorM25
namespace Go.Proofs.YtjgdnainhoipgaaGreatDoor
open Go.RowKit Go.Maps

def startF (nm s : ByteArray) : ByteArray := nm ++ ⟨#[0]⟩ ++ s
/-- four bytes of a row -/
def rowB (r : Nat) : List UInt8 := [byteI ((r : Int) / 16777216), byteI ((r : Int) / 65536), byteI ((r : Int) / 256), byteI (r : Int)]
def keyF (nm s : ByteArray) (r : Nat) : ByteArray := startF nm s ++ ⟨#[0]⟩ ++ ⟨(rowB r).toArray⟩
theorem startF_list (nm s : ByteArray) : (startF nm s).data.toList = nm.data.toList ++ 0 :: s.data.toList := by simp [startF]
theorem startF_size (nm s : ByteArray) : (startF nm s).size = nm.size + 1 + s.size := by unfold startF; rw [ByteArray.size_append, ByteArray.size_append]; rfl
theorem keyF_list (nm s : ByteArray) (r : Nat) : (keyF nm s r).data.toList = nm.data.toList ++ 0 :: (s.data.toList ++ 0 :: rowB r) := by simp [keyF, startF]
theorem keyF_size (nm s : ByteArray) (r : Nat) : (keyF nm s r).size = nm.size + s.size + 6 := by
  unfold keyF
  rw [ByteArray.size_append, ByteArray.size_append, startF_size]
  show nm.size + 1 + s.size + 1 + 4 = _
  omega
theorem startF_any (nm s : ByteArray) (hn : nm.size ≤ 1000) (hs : s.size ≤ 1000) (w : World) : Calls Tryz.prog 47 #[.string nm, .string s] w fun e w' => e = .returned (.string (startF nm s)) ∧ w' = w := by
  have h1 := str_long nm ⟨#[0]⟩ (by show nm.size + 1 ≤ _; omega)
  have h2 := str_long (nm ++ ⟨#[0]⟩) s (by rw [ByteArray.size_append]; show nm.size + 1 + s.size ≤ _; omega)
  go_enter Tryz.func47, Tryz.ntmps47
  go_wp2
  go_ret
  exact ⟨rfl, rfl⟩
theorem urow4 (w : World) (a b c d : UInt8) {p q r s : Int} (h1 : p = (a.toNat : Int)) (h2 : q = (b.toNat : Int)) (h3 : r = (c.toNat : Int)) (h4 : s = (d.toNat : Int)) : URow 0 (.slice (some ⟨w.heap.size, 0, none⟩) 4 4) [a, b, c, d] (w.alloc (.cells #[.int .u8 p, .int .u8 q, .int .u8 r, .int .u8 s] 5)) := by
  subst h1 h2 h3 h4
  exact World.ownsRow_lit (base := 0) (e := 5) (size := 1) w #[.int .u8 (a.toNat : Nat), .int .u8 (b.toNat : Nat), .int .u8 (c.toNat : Nat), .int .u8 (d.toNat : Nat)] 4 (Nat.zero_le _) (by decide) rfl
set_option maxRecDepth 100000 in
set_option maxHeartbeats 1000000 in
theorem keyF_any (nm s : ByteArray) (r : Nat) (hn : nm.size ≤ 1000) (hs : s.size ≤ 1000) (w : World) : Calls Tryz.prog 32 #[.string nm, .string s, .int .i64 (r : Nat)] w fun e w' => e = .returned (.string (keyF nm s r)) ∧ Below w.heap.size w w' := by
  have h1 := str_long (startF nm s) ⟨#[0]⟩ (by rw [startF_size]; show nm.size + 1 + s.size + 1 ≤ _; omega)
  have h2 := str_long (startF nm s ++ ⟨#[0]⟩) ⟨(rowB r).toArray⟩ (by rw [ByteArray.size_append, startF_size]; show nm.size + 1 + s.size + 1 + 4 ≤ _; omega)
  have b0 := byteI_toNat ((r : Int) / 16777216)
  have b1 := byteI_toNat ((r : Int) / 65536)
  have b2 := byteI_toNat ((r : Int) / 256)
  have b3 := byteI_toNat (r : Int)
  have HB : Hid (Below w.heap.size w (w.alloc (.cells #[.int .u8 ((byteI ((r : Int) / 16777216)).toNat : Int), .int .u8 ((byteI ((r : Int) / 65536)).toNat : Int), .int .u8 ((byteI ((r : Int) / 256)).toNat : Int), .int .u8 ((byteI (r : Int)).toNat : Int)] 5)).drew) := ((Below.refl _ w).alloc (Nat.le_refl _) _).drew
  have C0 : Hid ((convert 128 9 (.slice (some ⟨w.heap.size, 0, none⟩) 4 4)).run Tryz.prog (w.alloc (.cells #[.int .u8 ((byteI ((r : Int) / 16777216)).toNat : Int), .int .u8 ((byteI ((r : Int) / 65536)).toNat : Int), .int .u8 ((byteI ((r : Int) / 256)).toNat : Int), .int .u8 ((byteI (r : Int)).toNat : Int)] 5)).drew = .ok (.string ⟨(rowB r).toArray⟩) (w.alloc (.cells #[.int .u8 ((byteI ((r : Int) / 16777216)).toNat : Int), .int .u8 ((byteI ((r : Int) / 65536)).toNat : Int), .int .u8 ((byteI ((r : Int) / 256)).toNat : Int), .int .u8 ((byteI (r : Int)).toNat : Int)] 5)).drew) := text_of (World.ownsRow.drew (urow4 w _ _ _ _ rfl rfl rfl rfl)) (by simp [rowB])
  go_enter Tryz.func32, Tryz.ntmps32
  go_wp2_with fail
  clear b0 b1 b2 b3
  go_region_held3 (fun wx => (convert 128 9 (.slice (some ⟨w.heap.size, 0, none⟩) 4 4)).run Tryz.prog wx = .ok (.string ⟨(rowB r).toArray⟩) wx) (exact C0.out) (first | (go_at_call 47; refine (startF_any nm s hn hs _).mono ?_; rintro _ w9 ⟨rfl, h9⟩; obtain rfl := h9.symm; clear h9))
  go_wp2
  go_ret
  exact ⟨rfl, HB.out⟩
/-- what may not be: a name -/
def nameBad (nm : ByteArray) : Bool := decide (nm.size = 0) || decide (16 < nm.size) || decide ((0 : UInt8) ∈ nm.data.toList)
/-- what check tells -/
def chkE (nm : ByteArray) (r : Int) : Int := if nameBad nm then 1 else if r < 1 ∨ 1073741824 < r then 2 else 0
theorem size_zero_list {nm : ByteArray} (h : nm.size = 0) : nm.toList = [] := by
  rw [ByteArray.toList_eq, size_zero h]
theorem size_pos_list {nm : ByteArray} (h : ¬ nm.size = 0) : ¬ nm.toList = [] := by
  rw [ByteArray.toList_eq]
  intro e
  exact h (by show nm.data.size = 0; rw [← Array.length_toList, e]; rfl)
theorem in_iff (nm : ByteArray) : decide (0 ≤ Lib.indexByte nm.data.toList 0) = decide ((0 : UInt8) ∈ nm.data.toList) := by
  by_cases h : (0 : UInt8) ∈ nm.data.toList
  · rw [decide_eq_true h, decide_eq_true ((indexByte_none _ _).1.2 h)]
  · rw [decide_eq_false h, decide_eq_false (fun e => h ((indexByte_none _ _).1.1 e))]
set_option maxHeartbeats 1000000 in
theorem checkG_any (nm : ByteArray) (r : Int) (w : World) : Calls Tryz.prog 13 #[.string nm, .int .i64 r] w fun e w' => e = .returned (errV (chkE nm r)) ∧ w' = w := by
  have hE1 : ∀ n : Int, n ≠ 0 → errV n = .iface 52 (.int .i64 n) := fun n hn => by unfold errV; rw [if_neg hn]
  have hE0 : errV 0 = .nilIface := rfl
  by_cases h0 : nm.size = 0
  · have hl := size_zero_list h0
    have hc : chkE nm r = 1 := by simp [chkE, nameBad, h0]
    rw [hc, hE1 1 (by decide)]
    obtain rfl := size_zero h0
    clear h0 hc hE1 hE0
    go_enter Tryz.func13, Tryz.ntmps13
    go_wp2
    go_ret
    exact ⟨rfl, rfl⟩
  · have hl := size_pos_list h0
    have hq : nm.toList.isEmpty = false := List.isEmpty_eq_false_iff.2 hl
    by_cases h1 : 16 < nm.size
    · have i1 : (16 : Int) < (nm.size : Int) := by omega
      have hc : chkE nm r = 1 := by simp [chkE, nameBad, h1]
      rw [hc, hE1 1 (by decide)]
      clear h0 hc h1 hE1 hE0 hl
      go_enter Tryz.func13, Tryz.ntmps13
      go_wp2
      go_ret
      exact ⟨rfl, rfl⟩
    · have i1 : ¬ (16 : Int) < (nm.size : Int) := by omega
      by_cases h2 : (0 : UInt8) ∈ nm.data.toList
      · have hc : chkE nm r = 1 := by simp [chkE, nameBad, h2]
        rw [hc, hE1 1 (by decide)]
        have hd := in_iff nm
        rw [decide_eq_true h2] at hd
        clear h0 hc h1 h2 hE1 hE0 hl
        go_enter Tryz.func13, Tryz.ntmps13
        go_wp2_with fail
        refine (Tryz.strings_Contains_one nm 0 w).mono ?_
        rintro _ w9 ⟨rfl, h9⟩
        obtain rfl := h9.symm
        rw [hd]
        clear h9 hd
        go_wp2
        go_ret
        exact ⟨rfl, rfl⟩
      · have hb : nameBad nm = false := by simp only [nameBad, decide_eq_false h0, decide_eq_false h1, decide_eq_false h2, Bool.or_self]
        have hd := in_iff nm
        rw [decide_eq_false h2] at hd
        by_cases h3 : r < 1
        · have hc : chkE nm r = 2 := by rw [chkE, hb, if_neg (by decide), if_pos (.inl h3)]
          rw [hc, hE1 2 (by decide)]
          clear h0 hc h1 h2 hE1 hE0 hl hb
          go_enter Tryz.func13, Tryz.ntmps13
          go_wp2_with fail
          refine (Tryz.strings_Contains_one nm 0 w).mono ?_
          rintro _ w9 ⟨rfl, h9⟩
          obtain rfl := h9.symm
          rw [hd]
          clear h9 hd
          go_wp2
          go_ret
          exact ⟨rfl, rfl⟩
        · by_cases h4 : 1073741824 < r
          · have hc : chkE nm r = 2 := by rw [chkE, hb, if_neg (by decide), if_pos (.inr h4)]
            rw [hc, hE1 2 (by decide)]
            clear h0 hc h1 h2 hE1 hE0 hl hb
            go_enter Tryz.func13, Tryz.ntmps13
            go_wp2_with fail
            refine (Tryz.strings_Contains_one nm 0 w).mono ?_
            rintro _ w9 ⟨rfl, h9⟩
            obtain rfl := h9.symm
            rw [hd]
            clear h9 hd
            go_wp2
            go_ret
            exact ⟨rfl, rfl⟩
          · have hc : chkE nm r = 0 := by rw [chkE, hb, if_neg (by decide), if_neg (by omega)]
            rw [hc, hE0]
            clear h0 hc h1 h2 hE1 hE0 hl hb
            go_enter Tryz.func13, Tryz.ntmps13
            go_wp2_with fail
            refine (Tryz.strings_Contains_one nm 0 w).mono ?_
            rintro _ w9 ⟨rfl, h9⟩
            obtain rfl := h9.symm
            rw [hd]
            clear h9 hd
            go_wp2
            go_ret
            exact ⟨rfl, rfl⟩
theorem overF_any (bt : Nat) (w : World) : Calls Tryz.prog 12 #[.pointer (some ⟨bt, 0, none⟩)] w fun e w' => e = .returned (.tuple #[.pointer (some ⟨w.heap.size, 0, none⟩), .nilIface]) ∧ w' = w.alloc (.cells #[.pointer (some ⟨bt, 0, none⟩)] 84) := by
  go_enter Tryz.func12, Tryz.ntmps12
  go_wp2
  go_ret2
  exact ⟨rfl, rfl⟩
end Go.Proofs.YtjgdnainhoipgaaGreatDoor
namespace Go.Proofs.YtjgdnainhoipgaaGreatDoor
open Go.RowKit

theorem letters_as (s : ByteArray) (n : Nat) (hn : lead s.data.toList = n) (w : World) (hs : s.size ≤ 1000000) :
    Calls Tryz.prog 28 #[.string s] w fun e w' => e = .returned (.int .i64 n) ∧ w' = w := by
  rw [← hn]; exact letters_any s w hs
set_option maxRecDepth 100000 in
set_option maxHeartbeats 4000000 in
theorem split_any (s : ByteArray) (w : World) (hs : s.size ≤ 900000) (he : EndsAt w) :
    Calls Tryz.prog 14 #[.string s] w fun e w' => ∃ v, e = .returned v ∧ w'.ownsRow w.heap.size 9 1 v (wordsL s.data.toList).length (sc (wordsL s.data.toList)) ∧ Below w.heap.size w w' := by
  obtain ⟨i0, hi, hz0, hz1, hz2⟩ := info9
  have HW : Hid ((wordsL s.data.toList).length ≤ 900001 ∧ EndsAt w) := ⟨by have := words_length s.data.toList; rw [ba_len] at this; omega, he⟩
  clear he
  generalize hWs : wordsL s.data.toList = W at *
  have HS : Hid (wordsL s.data.toList = W) := hWs
  clear hWs
  go_enter Tryz.func14, Tryz.ntmps14
  go_wp2
  go_loopw [0, 3] (fun x v wr => ∃ (t : ByteArray) (ws : List ByteArray), t.size ≤ s.size ∧ x = .string t ∧ Hid (ws ++ wordsL t.data.toList = W) ∧ Hid (wr.ownsRow w.heap.size 9 1 v ws.length (sc ws) ∧ Below w.heap.size w wr)) (fun x _ _ => strLen x)
  case atStart => exact ⟨s, [], Nat.le_refl _, rfl, HS.out, World.ownsRow_nil w _ 9 1, Below.refl _ _⟩
  case round =>
    clear HS
    obtain ⟨t, ws, hts, rfl, hws, hown⟩ := hrel
    by_cases h0 : 0 < t.size
    · obtain ⟨n, hn⟩ : ∃ n, lead t.data.toList = n := ⟨_, rfl⟩
      have hle := lead_le t.data.toList
      rw [hn, ba_len] at hle
      have HN : Hid (lead t.data.toList = n) := hn
      have HD : Hid (wordsL (t.extract (min (n + 1) t.size) t.size).data.toList = wordsL (t.data.toList.drop (n + 1))) := by
        show _ = _
        rw [ba_extract, List.take_of_length_le (by rw [ba_len]; exact Nat.le_refl _)]
        have := drop_min t.data.toList (n + 1)
        rw [ba_len] at this
        rw [this]
      clear hn
      by_cases hn0 : n = 0
      · subst hn0
        have HX : Hid (ws ++ wordsL (t.extract (min (0 + 1) t.size) t.size).data.toList = W) := by
          show _ = _
          rw [HD.out, ← hws.out, words_step t.data.toList, HN.out]
          simp
        clear HD
        go_wp2_with (go_at_call 28; refine (letters_as _ 0 HN.out _ (by omega)).mono ?_; rintro e w' ⟨rfl, rfl⟩)
        go_roundw
        case rel =>
          have e : (min (1 : Int) (t.size : Int)).toNat = min (0 + 1) t.size := by omega
          exact ⟨_, ws, by simp; omega, rfl, by rw [e]; exact HX.out, hown.out⟩
        case measure => simp [strLen]; omega
      · have HX : Hid ((ws ++ [wordOf (t.data.toList.take n)]) ++ wordsL (t.extract (min (n + 1) t.size) t.size).data.toList = W) := by
          show _ = _
          rw [HD.out, ← hws.out, words_step t.data.toList, HN.out, if_neg hn0]
          simp
        have HL : Hid (ws.length ≤ 900001) := by
          show _ ≤ _
          have h1 := HW.out.1
          rw [← hws.out] at h1
          simp at h1
          omega
        clear HD
        have hn1 : (0 : Int) < (n : Int) := by omega
        have HQ : Hid (stemS (smallS (t.extract 0 (min (n : Int) 12).toNat)) = wordOf (t.data.toList.take n)) := by
          show _ = _
          rw [show (min (n : Int) 12).toNat = min n 12 by omega]
          exact word_prog t n
        have HB : Hid (Below w.heap.size w wr) := hown.out.2
        have HO : Hid (wr.ownsRow w.heap.size 9 1 u3 ws.length (sc ws)) := hown.out.1
        clear hown
        go_wp2_with fail
        refine (letters_as _ n HN.out _ (by omega)).mono ?_
        rintro _ wr ⟨rfl, rfl⟩
        go_wp2_with fail
        refine (small_any _ _ (by simp; omega)).mono ?_
        rintro _ w1 ⟨rfl, hb1⟩
        have HE : Hid (EndsAt w1) := (HW.out.2.below HB.out).below hb1
        go_wp2_with fail
        refine (stem_any _ _ (by rw [smallS_size]; simp; omega) HE.out).mono ?_
        rintro _ w2 ⟨rfl, hb2⟩
        rw [HQ.out]
        have HB2 : Hid (Below w.heap.size w w2) := (HB.out.trans (hb1.mono HB.out.size)).trans (hb2.mono (Nat.le_trans HB.out.size hb1.size))
        have HO2 : Hid (w2.ownsRow w.heap.size 9 1 u3 ws.length (sc ws)) := own_below (own_below HO.out hb1) hb2
        clear HB HO hb1 hb2 HE HQ
        obtain ⟨x, hx⟩ : ∃ x, wordOf (t.data.toList.take n) = x := ⟨_, rfl⟩
        rw [hx]
        have HX : Hid _ := HX.out
        rw [hx] at HX
        clear hx
        go_wp2_with (at_builtin; refine wpList_append_own _ rfl _ _ 22 rfl w.heap.size 9 i0 (.string ⟨#[]⟩) 1 16 Tryz.underlying22 hi hz0 hz1 hz2 rfl (by decide) _ _ _ rfl (HO2.out.alloc _) ⟨w2.heap.size, 0, none⟩ 1 1 [.string x] rfl rfl ?c1 ?c2 ?c3 ?c4 ?c5 ?_)
        case c1 => exact cell_one_new _ _ _
        case c2 => intro y hy; simp at hy; subst hy; rfl
        case c3 => have := HL.out; simp [maxLen]; omega
        case c4 => have := HL.out; omega
        case c5 => have := HB2.out.size; simp; omega
        · intro v' w3 hown' hgrow _
          have hbl' := HB2.out.size
          have HB3 : Hid (Below w.heap.size w w3) := (HB2.out.alloc (by omega) _).grown hgrow (by simp; omega) (fun g hg => (HO2.out.lt g hg).1)
          have HO3 : Hid (w3.ownsRow w.heap.size 9 1 v' (ws ++ [x]).length (sc (ws ++ [x]))) := own_eq hown' (by simp) (by simp [sc])
          clear HB2 HO2 hown' hgrow hbl'
          go_wp2
          go_roundw
          case rel =>
            have e : (min ((n : Int) + 1) (t.size : Int)).toNat = min (n + 1) t.size := by omega
            exact ⟨_, ws ++ [x], by simp; omega, rfl, by rw [e]; exact HX.out, HO3.out, HB3.out⟩
          case measure => simp [strLen]; omega
    · go_wp2
      go_ret
      obtain rfl : t = ⟨#[]⟩ := by
        cases t with
        | mk d =>
          have : d.size = 0 := Nat.eq_zero_of_not_pos h0
          simp [Array.size_eq_zero_iff.1 this]
      have e : ws = W := by have := hws.out; simpa [wordsL, runs] using this
      subst e
      exact ⟨_, rfl, hown.out.1, hown.out.2⟩

end Go.Proofs.YtjgdnainhoipgaaGreatDoor
namespace Go.Proofs.YtjgdnainhoipgaaGreatDoor
open Go.RowKit

theorem ofNat_toNat {n : Nat} (h : n < 256) : (UInt8.ofNat n).toNat = n := by simp; omega

theorem rn_num (n : Nat) : ∀ (f i acc : Nat) (rest : List UInt8), (numL n).length ≤ f → (n ≠ 0 ∨ i = 0) → rnF f i acc (numL n ++ rest) = (acc + n * 128 ^ i, i + (numL n).length) := by
  induction n using Nat.strongRecOn with
  | ind n ih =>
    intro f i acc rest hf h0
    by_cases hn : n < 128
    · rw [numL_small hn] at hf ⊢
      cases f with
      | zero => simp at hf
      | succ f =>
        simp only [List.singleton_append, rnF, ofNat_toNat (show n < 256 by omega), if_pos hn, List.length_singleton]
        rw [if_neg (by omega)]
    · rw [numL_big hn] at hf ⊢
      cases f with
      | zero => simp at hf
      | succ f =>
        simp only [List.length_cons] at hf
        simp only [List.cons_append, rnF, ofNat_toNat (show n % 128 + 128 < 256 by omega), List.length_cons]
        rw [if_neg (by omega), show (n % 128 + 128) % 128 = n % 128 by omega]
        rw [ih (n / 128) (by omega) f (i + 1) _ rest (by omega) (.inl (by omega))]
        have e : n = n % 128 + 128 * (n / 128) := by omega
        have e2 : n * 128 ^ i = n % 128 * 128 ^ i + n / 128 * 128 ^ (i + 1) := by
          conv => lhs; rw [e]
          rw [Nat.add_mul, Nat.pow_succ, Nat.mul_comm 128 (n / 128), Nat.mul_assoc, Nat.mul_comm 128 (128 ^ i)]
        rw [e2, Nat.add_assoc]
        congr 1
        omega
theorem rnL_num (n : Nat) (hn : n < 34359738368) (rest : List UInt8) : rnL (numL n ++ rest) = (n, (numL n).length) := by
  have := rn_num n 5 0 0 rest (numL_len 4 n (by omega)) (.inr rfl)
  simpa [rnL] using this

theorem rp_enc {p q : Pl} (hp : Ahead p) (h : follB p q = true) (rest : List UInt8) : rpL (encP p q ++ rest) p = some (q, (encP p q).length) := by
  obtain ⟨⟨a1, a2⟩, ⟨a3, a4⟩, h5⟩ := foll_facts h
  obtain ⟨b1, b2, b3, b4⟩ := hp
  unfold encP
  by_cases e : q.r = p.r
  · have hlt : p.a < q.a := by rcases h5 with ⟨_, h⟩ | ⟨h, _⟩; exact h; exact absurd e h
    obtain ⟨N, hN⟩ : ∃ N, (2 * (q.a - p.a)).toNat = N := ⟨_, rfl⟩
    rw [if_pos e, hN]
    have hr := rnL_num N (by omega) rest
    have hl := numL_pos N
    have hq : (⟨p.r, p.a + ((N / 2 : Nat) : Int)⟩ : Pl) = q := by
      obtain ⟨qr, qa⟩ := q
      simp only [Pl.mk.injEq] at *
      omega
    unfold rpL
    rw [hr]
    simp only
    rw [if_neg (by omega), if_neg (by omega), hq, if_pos h]
  · have hlt : p.r < q.r := by rcases h5 with ⟨h, _⟩ | ⟨_, h⟩; exact absurd h e; exact h
    obtain ⟨N, hN⟩ : ∃ N, (2 * (q.r - p.r) + 1).toNat = N := ⟨_, rfl⟩
    obtain ⟨M, hM⟩ : ∃ M, q.a.toNat = M := ⟨_, rfl⟩
    rw [if_neg e, hN, hM, List.append_assoc]
    have hr := rnL_num N (by omega) (numL M ++ rest)
    have hr2 := rnL_num M (by omega) rest
    have hl := numL_pos N
    have hl2 := numL_pos M
    have hq : (⟨p.r + ((N / 2 : Nat) : Int), (M : Int)⟩ : Pl) = q := by
      obtain ⟨qr, qa⟩ := q
      simp only [Pl.mk.injEq] at *
      omega
    unfold rpL
    rw [hr]
    simp only [List.drop_left]
    rw [hr2]
    simp only
    rw [if_neg (by omega), if_pos (by omega), if_neg (by omega), hq, if_pos h, List.length_append]

theorem rd_enc (l : List Pl) : ∀ (p : Pl) (f : Nat), Ahead p → rightFrom p l = true → (encFrom p l).length ≤ f → rdF f p (encFrom p l) = some l := by
  induction l with
  | nil => intro p f _ _ _; cases f <;> rfl
  | cons q l ih =>
    intro p f hp h hf
    simp only [rightFrom, Bool.and_eq_true] at h
    obtain ⟨⟨a1, a2⟩, ⟨a3, a4⟩, _⟩ := foll_facts h.1
    have hr := rp_enc hp h.1 (encFrom q l)
    have hpos := (rpL_pos hr).1
    simp only [encFrom] at hf ⊢
    rw [List.length_append] at hf
    cases f with
    | zero => omega
    | succ f =>
      cases hc : encP p q ++ encFrom q l with
      | nil =>
        have := congrArg List.length hc
        rw [List.length_append] at this
        simp at this
        rw [this.1] at hpos
        simp at hpos
      | cons c t =>
        rw [rdF, ← hc, hr]
        simp only [List.drop_left]
        rw [ih q f ⟨by omega, by omega, by omega, by omega⟩ h.2 (by omega)]
        rfl
theorem read_enc (l : List Pl) (h : rightL l = true) : readL (encPl l) = some l := rd_enc l ⟨0, 0⟩ _ ⟨by decide, by decide, by decide, by decide⟩ h (Nat.le_refl _)

end Go.Proofs.YtjgdnainhoipgaaGreatDoor
namespace Go.Proofs.YtjgdnainhoipgaaGreatDoor
open Go.RowKit Go.Maps

/-- a word of a text -/
structure WOk (w : ByteArray) : Prop where
  nz : (0 : UInt8) ∉ w.data.toList
  pos : 1 ≤ w.size
  le : w.size ≤ 12
theorem isL_ne {c : UInt8} (h : isL c = true) : c ≠ 0 := fun e => by rw [e] at h; revert h; decide
theorem low_ne {c : UInt8} (h : c ≠ 0) : low c ≠ 0 := fun e => by
  have h1 := low_nat c
  rw [e] at h1
  have h2 : c.toNat ≠ 0 := fun e2 => h (UInt8.toNat_inj.1 (by rw [e2]; rfl))
  unfold lown at h1
  have h0 : (0 : UInt8).toNat = 0 := rfl
  rw [h0] at h1
  split at h1 <;> omega
theorem runs_ok : ∀ (l cur : List UInt8), (∀ c ∈ cur, isL c = true) → ∀ r ∈ runs cur l, r ≠ [] ∧ ∀ c ∈ r, isL c = true
  | [], cur, hc, r, hr => by
    unfold runs at hr
    cases cur with
    | nil => simp at hr
    | cons a b => simp at hr; subst hr; exact ⟨by simp, hc⟩
  | c :: l, cur, hc, r, hr => by
    unfold runs at hr
    cases h : isL c
    · rw [h] at hr
      simp only [Bool.false_eq_true, if_false] at hr
      rcases List.mem_append.1 hr with hr | hr
      · cases cur with
        | nil => simp at hr
        | cons a b => simp at hr; subst hr; exact ⟨by simp, hc⟩
      · exact runs_ok l [] (by simp) r hr
    · rw [h, if_pos rfl] at hr
      refine runs_ok l (cur ++ [c]) (fun x hx => ?_) r hr
      rcases List.mem_append.1 hx with hx | hx
      · exact hc x hx
      · obtain rfl := List.mem_singleton.1 hx; exact h
theorem runs_count : ∀ (l cur : List UInt8), 2 * (runs cur l).length ≤ l.length + (if cur = [] then 1 else 2)
  | [], cur => by
    unfold runs
    cases cur <;> simp
  | c :: l, cur => by
    unfold runs
    cases h : isL c
    · have ih := runs_count l []
      rw [if_pos rfl] at ih
      simp only [Bool.false_eq_true, if_false, List.length_append, List.length_cons]
      cases cur with
      | nil => simp; omega
      | cons a b => simp; omega
    · have ih := runs_count l (cur ++ [c])
      rw [if_neg (by simp)] at ih
      rw [if_pos rfl, List.length_cons]
      split <;> omega
theorem words_count (s : ByteArray) : 2 * (wordsL s.data.toList).length ≤ s.size + 1 := by
  have := runs_count s.data.toList []
  rw [if_pos rfl, Array.length_toList] at this
  unfold wordsL
  rw [List.length_map]
  exact this
theorem stem_ok : ∀ (t : List (ByteArray × ByteArray)) (s : ByteArray), (∀ x ∈ t, (0 : UInt8) ∉ x.2.data.toList) → (0 : UInt8) ∉ s.data.toList → 1 ≤ s.size → (0 : UInt8) ∉ (stemFrom t s).data.toList ∧ 1 ≤ (stemFrom t s).size
  | [], s, _, h0, h1 => ⟨h0, h1⟩
  | (e, r) :: t, s, ht, h0, h1 => by
    unfold stemFrom
    split
    · split
      · rename_i h3
        constructor
        · rw [ByteArray.data_append, Array.toList_append]
          intro hm
          rcases List.mem_append.1 hm with hm | hm
          · rw [ByteArray.data_extract, Array.toList_extract, List.extract_eq_take_drop] at hm
            exact h0 (List.mem_of_mem_drop (List.mem_of_mem_take hm))
          · exact ht (e, r) (by simp) hm
        · rw [ByteArray.size_append, ByteArray.size_extract]; omega
      · exact ⟨h0, h1⟩
    · exact stem_ok t s (fun x hx => ht x (by simp [hx])) h0 h1
theorem word_ok {l : List UInt8} {w : ByteArray} (h : w ∈ wordsL l) : WOk w := by
  unfold wordsL at h
  obtain ⟨r, hr, rfl⟩ := List.mem_map.1 h
  obtain ⟨hne, hl⟩ := runs_ok l [] (by simp) r hr
  have h0 : (0 : UInt8) ∉ ((smallL r).take 12) := fun hm => by
    obtain ⟨c, hc, e⟩ := List.mem_map.1 (List.mem_of_mem_take hm)
    exact low_ne (isL_ne (hl c hc)) e
  have h1 : 1 ≤ (⟨((smallL r).take 12).toArray⟩ : ByteArray).size := by
    show 1 ≤ ((smallL r).take 12).toArray.size
    rw [List.size_toArray, List.length_take]
    unfold smallL
    rw [List.length_map]
    have : 0 < r.length := List.length_pos_iff.2 hne
    omega
  obtain ⟨g1, g2⟩ := stem_ok endsT ⟨((smallL r).take 12).toArray⟩ (by decide) (by simpa using h0) h1
  exact ⟨g1, g2, wordOf_le r⟩
/-- four bytes in order -/
theorem rowB_nat {r : Nat} (h : r < 4294967296) : (byteI ((r : Int) / 16777216)).toNat = r / 16777216 ∧ (byteI ((r : Int) / 65536)).toNat = r / 65536 % 256 ∧ (byteI ((r : Int) / 256)).toNat = r / 256 % 256 ∧ (byteI (r : Int)).toNat = r % 256 := by
  have a := byteI_toNat ((r : Int) / 16777216)
  have b := byteI_toNat ((r : Int) / 65536)
  have c := byteI_toNat ((r : Int) / 256)
  have d := byteI_toNat (r : Int)
  rw [wrap_u8] at a b c d
  omega
theorem rowB_lt {r s : Nat} (h : r < s) (hs : s < 4294967296) : rowB r < rowB s := by
  obtain ⟨a0, a1, a2, a3⟩ := rowB_nat (show r < 4294967296 by omega)
  obtain ⟨b0, b1, b2, b3⟩ := rowB_nat hs
  unfold rowB
  rw [List.cons_lt_cons_iff, List.cons_lt_cons_iff, List.cons_lt_cons_iff, List.cons_lt_cons_iff]
  simp only [UInt8.lt_iff_toNat_lt, ← UInt8.toNat_inj, a0, a1, a2, a3, b0, b1, b2, b3]
  omega
/-- a name -/
structure NmOk (n : ByteArray) : Prop where
  nz : (0 : UInt8) ∉ n.data.toList
  pos : 1 ≤ n.size
  le : n.size ≤ 16
theorem nameBad_ok {nm : ByteArray} (h : nameBad nm = false) : NmOk nm := by
  unfold nameBad at h
  simp only [Bool.or_eq_false_iff, decide_eq_false_iff_not] at h
  exact ⟨h.2, by omega, by omega⟩
theorem NmOk.good {nm : ByteArray} (h : NmOk nm) : nameBad nm = false := by
  have h1 := h.pos
  have h2 := h.le
  unfold nameBad
  simp only [Bool.or_eq_false_iff, decide_eq_false_iff_not]
  exact ⟨⟨by omega, by omega⟩, h.nz⟩
theorem chkE_ok {nm : ByteArray} {r : Int} (h : chkE nm r = 0) : NmOk nm ∧ 1 ≤ r ∧ r ≤ 1073741824 := by
  unfold chkE at h
  split at h
  · cases h
  · split at h
    · cases h
    · rename_i h1 h2
      exact ⟨nameBad_ok (by simpa using h1), by omega, by omega⟩
theorem keyG_lt {n n' w w' : ByteArray} {r r' : Nat} (hn' : (0 : UInt8) ∉ n'.data.toList) (hw' : (0 : UInt8) ∉ w'.data.toList) (hr' : r' < 4294967296) (h : bl n n' = true ∨ (n = n' ∧ (bl w w' = true ∨ (w = w' ∧ r < r')))) : bl (keyF n w r) (keyF n' w' r') = true := by
  rw [bl_iff, keyF_list, keyF_list]
  rcases h with h | ⟨rfl, h⟩
  · exact lt_zero _ _ ((bl_iff _ _).1 h) hn' _ _
  · rw [show n.data.toList ++ 0 :: (w.data.toList ++ 0 :: rowB r) = (n.data.toList ++ [0]) ++ (w.data.toList ++ 0 :: rowB r) by simp, show n.data.toList ++ 0 :: (w'.data.toList ++ 0 :: rowB r') = (n.data.toList ++ [0]) ++ (w'.data.toList ++ 0 :: rowB r') by simp]
    refine append_lt _ _ _ ?_
    rcases h with h | ⟨rfl, h⟩
    · exact lt_zero _ _ ((bl_iff _ _).1 h) hw' _ _
    · refine append_lt _ _ _ ?_
      rw [List.cons_lt_cons_iff]
      exact .inr ⟨rfl, rowB_lt h hr'⟩
theorem keyG_inj {n n' w w' : ByteArray} {r r' : Nat} (hn : (0 : UInt8) ∉ n.data.toList) (hw : (0 : UInt8) ∉ w.data.toList) (hr : r < 4294967296) (hn' : (0 : UInt8) ∉ n'.data.toList) (hw' : (0 : UInt8) ∉ w'.data.toList) (hr' : r' < 4294967296) (h : keyF n w r = keyF n' w' r') : n = n' ∧ w = w' ∧ r = r' := by
  have no : ∀ {a b : ByteArray}, bl a b = true → a = b → False := fun h1 h2 => by rw [h2, bl_irrefl] at h1; cases h1
  rcases bl_tri n n' with h1 | h1 | h1
  · exact (no (keyG_lt (w := w) (r := r) hn' hw' hr' (.inl h1)) h).elim
  · refine ⟨h1, ?_⟩
    rcases bl_tri w w' with h2 | h2 | h2
    · exact (no (keyG_lt (r := r) hn' hw' hr' (.inr ⟨h1, .inl h2⟩)) h).elim
    · refine ⟨h2, ?_⟩
      rcases Nat.lt_trichotomy r r' with h3 | h3 | h3
      · exact (no (keyG_lt hn' hw' hr' (.inr ⟨h1, .inr ⟨h2, h3⟩⟩)) h).elim
      · exact h3
      · exact (no (keyG_lt hn hw hr (.inr ⟨h1.symm, .inr ⟨h2.symm, h3⟩⟩)) h.symm).elim
    · exact (no (keyG_lt (r := r') hn hw hr (.inr ⟨h1.symm, .inl h2⟩)) h.symm).elim
  · exact (no (keyG_lt (w := w') (r := r') hn hw hr (.inl h1)) h.symm).elim
/-- where a word stands in a text -/
def plcsF (r : Nat) : Nat → List ByteArray → ByteArray → List Pl
  | _, [], _ => []
  | i, x :: t, w => if x = w then ⟨(r : Int), (i : Int)⟩ :: plcsF r (i + 1) t w else plcsF r (i + 1) t w
/-- places of one row, rising -/
structure Ris (r : Nat) (l : List Pl) : Prop where
  row : ∀ q ∈ l, q.r = (r : Int) ∧ 0 ≤ q.a ∧ q.a < 20
  ri : l.Pairwise (fun x y => x.a < y.a)
theorem Ris.tail {r : Nat} {q : Pl} {l : List Pl} (h : Ris r (q :: l)) : Ris r l := ⟨fun x hx => h.row x (by simp [hx]), (List.pairwise_cons.1 h.ri).2⟩
theorem ris_from {r : Nat} (hr : 1 ≤ r) (hr2 : r ≤ 1073741824) : ∀ (l : List Pl) (p : Pl), Ris r l → ((p.r = (r : Int) ∧ ∀ q ∈ l, p.a < q.a) ∨ (0 ≤ p.r ∧ p.r < (r : Int))) → rightFrom p l = true
  | [], _, _, _ => rfl
  | q :: l, p, h, hp => by
    obtain ⟨q1, q2, q3⟩ := h.row q (by simp)
    rw [rightFrom, Bool.and_eq_true]
    refine ⟨?_, ris_from hr hr2 l q h.tail (.inl ⟨q1, (List.pairwise_cons.1 h.ri).1⟩)⟩
    unfold follB okB cmpP cmpI
    simp only [Bool.and_eq_true, decide_eq_true_eq]
    refine ⟨⟨⟨⟨by omega, by omega⟩, by omega⟩, by omega⟩, ?_⟩
    rcases hp with ⟨h1, h2⟩ | ⟨h1, h2⟩
    · rw [if_pos (by rw [h1, q1]), if_pos (h2 q (by simp))]; decide
    · rw [if_neg (by omega), if_pos (by omega)]; decide
theorem Ris.right {r : Nat} {l : List Pl} (h : Ris r l) (hr : 1 ≤ r) (hr2 : r ≤ 1073741824) : rightL l = true :=
  ris_from hr hr2 l ⟨0, 0⟩ h (.inr ⟨by decide, by show (0 : Int) < (r : Int); omega⟩)
theorem ris_len {r : Nat} : ∀ (l : List Pl) (lo : Int), Ris r l → (∀ q ∈ l, lo ≤ q.a) → (l.length : Int) ≤ 20 - lo ∨ l = []
  | [], _, _, _ => .inr rfl
  | q :: l, lo, h, hlo => by
    have h1 := hlo q (by simp)
    obtain ⟨_, _, h3⟩ := h.row q (by simp)
    left
    rcases ris_len l (lo + 1) h.tail (fun x hx => by have := (List.pairwise_cons.1 h.ri).1 x hx; omega) with h2 | rfl
    · rw [List.length_cons]; omega
    · simp; omega
theorem Ris.len {r : Nat} {l : List Pl} (h : Ris r l) : l.length ≤ 20 := by
  rcases ris_len l 0 h (fun q hq => (h.row q hq).2.1) with h1 | rfl
  · omega
  · simp
theorem num1 {n : Nat} (h : n < 128) : (numL n).length = 1 := by rw [numL_small h]; rfl
theorem ris_same {r : Nat} : ∀ (l : List Pl) (p : Pl), Ris r l → p.r = (r : Int) → 0 ≤ p.a → (∀ q ∈ l, p.a < q.a) → (encFrom p l).length ≤ l.length
  | [], _, _, _, _, _ => Nat.le_refl _
  | q :: l, p, h, h1, h2, h3 => by
    obtain ⟨q1, q2, q3⟩ := h.row q (by simp)
    have ih := ris_same l q h.tail q1 q2 (List.pairwise_cons.1 h.ri).1
    have hq := h3 q (by simp)
    rw [encFrom, List.length_append, List.length_cons]
    have : (encP p q).length = 1 := by
      unfold encP
      rw [if_pos (by rw [q1, h1])]
      exact num1 (by omega)
    omega
theorem Ris.enc {r : Nat} {l : List Pl} (h : Ris r l) (hr : 1 ≤ r) (hr2 : r ≤ 1073741824) : (encPl l).length ≤ l.length + 5 := by
  unfold encPl
  cases l with
  | nil => simp [encFrom]
  | cons q l =>
    obtain ⟨q1, q2, q3⟩ := h.row q (by simp)
    have ih := ris_same l q h.tail q1 q2 (List.pairwise_cons.1 h.ri).1
    rw [encFrom, List.length_append, List.length_cons]
    have : (encP ⟨0, 0⟩ q).length ≤ 6 := by
      unfold encP
      rw [if_neg (by show ¬ q.r = 0; omega), List.length_append]
      have h1 : (numL q.a.toNat).length = 1 := num1 (by omega)
      have h2 := numL_len 4 (2 * (q.r - 0) + 1).toNat (by omega)
      show (numL (2 * (q.r - 0) + 1).toNat).length + (numL q.a.toNat).length ≤ 6
      omega
    omega
theorem plcs_mem (r : Nat) : ∀ (ws : List ByteArray) (i : Nat) (w : ByteArray) (x : Pl), x ∈ plcsF r i ws w → ∃ j, ws[j]? = some w ∧ x = ⟨(r : Int), ((i + j : Nat) : Int)⟩
  | [], _, _, _, h => by cases h
  | y :: t, i, w, x, h => by
    unfold plcsF at h
    have go : x ∈ plcsF r (i + 1) t w → ∃ j, (y :: t)[j]? = some w ∧ x = ⟨(r : Int), ((i + j : Nat) : Int)⟩ := fun h => by
      obtain ⟨j, h1, h2⟩ := plcs_mem r t (i + 1) w x h
      exact ⟨j + 1, h1, by rw [h2]; congr 2; omega⟩
    by_cases e : y = w
    · rw [if_pos e] at h
      rcases List.mem_cons.1 h with h | h
      · exact ⟨0, by rw [← e]; rfl, h⟩
      · exact go h
    · rw [if_neg e] at h
      exact go h
theorem plcs_ris (r : Nat) : ∀ (ws : List ByteArray) (i : Nat) (w : ByteArray), i + ws.length ≤ 20 → Ris r (plcsF r i ws w)
  | [], _, _, _ => ⟨fun q h => (by cases h), List.Pairwise.nil⟩
  | y :: t, i, w, hi => by
    simp only [List.length_cons] at hi
    have ih := plcs_ris r t (i + 1) w (by omega)
    unfold plcsF
    split
    · refine ⟨fun q hq => ?_, List.Pairwise.cons (fun x hx => ?_) ih.ri⟩
      · rcases List.mem_cons.1 hq with rfl | hq
        · exact ⟨rfl, by show (0 : Int) ≤ (i : Int); omega, by show (i : Int) < 20; omega⟩
        · exact ih.row q hq
      · obtain ⟨j, _, e⟩ := plcs_mem r t (i + 1) w x hx
        rw [e]
        show (i : Int) < ((i + 1 + j : Nat) : Int)
        omega
    · exact ih
theorem plcs_pos' (r : Nat) : ∀ (ws : List ByteArray) (i : Nat) (w : ByteArray), w ∈ ws → 0 < (plcsF r i ws w).length
  | [], _, _, h => by cases h
  | y :: t, i, w, h => by
    unfold plcsF
    split
    · simp
    · rename_i hne
      rcases List.mem_cons.1 h with h | h
      · exact absurd h.symm hne
      · exact plcs_pos' r t (i + 1) w h
/-- a piece, read -/
structure Pc where
  n : ByteArray
  w : ByteArray
  r : Nat
  l : List Pl
def Pc.pr (c : Pc) : Pr := ⟨keyF c.n c.w c.r, ⟨(encPl c.l).toArray⟩⟩
structure Pc.Ok (c : Pc) : Prop where
  n : NmOk c.n
  w : WOk c.w
  lo : 1 ≤ c.r
  hi : c.r ≤ 1073741824
  ris : Ris c.r c.l
  pos : 0 < c.l.length
theorem Pc.Ok.right {c : Pc} (h : c.Ok) : rightL c.l = true := h.ris.right h.lo h.hi
theorem Pc.Ok.len {c : Pc} (h : c.Ok) : c.l.length ≤ 20 := h.ris.len
theorem Pc.Ok.enc {c : Pc} (h : c.Ok) : (encPl c.l).length ≤ c.l.length + 5 := h.ris.enc h.lo h.hi
theorem Pc.Ok.pr {c : Pc} (h : c.Ok) : c.pr.Ok ∧ c.pr.sz ≤ 41 + c.l.length := by
  have h1 := h.w.le
  have h2 := h.n.le
  have h3 := h.enc
  have h4 := h.len
  have h5 := h.pos
  have hk : c.pr.k.size = c.n.size + c.w.size + 6 := keyF_size _ _ _
  have hi : c.pr.i.size ≤ c.l.length + 5 := by
    show (encPl c.l).toArray.size ≤ _
    rw [List.size_toArray]; exact h3
  refine ⟨⟨by omega, by omega, by omega⟩, ?_⟩
  unfold Pr.sz
  omega
theorem Pc.Ok.key {c d : Pc} (h : c.Ok) (k : d.Ok) (e : c.pr.k = d.pr.k) : c.n = d.n ∧ c.w = d.w ∧ c.r = d.r :=
  keyG_inj h.n.nz h.w.nz (by have := h.hi; omega) k.n.nz k.w.nz (by have := k.hi; omega) e
/-- how many places -/
def cntL : List Pc → Nat
  | [] => 0
  | c :: l => c.l.length + cntL l
theorem cntL_append : ∀ (a b : List Pc), cntL (a ++ b) = cntL a + cntL b
  | [], b => by simp [cntL]
  | c :: a, b => by rw [List.cons_append, cntL, cntL, cntL_append a b]; omega
theorem cntL_take {L : List Pc} {k : Nat} (hk : k < L.length) : cntL (L.take (k + 1)) = cntL (L.take k) + L[k].l.length := by
  rw [List.take_succ_eq_append_getElem hk, cntL_append]
  simp [cntL]
theorem cntL_le {L : List Pc} (hL : ∀ c ∈ L, c.Ok) : cntL L ≤ 20 * L.length := by
  induction L with
  | nil => simp [cntL]
  | cons c l ih =>
    have h1 := ih (fun x hx => hL x (by simp [hx]))
    have h2 := (hL c (by simp)).len
    rw [cntL, List.length_cons]
    omega
theorem cntL_ge {L : List Pc} (hL : ∀ c ∈ L, c.Ok) : L.length ≤ cntL L := by
  induction L with
  | nil => simp
  | cons c l ih =>
    have h1 := ih (fun x hx => hL x (by simp [hx]))
    have h2 := (hL c (by simp)).pos
    rw [cntL, List.length_cons]
    omega
theorem szL_le {L : List Pc} (hL : ∀ c ∈ L, c.Ok) : szL (L.map Pc.pr) ≤ 42 * cntL L := by
  induction L with
  | nil => simp [szL]
  | cons c l ih =>
    have h1 := ih (fun x hx => hL x (by simp [hx]))
    have h2 := (hL c (by simp)).pr.2
    have h3 := (hL c (by simp)).pos
    rw [List.map_cons, szL, cntL]
    omega
end Go.Proofs.YtjgdnainhoipgaaGreatDoor
