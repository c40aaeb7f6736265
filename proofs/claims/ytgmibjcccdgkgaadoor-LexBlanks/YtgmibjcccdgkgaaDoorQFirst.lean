/- The program's marked, first and wrong. -/
import Derived.Test.YtgmibjcccdgkgaaDoorQMark
namespace Go.Proofs.YtgmibjcccdgkgaaDoor
open Go.RowKit

/-- the package's variable holds the marks -/
def MarksAt (w : World) : Prop := w.cell? ⟨1, 0, none⟩ = some (.string ⟨#[60, 62]⟩) ∧ w.cell? ⟨1, 1, none⟩ = some (.string ⟨#[60, 61]⟩) ∧ w.cell? ⟨1, 2, none⟩ = some (.string ⟨#[62, 61]⟩) ∧ w.cell? ⟨1, 3, none⟩ = some (.string ⟨#[60]⟩) ∧ w.cell? ⟨1, 4, none⟩ = some (.string ⟨#[62]⟩) ∧ w.cell? ⟨1, 5, none⟩ = some (.string ⟨#[61]⟩) ∧ w.cell? ⟨1, 6, none⟩ = some (.string ⟨#[43]⟩) ∧ w.cell? ⟨1, 7, none⟩ = some (.string ⟨#[45]⟩) ∧ w.cell? ⟨1, 8, none⟩ = some (.string ⟨#[42]⟩) ∧ w.cell? ⟨1, 9, none⟩ = some (.string ⟨#[40]⟩) ∧ w.cell? ⟨1, 10, none⟩ = some (.string ⟨#[41]⟩) ∧ w.cell? ⟨1, 11, none⟩ = some (.string ⟨#[44]⟩) ∧ w.cell? ⟨1, 12, none⟩ = some (.string ⟨#[46]⟩) ∧ w.cell? ⟨1, 13, none⟩ = some (.string ⟨#[59]⟩)
theorem MarksAt.below {w w' : World} (h : MarksAt w) (hb : Below w.heap.size w w') : MarksAt w' := by
  have h0 : 1 < w.heap.size := World.block_lt_of_cell? w _ h.1
  unfold MarksAt at h ⊢
  have e : ∀ o, w'.cell? ⟨1, o, none⟩ = w.cell? ⟨1, o, none⟩ := fun o => hb.cell (p := ⟨1, o, none⟩) h0
  simp only [e]
  exact h
theorem ixM (k : Nat) (hk : k < 14) (W : World) : (Instr.index 85 (.agg #[.string ⟨#[60, 62]⟩, .string ⟨#[60, 61]⟩, .string ⟨#[62, 61]⟩, .string ⟨#[60]⟩, .string ⟨#[62]⟩, .string ⟨#[61]⟩, .string ⟨#[43]⟩, .string ⟨#[45]⟩, .string ⟨#[42]⟩, .string ⟨#[40]⟩, .string ⟨#[41]⟩, .string ⟨#[44]⟩, .string ⟨#[46]⟩, .string ⟨#[59]⟩]) (.int .i64 (k : Int))).run Tryd.prog W = .ok (.string ⟨(marksL.getD k []).toArray⟩) W :=
  match k, hk with
  | 0, _ => by kernel_rfl
  | 1, _ => by kernel_rfl
  | 2, _ => by kernel_rfl
  | 3, _ => by kernel_rfl
  | 4, _ => by kernel_rfl
  | 5, _ => by kernel_rfl
  | 6, _ => by kernel_rfl
  | 7, _ => by kernel_rfl
  | 8, _ => by kernel_rfl
  | 9, _ => by kernel_rfl
  | 10, _ => by kernel_rfl
  | 11, _ => by kernel_rfl
  | 12, _ => by kernel_rfl
  | 13, _ => by kernel_rfl
theorem marks_len (k : Nat) (hk : k < 14) : (marksL.getD k []).length ≤ 2 ∧ 1 ≤ (marksL.getD k []).length := by
  have h : k = 0 ∨ k = 1 ∨ k = 2 ∨ k = 3 ∨ k = 4 ∨ k = 5 ∨ k = 6 ∨ k = 7 ∨ k = 8 ∨ k = 9 ∨ k = 10 ∨ k = 11 ∨ k = 12 ∨ k = 13 := by omega
  clear hk
  rcases h with rfl | rfl | rfl | rfl | rfl | rfl | rfl | rfl | rfl | rfl | rfl | rfl | rfl | rfl <;> decide
theorem pre_len {a b : List UInt8} (h : a.isPrefixOf b = true) : a = b.take a.length := List.prefix_iff_eq_take.1 (List.isPrefixOf_iff_prefix.1 h)
set_option maxHeartbeats 1000000 in
theorem prefix_lite (s m : ByteArray) (b : Bool) (hb : m.data.toList.isPrefixOf s.data.toList = b) (w : World) :
    Calls Tryd.prog 60 #[.string s, .string m] w fun x w' => x = .returned (.bool b) ∧ w' = w := by
  by_cases h : m.size ≤ s.size
  · have hd : decide ((m.size : Int) ≤ (s.size : Int)) = true := by simpa using h
    have HR : Hid (((s.extract 0 m.size).toList == m.toList) = b) := by
      show _ = _
      rw [← hb, ByteArray.toList_eq, ByteArray.toList_eq, ba_extract, List.drop_zero, Bool.eq_iff_iff, beq_iff_eq, List.isPrefixOf_iff_prefix, List.prefix_iff_eq_take, ba_len]
      exact ⟨fun e => e.symm, fun e => e.symm⟩
    clear hb
    go_enter Tryd.func60, Tryd.ntmps60
    go_wp2
    go_ret
    refine ⟨ret_bool ?_, rfl⟩
    rw [HR.out]
  · have hd : decide ((m.size : Int) ≤ (s.size : Int)) = false := by simp; omega
    have e : b = false := by
      rw [← hb, Bool.eq_false_iff]
      intro hp
      have := congrArg List.length (pre_len hp)
      rw [List.length_take, ba_len, ba_len] at this
      omega
    subst e
    clear hb
    go_enter Tryd.func60, Tryd.ntmps60
    go_wp2
    go_ret
    exact ⟨rfl, rfl⟩
theorem prefix_any (s m : ByteArray) (b : Bool) (hb : m.data.toList.isPrefixOf s.data.toList = b) (w : World) :
    Calls Tryd.prog 50 #[.string s, .string m] w fun x w' => x = .returned (.bool b) ∧ w' = w := by
  have HB : Hid (m.data.toList.isPrefixOf s.data.toList = b) := hb
  clear hb
  go_enter Tryd.func50, Tryd.ntmps50
  go_wp2_with (go_at_call 60; refine (prefix_lite _ _ b HB.out _).mono ?_; rintro e w' ⟨rfl, rfl⟩)
  go_ret
  exact ⟨rfl, rfl⟩
theorem markAt_step (k : Nat) (hk : k < 14) (s : List UInt8) : markAt (marksL.drop k) s = if (marksL.getD k []).isPrefixOf s then (marksL.getD k []).length else markAt (marksL.drop (k + 1)) s := by
  have e : marksL.getD k [] = marksL[k]'hk := by simp [List.getD, show k < marksL.length from hk]; rfl
  rw [List.drop_eq_getElem_cons (show k < marksL.length from hk), markAt, e]; rfl
set_option maxRecDepth 100000 in
set_option maxHeartbeats 4000000 in
theorem marked_any (s : ByteArray) (E : Nat) (hE : markAt marksL s.data.toList = E) (w : World) (hm : MarksAt w) : Calls Tryd.prog 36 #[.string s] w fun e w' => e = .returned (.int .i64 (E : Int)) ∧ w' = w := by
  obtain ⟨q0, q1, q2, q3, q4, q5, q6, q7, q8, q9, q10, q11, q12, q13⟩ := hm
  have HE : Hid (markAt (marksL.drop 0) s.data.toList = E) := hE
  clear hE
  go_enter Tryd.func36, Tryd.ntmps36
  go_wp2
  clear q0 q1 q2 q3 q4 q5 q6 q7 q8 q9 q10 q11 q12 q13
  go_loopw [6] (fun i wr => ∃ k : Nat, k ≤ 14 ∧ i = .int .i64 k ∧ Hid (markAt (marksL.drop k) s.data.toList = E) ∧ wr = w) (fun i _ => 14 - (intOf i).toNat)
  case atStart => exact ⟨0, Nat.zero_le _, rfl, HE, rfl⟩
  case round =>
    clear HE
    obtain ⟨k, hk, rfl, he, rfl⟩ := hrel
    by_cases hlt : k < 14
    · have hix := ixM k hlt wr
      have hl := marks_len k hlt
      have hst := he.out
      rw [markAt_step k hlt] at hst
      generalize marksL.getD k [] = m at *
      have HM : Hid (m.length ≤ 2) := hl.1
      have hml : (⟨m.toArray⟩ : ByteArray).size = m.length := by rw [← ba_len]
      cases hb : m.isPrefixOf s.data.toList
      · rw [if_neg (by rw [hb]; decide)] at hst
        have HB : Hid ((⟨m.toArray⟩ : ByteArray).data.toList.isPrefixOf s.data.toList = false) := hb
        have HS : Hid (markAt (marksL.drop (k + 1)) s.data.toList = E) := hst
        have HL : Hid ((⟨m.toArray⟩ : ByteArray).size ≤ 1000000) := by show _ ≤ _; rw [hml]; omega
        clear hst he hb hl hml HM
        generalize (⟨m.toArray⟩ : ByteArray) = mb at *
        have hk' : (k : Int) < 14 := by omega
        go_wp2_with (go_at_call 50; refine (prefix_any s mb false HB.out _).mono ?_; rintro e w' ⟨rfl, rfl⟩)
        go_roundw
        case rel => exact ⟨k + 1, by omega, by go_num, HS, trivial⟩
        case measure => simp [intOf]; omega
      · rw [if_pos hb] at hst
        have HB : Hid ((⟨m.toArray⟩ : ByteArray).data.toList.isPrefixOf s.data.toList = true) := hb
        have HL : Hid ((⟨m.toArray⟩ : ByteArray).size = E) := by show _ = _; rw [hml, hst]
        have HL2 : Hid ((⟨m.toArray⟩ : ByteArray).size ≤ 1000000) := by show _ ≤ _; rw [hml]; omega
        clear hst he hb hl hml HM
        generalize (⟨m.toArray⟩ : ByteArray) = mb at *
        have hk' : (k : Int) < 14 := by omega
        go_wp2_with (go_at_call 50; refine (prefix_any s mb true HB.out _).mono ?_; rintro e w' ⟨rfl, rfl⟩)
        go_ret
        exact ⟨ret_int (by rw [HL.out]), rfl⟩
    · obtain rfl : k = 14 := by omega
      have e : 0 = E := by rw [← he.out]; rfl
      subst e
      clear he
      go_wp2
      go_ret
      exact ⟨rfl, rfl⟩
set_option maxHeartbeats 2000000 in
theorem wrong_any (k : Int) (m n : Nat) (w : World) : Calls Tryd.prog 21 #[.int .i64 k, .int .i64 (m : Int), .int .i64 (n : Int)] w fun e w' => e = .returned (.int .i64 (if m = 0 then 3 else if (k = 2 ∧ 19 < m) ∨ 200 ≤ n then 4 else 0)) ∧ w' = w := by
  by_cases h0 : m = 0
  · subst h0
    rw [if_pos rfl]
    go_enter Tryd.func21, Tryd.ntmps21
    go_wp2
    go_ret
    exact ⟨rfl, rfl⟩
  · rw [if_neg h0]
    have d0 : ((m : Int) == 0) = false := by rw [beq_eq_false_iff_ne]; omega
    by_cases h1 : k = 2 ∧ 19 < m
    · rw [if_pos (.inl h1)]
      obtain ⟨rfl, h2⟩ := h1
      have d1 : decide ((19 : Int) < (m : Int)) = true := decide_eq_true (by omega)
      clear h0 h2
      go_enter Tryd.func21, Tryd.ntmps21
      go_wp2
      go_ret
      exact ⟨rfl, rfl⟩
    · by_cases h3 : 200 ≤ n
      · rw [if_pos (.inr h3)]
        have d3 : (200 : Int) ≤ (n : Int) := by omega
        by_cases h4 : k = 2
        · subst h4
          have d1 : decide ((19 : Int) < (m : Int)) = false := decide_eq_false (by omega)
          clear h0 h1 h3
          go_enter Tryd.func21, Tryd.ntmps21
          go_wp2
          go_ret
          exact ⟨rfl, rfl⟩
        · have d2 : (k == 2) = false := by rw [beq_eq_false_iff_ne]; exact h4
          clear h0 h1 h3 h4
          go_enter Tryd.func21, Tryd.ntmps21
          go_wp2
          go_ret
          exact ⟨rfl, rfl⟩
      · rw [if_neg (by omega)]
        have d3 : ¬ (200 : Int) ≤ (n : Int) := by omega
        by_cases h4 : k = 2
        · subst h4
          have d1 : decide ((19 : Int) < (m : Int)) = false := decide_eq_false (by omega)
          clear h0 h1 h3
          go_enter Tryd.func21, Tryd.ntmps21
          go_wp2
          go_ret
          exact ⟨rfl, rfl⟩
        · have d2 : (k == 2) = false := by rw [beq_eq_false_iff_ne]; exact h4
          clear h0 h1 h3 h4
          go_enter Tryd.func21, Tryd.ntmps21
          go_wp2
          go_ret
          exact ⟨rfl, rfl⟩
set_option maxRecDepth 100000 in
set_option maxHeartbeats 4000000 in
theorem first_any (s : ByteArray) (k : Int) (m : Nat) (hF : firstT s.data.toList = (k, m)) (w : World) (h1 : 0 < s.size) (hs : s.size ≤ 100000) (hm : MarksAt w) : Calls Tryd.prog 20 #[.string s] w fun e w' => e = .returned (.tuple #[.int .i64 k, .int .i64 (m : Int)]) ∧ w' = w := by
  have HM : Hid (MarksAt w) := hm
  have hd := drop_at s 0 h1
  rw [List.drop_zero] at hd
  obtain ⟨x, hx⟩ : ∃ x, s[0].toNat = x := ⟨_, rfl⟩
  have hxd : isDg s[0] = digN x := by rw [← hx]; rfl
  have hxw : wordC s[0] = nameN x := by rw [← hx]; rfl
  have hF2 := hF
  rw [hd, firstT, hx, hxd, hxw, ← hd] at hF2
  have hdig : (s.data.toList.drop 1).takeWhile isDg = (s.data.toList.drop 1).takeWhile isDg := rfl
  clear hm hF
  by_cases h2 : x = 39
  · rw [if_pos h2] at hF2
    have HQ : Hid ((szL (s.data.toList.drop 1)).map (· + 1) = (szL (s.data.toList.drop (0 + 1))).map (· + 1)) := rfl
    obtain ⟨S, hS⟩ : ∃ S, (szL (s.data.toList.drop (0 + 1))).map (· + 1) = S := ⟨_, rfl⟩
    have HS : Hid ((szL (s.data.toList.drop 1)).map (· + 1) = S) := hS
    have e := Prod.mk.inj hF2
    obtain ⟨rfl, e2⟩ := e
    have e3 : sizeO S = m := by
      rw [← e2, ← hS]
      cases szL (s.data.toList.drop (0 + 1)) <;> rfl
    subst e3
    clear hF2 hd hxd hxw e2 hS HQ hdig
    subst h2
    go_enter Tryd.func20, Tryd.ntmps20
    go_wp2_with (go_at_call 33; refine (quoted_any s S HS.out _ h1 hs).mono ?_; rintro e w' ⟨rfl, rfl⟩)
    go_ret2
    exact ⟨rfl, rfl⟩
  · rw [if_neg h2] at hF2
    have d0 : ((x : Int) == 39) = false := by rw [beq_eq_false_iff_ne]; omega
    cases hb : digN x
    · rw [hb, if_neg (by decide)] at hF2
      have HB : Hid (digN x = false) := hb
      cases hc : nameN x
      · rw [hc, if_neg (by decide)] at hF2
        have HC : Hid (nameN x = false) := hc
        obtain ⟨rfl, e2⟩ := Prod.mk.inj hF2
        have HE : Hid (markAt marksL s.data.toList = m) := e2
        clear hF2 hd hxd hxw e2 hb hc h2 hdig
        go_enter Tryd.func20, Tryd.ntmps20
        go_wp2_with (first | (go_at_call 34; refine (pdigit_any x _).mono ?_; rw [HB.out]; rintro e w' ⟨rfl, rfl⟩) | (go_at_call 35; refine (pname_any x _).mono ?_; rw [HC.out]; rintro e w' ⟨rfl, rfl⟩) | (go_at_call 36; refine (marked_any s m HE.out _ HM.out).mono ?_; rintro e w' ⟨rfl, rfl⟩))
        go_ret2
        exact ⟨rfl, rfl⟩
      · rw [hc, if_pos rfl] at hF2
        have HC : Hid (nameN x = true) := hc
        obtain ⟨rfl, e2⟩ := Prod.mk.inj hF2
        have HE : Hid (endW wordC s 0 = m) := by
          show _ = _
          rw [endW_step h1 (by rw [hxw]; exact hc), endW_at, ← e2]; omega
        clear hF2 hd hxd hxw e2 hb hc h2 hdig
        go_enter Tryd.func20, Tryd.ntmps20
        go_wp2_with (first | (go_at_call 34; refine (pdigit_any x _).mono ?_; rw [HB.out]; rintro e w' ⟨rfl, rfl⟩) | (go_at_call 35; refine (pname_any x _).mono ?_; rw [HC.out]; rintro e w' ⟨rfl, rfl⟩) | (go_at_call 31; refine (run_name s m HE.out _ hs).mono ?_; rintro e w' ⟨rfl, rfl⟩))
        go_ret2
        exact ⟨rfl, rfl⟩
    · rw [hb, if_pos rfl] at hF2
      have HB : Hid (digN x = true) := hb
      obtain ⟨rfl, e2⟩ := Prod.mk.inj hF2
      have HE : Hid (endW isDg s 0 = m) := by
        show _ = _
        rw [endW_step h1 (by rw [hxd]; exact hb), endW_at, ← e2]; omega
      clear hF2 hd hxd hxw e2 hb h2 hdig
      go_enter Tryd.func20, Tryd.ntmps20
      go_wp2_with (first | (go_at_call 34; refine (pdigit_any x _).mono ?_; rw [HB.out]; rintro e w' ⟨rfl, rfl⟩) | (go_at_call 31; refine (run_digit s m HE.out _ hs).mono ?_; rintro e w' ⟨rfl, rfl⟩))
      go_ret2
      exact ⟨rfl, rfl⟩
end Go.Proofs.YtgmibjcccdgkgaaDoor
