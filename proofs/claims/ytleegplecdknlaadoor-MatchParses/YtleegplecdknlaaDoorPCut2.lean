/- The program's cut: the first piece of a text, and what stands behind it. -/
import Derived.Test.YtleegplecdknlaaDoorPCut
namespace Go.Proofs.YtleegplecdknlaaDoor
open Go.RowKit

theorem results_ct {P : Program} {fn : Func} {p t : Tmp} {ty : TypeId} {v : Value} (h : fn.results = #[.cell p ty, .tmp t]) (tmps : Array Value) (w : World) (a : Addr) (hp : tmps.getD p undef = .pointer (some a)) (hl : (loadVar ty a).run P w = .ok v w) :
    (results fn tmps).run P w = .ok (.tuple #[v, tmps.getD t undef]) w := by
  have hp' : tmps[p]?.getD undef = .pointer (some a) := by simpa [Array.getD_eq_getD_getElem?] using hp
  simp [results, h, hp', asAddr, hl]
/-- what cut tells of a text that is cut so -/
def CutTo (w : World) (L : List ByteArray) (e : Ending) (w' : World) : Prop :=
  ∃ t' : ByteArray, e = .returned (.tuple #[.agg #[.int .i64 (headP L).1, .string (headP L).2], .string t']) ∧ t'.size ≤ 400 ∧ Cuts t'.data.toList L.tail ∧ (∀ x ∈ L.head?, Good x) ∧ Below w.heap.size w w'
theorem tail_one (u : ByteArray) (n : Nat) : (u.extract n u.size).data.toList = u.data.toList.drop n := by
  rw [ba_extract, ← ba_len, List.take_length]
theorem head_of {u : ByteArray} (h : 0 < u.size) : u.data.toList = u[0] :: u.data.toList.drop 1 := by
  have e := drop_at u 0 h
  rwa [List.drop_zero] at e
theorem cut_sign {u : ByteArray} {L : List ByteArray} (h : 0 < u.size) (k : UInt8) (hk : u[0].toNat = k.toNat) (hc : k.toNat = 40 ∨ k.toNat = 41 ∨ k.toNat = 42) (h0 : Cuts u.data.toList L) : ∃ L', L = ⟨#[k]⟩ :: L' ∧ Cuts (u.extract 1 u.size).data.toList L' := by
  have e : u[0] = k := UInt8.toNat_inj.1 hk
  rw [head_of h, e] at h0
  rw [tail_one]
  exact cuts_sign hc h0
theorem cut_quote {u : ByteArray} {L : List ByteArray} (h : 0 < u.size) (hk : u[0].toNat = 34) (h0 : Cuts u.data.toList L) : ∃ n r L', Lib.indexByte (u.extract 1 u.size).data.toList 34 = ((n : Nat) : Int) ∧ n < (u.extract 1 u.size).size ∧ L = ⟨(34 :: r).toArray⟩ :: L' ∧ (u.extract 1 u.size).extract 0 n = ⟨r.toArray⟩ ∧ r.length ≤ u.size ∧ Cuts ((u.extract 1 u.size).extract (n + 1) (u.extract 1 u.size).size).data.toList L' := by
  have e : u[0] = 34 := UInt8.toNat_inj.1 hk
  rw [head_of h, e] at h0
  obtain ⟨h1, L', h2, h3⟩ := cuts_quote (by rfl) h0
  have hs : (u.extract 1 u.size).size = (u.data.toList.drop 1).length := by rw [← ba_len, tail_one]
  refine ⟨((u.data.toList.drop 1).takeWhile notQ).length, (u.data.toList.drop 1).takeWhile notQ, L', ?_, by omega, h2, ?_, ?_, ?_⟩
  · rw [tail_one]; exact ix_at _ h1
  · apply ba_ext
    rw [ba_extract, List.drop_zero, tail_one, take_while]
  · rw [List.length_drop, ba_len] at h1; omega
  · rw [tail_one, tail_one]; exact h3
theorem cut_run {u : ByteArray} {L : List ByteArray} (h : 0 < u.size) (hk : notC u[0] = true) (h0 : Cuts u.data.toList L) : ∃ E c r L', endW notC u 0 = E ∧ E ≤ u.size ∧ L = ⟨(c :: r).toArray⟩ :: L' ∧ u.extract 0 E = ⟨(c :: r).toArray⟩ ∧ r.length < u.size ∧ (∀ d ∈ c :: r, notC d = true) ∧ Cuts (u.extract E u.size).data.toList L' := by
  rw [head_of h] at h0
  obtain ⟨L', h2, h3⟩ := cuts_run hk h0
  have hE : endW notC u 0 = 0 + 1 + ((u.data.toList.drop 1).takeWhile notC).length := endW_step h hk
  have hle := endW_le (p := notC) (s := u) (k := 0) (Nat.zero_le _)
  refine ⟨_, u[0], (u.data.toList.drop 1).takeWhile notC, L', rfl, hle, h2, ?_, ?_, ?_, ?_⟩
  · rw [hE]; exact ext_take u 0 _ h _ (take_while _ _)
  · rw [hE] at hle; omega
  · intro d hd
    rcases List.mem_cons.1 hd with rfl | hd
    · exact hk
    · have := List.all_takeWhile (p := notC) (l := u.data.toList.drop 1)
      rw [List.all_eq_true] at this
      exact this d hd
  · rw [tail_one, hE]
    rw [List.drop_drop] at h3
    exact h3
theorem trim_as (t u : ByteArray) (hu : (⟨(t.data.toList.dropWhile (· == 32)).toArray⟩ : ByteArray) = u) (w : World) (hs : t.size ≤ 400) : Calls Tryd.prog 40 #[.string t, .string ⟨#[32]⟩] w fun e w' => e = .returned (.string u) ∧ w' = w := by
  rw [← hu]; exact trim_any t w (by omega)
theorem trim_le (t : ByteArray) : (⟨(t.data.toList.dropWhile (· == 32)).toArray⟩ : ByteArray).size ≤ t.size := by
  have h := (List.dropWhile_sublist (· == 32) (l := t.data.toList)).length_le
  rw [ba_len] at h
  rw [← ba_len]; exact h
theorem first_no {u : ByteArray} (h : 0 < u.size) (L : List UInt8) (hu : u.data.toList = L.dropWhile (· == 32)) : u[0].toNat ≠ 32 := by
  intro e
  have e0 : u[0] = 32 := UInt8.toNat_inj.1 e
  have h1 := head_of h
  rw [e0, hu] at h1
  have h2 := List.head?_dropWhile_not (· == 32) L
  rw [h1] at h2
  simp at h2

set_option maxRecDepth 100000 in
set_option maxHeartbeats 4000000 in
theorem cut_any (t : ByteArray) (L : List ByteArray) (w : World) (ht : t.size ≤ 400) (hc : Cuts t.data.toList L) : Calls Tryd.prog 31 #[.string t] w fun e w' => CutTo w L e w' := by
  obtain ⟨u, hu⟩ : ∃ u : ByteArray, (⟨(t.data.toList.dropWhile (· == 32)).toArray⟩ : ByteArray) = u := ⟨_, rfl⟩
  have hus : u.size ≤ 400 := by rw [← hu]; exact Nat.le_trans (trim_le t) ht
  have hul : u.data.toList = t.data.toList.dropWhile (· == 32) := by rw [← hu]
  have HC : Hid (Cuts u.data.toList L) := by
    show Cuts _ _
    rw [hul]; exact cuts_trim hc
  have HT : Hid (⟨(t.data.toList.dropWhile (· == 32)).toArray⟩ = u) := hu
  clear hc hu
  by_cases h0 : u.size = 0
  · have e0 : u = ⟨#[]⟩ := ba_ext (by rw [trim_nil h0])
    have HL : Hid (L = []) := cuts_nil (by have := HC.out; rwa [trim_nil h0] at this)
    subst e0
    clear h0 hul
    go_enter Tryd.func31, Tryd.ntmps31
    go_wp2_with (go_at_call 40; refine (trim_as t _ HT.out _ ht).mono ?_; rintro e w' ⟨rfl, rfl⟩)
    refine bodyPost_ret (v := .tuple #[.agg #[.int .i64 0, .string ⟨#[]⟩], .string ⟨#[]⟩]) (results_ct Tryd.results31 _ _ _ rfl ?_) rfl ?_
    · simp [go_sem]
    rw [HL.out]
    exact ⟨⟨#[]⟩, rfl, by decide, cuts_nil_mk, (fun x h => by cases h), (Below.refl _ _).alloc (Nat.le_refl _) _⟩
  · have h1 : 0 < u.size := by omega
    have d0 : (u.toList == []) = false := by
      rw [ByteArray.toList_eq, beq_eq_false_iff_ne]
      intro e
      have := congrArg List.length e
      rw [ba_len] at this
      exact h0 this
    have hn32 := first_no h1 _ hul
    obtain ⟨x, hx⟩ : ∃ x, u[0].toNat = x := ⟨_, rfl⟩
    clear hul
    by_cases x40 : x = 40
    · obtain ⟨L', hL, hC⟩ := cut_sign h1 40 (by rw [hx, x40]; rfl) (by decide) HC.out
      have HL : Hid (L = tOpen :: L' ∧ Cuts (u.extract 1 u.size).data.toList L') := ⟨hL, hC⟩
      have j1 : ((x : Int) == 40) = true := by simp; omega
      clear hL hC HC hn32 x40
      go_enter Tryd.func31, Tryd.ntmps31
      go_wp2_with (go_at_call 40; refine (trim_as t _ HT.out _ ht).mono ?_; rintro e w' ⟨rfl, rfl⟩)
      go_region
      go_wp2
      refine bodyPost_ret (v := .tuple #[.agg #[.int .i64 1, .string ⟨#[]⟩], .string (u.extract 1 u.size)]) (results_ct Tryd.results31 _ _ _ rfl ?_) rfl ?_
      · simp [go_sem]
      rw [HL.out.1]
      exact ⟨u.extract 1 u.size, rfl, by simp; omega, HL.out.2, (fun x h => by cases h; exact .opens), ((Below.refl _ _).alloc (Nat.le_refl _) _).drew⟩
    by_cases x41 : x = 41
    · obtain ⟨L', hL, hC⟩ := cut_sign h1 41 (by rw [hx, x41]; rfl) (by decide) HC.out
      have HL : Hid (L = tShut :: L' ∧ Cuts (u.extract 1 u.size).data.toList L') := ⟨hL, hC⟩
      have j1 : ((x : Int) == 40) = false := by simp; omega
      have j2 : ((x : Int) == 41) = true := by simp; omega
      clear hL hC HC hn32 x41
      go_enter Tryd.func31, Tryd.ntmps31
      go_wp2_with (go_at_call 40; refine (trim_as t _ HT.out _ ht).mono ?_; rintro e w' ⟨rfl, rfl⟩)
      go_region
      go_wp2
      refine bodyPost_ret (v := .tuple #[.agg #[.int .i64 2, .string ⟨#[]⟩], .string (u.extract 1 u.size)]) (results_ct Tryd.results31 _ _ _ rfl ?_) rfl ?_
      · simp [go_sem]
      rw [HL.out.1]
      exact ⟨u.extract 1 u.size, rfl, by simp; omega, HL.out.2, (fun x h => by cases h; exact .shuts), ((Below.refl _ _).alloc (Nat.le_refl _) _).drew⟩
    by_cases x42 : x = 42
    · obtain ⟨L', hL, hC⟩ := cut_sign h1 42 (by rw [hx, x42]; rfl) (by decide) HC.out
      have HL : Hid (L = tStar :: L' ∧ Cuts (u.extract 1 u.size).data.toList L') := ⟨hL, hC⟩
      have j1 : ((x : Int) == 40) = false := by simp; omega
      have j2 : ((x : Int) == 41) = false := by simp; omega
      have j3 : ((x : Int) == 42) = true := by simp; omega
      clear hL hC HC hn32 x42
      go_enter Tryd.func31, Tryd.ntmps31
      go_wp2_with (go_at_call 40; refine (trim_as t _ HT.out _ ht).mono ?_; rintro e w' ⟨rfl, rfl⟩)
      go_region
      go_wp2
      refine bodyPost_ret (v := .tuple #[.agg #[.int .i64 3, .string ⟨#[]⟩], .string (u.extract 1 u.size)]) (results_ct Tryd.results31 _ _ _ rfl ?_) rfl ?_
      · simp [go_sem]
      rw [HL.out.1]
      exact ⟨u.extract 1 u.size, rfl, by simp; omega, HL.out.2, (fun x h => by cases h; exact .star), ((Below.refl _ _).alloc (Nat.le_refl _) _).drew⟩
    have j1 : ((x : Int) == 40) = false := by simp; omega
    have j2 : ((x : Int) == 41) = false := by simp; omega
    have j3 : ((x : Int) == 42) = false := by simp; omega
    by_cases x34 : x = 34
    · obtain ⟨n, r, L', q1, q2, hL, q3, q4, hC⟩ := cut_quote h1 (by rw [hx, x34]) HC.out
      have HL : Hid (L = ⟨(34 :: r).toArray⟩ :: L' ∧ Cuts ((u.extract 1 u.size).extract (n + 1) (u.extract 1 u.size).size).data.toList L') := ⟨hL, hC⟩
      have HQ : Hid (Lib.indexByte (u.extract 1 u.size).data.toList 34 = ((n : Nat) : Int) ∧ (u.extract 1 u.size).extract 0 n = ⟨r.toArray⟩) := ⟨q1, q3⟩
      have j4 : ((x : Int) == 34) = true := by simp; omega
      have hu1 : (u.extract 1 u.size).size ≤ 400 := by simp; omega
      have HB : Hid (r.length ≤ 400) := Nat.le_trans q4 hus
      clear hL hC HC hn32 x34 q1 q3 q4 x40 x41 x42
      go_enter Tryd.func31, Tryd.ntmps31
      go_wp2_with first | (go_at_call 40; refine (trim_as t _ HT.out _ ht).mono ?_; rintro e w' ⟨rfl, rfl⟩) | (go_at_call 41; refine (strCut_any _ n _ (by omega) HQ.out.1 q2).mono ?_; rintro e w' ⟨rfl, m, rfl⟩; rw [HQ.out.2])
      have e1 : (u.extract 1 u.size).size = u.size - 1 := by simp
      refine bodyPost_ret (v := .tuple #[.agg #[.int .i64 4, .string ⟨r.toArray⟩], .string ((u.extract 1 u.size).extract (n + 1) (u.size - 1))]) (results_ct Tryd.results31 _ _ _ rfl ?_) rfl ?_
      · simp [go_sem]
      have h2 := HL.out.2
      rw [e1] at h2
      rw [HL.out.1]
      refine ⟨(u.extract 1 u.size).extract (n + 1) (u.size - 1), ?_, by simp; omega, h2, (fun x h => by cases h; exact .quoted r HB.out), ((below_drewN ((Below.refl _ _).alloc (Nat.le_refl _) _) m).setCell (Nat.le_refl _) _).setCell (Nat.le_refl _) _⟩
      rw [headP, kind_quoted]
    · have hc0 : notC u[0] = true := notC_of hn32 (by rw [hx]; omega) (by rw [hx]; exact x34)
      obtain ⟨E, c, r, L', q1, q2, hL, q3, q4, q5, hC⟩ := cut_run h1 hc0 HC.out
      have HL : Hid (L = ⟨(c :: r).toArray⟩ :: L' ∧ Cuts (u.extract E u.size).data.toList L' ∧ u.extract 0 E = ⟨(c :: r).toArray⟩) := ⟨hL, hC, q3⟩
      have HQ : Hid (endW notC u 0 = E ∧ r.length < 400 ∧ ∀ d ∈ c :: r, notC d = true) := ⟨q1, Nat.lt_of_lt_of_le q4 hus, q5⟩
      have j4 : ((x : Int) == 34) = false := by simp; omega
      have c1 : (E : Int) ≤ (u.size : Int) := by omega
      clear hL hC HC hn32 x34 q1 q3 q4 q5 x40 x41 x42 hc0
      go_enter Tryd.func31, Tryd.ntmps31
      go_wp2_with first | (go_at_call 40; refine (trim_as t _ HT.out _ ht).mono ?_; rintro e w' ⟨rfl, rfl⟩) | (go_at_call 42; refine (runs_any _ E HQ.out.1 _ (by omega)).mono ?_; rintro e w' ⟨rfl, rfl⟩)
      go_region
      go_wp2
      refine bodyPost_ret (v := .tuple #[.agg #[.int .i64 5, .string (u.extract 0 E)], .string (u.extract E u.size)]) (results_ct Tryd.results31 _ _ _ rfl ?_) rfl ?_
      · simp [go_sem]
      rw [HL.out.1]
      refine ⟨u.extract E u.size, ?_, by simp; omega, HL.out.2.1, (fun x h => by cases h; exact .run c r HQ.out.2.1 HQ.out.2.2), ((Below.refl _ _).alloc (Nat.le_refl _) _).drew⟩
      rw [headP, kind_run (HQ.out.2.2 c (by simp)), HL.out.2.2]
end Go.Proofs.YtleegplecdknlaaDoor
