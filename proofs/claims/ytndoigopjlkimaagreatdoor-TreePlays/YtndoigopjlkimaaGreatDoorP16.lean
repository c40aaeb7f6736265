/- Texts of the proof of TreePlays: Dpt, Dmt, Dpr, Tlb, Tgr, As, Set, As2, As3, Place, Is, Dpl. -/
import Derived.Test.YtndoigopjlkimaaGreatDoorP15
import Derived.LaidEql
import Derived.Stop.Asserts
import Derived.RowKitTokens
namespace Go.Proofs.YtndoigopjlkimaaGreatDoor
open Go.RowKit Go.Maps

theorem in_any (a b c : Int) (w : World) : Calls Tryz.prog 33 #[.int .i64 a, .int .i64 b, .int .i64 c] w fun e w' => e = .returned (.bool (decide (b ≤ a) && decide (a ≤ c))) ∧ w' = w := by
  by_cases h : b ≤ a
  · go_enter Tryz.func33, Tryz.ntmps33
    go_wp2
    go_ret
    exact ⟨ret_bool (by simp [h]), rfl⟩
  · go_enter Tryz.func33, Tryz.ntmps33
    go_wp2
    go_ret
    exact ⟨ret_bool (by simp; omega), rfl⟩
theorem new_doc (w : World) : Calls Tryz.prog 7 #[] w fun e w' => ∃ bw m, e = .returned (.pointer (some ⟨bw, 0, none⟩)) ∧ Doc bw m 0 [] w' ∧ w.heap.size ≤ bw ∧ w.heap.size ≤ m ∧ Below w.heap.size w w' := by
  have hmm := @run_makeMap Tryz.prog
  have hb : Below w.heap.size w ((w.alloc (.map #[] 0)).alloc (.cells #[.map (some w.heap.size)] 49)) := ((Below.refl _ w).alloc (Nat.le_refl _) _).alloc (by simp) _
  have HD : Hid (Doc (w.heap.size + 1) w.heap.size 0 [] ((w.alloc (.map #[] 0)).alloc (.cells #[.map (some w.heap.size)] 49))) := by
    refine ⟨?_, (Book.new w).below ((Below.refl _ _).alloc (Nat.le_refl _) _)⟩
    have hn : ((w.alloc (.map #[] 0)).alloc (.cells #[.map (some w.heap.size)] 49)).heap[w.heap.size + 1]? = some (.cells #[.map (some w.heap.size)] 49) := by
      have := heap_alloc_new (w.alloc (.map #[] 0)) (.cells #[.map (some w.heap.size)] 49)
      rwa [World.size_alloc] at this
    simp only [World.cell?, hn]; rfl
  have HBB : Hid _ := hb
  clear hb
  go_enter Tryz.func7, Tryz.ntmps7
  go_wp2
  go_ret
  exact ⟨_, _, rfl, HD.out, by omega, Nat.le_refl _, HBB.out⟩
theorem chg_mem {T : Tr} {key : ByteArray} {A mid C : List Pr} (h : ChgR T key A mid C) (y : Pr) : (y ∈ A ++ C ↔ (y ∈ A ++ mid ++ C ∧ y.k ≠ key)) := by
  constructor
  · intro hy
    rcases List.mem_append.1 hy with hy | hy
    · exact ⟨by simp [hy], bl_ne (h.less y hy)⟩
    · exact ⟨by simp [hy], fun e => bl_ne (h.more y hy) e.symm⟩
  · rintro ⟨hy, hk⟩
    rcases List.mem_append.1 hy with hy | hy
    · rcases List.mem_append.1 hy with hy | hy
      · simp [hy]
      · rcases h.mid_ with e | ⟨z, e, hz⟩
        · rw [e] at hy; cases hy
        · rw [e, List.mem_singleton] at hy; rw [hy] at hk; exact absurd hz hk
    · simp [hy]
theorem chg_put {T : Tr} {A mid C : List Pr} {x : Pr} (h : ChgR T x.k A mid C) (y : Pr) : (y ∈ A ++ [x] ++ C ↔ y = x ∨ (y ∈ A ++ mid ++ C ∧ y.k ≠ x.k)) := by
  rw [← chg_mem h y]
  simp only [List.mem_append, List.mem_singleton]
  constructor
  · rintro ((h | h) | h)
    · exact .inr (.inl h)
    · exact .inl h
    · exact .inr (.inr h)
  · rintro (h | h | h)
    · exact .inl (.inr h)
    · exact .inl (.inl h)
    · exact .inr h
theorem chg_del {T : Tr} {A mid C : List Pr} {x : Pr} (h : ChgR T x.k A mid C) (y : Pr) : (y ∈ A ++ C ↔ (y ∈ A ++ [x] ++ C ∧ y.k ≠ x.k)) := by
  constructor
  · intro hy
    rcases List.mem_append.1 hy with hy | hy
    · exact ⟨by simp [hy], bl_ne (h.less y hy)⟩
    · exact ⟨by simp [hy], fun e => bl_ne (h.more y hy) e.symm⟩
  · rintro ⟨hy, hk⟩
    rcases List.mem_append.1 hy with hy | hy
    · rcases List.mem_append.1 hy with hy | hy
      · simp [hy]
      · rw [List.mem_singleton] at hy; rw [hy] at hk; exact absurd rfl hk
    · simp [hy]
/-- what was there -/
theorem chg_found {T : Tr} {A mid C : List Pr} {x : Pr} (h : ChgR T x.k A mid C) {v : ByteArray} {b : Bool} (hf : found (A ++ mid ++ C) x.k v b) : (b = true ∧ mid = [⟨x.k, v⟩]) ∨ (b = false ∧ mid = []) := by
  rcases hf with ⟨hb, y, hy, hk, hi⟩ | ⟨hb, _, hn⟩
  · refine .inl ⟨hb, ?_⟩
    have hym : y ∈ mid := by
      rcases List.mem_append.1 hy with hy | hy
      · rcases List.mem_append.1 hy with hy | hy
        · exact absurd hk (bl_ne (h.less y hy))
        · exact hy
      · exact absurd hk.symm (bl_ne (h.more y hy))
    rcases h.mid_ with e | ⟨z, e, hz⟩
    · rw [e] at hym; cases hym
    · rw [e, List.mem_singleton] at hym
      subst hym
      rw [e]
      cases y
      simp only at hk hi
      rw [hk, hi]
  · refine .inr ⟨hb, ?_⟩
    rcases h.mid_ with e | ⟨z, e, hz⟩
    · exact e
    · exact absurd hz (hn z (by rw [e]; simp))
theorem chg_sorted {T : Tr} {A mid C : List Pr} {x : Pr} (h : ChgR T x.k A mid C) (hs : T.all.Pairwise (fun a b => bl a.k b.k = true)) : (A ++ [x] ++ C).Pairwise (fun a b => bl a.k b.k = true) := by
  rw [h.all, List.pairwise_append, List.pairwise_append] at hs
  obtain ⟨⟨h1, h2, h3⟩, h4, h5⟩ := hs
  rw [List.pairwise_append, List.pairwise_append]
  refine ⟨⟨h1, List.pairwise_singleton _ _, fun a ha b hb => ?_⟩, h4, fun a ha b hb => ?_⟩
  · rw [List.mem_singleton] at hb; rw [hb]; exact h.less a ha
  · rcases List.mem_append.1 ha with ha | ha
    · exact h5 a (by simp [ha]) b hb
    · rw [List.mem_singleton] at ha; rw [ha]; exact h.more b hb
section
variable {bw m n : Nat} {w : World}
set_option maxRecDepth 100000 in
set_option maxHeartbeats 1000000 in
theorem putD_bad {v : Value} (key item : ByteArray) (hx : ¬ (1 ≤ key.size ∧ key.size ≤ 60 ∧ item.size ≤ 100)) :
    Calls Tryz.prog 10 #[v, .string key, .string item] w fun e w' => e = .returned (.int .i64 1) ∧ w' = w := by
  by_cases h1 : 1 ≤ key.size ∧ key.size ≤ 60
  · have h2 : (100 : Int) < (item.size : Int) := by have := fun h => hx ⟨h1.1, h1.2, h⟩; omega
    have hb : (decide ((1 : Int) ≤ (key.size : Int)) && decide ((key.size : Int) ≤ 60)) = true := by simp; omega
    clear hx
    go_enter Tryz.func10, Tryz.ntmps10
    go_wp2_with fail
    refine (in_any _ _ _ _).mono ?_
    rintro _ _ ⟨rfl, rfl⟩
    rw [hb]
    go_wp2
    go_ret
    exact ⟨rfl, rfl⟩
  · have hb : (decide ((1 : Int) ≤ (key.size : Int)) && decide ((key.size : Int) ≤ 60)) = false := by
      cases e : (decide ((1 : Int) ≤ (key.size : Int)) && decide ((key.size : Int) ≤ 60)) with
      | false => rfl
      | true => simp at e; omega
    clear hx
    go_enter Tryz.func10, Tryz.ntmps10
    go_wp2_with fail
    refine (in_any _ _ _ _).mono ?_
    rintro _ _ ⟨rfl, rfl⟩
    rw [hb]
    go_wp2
    go_ret
    exact ⟨rfl, rfl⟩
/-- what Put tells -/
def PutD (bw m n : Nat) (A mid C : List Pr) (x : Pr) (w : World) (e : Ending) (w' : World) : Prop :=
  Only (fun b => b = m) w w' ∧ ((30000 < szL (A ++ [x] ++ C) ∧ e = .returned (.int .i64 12) ∧ Doc bw m (n + 3) (A ++ mid ++ C) w') ∨ (szL (A ++ [x] ++ C) ≤ 30000 ∧ e = .returned (.int .i64 0) ∧ Doc bw m (n + 3) (A ++ [x] ++ C) w'))
set_option maxRecDepth 100000 in
set_option maxHeartbeats 1000000 in
theorem putD_any {T : Tr} {A mid C : List Pr} {x : Pr} (hc : ChgR T x.k A mid C) (hs : T.all.Pairwise (fun a b => bl a.k b.k = true)) (hok : ∀ y ∈ T.all, y.Ok) (hsum : szL T.all ≤ 30000) (hx : x.Ok) (hn : n + 10 < 1000000) (hD : Doc bw m n (A ++ mid ++ C) w) :
    Calls Tryz.prog 10 #[.pointer (some ⟨bw, 0, none⟩), .string x.k, .string x.i] w fun e w' => PutD bw m n A mid C x w e w' := by
  have hb : (decide ((1 : Int) ≤ (x.k.size : Int)) && decide ((x.k.size : Int) ≤ 60)) = true := by have := hx.1; have := hx.2.1; simp; omega
  have h2 : ¬ (100 : Int) < (x.i.size : Int) := by have := hx.2.2; omega
  have hks : x.k.size ≤ 1000 := by have := hx.2.1; omega
  have his : x.i.size ≤ 1000 := by have := hx.2.2; omega
  have q0 := hD.cell
  have hne := hD.ne
  have hlt := hD.lt
  have HD : Hid _ := hD.book
  have HC : Hid (ChgR T x.k A mid C) := hc
  have hs2 := chg_sorted hc hs
  have HA2 : Hid (Apart (A ++ [x] ++ C)) := apart_sorted hs2
  have hz2 : szL (A ++ [x] ++ C) ≤ 1000000 := by
    have e1 : szL T.all = szL A + szL mid + szL C := by rw [hc.all, szL_append, szL_append]
    have e2 : szL (A ++ [x] ++ C) = szL A + szL [x] + szL C := by rw [szL_append, szL_append]
    have e3 : szL [x] = 2 + x.k.size + x.i.size := rfl
    rw [e2, e3]; omega
  have hms : ∀ y ∈ mid, y.k = x.k ∧ y.i.size ≤ 1000 := fun y hy => by
    rcases hc.mid_ with e | ⟨z, e, hz⟩
    · rw [e] at hy; cases hy
    · rw [e, List.mem_singleton] at hy
      refine ⟨by rw [hy]; exact hz, ?_⟩
      have := (hok y (by rw [hc.all, e, hy]; simp)).2.2
      omega
  have HMS : Hid _ := hms
  have HZ : Hid _ := hz2
  have HKS : Hid (x.k.size ≤ 1000) := hks
  have HIS : Hid (x.i.size ≤ 1000) := his
  clear hx hD hc hs hok hsum hs2 hms hz2 hks his
  go_enter Tryz.func10, Tryz.ntmps10
  go_wp2_with fail
  refine (in_any _ _ _ _).mono ?_
  rintro _ w9 ⟨rfl, h9⟩
  obtain rfl := h9.symm
  clear h9
  rw [hb]
  go_wp2_with (first | (refine look_book _ rfl _ _ rfl HD.out x.k HKS.out rfl rfl ?_; intro ov ob hfo) | (refine put_book _ rfl _ _ _ rfl HD.out (by omega) x HKS.out HIS.out (A ++ [x] ++ C) (chg_put HC.out) rfl rfl rfl ?_; intro w1 hB1 hO1))
  have hD1 : Doc bw m (n + 1) (A ++ [x] ++ C) w1 := ⟨(World.cell?_of_block (a := ⟨bw, 0, none⟩) (hO1.block bw hlt.1 (fun e => hne e.symm))).trans q0, hB1⟩
  refine (sum_doc hD1 HA2.out HZ.out).mono ?_
  rintro _ w2 ⟨rfl, hb2⟩
  have HD2 : Hid (Doc bw m (n + 1) (A ++ [x] ++ C) w2) := hD1.below hb2
  have HO2 : Hid (Only (fun b => b = m) w w2) := hO1.trans (below_only hb2 _) (fun i hi => .inl hi)
  have q2 := HD2.out.cell
  have HB2 : Hid (Book m (n + 1) (A ++ [x] ++ C) w2) := HD2.out.book
  have HFO : Hid (found (A ++ mid ++ C) x.k ov ob) := hfo
  clear hfo hB1 hO1 hD1 hb2 q0
  obtain ⟨z, hz⟩ : ∃ z, szL (A ++ [x] ++ C) = z := ⟨_, rfl⟩
  have HSZ : Hid (szL (A ++ [x] ++ C) = z) := hz
  rw [hz]
  clear hz
  by_cases hbig : (z : Int) ≤ 30000
  · go_wp2
    go_ret
    exact ⟨HO2.out, .inr ⟨by rw [HSZ.out]; omega, rfl, HD2.out.mono (by omega)⟩⟩
  · rcases chg_found HC.out HFO.out with ⟨rfl, hmid⟩ | ⟨rfl, hmid⟩
    · have HMD : Hid (mid = [⟨x.k, ov⟩]) := hmid
      have hov : ov.size ≤ 1000 := (HMS.out ⟨x.k, ov⟩ (by rw [HMD.out]; simp)).2
      have HMM : Hid (∀ y, y ∈ A ++ mid ++ C ↔ y = ⟨x.k, ov⟩ ∨ (y ∈ A ++ C ∧ y.k ≠ x.k)) := fun y => by
        have h1 := chg_mem HC.out y
        rw [HMD.out]
        simp only [List.mem_append, List.mem_singleton]
        constructor
        · rintro ((h | h) | h)
          · exact .inr ⟨.inl h, bl_ne (HC.out.less y h)⟩
          · exact .inl h
          · exact .inr ⟨.inr h, fun e => bl_ne (HC.out.more y h) e.symm⟩
        · rintro (h | ⟨h | h, _⟩)
          · exact .inl (.inr h)
          · exact .inl (.inl h)
          · exact .inr h
      clear hmid
      go_upto_if 41 with (refine del_book _ rfl _ _ rfl HB2.out x.k HKS.out (A ++ C) (chg_del HC.out) rfl rfl ?_; intro w3 hB3 hO3)
      have q3 : w3.cell? ⟨bw, 0, none⟩ = some (.map (some m)) := (World.cell?_of_block (a := ⟨bw, 0, none⟩) (hO3.block bw HD2.out.lt.1 (fun e => hne e.symm))).trans q2
      have HO3 : Hid (Only (fun b => b = m) w w3) := HO2.out.trans hO3 (fun i hi => .inl hi)
      have HB3 : Hid (Book m (n + 1) (A ++ C) w3) := hB3
      clear hB3 hO3 q2
      go_wp2_with (refine put_book _ rfl _ _ _ rfl HB3.out (by omega) ⟨x.k, ov⟩ HKS.out hov (A ++ mid ++ C) HMM.out rfl rfl rfl ?_; intro w4 hB4 hO4)
      have HO4 : Hid (Only (fun b => b = m) w w4) := HO3.out.trans hO4 (fun i hi => .inl hi)
      have HD4 : Hid (Doc bw m (n + 3) (A ++ mid ++ C) w4) := ⟨(World.cell?_of_block (a := ⟨bw, 0, none⟩) (hO4.block bw (World.block_lt_of_cell? w3 _ q3) (fun e => hne e.symm))).trans q3, hB4.mono (by omega)⟩
      clear hB4 hO4 q3
      go_wp2
      go_ret
      exact ⟨HO4.out, .inl ⟨by rw [HSZ.out]; omega, rfl, HD4.out⟩⟩
    · go_upto_if 41 with (refine del_book _ rfl _ _ rfl HB2.out x.k HKS.out (A ++ C) (chg_del HC.out) rfl rfl ?_; intro w3 hB3 hO3)
      have HO3 : Hid (Only (fun b => b = m) w w3) := HO2.out.trans hO3 (fun i hi => .inl hi)
      have HD3 : Hid (Doc bw m (n + 3) (A ++ mid ++ C) w3) := ⟨(World.cell?_of_block (a := ⟨bw, 0, none⟩) (hO3.block bw HD2.out.lt.1 (fun e => hne e.symm))).trans q2, by rw [hmid, List.append_nil]; exact hB3.mono (by omega)⟩
      clear hB3 hO3 q2 hmid
      go_wp2
      go_ret
      exact ⟨HO3.out, .inl ⟨by rw [HSZ.out]; omega, rfl, HD3.out⟩⟩
end
end Go.Proofs.YtndoigopjlkimaaGreatDoor
namespace Go.Proofs.YtndoigopjlkimaaGreatDoor
open Go.RowKit Go.Maps

def fromL (from_ : ByteArray) (l : List Pr) : List Pr := l.filter (fun x => !bl x.k from_)
theorem keysF_eq (from_ : ByteArray) (l : List Pr) : keysF from_ l = (fromL from_ l).map (·.k) := rfl
theorem walkN_neg {most : Int} (h : most < 0) (from_ : ByteArray) : ∀ (l : List Pr) (k : Nat), walkL (wntN most) from_ k l = fromL from_ l
  | [], k => rfl
  | x :: r, k => by
    unfold walkL fromL
    cases hb : bl x.k from_
    · rw [if_neg (by decide), if_pos (by unfold wntN; simp [h]), List.filter_cons, if_pos (by simp [hb]), walkN_neg h from_ r (k + 1)]
      rfl
    · rw [if_pos rfl, List.filter_cons, if_neg (by simp [hb]), walkN_neg h from_ r k]
      rfl
theorem fromL_skip {from_ : ByteArray} {x : Pr} (h : bl x.k from_ = true) (r : List Pr) : fromL from_ (x :: r) = fromL from_ r := by unfold fromL; rw [List.filter_cons, if_neg (by rw [h]; decide)]
theorem fromL_keep {from_ : ByteArray} {x : Pr} (h : bl x.k from_ = false) (r : List Pr) : fromL from_ (x :: r) = x :: fromL from_ r := by unfold fromL; rw [List.filter_cons, if_pos (by rw [h]; decide)]
theorem walkN_pos (n : Nat) (from_ : ByteArray) : ∀ (l : List Pr) (k : Nat), walkL (wntN (n : Int)) from_ k l = (fromL from_ l).take (n - k)
  | [], k => by simp [walkL, fromL]
  | x :: r, k => by
    unfold walkL
    cases hb : bl x.k from_
    · rw [fromL_keep hb]
      by_cases hk : k < n
      · have hw : wntN (n : Int) k x.k = true := by unfold wntN; simp; omega
        rw [hw, walkN_pos n from_ r (k + 1)]
        obtain ⟨d, hd⟩ : ∃ d, n - k = d + 1 := ⟨n - k - 1, by omega⟩
        rw [hd, List.take_succ_cons, show n - (k + 1) = d by omega]
        simp
      · have hw : wntN (n : Int) k x.k = false := by unfold wntN; simp; omega
        rw [hw, show n - k = 0 by omega, List.take_zero]
        simp
    · rw [fromL_skip hb, walkN_pos n from_ r k]
      simp
/-- what begins so stands together -/
theorem prefix_run : ∀ (p a b : List UInt8), ¬ a < p → a < b → p.isPrefixOf b = true → p.isPrefixOf a = true
  | [], a, b, _, _, _ => rfl
  | x :: p, [], b, h1, _, _ => absurd (List.nil_lt_cons x p) h1
  | x :: p, y :: a, [], _, h2, _ => absurd h2 (List.not_lt_nil _)
  | x :: p, y :: a, z :: b, h1, h2, h3 => by
    simp only [List.isPrefixOf, Bool.and_eq_true, beq_iff_eq] at h3 ⊢
    obtain ⟨rfl, h3⟩ := h3
    rw [List.cons_lt_cons_iff] at h1 h2
    rcases h2 with h2 | ⟨rfl, h2⟩
    · exact absurd (.inl h2) h1
    · exact ⟨rfl, prefix_run p a b (fun h => h1 (.inr ⟨rfl, h⟩)) h2 h3⟩
theorem walkP (s : ByteArray) : ∀ (l : List Pr) (k : Nat), l.Pairwise (fun a b => bl a.k b.k = true) → walkL (pfx s) s k l = (fromL s l).filter (fun x => pfx s 0 x.k)
  | [], k, _ => rfl
  | x :: r, k, h => by
    rw [List.pairwise_cons] at h
    unfold walkL
    cases hb : bl x.k s
    · rw [fromL_keep hb, List.filter_cons]
      cases hp : pfx s k x.k
      · have hp0 : pfx s 0 x.k = false := hp
        rw [hp0]
        have e : List.filter (fun x => pfx s 0 x.k) (fromL s r) = [] := by
          refine List.filter_eq_nil_iff.2 fun y hy hpy => ?_
          have hy2 := (List.mem_filter.1 hy).1
          have h2 := h.1 y hy2
          rw [bl_iff] at h2
          have h1 : ¬ x.k.data.toList < s.data.toList := fun e => by rw [← bl_iff, hb] at e; cases e
          have := prefix_run s.data.toList x.k.data.toList y.k.data.toList h1 h2 hpy
          unfold pfx Lib.hasPrefix at hp
          rw [this] at hp; cases hp
        rw [e]
        simp
      · have hp0 : pfx s 0 x.k = true := hp
        rw [hp0, walkP s r (k + 1) h.2]
        simp
    · rw [fromL_skip hb, walkP s r k h.2]
      simp
end Go.Proofs.YtndoigopjlkimaaGreatDoor
namespace Go.Proofs.YtndoigopjlkimaaGreatDoor
open Go.RowKit Go.Maps

theorem book_ok {m n : Nat} {l : List Pr} {w : World} (h : Book m n l w) (k : ByteArray) (hk : k.size ≤ 1000) : ∃ v b, found l k v b ∧ (Instr.lookup 47 (.map (some m)) (.string k) true).run Tryz.prog w = .ok (.tuple #[.string v, .bool b]) w := by
  obtain ⟨D, hD, hM⟩ := h
  obtain ⟨v, ps, hrun, hv⟩ := hD.look_ok keyed9 Tryz.underlying47 (zero9 w) (plainElem_string (s := ⟨#[]⟩) Tryz.underlying9 (Nat.zero_le _)) (kl_of hk)
  obtain ⟨s, rfl, hf⟩ := book_val hM k hv
  exact ⟨s, _, hf, hrun⟩
theorem found_mem {l : List Pr} {x : Pr} {v : ByteArray} {b : Bool} (hx : x ∈ l) (ha : Apart l) (h : found l x.k v b) : v = x.i ∧ b = true := by
  rcases h with ⟨hb, y, hy, hk, hi⟩ | ⟨_, _, hn⟩
  · refine ⟨?_, hb⟩
    rw [← hi]
    unfold Apart at ha
    by_cases e : y = x
    · rw [e]
    · obtain ⟨a, c, rfl⟩ := List.append_of_mem hx
      rw [List.pairwise_append, List.pairwise_cons] at ha
      obtain ⟨_, ⟨h1, _⟩, h2⟩ := ha
      rcases List.mem_append.1 hy with hy | hy
      · exact absurd hk (h2 y hy x (by simp))
      · rcases List.mem_cons.1 hy with hy | hy
        · exact absurd hy e
        · exact absurd hk.symm (h1 y hy)
  · exact absurd rfl (hn x hx)
theorem book_at {m n : Nat} {l : List Pr} {w : World} (h : Book m n l w) (ha : Apart l) {x : Pr} (hx : x ∈ l) (hk : x.k.size ≤ 1000) : (Instr.lookup 47 (.map (some m)) (.string x.k) false).run Tryz.prog w = .ok (.string x.i) w := by
  obtain ⟨D, hD, hM⟩ := h
  obtain ⟨v, ps, hrun, hv⟩ := hD.lookup keyed9 Tryz.underlying47 (zero9 w) (plainElem_string (s := ⟨#[]⟩) Tryz.underlying9 (Nat.zero_le _)) (kl_of hk)
  obtain ⟨s, rfl, hf⟩ := book_val hM x.k hv
  rw [(found_mem hx ha hf).1] at hrun
  exact hrun
set_option maxRecDepth 100000 in
set_option maxHeartbeats 1000000 in
theorem pairsL_any {B C bw m n : Nat} {l ps : List Pr} {ks : List ByteArray} {v u : Value} {w : World} (hP : PRow B v ps w) (hV : View C u (ks.map Value.string) w) (hD : Doc bw m n l w) (hk : ks = ps.map (·.k)) (hm : ∀ p ∈ ps, p ∈ l) (hok : ∀ p ∈ l, p.k.size ≤ 1000) (ha : Apart l) (hql : ps.length ≤ 1000000) :
    Calls Tryz.prog 15 #[v, .pointer (some ⟨bw, 0, none⟩), u] w fun e w' => e = .returned (.bool true) ∧ Below w.heap.size w w' := by
  have hlk : ks.length = ps.length := by rw [hk, List.length_map]
  have HP : Hid (PRow B v ps w) := hP
  have HV : Hid _ := hV
  have HD : Hid _ := hD
  have HK : Hid (ks = ps.map (·.k)) := hk
  have HM : Hid (∀ p ∈ ps, p ∈ l) := hm
  have HOK : Hid (∀ p ∈ l, p.k.size ≤ 1000) := hok
  have HA : Hid (Apart l) := ha
  have hl2 := hV.len Tryz.underlying52
  rw [List.length_map, hlk] at hl2
  have hl1 : ∀ (ty : TypeId) (wx : World), (Builtin.len_ #[54] ty #[v]).run Tryz.prog wx = .ok (.int .i64 (ps.length : Nat)) wx := fun ty wx => by
    rcases hP.2 with ⟨rfl, hn⟩ | ⟨g, cap, cur, rfl, _⟩
    · rw [hn]; simp [Builtin.len_, run_underlying Tryz.underlying54, goInt]
    · simp [Builtin.len_, run_underlying Tryz.underlying54, goInt]
  obtain ⟨q, hq⟩ : ∃ q, ps.length = q := ⟨_, rfl⟩
  rw [hq] at hl1 hl2 hql
  have HQ : Hid (ps.length = q) := hq
  have HLK : Hid (ks.length = ps.length) := hlk
  clear hP hV hD hk hm hok ha hq hlk
  go_enter Tryz.func15, Tryz.ntmps15
  go_wp2
  go_loopw [7] (fun i wr => ∃ j : Nat, j ≤ q ∧ i = .int .i64 (j : Nat) ∧ Hid (Below w.heap.size w wr)) (fun i _ => q - (intOf i).toNat)
  case atStart => exact ⟨0, Nat.zero_le _, rfl, Below.refl _ _⟩
  case round =>
    obtain ⟨j, hj, rfl, HB⟩ := hrel
    by_cases hlt : j < q
    · have h1 : (j : Int) < (q : Int) := by omega
      have hjp : j < ps.length := by rw [HQ.out]; exact hlt
      have hjk : j < ks.length := by rw [HLK.out]; exact hjp
      obtain ⟨g, _, g2, g3, g4⟩ := HP.out.at hjp
      obtain ⟨b, off, _, v2, v3, v4⟩ := HV.out.at (i := j) (by rw [List.length_map]; exact hjk)
      obtain ⟨x, hx⟩ : ∃ x, ps[j] = x := ⟨_, rfl⟩
      have hkx : ks[j] = x.k := by
        have : ks[j] = (ps.map (·.k))[j]'(by rw [List.length_map]; exact hjp) := by congr 1
        rw [this, List.getElem_map, hx]
      rw [hx] at g2 g3
      rw [List.getElem_map, hkx] at v3
      have hxl : x ∈ l := HM.out x (by rw [← hx]; exact List.getElem_mem hjp)
      have ge := World.block_lt_of_cell? w _ g2
      have v5 := v4 Tryz.underlying52 elem137 size9 (j : Int) rfl
      have HSS : Hid (∀ wx, Below w.heap.size w wx → wx.cell? ⟨g, 2 * j, none⟩ = some (.string x.k) ∧ wx.cell? ⟨g, 2 * j + 1, none⟩ = some (.string x.i) ∧ wx.cell? ⟨b, off, none⟩ = some (.string x.k) ∧ wx.cell? ⟨bw, 0, none⟩ = some (.map (some m)) ∧ (Instr.lookup 47 (.map (some m)) (.string x.k) false).run Tryz.prog wx = .ok (.string x.i) wx) := fun wx hb =>
        ⟨(hb.cell (p := ⟨g, 2 * j, none⟩) ge).trans g2, (hb.cell (p := ⟨g, 2 * j + 1, none⟩) ge).trans g3, (hb.cell (p := ⟨b, off, none⟩) v2).trans v3, (HD.out.below hb).cell, book_at (HD.out.below hb).book HA.out hxl (HOK.out x hxl)⟩
      have C0 : Hid _ := HSS.out wr HB.out
      have C1 : Hid _ := HSS.out wr.drew HB.out.drew
      have HB2 : Hid (Below w.heap.size w wr.drew) := HB.out.drew
      clear g2 g3 v2 v3 v4 hx hkx hxl ge hjp hjk
      go_wp2_with fail
      go_region_held3 (fun wx => wx.cell? ⟨g, 2 * j, none⟩ = some (.string x.k) ∧ wx.cell? ⟨g, 2 * j + 1, none⟩ = some (.string x.i) ∧ wx.cell? ⟨b, off, none⟩ = some (.string x.k) ∧ wx.cell? ⟨bw, 0, none⟩ = some (.map (some m)) ∧ (Instr.lookup 47 (.map (some m)) (.string x.k) false).run Tryz.prog wx = .ok (.string x.i) wx) (first | exact C0.out | exact C1.out) (fail)
      clear C0 C1 HSS v5 g4
      go_wp2_with fail
      go_roundw
      case rel => exact ⟨j + 1, by omega, by go_num, HB2⟩
      case measure => simp [intOf]; omega
    · have h1 : ¬ (j : Int) < (q : Int) := by omega
      go_wp2
      go_ret
      exact ⟨rfl, HB.out⟩
end Go.Proofs.YtndoigopjlkimaaGreatDoor
namespace Go.Proofs.YtndoigopjlkimaaGreatDoor
open Go.RowKit Go.Maps

/-- a put, or a drop -/
structure Pu where
  q : Int
  k : ByteArray
  i : ByteArray
def RowQ (w : World) (a : Option Addr) (len : Nat) (xs : List Pu) : Prop :=
  len = xs.length ∧ len ≤ maxLen ∧ (xs = [] ∨ ∃ b off, a = some ⟨b, off, none⟩ ∧ b < w.heap.size ∧ ∀ i (h : i < xs.length),
    w.cell? ⟨b, off + i * 3, none⟩ = some (.int .i64 xs[i].q) ∧ w.cell? ⟨b, off + i * 3 + 1, none⟩ = some (.string xs[i].k) ∧ w.cell? ⟨b, off + i * 3 + 2, none⟩ = some (.string xs[i].i))
theorem index_three {t e : TypeId} (ht : Tryz.prog.underlying t = some (.slice e)) (he : Tryz.prog.elem t = e) (hs : (sizeOf e).run Tryz.prog = fun w => .ok 3 w) (g off n cap i : Nat) (hi : i < n) (wx : World) : (Instr.indexAt t (.slice (some ⟨g, off, none⟩) n cap) (.int .i64 (i : Nat))).run Tryz.prog wx = .ok (.pointer (some ⟨g, off + i * 3, none⟩)) wx := by
  subst he
  rw [run_indexAt_slice (h := ht), if_pos ⟨by omega, by omega⟩, hs]
  simp [Result.andThen, add_pl]
/-- what a put or a drop comes to -/
def StepTo (bp bd bm N D r : Nat) (s : St) (up : Nat → Bool) (cm : Int) (V : Pst) (T : Tr) (w w' : World) : Prop :=
  ∃ V' N' T', LayR V V' r T T' ∧ Tw bp bd bm N' s up cm V' w' ∧ N' ≤ N + D ∧ Only (fun b => b = bp ∨ b = bm) w w'
section
variable {bt bp bd bm N D r : Nat} {s : St} {up : Nat → Bool} {cm : Int} {V : Pst} {w : World} {T : Tr}
theorem StepTo.same {w' : World} (h : Tw bp bd bm N s up cm V w) (hA : TrAt V r T) (hb : Below w.heap.size w w') : StepTo bp bd bm N D r s up cm V T w w' := ⟨V, N, T, LayR.refl hA, h.below hb, by omega, below_only hb _⟩
theorem ChgTo.step {A nw C : List Pr} {e : Ending} {w' : World} (hc : ChgTo bp bd bm N r s up cm V T A nw C w e w') (h : Tw bp bd bm N s up cm V w) (hA : TrAt V r T) : StepTo bp bd bm N 40 r s up cm V T w w' := by
  rcases hc with ⟨_, _, h3⟩ | ⟨_, _, V', N', T', _, h4, h5, h6, h7⟩
  · exact StepTo.same h hA h3
  · exact ⟨V', N', T', h4, h5, h6, h7⟩
theorem putx_any (hT : Tt bt bp r w) (h : Tw bp bd bm N s up cm V w) (hne : bt ≠ bp ∧ bt ≠ bm) (hA : TrAt V r T) (key item : ByteArray) (hcnt : countU V.used 2000 + 30 < 1999) (hN : N + 60 < 1000000) :
    Calls Tryz.prog 9 #[.pointer (some ⟨bt, 0, none⟩), .string key, .string item] w fun e w' => ∃ u, e = .returned u ∧ StepTo bp bd bm N 40 r s up cm V T w w' := by
  by_cases hx : 1 ≤ key.size ∧ key.size ≤ 60 ∧ item.size ≤ 100
  · refine (put_any hT h hne hA ⟨key, item⟩ hx hcnt hN).mono ?_
    rintro e w' ⟨A, mid, C, _, h2⟩
    obtain ⟨u, hu⟩ := h2.ret
    exact ⟨u, hu, h2.step h hA⟩
  · refine (put_bad key item hx _).mono ?_
    rintro e w' ⟨rfl, rfl⟩
    exact ⟨_, rfl, StepTo.same h hA (Below.refl _ _)⟩
theorem dropx_any (hT : Tt bt bp r w) (h : Tw bp bd bm N s up cm V w) (hne : bt ≠ bp ∧ bt ≠ bm) (hA : TrAt V r T) (key : ByteArray) (hcnt : countU V.used 2000 + 30 < 1999) (hN : N + 60 < 1000000) :
    Calls Tryz.prog 11 #[.pointer (some ⟨bt, 0, none⟩), .string key] w fun e w' => ∃ u, e = .returned u ∧ StepTo bp bd bm N 40 r s up cm V T w w' := by
  refine (drop_any hT h hne hA key hcnt hN).mono ?_
  rintro e w' (⟨_, rfl, h3⟩ | ⟨A, y, C, _, _, h2⟩)
  · exact ⟨_, rfl, StepTo.same h hA h3⟩
  · obtain ⟨u, hu⟩ := h2.ret
    exact ⟨u, hu, h2.step h hA⟩
end
end Go.Proofs.YtndoigopjlkimaaGreatDoor
namespace Go.Proofs.YtndoigopjlkimaaGreatDoor
open Go.RowKit Go.Maps

/-- no pages but a tree's are in use -/
def Sole (V : Pst) (T : Tr) : Prop := ∀ k, V.used k = true ↔ k ∈ T.pgL
section
variable {V V' : Pst} {r : Nat} {T T' : Tr}
theorem Sole.lay (h : Sole V T) (hl : LayR V V' r T T') : Sole V' T' := fun k => by
  rw [hl.used k]
  constructor
  · rintro (⟨h1, h2⟩ | h1)
    · exact absurd ((h k).1 h1) h2
    · exact h1
  · exact fun h1 => .inr h1
theorem Sole.count (h : Sole V T) (hA : TrAt V r T) : countU V.used 2000 = T.pages := by
  rw [countU_list hA.pg_nodup (fun k hk => (hA.used_pg k hk).2.2) (fun k _ => h k), hA.pg_len]
theorem Sole.none (h : ∀ k, V.used k = false) : Sole V Tr.none := fun k => by
  rw [h k]
  simp [Tr.none, Tr.pgL]
theorem TrAt.none_of (h : TrAt V r T) (ha : T.all = []) : T.Ls = [] := by
  cases e : T.Ls with
  | nil => rfl
  | cons L R =>
    exfalso
    have hne := h.ok.ne L (by rw [e]; simp)
    unfold Tr.all at ha
    rw [e, List.flatten_cons] at ha
    exact hne (List.append_eq_nil_iff.1 ha).1
end
def bk : ByteArray := ⟨#[107]⟩
def bitem : ByteArray := ⟨#[105, 116, 101, 109]⟩
theorem kitem_ok : Pr.Ok ⟨bk, bitem⟩ := by unfold Pr.Ok; decide
end Go.Proofs.YtndoigopjlkimaaGreatDoor
namespace Go.Proofs.YtndoigopjlkimaaGreatDoor
open Go.RowKit Go.Extern.Stop Go.Stop Go.Extern

theorem Tryz.valueOf68 (t : Addr) (w : World) : (ReflectliteValue.unpack (.iface 167 (.pointer (some t)))).run Tryz.prog w
    = .ok (.agg #[.pointer (some ⟨2, 167, none⟩), .pointer (some ⟨w.heap.size, 0, none⟩), .int .u64 150]) (w.alloc (.cells #[.pointer (some t)] 167)) := by kernel_rfl
theorem Tryz.type68 (a : Addr) (w : World) : (ReflectliteValue.methodAny (ReflectliteValue.valueError "reflectlite.Value.Type" 0) (fun t _ _ _ => ReflectliteType.toType t) #[.agg #[.pointer (some ⟨2, 167, none⟩), .pointer (some a), .int .u64 150]]).run Tryz.prog w
    = .ok (.iface 199 (.agg #[.pointer (some ⟨2, 167, none⟩)])) w := by kernel_rfl
theorem Tryz.methodKind (h : Value) (w : World) : (Go.method 339 199 (.agg #[h]) "Kind").run Tryz.prog w = .ok (142, h) w := by kernel_rfl
theorem Tryz.kind68 (w : World) : ((ReflectliteType.abiMethod fun t => (fun a : Nat => Value.int IntKind.u8 (a : Int)) <$> Rtype.kind t) #[.pointer (some ⟨2, 167, none⟩)]).run Tryz.prog w = .ok (.int .u8 22) w := by kernel_rfl
theorem Tryz.kind24 (w : World) : ((ReflectliteType.abiMethod fun t => (fun a : Nat => Value.int IntKind.u8 (a : Int)) <$> Rtype.kind t) #[.pointer (some ⟨2, 36, none⟩)]).run Tryz.prog w = .ok (.int .u8 2) w := by kernel_rfl
theorem Tryz.parts68 (a : Addr) (w : World) : (ReflectliteValue.parts (.agg #[.pointer (some ⟨2, 167, none⟩), .pointer (some a), .int .u64 150])).run Tryz.prog w = .ok (some (167, a, 150)) w := by kernel_rfl
theorem Tryz.isNil68 (a p : Addr) (W : World) (ha : W.cell? a = some (.pointer (some p))) :
    (ReflectliteValue.method (ReflectliteValue.valueError "reflectlite.Value.IsNil" 0) ReflectliteValue.isNil #[.agg #[.pointer (some ⟨2, 167, none⟩), .pointer (some a), .int .u64 150]]).run Tryz.prog W = .ok (.bool false) W := by
  change Sem.run Tryz.prog (ReflectliteValue.parts (.agg #[.pointer (some ⟨2, 167, none⟩), .pointer (some a), .int .u64 150]) >>= _) W = _
  simp only [Sem.run_bind, Tryz.parts68, Result.andThen]
  simp [ReflectliteValue.isNil, loadVar, isAgg, underlying, Tryz.underlying167, ha, Result.andThen]
theorem Tryz.methodElem (h : Value) (w : World) : (Go.method 339 199 (.agg #[h]) "Elem").run Tryz.prog w = .ok (157, .agg #[h]) w := by kernel_rfl
theorem Tryz.methodImplements (h : Value) (w : World) : (Go.method 339 199 (.agg #[h]) "Implements").run Tryz.prog w = .ok (158, .agg #[h]) w := by kernel_rfl
theorem Tryz.methodAssignableTo (h : Value) (w : World) : (Go.method 339 199 (.agg #[h]) "AssignableTo").run Tryz.prog w = .ok (155, .agg #[h]) w := by kernel_rfl
theorem Tryz.elem68 (w : World) : (ReflectliteType.method ReflectliteType.elem #[.agg #[.pointer (some ⟨2, 167, none⟩)]]).run Tryz.prog w = .ok (.iface 199 (.agg #[.pointer (some ⟨2, 36, none⟩)])) w := by kernel_rfl
theorem Tryz.implements24 (w : World) : (ReflectliteType.relation "Implements" ReflectliteType.implements_ #[.agg #[.pointer (some ⟨2, 36, none⟩)], .iface 199 (.agg #[.pointer (some ⟨2, 25, none⟩)])]).run Tryz.prog w = .ok (.bool true) w := by kernel_rfl
theorem Tryz.typeOf24 (v : Value) (w : World) : (ReflectliteType.typeOf #[.iface 36 v]).run Tryz.prog w = .ok (.iface 199 (.agg #[.pointer (some ⟨2, 36, none⟩)])) w := by kernel_rfl
theorem Tryz.typeOf46 (v : Value) (w : World) : (ReflectliteType.typeOf #[.iface 146 v]).run Tryz.prog w = .ok (.iface 199 (.agg #[.pointer (some ⟨2, 146, none⟩)])) w := by kernel_rfl
theorem Tryz.assignable24 (w : World) : (ReflectliteType.relation "AssignableTo" ReflectliteType.assignableTo #[.agg #[.pointer (some ⟨2, 36, none⟩)], .iface 199 (.agg #[.pointer (some ⟨2, 36, none⟩)])]).run Tryz.prog w = .ok (.bool true) w := by kernel_rfl
theorem Tryz.assignable46 (w : World) : (ReflectliteType.relation "AssignableTo" ReflectliteType.assignableTo #[.agg #[.pointer (some ⟨2, 146, none⟩)], .iface 199 (.agg #[.pointer (some ⟨2, 36, none⟩)])]).run Tryz.prog w = .ok (.bool false) w := by kernel_rfl
theorem Tryz.valueOf24 (n : Int) (w : World) : (ReflectliteValue.unpack (.iface 36 (.int .i64 n))).run Tryz.prog w
    = .ok (.agg #[.pointer (some ⟨2, 36, none⟩), .pointer (some ⟨w.heap.size, 0, none⟩), .int .u64 130]) (w.alloc (.cells #[.int .i64 n] 36)) := by kernel_rfl
theorem Tryz.elemOf68 (w : World) : (Rtype.elem? 167).run Tryz.prog w = .ok (some 36) w := by kernel_rfl
theorem Tryz.mk24 (p : Addr) (w : World) : (ReflectliteValue.mk 36 p ReflectliteValue.flagAddr).run Tryz.prog w = .ok (.agg #[.pointer (some ⟨2, 36, none⟩), .pointer (some p), .int .u64 386]) w := by kernel_rfl
theorem Tryz.elemV68 (a p : Addr) (W : World) (ha : W.cell? a = some (.pointer (some p))) :
    (ReflectliteValue.method (ReflectliteValue.valueError "reflectlite.Value.Elem" 0) ReflectliteValue.elem #[.agg #[.pointer (some ⟨2, 167, none⟩), .pointer (some a), .int .u64 150]]).run Tryz.prog W
      = .ok (.agg #[.pointer (some ⟨2, 36, none⟩), .pointer (some p), .int .u64 386]) W := by
  change Sem.run Tryz.prog (ReflectliteValue.parts (.agg #[.pointer (some ⟨2, 167, none⟩), .pointer (some a), .int .u64 150]) >>= _) W = _
  simp only [Sem.run_bind, Tryz.parts68, Result.andThen]
  simp [ReflectliteValue.elem, loadVar, isAgg, underlying, Tryz.underlying167, ha, Result.andThen, Tryz.elemOf68, Tryz.mk24]
end Go.Proofs.YtndoigopjlkimaaGreatDoor
namespace Go.Proofs.YtndoigopjlkimaaGreatDoor
open Go.RowKit Go.Extern.Stop Go.Stop Go.Extern

theorem Tryz.parts24a (a : Addr) (w : World) : (ReflectliteValue.parts (.agg #[.pointer (some ⟨2, 36, none⟩), .pointer (some a), .int .u64 386])).run Tryz.prog w = .ok (some (36, a, 386)) w := by kernel_rfl
theorem Tryz.parts24 (a : Addr) (w : World) : (ReflectliteValue.parts (.agg #[.pointer (some ⟨2, 36, none⟩), .pointer (some a), .int .u64 130])).run Tryz.prog w = .ok (some (36, a, 130)) w := by kernel_rfl
theorem Tryz.direct24 (w : World) : (Rtype.directlyAssignable 36 36).run Tryz.prog w = .ok true w := by kernel_rfl
theorem Tryz.set24 (ta b : Addr) (n : Int) (old : Value) (W : World) (hb : W.cell? b = some (.int .i64 n)) (ht : W.cell? ta = some old) (hf : W.frozen? ta = false) :
    (ReflectliteValue.set #[.agg #[.pointer (some ⟨2, 36, none⟩), .pointer (some ta), .int .u64 386], .agg #[.pointer (some ⟨2, 36, none⟩), .pointer (some b), .int .u64 130]]).run Tryz.prog W
      = .ok (.tuple #[]) (W.setCell ta (.int .i64 n)) := by
  change Sem.run Tryz.prog (ReflectliteValue.parts (.agg #[.pointer (some ⟨2, 36, none⟩), .pointer (some ta), .int .u64 386]) >>= fun p => ReflectliteValue.parts (.agg #[.pointer (some ⟨2, 36, none⟩), .pointer (some b), .int .u64 130]) >>= _) W = _
  simp only [Sem.run_bind, Tryz.parts24a, Tryz.parts24, Result.andThen]
  simp [ReflectliteValue.flagAddr, loadVar, isAgg, underlying, Tryz.underlying36, hb, Result.andThen, Tryz.direct24, storeVar, Value.cells, storeCells, Addr.add]
  rw [run_store Tryz.prog W ta _ _ (by rfl)]
  simp [ht, hf]
end Go.Proofs.YtndoigopjlkimaaGreatDoor
namespace Go.Proofs.YtndoigopjlkimaaGreatDoor
open Go.RowKit Go.Extern.Stop Go.Stop Go.Extern

set_option maxRecDepth 100000 in
set_option maxHeartbeats 2000000 in
theorem as37_hit (n : Int) (t a : Addr) (old : Value) (w : World) (ha : w.cell? a = some (.pointer (some t))) (ht0 : w.cell? t = some old) (hf0 : w.frozen? t = false) :
    Calls Tryz.prog 116 #[.iface 36 (.int .i64 n), .iface 167 (.pointer (some t)), .agg #[.pointer (some ⟨2, 167, none⟩), .pointer (some a), .int .u64 150], .iface 199 (.agg #[.pointer (some ⟨2, 36, none⟩)])] w
      fun ev w' => ev = .returned (.bool true) ∧ w'.cell? t = some (.int .i64 n) ∧ Below t.block w w' := by
  have h34 := @run_callFunc_extern Tryz.prog 113 _ (fun args => ReflectliteValue.unpack (args.getD 0 (.tuple #[]))) Tryz.func113 (by kernel_rfl) (by kernel_rfl) (by kernel_rfl) (by kernel_rfl)
  have h38 := @run_callFunc_extern Tryz.prog 124 _ ReflectliteType.typeOf Tryz.func124 (by kernel_rfl) (by kernel_rfl) (by kernel_rfl) (by kernel_rfl)
  have h65 := @run_callFunc_extern Tryz.prog 155 _ (ReflectliteType.relation "AssignableTo" ReflectliteType.assignableTo) Tryz.func155 (by kernel_rfl) (by kernel_rfl) (by kernel_rfl) (by kernel_rfl)
  have h39 := @run_callFunc_extern Tryz.prog 125 _ (ReflectliteValue.method (ReflectliteValue.valueError "reflectlite.Value.Elem" 0) ReflectliteValue.elem) Tryz.func125 (by kernel_rfl) (by kernel_rfl) (by kernel_rfl) (by kernel_rfl)
  have h40 := @run_callFunc_extern Tryz.prog 126 _ ReflectliteValue.set Tryz.func126 (by kernel_rfl) (by kernel_rfl) (by kernel_rfl) (by kernel_rfl)
  have tO := Tryz.typeOf24
  have mA := Tryz.methodAssignableTo
  have a24 := Tryz.assignable24
  have v24 := Tryz.valueOf24
  have htl : t.block < w.heap.size := World.block_lt_of_cell? w _ ht0
  have hal : a.block < w.heap.size := World.block_lt_of_cell? w _ ha
  have el := Tryz.elemV68 a t (w.alloc (.cells #[.pointer (some ⟨2, 167, none⟩), .pointer (some a), .int .u64 150] 183)) (by rw [World.cell?_alloc_lt _ _ a hal]; exact ha)
  have st := Tryz.set24 t ⟨w.heap.size + 1, 0, none⟩ n old ((w.alloc (.cells #[.pointer (some ⟨2, 167, none⟩), .pointer (some a), .int .u64 150] 183)).alloc (.cells #[.int .i64 n] 36))
    (by rw [World.cell?_alloc_at _ _ _ _ (by simp)]; rfl)
    (by rw [World.cell?_alloc_lt _ _ t (by simp; omega), World.cell?_alloc_lt _ _ t htl]; exact ht0)
    (by rw [World.frozen?_alloc_old _ _ t (by simp; omega), World.frozen?_alloc_old _ _ t (Nat.ne_of_lt htl)]; exact hf0)
  go_enter Tryz.func116, Tryz.ntmps116
  go_wp2
  refine wp_loop_rounds 1 ?_
  rw [rounds_succ]
  go_wp2
  go_ret
  refine ⟨rfl, World.cell?_setCell_same _ _ _ (u := old) (by rw [World.cell?_alloc_lt _ _ t (by simp; omega), World.cell?_alloc_lt _ _ t htl]; exact ht0), ?_⟩
  exact (((Below.refl t.block w).alloc (Nat.le_of_lt htl) _).alloc (by simp; omega) _).setCell (Nat.le_refl _) _

theorem Tryz.ta91 (b : Nat) (w : World) : (Instr.typeAssert (.iface 146 (.pointer (some ⟨b, 0, none⟩))) 25 204 true).run Tryz.prog w = .ok (.tuple #[.nilIface, .bool false]) w := run_typeAssert_lacksB Tryz.underlying204 (by kernel_rfl) (by kernel_rfl) _ _ w
theorem Tryz.ta60 (b : Nat) (w : World) : (Instr.typeAssert (.iface 146 (.pointer (some ⟨b, 0, none⟩))) 25 149 true).run Tryz.prog w = .ok (.tuple #[.iface 146 (.pointer (some ⟨b, 0, none⟩)), .bool true]) w := by kernel_rfl
theorem Tryz.methodUnwrap (p : Addr) (w : World) : (Go.method 339 146 (.pointer (some p)) "Unwrap").run Tryz.prog w = .ok (150, .pointer (some p)) w := by kernel_rfl

set_option maxHeartbeats 400000 in
theorem unwrap_any (b : Nat) (n : Int) (w : World) (h : w.cell? ⟨b, 0, none⟩ = some (.int .i64 n)) : Calls Tryz.prog 150 #[.pointer (some ⟨b, 0, none⟩)] w fun e w' => e = .returned (.iface 36 (.int .i64 n)) ∧ w' = w := by
  go_enter Tryz.func150, Tryz.ntmps150
  go_wp2
  go_ret
  exact ⟨rfl, rfl⟩

set_option maxRecDepth 100000 in
set_option maxHeartbeats 2000000 in
theorem as37_at (b : Nat) (n : Int) (t a : Addr) (old : Value) (w : World) (ha : w.cell? a = some (.pointer (some t))) (ht0 : w.cell? t = some old) (hf0 : w.frozen? t = false) (hb : w.cell? ⟨b, 0, none⟩ = some (.int .i64 n)) :
    Calls Tryz.prog 116 #[.iface 146 (.pointer (some ⟨b, 0, none⟩)), .iface 167 (.pointer (some t)), .agg #[.pointer (some ⟨2, 167, none⟩), .pointer (some a), .int .u64 150], .iface 199 (.agg #[.pointer (some ⟨2, 36, none⟩)])] w
      fun ev w' => ev = .returned (.bool true) ∧ w'.cell? t = some (.int .i64 n) ∧ Below t.block w w' := by
  have h34 := @run_callFunc_extern Tryz.prog 113 _ (fun args => ReflectliteValue.unpack (args.getD 0 (.tuple #[]))) Tryz.func113 (by kernel_rfl) (by kernel_rfl) (by kernel_rfl) (by kernel_rfl)
  have h38 := @run_callFunc_extern Tryz.prog 124 _ ReflectliteType.typeOf Tryz.func124 (by kernel_rfl) (by kernel_rfl) (by kernel_rfl) (by kernel_rfl)
  have h65 := @run_callFunc_extern Tryz.prog 155 _ (ReflectliteType.relation "AssignableTo" ReflectliteType.assignableTo) Tryz.func155 (by kernel_rfl) (by kernel_rfl) (by kernel_rfl) (by kernel_rfl)
  have h39 := @run_callFunc_extern Tryz.prog 125 _ (ReflectliteValue.method (ReflectliteValue.valueError "reflectlite.Value.Elem" 0) ReflectliteValue.elem) Tryz.func125 (by kernel_rfl) (by kernel_rfl) (by kernel_rfl) (by kernel_rfl)
  have h40 := @run_callFunc_extern Tryz.prog 126 _ ReflectliteValue.set Tryz.func126 (by kernel_rfl) (by kernel_rfl) (by kernel_rfl) (by kernel_rfl)
  have tO := Tryz.typeOf24
  have tO6 := Tryz.typeOf46
  have mA := Tryz.methodAssignableTo
  have mU := Tryz.methodUnwrap
  have a24 := Tryz.assignable24
  have a46 := Tryz.assignable46
  have v24 := Tryz.valueOf24
  have htl : t.block < w.heap.size := World.block_lt_of_cell? w _ ht0
  have hal : a.block < w.heap.size := World.block_lt_of_cell? w _ ha
  have hbl : b < w.heap.size := World.block_lt_of_cell? w _ hb
  have el := Tryz.elemV68 a t (w.alloc (.cells #[.pointer (some ⟨2, 167, none⟩), .pointer (some a), .int .u64 150] 183)) (by rw [World.cell?_alloc_lt _ _ a hal]; exact ha)
  have st := Tryz.set24 t ⟨w.heap.size + 1, 0, none⟩ n old ((w.alloc (.cells #[.pointer (some ⟨2, 167, none⟩), .pointer (some a), .int .u64 150] 183)).alloc (.cells #[.int .i64 n] 36))
    (by rw [World.cell?_alloc_at _ _ _ _ (by simp)]; rfl)
    (by rw [World.cell?_alloc_lt _ _ t (by simp; omega), World.cell?_alloc_lt _ _ t htl]; exact ht0)
    (by rw [World.frozen?_alloc_old _ _ t (by simp; omega), World.frozen?_alloc_old _ _ t (Nat.ne_of_lt htl)]; exact hf0)
  go_enter Tryz.func116, Tryz.ntmps116
  go_wp2
  refine wp_loop_rounds 2 ?_
  rw [rounds_succ]
  have ta1 := Tryz.ta91
  have ta2 := Tryz.ta60
  go_wp2_with fail
  refine (unwrap_any b n _ (by rw [World.cell?_alloc_lt _ _ ⟨b, 0, none⟩ hbl]; exact hb)).mono ?_
  rintro _ _ ⟨rfl, rfl⟩
  go_wp2
  rw [rounds_succ]
  go_wp2
  go_ret
  refine ⟨rfl, World.cell?_setCell_same _ _ _ (u := old) (by rw [World.cell?_alloc_lt _ _ t (by simp; omega), World.cell?_alloc_lt _ _ t htl]; exact ht0), ?_⟩
  exact (((Below.refl t.block w).alloc (Nat.le_of_lt htl) _).alloc (by simp; omega) _).setCell (Nat.le_refl _) _
end Go.Proofs.YtndoigopjlkimaaGreatDoor
namespace Go.Proofs.YtndoigopjlkimaaGreatDoor
open Go.RowKit Go.Extern.Stop Go.Stop Go.Extern

set_option maxRecDepth 100000 in
set_option maxHeartbeats 2000000 in
theorem as31_hit  (n : Int) (t : Addr) (old : Value) (w : World) (hg : w.cell? ⟨1, 0, none⟩ = some (.iface 199 (.agg #[.pointer (some ⟨2, 25, none⟩)]))) (ht0 : w.cell? t = some old) (hf0 : w.frozen? t = false) :
    Calls Tryz.prog 98 #[.iface 36 (.int .i64 n), .iface 167 (.pointer (some t))] w fun ev w' => ev = .returned (.bool true) ∧ w'.cell? t = some (.int .i64 n) ∧ Below t.block w w' := by
  have h34 := @run_callFunc_extern Tryz.prog 113 _ (fun args => ReflectliteValue.unpack (args.getD 0 (.tuple #[]))) Tryz.func113 (by kernel_rfl) (by kernel_rfl) (by kernel_rfl) (by kernel_rfl)
  have h35 := @run_callFunc_extern Tryz.prog 114 _ (ReflectliteValue.methodAny (ReflectliteValue.valueError "reflectlite.Value.Type" 0) (fun t _ _ _ => ReflectliteType.toType t)) Tryz.func114 (by kernel_rfl) (by kernel_rfl) (by kernel_rfl) (by kernel_rfl)
  have h36 := @run_callFunc_extern Tryz.prog 115 _ (ReflectliteValue.method (ReflectliteValue.valueError "reflectlite.Value.IsNil" 0) ReflectliteValue.isNil) Tryz.func115 (by kernel_rfl) (by kernel_rfl) (by kernel_rfl) (by kernel_rfl)
  have h55 := @run_callFunc_extern Tryz.prog 142 _ (ReflectliteType.abiMethod fun t => do pure (.int .u8 (← Rtype.kind t))) Tryz.func142 (by kernel_rfl) (by kernel_rfl) (by kernel_rfl) (by kernel_rfl)
  have h67 := @run_callFunc_extern Tryz.prog 157 _ (ReflectliteType.method ReflectliteType.elem) Tryz.func157 (by kernel_rfl) (by kernel_rfl) (by kernel_rfl) (by kernel_rfl)
  have h68 := @run_callFunc_extern Tryz.prog 158 _ (ReflectliteType.relation "Implements" ReflectliteType.implements_) Tryz.func158 (by kernel_rfl) (by kernel_rfl) (by kernel_rfl) (by kernel_rfl)
  have f34 := Tryz.valueOf68
  have f35 := Tryz.type68
  have mK := Tryz.methodKind
  have mE := Tryz.methodElem
  have mI := Tryz.methodImplements
  have k68 := Tryz.kind68
  have k24 := Tryz.kind24
  have e68 := Tryz.elem68
  have i24 := Tryz.implements24
  have htl : t.block < w.heap.size := World.block_lt_of_cell? w _ ht0
  have hlt : 1 < w.heap.size := World.block_lt_of_cell? w _ hg
  have n36 := Tryz.isNil68 ⟨w.heap.size, 0, none⟩ t ((w.alloc (.cells #[.pointer (some t)] 167)).alloc (.cells #[.pointer (some ⟨2, 167, none⟩), .pointer (some ⟨w.heap.size, 0, none⟩), .int .u64 150] 183)) (by simp)
  have hg2 : ((w.alloc (.cells #[.pointer (some t)] 167)).alloc (.cells #[.pointer (some ⟨2, 167, none⟩), .pointer (some ⟨w.heap.size, 0, none⟩), .int .u64 150] 183)).cell? ⟨1, 0, none⟩ = some (.iface 199 (.agg #[.pointer (some ⟨2, 25, none⟩)])) := by
    rw [World.cell?_alloc_lt _ _ ⟨1, 0, none⟩ (by simp; omega), World.cell?_alloc_lt _ _ ⟨1, 0, none⟩ hlt]; exact hg
  go_enter Tryz.func98, Tryz.ntmps98
  go_wp2_with fail
  refine (as37_hit n t ⟨w.heap.size, 0, none⟩ old _
    (by rw [World.cell?_alloc_lt _ _ ⟨w.heap.size, 0, none⟩ (by simp)]; simp)
    (by rw [World.cell?_alloc_lt _ _ t (by simp; omega), World.cell?_alloc_lt _ _ t htl]; exact ht0)
    (by rw [World.frozen?_alloc_old _ _ t (by simp; omega), World.frozen?_alloc_old _ _ t (Nat.ne_of_lt htl)]; exact hf0)).mono ?_
  rintro _ w1 ⟨rfl, hc, hb1⟩
  go_wp2
  go_ret
  exact ⟨rfl, hc, (((Below.refl t.block w).alloc (Nat.le_of_lt htl) _).alloc (by simp; omega) _).trans hb1⟩

set_option maxRecDepth 100000 in
set_option maxHeartbeats 2000000 in
theorem as31_at (b : Nat) (n : Int) (t : Addr) (old : Value) (w : World) (hg : w.cell? ⟨1, 0, none⟩ = some (.iface 199 (.agg #[.pointer (some ⟨2, 25, none⟩)]))) (ht0 : w.cell? t = some old) (hf0 : w.frozen? t = false) (hb : w.cell? ⟨b, 0, none⟩ = some (.int .i64 n)) :
    Calls Tryz.prog 98 #[.iface 146 (.pointer (some ⟨b, 0, none⟩)), .iface 167 (.pointer (some t))] w fun ev w' => ev = .returned (.bool true) ∧ w'.cell? t = some (.int .i64 n) ∧ Below t.block w w' := by
  have h34 := @run_callFunc_extern Tryz.prog 113 _ (fun args => ReflectliteValue.unpack (args.getD 0 (.tuple #[]))) Tryz.func113 (by kernel_rfl) (by kernel_rfl) (by kernel_rfl) (by kernel_rfl)
  have h35 := @run_callFunc_extern Tryz.prog 114 _ (ReflectliteValue.methodAny (ReflectliteValue.valueError "reflectlite.Value.Type" 0) (fun t _ _ _ => ReflectliteType.toType t)) Tryz.func114 (by kernel_rfl) (by kernel_rfl) (by kernel_rfl) (by kernel_rfl)
  have h36 := @run_callFunc_extern Tryz.prog 115 _ (ReflectliteValue.method (ReflectliteValue.valueError "reflectlite.Value.IsNil" 0) ReflectliteValue.isNil) Tryz.func115 (by kernel_rfl) (by kernel_rfl) (by kernel_rfl) (by kernel_rfl)
  have h55 := @run_callFunc_extern Tryz.prog 142 _ (ReflectliteType.abiMethod fun t => do pure (.int .u8 (← Rtype.kind t))) Tryz.func142 (by kernel_rfl) (by kernel_rfl) (by kernel_rfl) (by kernel_rfl)
  have h67 := @run_callFunc_extern Tryz.prog 157 _ (ReflectliteType.method ReflectliteType.elem) Tryz.func157 (by kernel_rfl) (by kernel_rfl) (by kernel_rfl) (by kernel_rfl)
  have h68 := @run_callFunc_extern Tryz.prog 158 _ (ReflectliteType.relation "Implements" ReflectliteType.implements_) Tryz.func158 (by kernel_rfl) (by kernel_rfl) (by kernel_rfl) (by kernel_rfl)
  have f34 := Tryz.valueOf68
  have f35 := Tryz.type68
  have mK := Tryz.methodKind
  have mE := Tryz.methodElem
  have mI := Tryz.methodImplements
  have k68 := Tryz.kind68
  have k24 := Tryz.kind24
  have e68 := Tryz.elem68
  have i24 := Tryz.implements24
  have htl : t.block < w.heap.size := World.block_lt_of_cell? w _ ht0
  have hlt : 1 < w.heap.size := World.block_lt_of_cell? w _ hg
  have hbl : b < w.heap.size := World.block_lt_of_cell? w _ hb
  have n36 := Tryz.isNil68 ⟨w.heap.size, 0, none⟩ t ((w.alloc (.cells #[.pointer (some t)] 167)).alloc (.cells #[.pointer (some ⟨2, 167, none⟩), .pointer (some ⟨w.heap.size, 0, none⟩), .int .u64 150] 183)) (by simp)
  have hg2 : ((w.alloc (.cells #[.pointer (some t)] 167)).alloc (.cells #[.pointer (some ⟨2, 167, none⟩), .pointer (some ⟨w.heap.size, 0, none⟩), .int .u64 150] 183)).cell? ⟨1, 0, none⟩ = some (.iface 199 (.agg #[.pointer (some ⟨2, 25, none⟩)])) := by
    rw [World.cell?_alloc_lt _ _ ⟨1, 0, none⟩ (by simp; omega), World.cell?_alloc_lt _ _ ⟨1, 0, none⟩ hlt]; exact hg
  go_enter Tryz.func98, Tryz.ntmps98
  go_wp2_with fail
  refine (as37_at b n t ⟨w.heap.size, 0, none⟩ old _
    (by rw [World.cell?_alloc_lt _ _ ⟨w.heap.size, 0, none⟩ (by simp)]; simp)
    (by rw [World.cell?_alloc_lt _ _ t (by simp; omega), World.cell?_alloc_lt _ _ t htl]; exact ht0)
    (by rw [World.frozen?_alloc_old _ _ t (by simp; omega), World.frozen?_alloc_old _ _ t (Nat.ne_of_lt htl)]; exact hf0)
    (by rw [World.cell?_alloc_lt _ _ ⟨b, 0, none⟩ (by simp; omega), World.cell?_alloc_lt _ _ ⟨b, 0, none⟩ hbl]; exact hb)).mono ?_
  rintro _ w1 ⟨rfl, hc, hb1⟩
  go_wp2
  go_ret
  exact ⟨rfl, hc, (((Below.refl t.block w).alloc (Nat.le_of_lt htl) _).alloc (by simp; omega) _).trans hb1⟩
end Go.Proofs.YtndoigopjlkimaaGreatDoor
namespace Go.Proofs.YtndoigopjlkimaaGreatDoor
open Go.RowKit Go.Extern.Stop Go.Stop Go.Extern

def HG (w : World) : Prop := w.cell? ⟨1, 0, none⟩ = some (.iface 199 (.agg #[.pointer (some ⟨2, 25, none⟩)]))
theorem HG.lt {w : World} (h : HG w) : 1 < w.heap.size := World.block_lt_of_cell? w _ h
theorem HG.below {w w' : World} {B : Nat} (h : HG w) (hb : Below B w w') (hB : 1 < B) : HG w' := (hb.cell (p := ⟨1, 0, none⟩) hB).trans h

theorem tell_nil (w : World) : Calls Tryz.prog 81 #[.nilIface] w fun e w' => e = .returned (.int .i64 0) ∧ w' = w := by
  go_enter Tryz.func81, Tryz.ntmps81
  go_wp2
  go_ret
  exact ⟨rfl, rfl⟩

set_option maxRecDepth 100000 in
set_option maxHeartbeats 1000000 in
theorem tell_hit (n : Int) (w : World) (hg : HG w) : Calls Tryz.prog 81 #[.iface 36 (.int .i64 n)] w fun e w' => e = .returned (.int .i64 n) ∧ Below w.heap.size w w' := by
  have hg2 : (w.alloc (.cells #[.int .i64 0] 36)).cell? ⟨1, 0, none⟩ = some (.iface 199 (.agg #[.pointer (some ⟨2, 25, none⟩)])) := by
    rw [World.cell?_alloc_lt _ _ ⟨1, 0, none⟩ hg.lt]; exact hg
  have HGH : Hid _ := hg2
  clear hg2 hg
  go_enter Tryz.func81, Tryz.ntmps81
  go_wp2_with fail
  refine (as31_hit n ⟨w.heap.size, 0, none⟩ (.int .i64 0) _ HGH.out (by simp) (by simp)).mono ?_
  rintro _ w1 ⟨rfl, hc, hb1⟩
  have hb : Below w.heap.size w w1 := ((Below.refl _ w).alloc (Nat.le_refl _) _).trans hb1
  clear hb1
  go_wp2
  go_ret
  exact ⟨rfl, hb⟩

set_option maxRecDepth 100000 in
set_option maxHeartbeats 1000000 in
theorem tell_at (b : Nat) (n : Int) (w : World) (hg : HG w) (hb : w.cell? ⟨b, 0, none⟩ = some (.int .i64 n)) : Calls Tryz.prog 81 #[.iface 146 (.pointer (some ⟨b, 0, none⟩))] w fun e w' => e = .returned (.int .i64 n) ∧ Below w.heap.size w w' := by
  have hg2 : (w.alloc (.cells #[.int .i64 0] 36)).cell? ⟨1, 0, none⟩ = some (.iface 199 (.agg #[.pointer (some ⟨2, 25, none⟩)])) := by
    rw [World.cell?_alloc_lt _ _ ⟨1, 0, none⟩ hg.lt]; exact hg
  have hb2 : (w.alloc (.cells #[.int .i64 0] 36)).cell? ⟨b, 0, none⟩ = some (.int .i64 n) := by
    rw [World.cell?_alloc_lt _ _ ⟨b, 0, none⟩ (World.block_lt_of_cell? w _ hb)]; exact hb
  have HGH : Hid _ := hg2
  have HB : Hid _ := hb2
  clear hg2 hg hb2 hb
  go_enter Tryz.func81, Tryz.ntmps81
  go_wp2_with fail
  refine (as31_at b n ⟨w.heap.size, 0, none⟩ (.int .i64 0) _ HGH.out (by simp) (by simp) HB.out).mono ?_
  rintro _ w1 ⟨rfl, hc, hb1⟩
  have hb : Below w.heap.size w w1 := ((Below.refl _ w).alloc (Nat.le_refl _) _).trans hb1
  clear hb1
  go_wp2
  go_ret
  exact ⟨rfl, hb⟩

theorem Tryz.ta46n (n : Int) (w : World) : (Instr.typeAssert (.iface 36 (.int .i64 n)) 25 146 true).run Tryz.prog w = .ok (.tuple #[.pointer none, .bool false]) w := by kernel_rfl
theorem Tryz.ta60n (n : Int) (w : World) : (Instr.typeAssert (.iface 36 (.int .i64 n)) 25 149 true).run Tryz.prog w = .ok (.tuple #[.nilIface, .bool false]) w := run_typeAssert_lacksB Tryz.underlying149 (by kernel_rfl) (by kernel_rfl) _ _ w
theorem Tryz.ta46y (b : Nat) (w : World) : (Instr.typeAssert (.iface 146 (.pointer (some ⟨b, 0, none⟩))) 25 146 true).run Tryz.prog w = .ok (.tuple #[.pointer (some ⟨b, 0, none⟩), .bool true]) w := by kernel_rfl

set_option maxHeartbeats 1000000 in
theorem place_nil (w : World) : Calls Tryz.prog 47 #[.nilIface] w fun e w' => e = .returned (.tuple #[.int .i64 0, .int .i64 (-1)]) ∧ Below w.heap.size w w' := by
  go_enter Tryz.func47, Tryz.ntmps47
  go_wp2_with (go_at_call 81; refine (tell_nil _).mono ?_; rintro _ _ ⟨rfl, rfl⟩)
  refine wp_loop_rounds 1 ?_
  rw [rounds_succ]
  go_wp2
  go_ret2
  exact ⟨rfl, Below.refl _ _⟩

set_option maxRecDepth 100000 in
set_option maxHeartbeats 1000000 in
theorem place_errno (n : Int) (w : World) (hg : HG w) : Calls Tryz.prog 47 #[.iface 36 (.int .i64 n)] w fun e w' => e = .returned (.tuple #[.int .i64 n, .int .i64 (-1)]) ∧ Below w.heap.size w w' := by
  have t1 := Tryz.ta46n
  have t2 := Tryz.ta60n
  go_enter Tryz.func47, Tryz.ntmps47
  go_wp2_with fail
  refine (tell_hit n _ hg).mono ?_
  rintro _ w1 ⟨rfl, hb⟩
  go_wp2
  refine wp_loop_rounds 1 ?_
  rw [rounds_succ]
  go_wp2
  go_ret2
  exact ⟨rfl, hb⟩

set_option maxRecDepth 100000 in
set_option maxHeartbeats 1000000 in
theorem place_at (b : Nat) (n j : Int) (w : World) (hg : HG w) (h0 : w.cell? ⟨b, 0, none⟩ = some (.int .i64 n)) (h1 : w.cell? ⟨b, 1, none⟩ = some (.int .i64 j)) :
    Calls Tryz.prog 47 #[.iface 146 (.pointer (some ⟨b, 0, none⟩))] w fun e w' => e = .returned (.tuple #[.int .i64 n, .int .i64 j]) ∧ Below w.heap.size w w' := by
  have t1 := Tryz.ta46y
  have hbl : b < w.heap.size := World.block_lt_of_cell? w _ h0
  go_enter Tryz.func47, Tryz.ntmps47
  go_wp2_with fail
  refine (tell_at b n _ hg h0).mono ?_
  rintro _ w1 ⟨rfl, hb⟩
  have k1 : w1.cell? ⟨b, 1, none⟩ = some (.int .i64 j) := (hb.cell (p := ⟨b, 1, none⟩) hbl).trans h1
  go_wp2
  refine wp_loop_rounds 1 ?_
  rw [rounds_succ]
  go_wp2_with fail
  go_region
  go_wp2
  go_ret2
  exact ⟨rfl, hb.drew⟩
end Go.Proofs.YtndoigopjlkimaaGreatDoor
namespace Go.Proofs.YtndoigopjlkimaaGreatDoor
open Go.RowKit

/-- an error is this one, and there -/
def ErrIs (E : Value) (n j : Int) (w : World) : Prop :=
  (E = .nilIface ∧ n = 0 ∧ j = -1) ∨ (∃ b, E = .iface 146 (.pointer (some ⟨b, 0, none⟩)) ∧ w.cell? ⟨b, 0, none⟩ = some (.int .i64 n) ∧ w.cell? ⟨b, 1, none⟩ = some (.int .i64 j)) ∨ (E = .iface 36 (.int .i64 n) ∧ j = -1)

theorem ErrIs.below {E : Value} {n j : Int} {w w' : World} (h : ErrIs E n j w) (hb : Below w.heap.size w w') : ErrIs E n j w' := by
  rcases h with h | ⟨b, h1, h2, h3⟩ | h
  · exact .inl h
  · have hlt := World.block_lt_of_cell? w _ h2
    exact .inr (.inl ⟨b, h1, (hb.cell (p := ⟨b, 0, none⟩) hlt).trans h2, (hb.cell (p := ⟨b, 1, none⟩) hlt).trans h3⟩)
  · exact .inr (.inr h)

theorem placeE_any (E : Value) (n j : Int) (w : World) (hg : HG w) (h : ErrIs E n j w) : Calls Tryz.prog 47 #[E] w fun e w' => e = .returned (.tuple #[.int .i64 n, .int .i64 j]) ∧ Below w.heap.size w w' := by
  rcases h with ⟨rfl, rfl, rfl⟩ | ⟨b, rfl, h2, h3⟩ | ⟨rfl, rfl⟩
  · exact place_nil w
  · exact place_at b n j w hg h2 h3
  · exact place_errno n w hg

set_option maxRecDepth 100000 in
set_option maxHeartbeats 1000000 in
theorem is_any (E : Value) (n j : Int) (w : World) (hg : HG w) (h : ErrIs E n j w) : Calls Tryz.prog 23 #[E, .agg #[.int .i64 n, .int .i64 j]] w fun e w' => e = .returned (.bool true) ∧ Below w.heap.size w w' := by
  have hb0 : Below w.heap.size w (w.alloc (.cells #[.int .i64 n, .int .i64 j] 79)) := (Below.refl _ w).alloc (Nat.le_refl _) _
  have hg2 := hg.below hb0 hg.lt
  have h2 := h.below hb0
  have HH : Hid _ := h2
  clear h h2
  go_enter Tryz.func23, Tryz.ntmps23
  go_wp2_with fail
  refine (placeE_any E n j _ hg2 HH.out).mono ?_
  rintro _ w1 ⟨rfl, hb1⟩
  have q0 := hb1.cell (p := ⟨w.heap.size, 0, none⟩) (by simp)
  have q1 := hb1.cell (p := ⟨w.heap.size, 1, none⟩) (by simp)
  simp at q0 q1
  have hb2 := hb0.trans (hb1.mono (by simp))
  clear hb1 hb0 HH hg2
  go_wp2
  go_ret
  exact ⟨rfl, hb2⟩

theorem refBare_any (n : Int) (w : World) : Calls Tryz.prog 24 #[.int .i64 n] w fun e w' => e = .returned (.agg #[.int .i64 n, .int .i64 (-1)]) ∧ Below w.heap.size w w' := by
  go_enter Tryz.func24, Tryz.ntmps24
  go_wp2
  exact bodyPost_ret (v := .agg #[.int .i64 n, .int .i64 (-1)]) (by simp [results, Tryz.results24, go_sem]) rfl ⟨rfl, (Below.refl _ _).alloc (Nat.le_refl _) _⟩

set_option maxRecDepth 100000 in
set_option maxHeartbeats 1000000 in
theorem bare_any (E : Value) (n : Int) (w : World) (hg : HG w) (h : ErrIs E n (-1) w) : Calls Tryz.prog 6 #[E, .int .i64 n] w fun e w' => e = .returned (.bool true) ∧ Below w.heap.size w w' := by
  have HH : Hid (ErrIs E n (-1) w) := h
  clear h
  go_enter Tryz.func6, Tryz.ntmps6
  go_wp2_with fail
  refine (refBare_any n _).mono ?_
  rintro _ w1 ⟨rfl, hb1⟩
  have hs1 := hb1.size
  go_wp2_with fail
  refine (is_any E n (-1) _ (hg.below hb1 hg.lt) (ErrIs.below HH.out hb1)).mono ?_
  rintro _ w2 ⟨rfl, hb2⟩
  have hb3 := hb1.trans (hb2.mono hs1)
  clear hb1 hb2 HH
  go_wp2
  go_ret
  exact ⟨rfl, hb3⟩
end Go.Proofs.YtndoigopjlkimaaGreatDoor
namespace Go.Proofs.YtndoigopjlkimaaGreatDoor
open Go.RowKit Go.Maps

structure Pt (bt bp bd bm N r : Nat) (up : Nat → Bool) (V : Pst) (T : Tr) (w0 w : World) : Prop where
  t : Tt bt bp r w
  tw : Tw bp bd bm N sd0 up 1 V w
  a : TrAt V r T
  so : Sole V T
  b0 : Below w0.heap.size w0 w
  lp : w0.heap.size ≤ bp
  lm : w0.heap.size ≤ bm
  ne : bt ≠ bp ∧ bt ≠ bm
section
variable {bt bp bd bm N r : Nat} {up : Nat → Bool} {V : Pst} {T : Tr} {w0 w w' : World}
theorem Pt.count (h : Pt bt bp bd bm N r up V T w0 w) : countU V.used 2000 ≤ 60 := by
  rw [h.so.count h.a]; exact h.a.pages_le
theorem Pt.below (h : Pt bt bp bd bm N r up V T w0 w) (hb : Below w.heap.size w w') : Pt bt bp bd bm N r up V T w0 w' :=
  ⟨h.t.below hb, h.tw.below hb, h.a, h.so, h.b0.trans (hb.mono h.b0.size), h.lp, h.lm, h.ne⟩
theorem Pt.drew (h : Pt bt bp bd bm N r up V T w0 w) : Pt bt bp bd bm N r up V T w0 w.drew := h.below (Below.refl _ w).drew
theorem Pt.mono {N' : Nat} (h : Pt bt bp bd bm N r up V T w0 w) (hN : N ≤ N') : Pt bt bp bd bm N' r up V T w0 w := ⟨h.t, h.tw.mono hN, h.a, h.so, h.b0, h.lp, h.lm, h.ne⟩
theorem Pt.lay {V' : Pst} {N' : Nat} {T' : Tr} (h : Pt bt bp bd bm N r up V T w0 w) (h1 : LayR V V' r T T') (h2 : Tw bp bd bm N' sd0 up 1 V' w') (h4 : Only (fun b => b = bp ∨ b = bm) w w') : Pt bt bp bd bm N' r up V' T' w0 w' :=
  ⟨h.t.only h4 (fun e => by rcases e with e | e; exact h.ne.1 e; exact h.ne.2 e), h2, h1.at_, h.so.lay h1, Only.below h.b0 h4 h.b0.size (fun i hi => by rcases hi with hi | hi; rw [hi]; exact h.lp; rw [hi]; exact h.lm), h.lp, h.lm, h.ne⟩
theorem Pt.far {m : Nat} (h : Pt bt bp bd bm N r up V T w0 w) (ho : Only (fun b => b = m) w w') (h1 : bt ≠ m) (h2 : bp ≠ m) (h3 : bm ≠ m) (h4 : bd ≠ m) (h5 : w0.heap.size ≤ m) : Pt bt bp bd bm N r up V T w0 w' :=
  ⟨h.t.only ho h1, h.tw.only ho h2 h3 h4, h.a, h.so, Only.below h.b0 ho h.b0.size (fun i hi => by rw [hi]; exact h5), h.lp, h.lm, h.ne⟩
theorem Pt.sorted (h : Pt bt bp bd bm N r up V T w0 w) : T.all.Pairwise (fun a b => bl a.k b.k = true) := h.a.ok.sorted
theorem Pt.oks (h : Pt bt bp bd bm N r up V T w0 w) : ∀ x ∈ T.all, x.Ok := fun x hx => by
  obtain ⟨L, hL, hx⟩ := List.mem_flatten.1 hx
  exact h.a.ok.ok L hL x hx
theorem Pt.sum (h : Pt bt bp bd bm N r up V T w0 w) : szL T.all ≤ 30000 := h.a.ok.sum
theorem Pt.len (h : Pt bt bp bd bm N r up V T w0 w) : T.all.length ≤ 30000 := by have := len_szL T.all; have := h.sum; omega
end
/-- where the document's lies -/
structure Sp (bt bp bd bm bw m : Nat) (w0 : World) : Prop where
  w1 : bw ≠ bp
  w2 : bw ≠ bm
  m1 : bt ≠ m
  m2 : bp ≠ m
  m3 : bm ≠ m
  m4 : bd ≠ m
  low : w0.heap.size ≤ m
/-- both -/
structure Bo (bt bp bd bm N r : Nat) (up : Nat → Bool) (V : Pst) (T : Tr) (bw m n : Nat) (w0 w : World) : Prop where
  pt : Pt bt bp bd bm N r up V T w0 w
  doc : Doc bw m n T.all w
  sp : Sp bt bp bd bm bw m w0
  hg : HG w0
theorem Doc.same {bw m n : Nat} {l l' : List Pr} {w : World} (h : Doc bw m n l w) (hl : ∀ y, y ∈ l ↔ y ∈ l') : Doc bw m n l' w := by
  obtain ⟨c, D, hD, hB⟩ := h
  exact ⟨c, D, hD, hB.isMap, fun k => (hB.has k).trans ⟨fun ⟨x, hx, e⟩ => ⟨x, (hl x).1 hx, e⟩, fun ⟨x, hx, e⟩ => ⟨x, (hl x).2 hx, e⟩⟩, fun x hx => hB.elem x ((hl x).2 hx)⟩
/-- an answer of the program, and the document's -/
def EK (E : Value) (k : Int) : Prop := (E = .nilIface ∧ k = 0) ∨ E = .iface 36 (.int .i64 k)
theorem EK.err {E : Value} {k : Int} (h : EK E k) (w : World) : ErrIs E k (-1) w := by
  rcases h with ⟨h1, h2⟩ | h
  · exact .inl ⟨h1, h2, rfl⟩
  · exact .inr (.inr ⟨h, rfl⟩)
section
variable {bt bp bd bm N r : Nat} {up : Nat → Bool} {V : Pst} {T : Tr} {bw m n : Nat} {w0 w w' : World}
theorem Bo.below (h : Bo bt bp bd bm N r up V T bw m n w0 w) (hb : Below w.heap.size w w') : Bo bt bp bd bm N r up V T bw m n w0 w' := ⟨h.pt.below hb, h.doc.below hb, h.sp, h.hg⟩
theorem Bo.drew (h : Bo bt bp bd bm N r up V T bw m n w0 w) : Bo bt bp bd bm N r up V T bw m n w0 w.drew := h.below (Below.refl _ w).drew
theorem Bo.hgw (h : Bo bt bp bd bm N r up V T bw m n w0 w) : HG w := h.hg.below h.pt.b0 h.hg.lt
theorem bare_bo {T' : Tr} {V' : Pst} {N' n' : Nat} {E : Value} {k : Int} (h : Bo bt bp bd bm N' r up V' T' bw m n' w0 w) (he : EK E k) : Calls Tryz.prog 6 #[E, .int .i64 k] w fun e w' => e = .returned (.bool true) ∧ Below w.heap.size w w' :=
  bare_any E k w h.hgw (he.err w)
/-- what the document's Put comes to -/
def Pend (T T' : Tr) (key item : ByteArray) (k : Int) : Prop :=
  (¬ (1 ≤ key.size ∧ key.size ≤ 60 ∧ item.size ≤ 100) ∧ k = 1 ∧ T' = T) ∨
  (Pr.Ok ⟨key, item⟩ ∧ ∃ A mid C, ChgR T key A mid C ∧ ((30000 < szL (A ++ [⟨key, item⟩] ++ C) ∧ k = 12 ∧ T' = T) ∨ (szL (A ++ [⟨key, item⟩] ++ C) ≤ 30000 ∧ k = 0 ∧ T'.all = A ++ [⟨key, item⟩] ++ C)))
/-- behind the program's Put -/
def Puts (bt bp bd bm N r : Nat) (up : Nat → Bool) (T : Tr) (key item : ByteArray) (bw m n : Nat) (w0 w : World) (e : Ending) (w' : World) : Prop :=
  ∃ E k V' N' T', e = .returned E ∧ EK E k ∧ Pend T T' key item k ∧ N' ≤ N + 40 ∧ Pt bt bp bd bm N' r up V' T' w0 w' ∧ Doc bw m n T.all w' ∧ Only (fun b => b = bp ∨ b = bm) w w'
theorem bo_put (h : Bo bt bp bd bm N r up V T bw m n w0 w) (key item : ByteArray) (hN : N + 60 < 1000000) :
    Calls Tryz.prog 9 #[.pointer (some ⟨bt, 0, none⟩), .string key, .string item] w fun e w' => Puts bt bp bd bm N r up T key item bw m n w0 w e w' := by
  by_cases hx : 1 ≤ key.size ∧ key.size ≤ 60 ∧ item.size ≤ 100
  · have hc := h.pt.count
    refine (put_any h.pt.t h.pt.tw h.pt.ne h.pt.a ⟨key, item⟩ hx (by omega) hN).mono ?_
    rintro e w' ⟨A, mid, C, hr, hg⟩
    rcases hg with ⟨hbig, rfl, hb⟩ | ⟨hsm, rfl, V', N', T', h3, h4, h5, h6, h7⟩
    · exact ⟨_, 12, V, N, T, rfl, .inr rfl, .inr ⟨hx, A, mid, C, hr, .inl ⟨hbig, rfl, rfl⟩⟩, by omega, h.pt.below hb, h.doc.below hb, below_only hb _⟩
    · exact ⟨_, 0, V', N', T', rfl, .inl ⟨rfl, rfl⟩, .inr ⟨hx, A, mid, C, hr, .inr ⟨hsm, rfl, h3⟩⟩, h6, h.pt.lay h4 h5 h7, h.doc.only h7 (fun e => by rcases e with e | e; exact h.sp.w1 e; exact h.sp.w2 e) (fun e => by rcases e with e | e; exact h.sp.m2 e.symm; exact h.sp.m3 e.symm), h7⟩
  · refine (put_bad key item hx _).mono ?_
    rintro e w' ⟨rfl, rfl⟩
    exact ⟨_, 1, V, N, T, rfl, .inr rfl, .inl ⟨hx, rfl, rfl⟩, by omega, h.pt, h.doc, Only.refl _ _⟩
theorem doc_put {T' : Tr} {k : Int} {key item : ByteArray} (hp : Pend T T' key item k) (hs : T.all.Pairwise (fun a b => bl a.k b.k = true)) (hok : ∀ x ∈ T.all, x.Ok) (hsum : szL T.all ≤ 30000) (hD : Doc bw m n T.all w) (hn : n + 10 < 1000000) :
    Calls Tryz.prog 10 #[.pointer (some ⟨bw, 0, none⟩), .string key, .string item] w fun e w' => e = .returned (.int .i64 k) ∧ Doc bw m (n + 3) T'.all w' ∧ Only (fun b => b = m) w w' := by
  rcases hp with ⟨hx, rfl, rfl⟩ | ⟨hx, A, mid, C, hc, hr⟩
  · refine (putD_bad key item hx).mono ?_
    rintro e w' ⟨rfl, rfl⟩
    exact ⟨rfl, hD.mono (by omega), Only.refl _ _⟩
  · have hD' : Doc bw m n (A ++ mid ++ C) w := by rw [← hc.all]; exact hD
    refine (putD_any (x := ⟨key, item⟩) hc hs hok hsum hx hn hD').mono ?_
    rintro e w' ⟨ho, h2⟩
    rcases hr with ⟨hbig, rfl, rfl⟩ | ⟨hsm, rfl, h3⟩
    · rcases h2 with ⟨_, rfl, hd⟩ | ⟨hn2, _, _⟩
      · exact ⟨rfl, by rw [hc.all]; exact hd, ho⟩
      · omega
    · rcases h2 with ⟨hn2, _, _⟩ | ⟨_, rfl, hd⟩
      · omega
      · exact ⟨rfl, by rw [h3]; exact hd, ho⟩
/-- behind both Puts -/
theorem bo_both {T' : Tr} {V' : Pst} {N' n' : Nat} (h : Bo bt bp bd bm N r up V T bw m n w0 w) {w1 w2 : World} (hp : Pt bt bp bd bm N' r up V' T' w0 w1) (hd : Doc bw m n' T'.all w2) (ho : Only (fun b => b = m) w1 w2) : Bo bt bp bd bm N' r up V' T' bw m n' w0 w2 :=
  ⟨hp.far ho h.sp.m1 h.sp.m2 h.sp.m3 h.sp.m4 h.sp.low, hd, h.sp, h.hg⟩
/-- behind the program's Drop, where the document's has gone already -/
def gone (T : Tr) (key : ByteArray) : List Pr := T.all.filter (fun x => decide (x.k ≠ key))
theorem pt_drop (h : Pt bt bp bd bm N r up V T w0 w) (key : ByteArray) (hN : N + 60 < 1000000) :
    Calls Tryz.prog 11 #[.pointer (some ⟨bt, 0, none⟩), .string key] w fun e w' => ∃ E V' N' T', e = .returned E ∧ EK E (if ∃ x ∈ T.all, x.k = key then 0 else 7) ∧ N' ≤ N + 40 ∧ Pt bt bp bd bm N' r up V' T' w0 w' ∧ (∀ y, y ∈ T'.all ↔ y ∈ T.all ∧ y.k ≠ key) ∧ Only (fun b => b = bp ∨ b = bm) w w' := by
  have hc := h.count
  refine (drop_any h.t h.tw h.ne h.a key (by omega) hN).mono ?_
  rintro e w' (⟨hno, rfl, hb⟩ | ⟨A, y, C, ha, hk, hg⟩)
  · refine ⟨_, V, N, T, rfl, ?_, by omega, h.below hb, fun y => ⟨fun hy => ⟨hy, hno y hy⟩, fun hy => hy.1⟩, below_only hb _⟩
    rw [if_neg (fun ⟨x, hx, e⟩ => hno x hx e)]
    exact .inr rfl
  · have hsrt := h.sorted
    rw [ha] at hsrt
    rcases hg with ⟨hbig, _⟩ | ⟨_, rfl, V', N', T', h3, h4, h5, h6, h7⟩
    · have hsm := h.sum
      rw [ha] at hsm
      rw [szL_append, szL_append] at hsm hbig
      simp only [szL] at hbig
      omega
    · refine ⟨_, V', N', T', rfl, ?_, h6, h.lay h4 h5 h7, fun z => ?_, h7⟩
      · rw [if_pos ⟨y, by rw [ha]; simp, hk⟩]
        exact .inl ⟨rfl, rfl⟩
      · rw [h3, ha]
        rw [List.pairwise_append, List.pairwise_append] at hsrt
        obtain ⟨⟨_, _, p1⟩, _, p2⟩ := hsrt
        simp only [List.mem_append, List.mem_singleton, List.not_mem_nil, or_false]
        constructor
        · rintro (hz | hz)
          · exact ⟨.inl (.inl hz), by rw [← hk]; exact bl_ne (p1 z hz y (by simp))⟩
          · exact ⟨.inr hz, by rw [← hk]; exact fun e => bl_ne (p2 y (by simp) z hz) e.symm⟩
        · rintro ⟨(hz | hz) | hz, hne⟩
          · exact .inl hz
          · rw [hz] at hne; exact absurd hk hne
          · exact .inr hz
theorem pt_clear (h : Pt bt bp bd bm N r up V T w0 w) (hN : N + 60 < 1000000) :
    Calls Tryz.prog 12 #[.pointer (some ⟨bt, 0, none⟩)] w fun e w' => ∃ V' N' T', e = .returned .nilIface ∧ N' ≤ N + 40 ∧ Pt bt bp bd bm N' r up V' T' w0 w' ∧ T'.all = [] ∧ Only (fun b => b = bp ∨ b = bm) w w' := by
  have hc := h.count
  refine (clear_any h.t h.tw h.ne h.a (by omega) hN).mono ?_
  rintro e w' ⟨rfl, V', N', T', h1, h2, h3, h4, h5⟩
  exact ⟨V', N', T', rfl, h4, h.lay h2 h3 h5, by unfold Tr.all; rw [h1]; rfl, h5⟩
end
end Go.Proofs.YtndoigopjlkimaaGreatDoor
