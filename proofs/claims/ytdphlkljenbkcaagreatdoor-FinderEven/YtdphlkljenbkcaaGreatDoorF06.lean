/- Texts of the proof of FinderEven: Tmc, Tmw, Tmt, Thp, Tfm, Tlm, Tc1, Twc, Tcp, Tll, Tcl. -/
import Derived.Test.YtdphlkljenbkcaaGreatDoorF05
namespace Go.Proofs.YtdphlkljenbkcaaGreatDoor

theorem leafB_append (a b : List Pr) : leafB (a ++ b) = leafB a ++ leafB b := by
  apply ByteArray.ext
  rw [ByteArray.data_append]
  unfold leafB
  rw [encL_append]
  simp
theorem joinStep_map (l : List (List Pr)) (s : List Pr) : joinStep (l.map leafB) (leafB s) = (mstep l s).map leafB := by
  rcases snoc_cases l with rfl | ⟨l', x, rfl⟩
  · rfl
  · rw [mstep_snoc]
    unfold joinStep
    rw [List.map_append, List.map_singleton, List.getLast?_append]
    simp only [List.getLast?_singleton, Option.some_or, leafB_size]
    split
    · rw [List.dropLast_concat, List.map_append, List.map_singleton, leafB_append]
    · simp
theorem joinL_map (M : List (List Pr)) : joinL (M.map leafB) = (mjoin M).map leafB := by
  have : ∀ (M l : List (List Pr)), (M.map leafB).foldl joinStep (l.map leafB) = (M.foldl mstep l).map leafB := by
    intro M
    induction M with
    | nil => exact fun _ => rfl
    | cons a r ih => intro l; rw [List.map_cons, List.foldl_cons, List.foldl_cons, joinStep_map, ih]
  exact this M []
/-- what stands ahead of a spot, and behind it -/
structure Cut (T : Tr) (key : ByteArray) (l a b : Nat) (L : List Pr) (j k : Nat) : Prop where
  at_ : T.Ls[l]? = some L
  jk : (k = j ∧ b = a) ∨ (k = j + 1 ∧ a < b)
  le : k ≤ L.length
  from_ : a = szL (L.take j)
  to_ : b = szL (L.take k)
  less : ∀ x ∈ (T.Ls.take l).flatten ++ L.take j, bl x.k key = true
  more : ∀ x ∈ L.drop k ++ (T.Ls.drop (l + 1)).flatten, bl key x.k = true
theorem SpotIn.cut {T : Tr} {key txt : ByteArray} {l a b : Nat} (h : SpotIn T key l txt a b) (ok : LsOk T.Ls) : ∃ L j k, txt = leafB L ∧ Cut T key l a b L j k := by
  obtain ⟨j, hf⟩ := h.find
  have hlt := h.lt
  have hrow := ok.row (List.getElem_mem hlt)
  have less : ∀ x ∈ (T.Ls.take l).flatten ++ T.Ls[l].take j, bl x.k key = true := by
    intro x hx
    rcases List.mem_append.1 hx with hx | hx
    · obtain ⟨L, hL, hxL⟩ := List.mem_flatten.1 hx
      obtain ⟨i, hi, rfl⟩ := List.mem_take_iff_getElem.1 hL
      obtain ⟨y, hy, hyk⟩ := ok.first_mem hlt
      have h1 := ok.apart (show i < l by omega) hlt hxL hy
      have h2 := h.left l (by omega) (Nat.le_refl _) hlt
      rw [hyk] at h1
      rcases bl_tri (firstK T.Ls[l]) key with e | e | e
      · exact bl_trans h1 e
      · rw [← e]; exact h1
      · rw [e] at h2; cases h2
    · obtain ⟨i, hi, rfl⟩ := List.mem_take_iff_getElem.1 hx
      exact hf.less i (by omega)
  have far : ∀ x ∈ (T.Ls.drop (l + 1)).flatten, bl key x.k = true := by
    intro x hx
    obtain ⟨L, hL, hxL⟩ := List.mem_flatten.1 hx
    obtain ⟨i, hi, rfl⟩ := List.getElem_of_mem hL
    rw [List.length_drop] at hi
    rw [List.getElem_drop] at hxL
    have h2 := h.right (l + 1 + i) (by omega) (by omega)
    rcases first_le (ok.row (List.getElem_mem (show l + 1 + i < T.Ls.length by omega))) hxL with e | e
    · rw [← e]; exact h2
    · exact bl_trans h2 e
  rcases hf.to_ with ⟨hb, hn⟩ | ⟨hj, he, _, hb⟩
  · refine ⟨T.Ls[l], j, j, h.txt, List.getElem?_eq_getElem hlt, .inl ⟨rfl, hb⟩, hf.le, hf.from_, by rw [hb]; exact hf.from_, less, fun x hx => ?_⟩
    rcases List.mem_append.1 hx with hx | hx
    · obtain ⟨i, hi, rfl⟩ := List.getElem_of_mem hx
      rw [List.length_drop] at hi
      rw [List.getElem_drop]
      obtain ⟨n1, n2⟩ := hn (by omega)
      have h3 : bl key (T.Ls[l][j]'(by omega)).k = true := by
        rcases bl_tri (T.Ls[l][j]'(by omega)).k key with e | e | e
        · rw [e] at n1; cases n1
        · rw [e] at n2; simp at n2
        · exact e
      rcases Nat.eq_zero_or_pos i with rfl | hi0
      · exact h3
      · exact bl_trans h3 (List.pairwise_iff_getElem.1 hrow j (j + i) (by omega) (by omega) (by omega))
    · exact far x hx
  · have hk := bytes_of_beq he
    have e2 := szL_take_succ hj
    unfold Pr.sz at e2
    have e3 := hf.from_
    refine ⟨T.Ls[l], j, j + 1, h.txt, List.getElem?_eq_getElem hlt, .inr ⟨rfl, by omega⟩, hj, hf.from_, hb, less, fun x hx => ?_⟩
    rcases List.mem_append.1 hx with hx | hx
    · obtain ⟨i, hi, rfl⟩ := List.getElem_of_mem hx
      rw [List.length_drop] at hi
      rw [List.getElem_drop]
      have := List.pairwise_iff_getElem.1 hrow j (j + 1 + i) hj (by omega) (by omega)
      rw [hk] at this
      exact this
    · exact far x hx
/-- the leaves around a changed one, joined, may be -/
theorem LsOk.changed {A P C S parts : List (List Pr)} {L L' : List Pr} (h : LsOk (A ++ (P ++ [L] ++ S) ++ C)) (hP : (P = [] ∧ A = []) ∨ ∃ p, P = [p]) (hS : (S = [] ∧ C = []) ∨ ∃ q, S = [q])
    (hp : parts.flatten = L') (hfit : ∀ X ∈ parts, szL X ≤ 1024) (hok : ∀ x ∈ L', x.Ok) (hs : ((A ++ P).flatten ++ L' ++ (S ++ C).flatten).Pairwise (fun a b => bl a.k b.k = true))
    (hsum : szL ((A ++ P).flatten ++ L' ++ (S ++ C).flatten) ≤ 30000) (hne : (A ++ P).flatten ++ L' ++ (S ++ C).flatten ≠ []) :
    LsOk (A ++ mjoin (P ++ parts ++ S) ++ C) ∧ (A ++ mjoin (P ++ parts ++ S) ++ C).flatten = (A ++ P).flatten ++ L' ++ (S ++ C).flatten := by
  have ef : (A ++ (P ++ parts ++ S) ++ C).flatten = (A ++ P).flatten ++ L' ++ (S ++ C).flatten := by
    simp only [List.flatten_append, hp, List.append_assoc]
  refine ⟨LsOk.window (B := P ++ [L] ++ S) h ?_ ?_ ?_ ?_ (by rw [ef]; exact hs) (by rw [ef]; exact hsum) ?_, ?_⟩
  · intro X hX
    rcases List.mem_append.1 hX with hX | hX
    · rcases List.mem_append.1 hX with hX | hX
      · exact h.fit X (by simp [hX])
      · exact hfit X hX
    · exact h.fit X (by simp [hX])
  · intro X hX x hx
    rcases List.mem_append.1 hX with hX | hX
    · rcases List.mem_append.1 hX with hX | hX
      · exact h.ok X (by simp [hX]) x hx
      · exact hok x (by rw [← hp]; exact List.mem_flatten.2 ⟨X, hX, hx⟩)
    · exact h.ok X (by simp [hX]) x hx
  · intro hA
    rcases hP with ⟨_, e⟩ | ⟨p, rfl⟩
    · exact absurd e hA
    · exact ⟨p, [L] ++ S, parts ++ S, by simp, by simp⟩
  · intro hC
    rcases hS with ⟨_, e⟩ | ⟨q, rfl⟩
    · exact absurd e hC
    · exact ⟨q, P ++ [L], P ++ parts, rfl, rfl⟩
  · intro e
    rw [List.flatten_append, List.flatten_append] at e
    have e1 := List.append_eq_nil_iff.1 e
    have e2 := List.append_eq_nil_iff.1 e1.1
    have hP0 : P = [] ∧ A = [] := by
      rcases hP with hP | ⟨p, rfl⟩
      · exact hP
      · exact absurd (by simpa using e2.1) (h.ne p (by simp))
    have hS0 : S = [] ∧ C = [] := by
      rcases hS with hS | ⟨q, rfl⟩
      · exact hS
      · exact absurd (by simpa using e1.2) (h.ne q (by simp))
    apply hne
    rw [hP0.1, hP0.2, hS0.1, hS0.2, ← hp, e2.2]
    rfl
  · rw [← ef]
    simp only [List.flatten_append, mjoin_flatten]
/-- the pairs stay in order -/
theorem Cut.sorted {T : Tr} {key : ByteArray} {l a b j k : Nat} {L : List Pr} (h : Cut T key l a b L j k) (ok : LsOk T.Ls) {nw : List Pr} (hn : nw = [] ∨ ∃ x, nw = [x] ∧ x.k = key) :
    ((T.Ls.take l).flatten ++ (L.take j ++ nw ++ L.drop k) ++ (T.Ls.drop (l + 1)).flatten).Pairwise (fun a b => bl a.k b.k = true) := by
  obtain ⟨hlt, hL⟩ := List.getElem?_eq_some_iff.1 h.at_
  have e : T.Ls = T.Ls.take l ++ (L :: T.Ls.drop (l + 1)) := by
    rw [← hL, ← List.drop_eq_getElem_cons hlt, List.take_append_drop]
  have hjk : j ≤ k := by rcases h.jk with h | h <;> omega
  have e2 : L = L.take j ++ (L.drop j).take (k - j) ++ L.drop k := by
    rw [List.append_assoc]
    have : (L.drop j).take (k - j) ++ L.drop k = L.drop j := by
      have h2 : L.drop k = (L.drop j).drop (k - j) := by rw [List.drop_drop]; congr 1; omega
      rw [h2, List.take_append_drop]
    rw [this, List.take_append_drop]
  have hs := ok.sorted
  rw [e, List.flatten_append, List.flatten_cons] at hs
  have sub : List.Sublist ((T.Ls.take l).flatten ++ (L.take j ++ L.drop k) ++ (T.Ls.drop (l + 1)).flatten) ((T.Ls.take l).flatten ++ (L ++ (T.Ls.drop (l + 1)).flatten)) := by
    rw [List.append_assoc]
    refine List.Sublist.append (List.Sublist.refl _) (List.Sublist.append ?_ (List.Sublist.refl _))
    conv => rhs; rw [e2]
    exact List.Sublist.append (List.sublist_append_left _ _) (List.Sublist.refl _)
  have hs2 := hs.sublist sub
  rcases hn with rfl | ⟨x, rfl, rfl⟩
  · rw [List.append_nil]
    exact hs2
  · have e3 : (T.Ls.take l).flatten ++ (L.take j ++ L.drop k) ++ (T.Ls.drop (l + 1)).flatten = ((T.Ls.take l).flatten ++ L.take j) ++ (L.drop k ++ (T.Ls.drop (l + 1)).flatten) := by simp only [List.append_assoc]
    have e4 : (T.Ls.take l).flatten ++ (L.take j ++ [x] ++ L.drop k) ++ (T.Ls.drop (l + 1)).flatten = ((T.Ls.take l).flatten ++ L.take j) ++ (x :: (L.drop k ++ (T.Ls.drop (l + 1)).flatten)) := by simp only [List.append_assoc, List.cons_append, List.nil_append]
    rw [e3, List.pairwise_append] at hs2
    rw [e4, List.pairwise_append, List.pairwise_cons]
    refine ⟨hs2.1, ⟨h.more, hs2.2.1⟩, fun u hu v hv => ?_⟩
    rcases List.mem_cons.1 hv with rfl | hv
    · exact h.less u hu
    · exact hs2.2.2 u hu v hv
end Go.Proofs.YtdphlkljenbkcaaGreatDoor
namespace Go.Proofs.YtdphlkljenbkcaaGreatDoor

/-- the leaf ahead of one, the leaf behind it -/
def ahead (Ls : List (List Pr)) (l : Nat) : List (List Pr) := (Ls.take l).drop (l - 1)
def behind (Ls : List (List Pr)) (l : Nat) : List (List Pr) := (Ls.drop (l + 1)).take 1
theorem ahead_all (Ls : List (List Pr)) (l : Nat) : Ls.take (l - 1) ++ ahead Ls l = Ls.take l := by
  unfold ahead
  have : Ls.take (l - 1) = (Ls.take l).take (l - 1) := by rw [List.take_take, Nat.min_eq_left (by omega)]
  rw [this, List.take_append_drop]
theorem behind_all (Ls : List (List Pr)) (l : Nat) : behind Ls l ++ Ls.drop (l + 2) = Ls.drop (l + 1) := by
  unfold behind
  have : Ls.drop (l + 2) = (Ls.drop (l + 1)).drop 1 := by rw [List.drop_drop]
  rw [this, List.take_append_drop]
theorem ahead_form {Ls : List (List Pr)} {l : Nat} (hl : l < Ls.length) : (ahead Ls l = [] ∧ Ls.take (l - 1) = []) ∨ ∃ p, ahead Ls l = [p] := by
  rcases Nat.eq_zero_or_pos l with rfl | h
  · exact .inl ⟨rfl, rfl⟩
  · refine .inr (List.length_eq_one_iff.1 ?_)
    unfold ahead
    rw [List.length_drop, List.length_take]
    omega
theorem behind_form (Ls : List (List Pr)) (l : Nat) : (behind Ls l = [] ∧ Ls.drop (l + 2) = []) ∨ ∃ q, behind Ls l = [q] := by
  unfold behind
  rcases Nat.lt_or_ge (l + 1) Ls.length with h | h
  · refine .inr (List.length_eq_one_iff.1 ?_)
    rw [List.length_take, List.length_drop]
    omega
  · rw [List.drop_eq_nil_of_le h, List.drop_eq_nil_of_le (by omega)]
    exact .inl ⟨rfl, rfl⟩
theorem window_all {Ls : List (List Pr)} {l : Nat} (hl : l < Ls.length) : Ls = Ls.take (l - 1) ++ (ahead Ls l ++ [Ls[l]] ++ behind Ls l) ++ Ls.drop (l + 2) := by
  have e : Ls.take (l - 1) ++ (ahead Ls l ++ [Ls[l]] ++ behind Ls l) ++ Ls.drop (l + 2) = (Ls.take (l - 1) ++ ahead Ls l) ++ ([Ls[l]] ++ (behind Ls l ++ Ls.drop (l + 2))) := by simp only [List.append_assoc]
  rw [e, ahead_all, behind_all, List.singleton_append, ← List.drop_eq_getElem_cons hl, List.take_append_drop]
/-- how many leaves the window has -/
theorem window_len {Ls : List (List Pr)} {l : Nat} (hl : l < Ls.length) : (ahead Ls l ++ [Ls[l]] ++ behind Ls l).length = min (l + 2) Ls.length - (l - 1) := by
  unfold ahead behind
  simp only [List.length_append, List.length_drop, List.length_take, List.length_singleton]
  omega
/-- the pairs behind a change at a spot -/
def chg (T : Tr) (l j k : Nat) (L nw : List Pr) : List Pr := (T.Ls.take l).flatten ++ (L.take j ++ nw ++ L.drop k) ++ (T.Ls.drop (l + 1)).flatten
/-- the leaves behind a change -/
def chgLs (T : Tr) (l : Nat) (parts : List (List Pr)) : List (List Pr) := T.Ls.take (l - 1) ++ mjoin (ahead T.Ls l ++ parts ++ behind T.Ls l) ++ T.Ls.drop (l + 2)
theorem Cut.changed {T : Tr} {key : ByteArray} {l a b j k : Nat} {L : List Pr} (h : Cut T key l a b L j k) (ok : LsOk T.Ls) {nw : List Pr} (hn : nw = [] ∨ ∃ x, nw = [x] ∧ x.k = key) (hnok : ∀ x ∈ nw, x.Ok)
    {parts : List (List Pr)} (hp : parts.flatten = L.take j ++ nw ++ L.drop k) (hfit : ∀ X ∈ parts, szL X ≤ 1024) (hsum : szL (chg T l j k L nw) ≤ 30000) (hne : chg T l j k L nw ≠ []) :
    LsOk (chgLs T l parts) ∧ (chgLs T l parts).flatten = chg T l j k L nw := by
  obtain ⟨hlt, hL⟩ := List.getElem?_eq_some_iff.1 h.at_
  have hs := h.sorted ok hn
  have e0 := window_all hlt
  rw [hL] at e0
  have okw : LsOk (T.Ls.take (l - 1) ++ (ahead T.Ls l ++ [L] ++ behind T.Ls l) ++ T.Ls.drop (l + 2)) := e0 ▸ ok
  have e1 := ahead_all T.Ls l
  have e2 := behind_all T.Ls l
  have hLm : L ∈ T.Ls := by rw [← hL]; exact List.getElem_mem hlt
  have hok : ∀ x ∈ L.take j ++ nw ++ L.drop k, x.Ok := by
    intro x hx
    rcases List.mem_append.1 hx with hx | hx
    · rcases List.mem_append.1 hx with hx | hx
      · exact ok.ok L hLm x (List.mem_of_mem_take hx)
      · exact hnok x hx
    · exact ok.ok L hLm x (List.mem_of_mem_drop hx)
  have := LsOk.changed okw (ahead_form hlt) (behind_form T.Ls l) hp hfit hok (by rw [e1, e2]; exact hs) (by rw [e1, e2]; exact hsum) (by rw [e1, e2]; exact hne)
  rw [e1, e2] at this
  exact this
end Go.Proofs.YtdphlkljenbkcaaGreatDoor
namespace Go.Proofs.YtdphlkljenbkcaaGreatDoor

theorem leafB_list (L : List Pr) : (leafB L).data.toList = encL L := by unfold leafB; simp
theorem leafB_front (L : List Pr) (j : Nat) : (leafB L).extract 0 (szL (L.take j)) = leafB (L.take j) := by
  apply ByteArray.ext
  apply Array.ext'
  rw [ByteArray.data_extract, Array.toList_extract, leafB_list, leafB_list, List.extract_eq_take_drop]
  have e : encL L = encL (L.take j) ++ encL (L.drop j) := by rw [← encL_append, List.take_append_drop]
  have hl : (encL (L.take j)).length = szL (L.take j) := by rw [← leafB_list, Array.length_toList]; exact leafB_size _
  rw [e, List.drop_zero, Nat.sub_zero, ← hl, List.take_left]
theorem leafB_rest (L : List Pr) (k : Nat) : (leafB L).extract (szL (L.take k)) (leafB L).size = leafB (L.drop k) := by
  apply ByteArray.ext
  apply Array.ext'
  have e : encL L = encL (L.take k) ++ encL (L.drop k) := by rw [← encL_append, List.take_append_drop]
  have hl : (encL (L.take k)).length = szL (L.take k) := by rw [← leafB_list, Array.length_toList]; exact leafB_size _
  have hl2 : (leafB L).size = (encL L).length := by rw [← leafB_list, Array.length_toList]; rfl
  rw [ByteArray.data_extract, Array.toList_extract, leafB_list, leafB_list, List.extract_eq_take_drop, hl2, e, ← hl, List.drop_left, List.length_append, Nat.add_sub_cancel_left, List.take_length]
/-- the text that a changed leaf has -/
theorem leafB_chg (L nw : List Pr) (j k : Nat) : (leafB L).extract 0 (szL (L.take j)) ++ leafB nw ++ (leafB L).extract (szL (L.take k)) (leafB L).size = leafB (L.take j ++ nw ++ L.drop k) := by
  rw [leafB_front, leafB_rest, leafB_append, leafB_append]
end Go.Proofs.YtdphlkljenbkcaaGreatDoor
namespace Go.Proofs.YtdphlkljenbkcaaGreatDoor
open Go.RowKit

theorem parts_any {L : List Pr} (hok : ∀ x ∈ L, x.Ok) (hs : szL L ≤ 1186) (w : World) :
    Calls Tryz.prog 96 #[.string (leafB L)] w fun e w' => ∃ (v : Value) (parts : List (List Pr)), e = .returned v ∧ SRow w.heap.size v (parts.map leafB) w' ∧ parts.flatten = L ∧ (∀ X ∈ parts, szL X ≤ 1024) ∧ 1 ≤ parts.length ∧ parts.length ≤ 2 ∧ Below w.heap.size w w' := by
  by_cases h : szL L ≤ 1024
  · refine (halves_one (leafB L) (by rw [leafB_size]; exact h) w).mono ?_
    rintro e w' ⟨v, rfl, h1, h2⟩
    exact ⟨v, [L], rfl, h1, by simp, fun X hX => by simp at hX; subst hX; exact h, Nat.le_refl _, by simp, h2⟩
  · refine (halves_two (leafB_leaf hok (by omega)) (by rw [leafB_size]; omega) (by rw [leafB_size]; exact hs) w).mono ?_
    rintro e w' ⟨v, j, rfl, hj, h1, h2⟩
    rw [leafB_front, leafB_rest] at h1
    refine ⟨v, [L.take j, L.drop j], rfl, h1, by simp, fun X hX => ?_, by simp, by simp, h2⟩
    simp at hX
    rcases hX with rfl | rfl
    · exact hj.left
    · exact hj.right
end Go.Proofs.YtdphlkljenbkcaaGreatDoor
namespace Go.Proofs.YtdphlkljenbkcaaGreatDoor

/-- from pages P to pages P' -/
structure FitR (V : Pst) (P : List Nat) (V' : Pst) (P' : List Nat) : Prop where
  used : ∀ k, V'.used k = true ↔ (V.used k = true ∧ k ∉ P) ∨ k ∈ P'
  new : ∀ k ∈ P', k ∈ P ∨ V.used k = false
  low : ∀ k ∈ P', 0 < k ∧ k < 2000
  nodup : P'.Nodup
  tx : ∀ k, V.used k = true → V'.tx k = V.tx k
  rp : V'.rp = V.rp
  rn : V'.rn = V.rn
  pre : P'.take P.length = P.take P'.length
section
variable {V V' V'' : Pst} {P P' : List Nat}
theorem FitR.refl (hl : ∀ k ∈ P, 0 < k ∧ k < 2000 ∧ V.used k = true) (hn : P.Nodup) : FitR V P V P := by
  refine ⟨fun k => ?_, fun k hk => .inl hk, fun k hk => ⟨(hl k hk).1, (hl k hk).2.1⟩, hn, fun _ _ => rfl, rfl, rfl, rfl⟩
  by_cases h : k ∈ P
  · simp [h, (hl k h).2.2]
  · simp [h]
theorem FitR.alloc (h : FitR V P V' P') (hle : P.length ≤ P'.length) {k : Nat} (h0 : 0 < k) (hk : k < 2000) (hu : V'.used k = false) : FitR V P (V'.alloc k) (P' ++ [k]) := by
  have hn : k ∉ P' := fun e => by
    have := (h.used k).2 (.inr e)
    rw [hu] at this; cases this
  have hf : k ∈ P ∨ V.used k = false := by
    by_cases e : k ∈ P
    · exact .inl e
    · refine .inr ?_
      cases hq : V.used k
      · rfl
      · have := (h.used k).2 (.inl ⟨hq, e⟩)
        rw [hu] at this; cases this
  have hpk : k ∉ P := by
    -- what was among P is among P' or was given back, and P' is no shorter
    intro e
    have hp := h.pre
    rw [List.take_of_length_le hle] at hp
    exact hn (List.mem_of_mem_take (by rw [hp]; exact e))
  refine ⟨fun j => ?_, fun j hj => ?_, fun j hj => ?_, ?_, fun j hj => ?_, h.rp, h.rn, ?_⟩
  · show (if j = k then true else V'.used j) = true ↔ _
    by_cases e : j = k
    · subst e; simp
    · rw [if_neg e, h.used j]; simp [e]
  · rcases List.mem_append.1 hj with hj | hj
    · exact h.new j hj
    · obtain rfl := List.mem_singleton.1 hj; exact hf
  · rcases List.mem_append.1 hj with hj | hj
    · exact h.low j hj
    · obtain rfl := List.mem_singleton.1 hj; exact ⟨h0, hk⟩
  · rw [List.nodup_append]
    exact ⟨h.nodup, by simp, fun a ha b hb => by obtain rfl := List.mem_singleton.1 hb; exact fun e => hn (e ▸ ha)⟩
  · show (if j = k then zeros else V'.tx j) = _
    by_cases e : j = k
    · subst e
      rcases hf with hf | hf
      · exact absurd hf hpk
      · rw [hj] at hf; cases hf
    · rw [if_neg e]; exact h.tx j hj
  · have hp := h.pre
    rw [List.take_append_of_le_length hle, hp, List.take_of_length_le hle, List.take_of_length_le (by simp; omega)]
/-- the pages that stand behind are given back -/
theorem FitR.cut (h : FitR V P V' P') (n : Nat) (hu : ∀ k, V''.used k = true ↔ V'.used k = true ∧ k ∉ P'.drop n) (ht : V''.tx = V'.tx) (hrp : V''.rp = V'.rp) (hrn : V''.rn = V'.rn) : FitR V P V'' (P'.take n) := by
  have hs : ∀ k, k ∈ P' ↔ k ∈ P'.take n ∨ k ∈ P'.drop n := fun k => by
    conv => lhs; rw [← List.take_append_drop n P']
    exact List.mem_append
  have hd : ∀ k, k ∈ P'.take n → k ∉ P'.drop n := fun k h1 h2 => by
    have := h.nodup
    rw [← List.take_append_drop n P', List.nodup_append] at this
    exact this.2.2 k h1 k h2 rfl
  refine ⟨fun k => ?_, fun k hk => h.new k (List.mem_of_mem_take hk), fun k hk => h.low k (List.mem_of_mem_take hk), h.nodup.sublist (List.take_sublist _ _), fun k hk => by rw [ht]; exact h.tx k hk, hrp.trans h.rp, hrn.trans h.rn, ?_⟩
  · rw [hu k, h.used k]
    constructor
    · rintro ⟨h1 | h1, h2⟩
      · exact .inl h1
      · rcases (hs k).1 h1 with h3 | h3
        · exact .inr h3
        · exact absurd h3 h2
    · rintro (h1 | h1)
      · refine ⟨.inl h1, fun e => ?_⟩
        rcases h.new k ((hs k).2 (.inr e)) with h3 | h3
        · exact h1.2 h3
        · rw [h1.1] at h3; cases h3
      · exact ⟨.inr ((hs k).2 (.inl h1)), hd k h1⟩
  · have hp := h.pre
    rw [List.take_take, Nat.min_comm, ← List.take_take, hp, List.length_take, List.take_take]
end
/-- there is a free page -/
theorem free_page {f : Nat → Bool} : ∀ n, countU f (n + 1) < n → ∃ k, 0 < k ∧ k < n + 1 ∧ f k = false ∧ ∀ j, 0 < j → j < k → f j = true := by
  intro n hn
  have : ∃ k, 0 < k ∧ k < n + 1 ∧ f k = false := by
    apply Classical.byContradiction
    intro hne
    have hall : ∀ k, 0 < k → k < n + 1 → f k = true := fun k h0 hk => by
      cases e : f k
      · exact absurd ⟨k, h0, hk, e⟩ hne
      · rfl
    have hc : ∀ m, m ≤ n → m ≤ countU f (m + 1) := by
      intro m
      induction m with
      | zero => intro _; exact Nat.zero_le _
      | succ m ih =>
        intro hm
        have h1 := ih (by omega)
        rw [countU, hall (m + 1) (by omega) (by omega)]
        simp only [if_true]
        omega
    have := hc n (Nat.le_refl _)
    omega
  obtain ⟨k, hk⟩ := this
  have hind : ∀ k, (0 < k ∧ k < n + 1 ∧ f k = false) → ∃ k, 0 < k ∧ k < n + 1 ∧ f k = false ∧ ∀ j, 0 < j → j < k → f j = true := by
    intro k
    induction k using Nat.strongRecOn with
    | ind k ih =>
      intro hk
      by_cases hj : ∃ j, 0 < j ∧ j < k ∧ f j = false
      · obtain ⟨j, h0, h1, h2⟩ := hj
        exact ih j h1 ⟨h0, by omega, h2⟩
      · refine ⟨k, hk.1, hk.2.1, hk.2.2, fun j h0 h1 => ?_⟩
        cases e : f j
        · exact absurd ⟨j, h0, h1, e⟩ hj
        · rfl
  exact hind k hk
theorem countU_put (f : Nat → Bool) (k : Nat) : ∀ n, countU (fun i => if i = k then true else f i) n ≤ countU f n + 1
  | 0 => Nat.zero_le _
  | n + 1 => by
    have ih := countU_put f k n
    rw [countU, countU]
    by_cases e : n = k
    · subst e
      have : countU (fun i => if i = n then true else f i) n = countU f n := countU_like n (fun j hj => if_neg (by omega))
      rw [this]
      simp only [if_true]
      omega
    · simp only [if_neg e]
      omega
theorem countU_nil : ∀ n, countU (fun _ => false) n = 0
  | 0 => rfl
  | n + 1 => by rw [countU, countU_nil n]; rfl
/-- as many pages are in use as a list has that lists them -/
theorem countU_list {f : Nat → Bool} {n : Nat} : ∀ {S : List Nat}, S.Nodup → (∀ k ∈ S, k < n) → (∀ k, k < n → (f k = true ↔ k ∈ S)) → countU f n = S.length := by
  intro S
  induction S generalizing f with
  | nil =>
    intro _ _ h
    rw [countU_like (g := fun _ => false) n (fun k hk => by cases e : f k; rfl; exact absurd ((h k hk).1 e) (by simp)), countU_nil]
    rfl
  | cons x S ih =>
    intro hn hl h
    have hx : x < n := hl x (by simp)
    have hxs : x ∉ S := (List.nodup_cons.1 hn).1
    have e1 := ih (f := fun k => if k = x then false else f k) (List.nodup_cons.1 hn).2 (fun k hk => hl k (by simp [hk])) (fun k hk => by
      show (if k = x then false else f k) = true ↔ _
      by_cases e : k = x
      · subst e; simp [hxs]
      · rw [if_neg e, h k hk]; simp [e])
    have hc : ∀ m, countU f m = countU (fun k => if k = x then false else f k) m + (if x < m then 1 else 0) := by
      intro m
      induction m with
      | zero => rfl
      | succ m ihm =>
        rw [countU, countU, ihm]
        by_cases e : m = x
        · subst e
          have : f m = true := (h m hx).2 (by simp)
          rw [this]
          simp
        · simp only [if_neg e]
          by_cases e2 : x < m
          · rw [show (if x < m then 1 else 0) = (1 : Nat) from if_pos e2, show (if x < m + 1 then 1 else 0) = (1 : Nat) from if_pos (by omega)]; omega
          · rw [show (if x < m then 1 else 0) = (0 : Nat) from if_neg e2, show (if x < m + 1 then 1 else 0) = (0 : Nat) from if_neg (by omega)]; omega
    rw [hc n, e1, if_pos hx, List.length_cons]
end Go.Proofs.YtdphlkljenbkcaaGreatDoor
namespace Go.Proofs.YtdphlkljenbkcaaGreatDoor

/-- a tree's pages -/
def Tr.pgL (T : Tr) : List Nat := (if T.top = 0 then [] else [T.top]) ++ T.ks
/-- texts that are written so far -/
structure WrR (V1 : Pst) (P : List Nat) (txs : List ByteArray) (i : Nat) (V2 : Pst) : Prop where
  used : V2.used = V1.used
  rp : V2.rp = V1.rp
  rn : V2.rn = V1.rn
  tx : ∀ j, j < i → ∀ (h1 : j < P.length) (h2 : j < txs.length), V2.tx P[j] = pad txs[j]
  keep : ∀ k, (∀ j, j < i → ∀ h : j < P.length, P[j] ≠ k) → V2.tx k = V1.tx k
theorem WrR.refl (V1 : Pst) (P : List Nat) (txs : List ByteArray) : WrR V1 P txs 0 V1 := ⟨rfl, rfl, rfl, fun _ hj => absurd hj (Nat.not_lt_zero _), fun _ _ => rfl⟩
theorem WrR.step {V1 V2 : Pst} {P : List Nat} {txs : List ByteArray} {i : Nat} (h : WrR V1 P txs i V2) (hn : P.Nodup) (h1 : i < P.length) (h2 : i < txs.length) : WrR V1 P txs (i + 1) (V2.write P[i] (pad txs[i])) := by
  refine ⟨h.used, h.rp, h.rn, fun j hj a b => ?_, fun k hk => ?_⟩
  · show (if P[j] = P[i] then pad txs[i] else V2.tx P[j]) = _
    by_cases e : j = i
    · subst e; rw [if_pos rfl]
    · have : P[j] ≠ P[i] := fun e2 => e ((List.getElem_inj hn).1 e2)
      rw [if_neg this]
      exact h.tx j (by omega) a b
  · show (if k = P[i] then pad txs[i] else V2.tx k) = _
    rw [if_neg (fun e => hk i (by omega) h1 e.symm)]
    exact h.keep k (fun j hj hl => hk j (by omega) hl)
/-- a tree in place of another -/
structure LayR (V V' : Pst) (r : Nat) (T T' : Tr) : Prop where
  at_ : TrAt V' r T'
  used : ∀ k, V'.used k = true ↔ (V.used k = true ∧ k ∉ T.pgL) ∨ k ∈ T'.pgL
  new : ∀ k ∈ T'.pgL, k ∈ T.pgL ∨ V.used k = false
  tx : ∀ k, V.used k = true → k ∉ T.pgL → V'.tx k = V.tx k
  rp : ∀ i, i ≠ r → V'.rp i = V.rp i
  rn : ∀ i, i ≠ r → V'.rn i = V.rn i
theorem TrAt.lay {V V1 V2 : Pst} {r f t : Nat} {T : Tr} {M : List (List Pr)} {P' : List Nat} (hA : TrAt V r T) (hft : f ≤ t) (ht : t ≤ T.ks.length) (hok : LsOk (T.Ls.take f ++ M ++ T.Ls.drop t)) (hm : M ≠ [] ∨ (f = 0 ∧ t = T.ks.length))
    {tops : Nat} (htops : tops = if 1 < T.ks.length - (t - f) + M.length then 1 else 0)
    (hF : FitR V ((if T.top = 0 then [] else [T.top]) ++ (T.ks.drop f).take (t - f)) V1 P') (hlen : P'.length = tops + M.length)
    (hW : WrR V1 P' ((if tops = 1 then [topB (T.ks.take f ++ P'.drop tops ++ T.ks.drop t)] else []) ++ M.map leafB) P'.length V2) :
    LayR V (V2.setRoot r (P'.headD 0 : Nat) (szL (T.Ls.take f ++ M ++ T.Ls.drop t).flatten : Nat)) r T ⟨if tops = 1 then P'.headD 0 else 0, T.ks.take f ++ P'.drop tops ++ T.ks.drop t, T.Ls.take f ++ M ++ T.Ls.drop t⟩ := by
  have hl := hA.len
  have hsplit : T.ks = T.ks.take f ++ ((T.ks.drop f).take (t - f) ++ T.ks.drop t) := by
    have e : T.ks.drop t = (T.ks.drop f).drop (t - f) := by rw [List.drop_drop]; congr 1; omega
    rw [e, List.take_append_drop, List.take_append_drop]
  have hnd := hA.nodup
  rw [hsplit, List.nodup_append] at hnd
  obtain ⟨nd1, nd2, nd3⟩ := hnd
  rw [List.nodup_append] at nd2
  obtain ⟨nd4, nd5, nd6⟩ := nd2
  -- what is laid anew is apart from the other leaves
  have hap : ∀ k ∈ P', k ∉ T.ks.take f ∧ k ∉ T.ks.drop t := by
    intro k hk
    rcases hF.new k hk with h | h
    · rcases List.mem_append.1 h with h | h
      · by_cases h0 : T.top = 0
        · rw [if_pos h0] at h; simp at h
        · rw [if_neg h0] at h
          obtain rfl := List.mem_singleton.1 h
          have := (hA.ltop h0).2.2.2
          exact ⟨fun e => this (List.mem_of_mem_take e), fun e => this (List.mem_of_mem_drop e)⟩
      · exact ⟨fun e => nd3 k e k (List.mem_append.2 (.inl h)) rfl, fun e => nd6 k h k e rfl⟩
    · refine ⟨fun e => ?_, fun e => ?_⟩
      · have := (hA.low k (List.mem_of_mem_take e)).2.2; rw [h] at this; cases this
      · have := (hA.low k (List.mem_of_mem_drop e)).2.2; rw [h] at this; cases this
  have hPnot : ∀ k, k ∈ T.ks.take f ∨ k ∈ T.ks.drop t → k ∉ (if T.top = 0 then [] else [T.top]) ++ (T.ks.drop f).take (t - f) := by
    intro k hk h
    rcases List.mem_append.1 h with h | h
    · by_cases h0 : T.top = 0
      · rw [if_pos h0] at h; simp at h
      · rw [if_neg h0] at h
        obtain rfl := List.mem_singleton.1 h
        have := (hA.ltop h0).2.2.2
        rcases hk with e | e
        · exact this (List.mem_of_mem_take e)
        · exact this (List.mem_of_mem_drop e)
    · rcases hk with e | e
      · exact nd3 k e k (List.mem_append.2 (.inl h)) rfl
      · exact nd6 k h k e rfl
  have hmem : ∀ k, k ∈ T.ks.take f ∨ k ∈ T.ks.drop t → k ∈ T.ks := fun k hk => by
    rcases hk with e | e
    · exact List.mem_of_mem_take e
    · exact List.mem_of_mem_drop e
  have hkeep : ∀ k, k ∉ P' → V.used k = true → V2.tx k = V.tx k := fun k hk hu => by
    rw [hW.keep k (fun j _ h e => hk (e ▸ List.getElem_mem h)), hF.tx k hu]
  have hus : ∀ k, V2.used k = true ↔ (V.used k = true ∧ k ∉ (if T.top = 0 then [] else [T.top]) ++ (T.ks.drop f).take (t - f)) ∨ k ∈ P' := fun k => by rw [hW.used]; exact hF.used k
  have hP'pos : ∀ k ∈ P', 0 < k ∧ k < 2000 := hF.low
  have ht01 : tops = 0 ∨ tops = 1 := by rw [htops]; split <;> simp
  have hdl : (P'.drop tops).length = M.length := by rw [List.length_drop]; omega
  have hLlen : (T.Ls.take f ++ M ++ T.Ls.drop t).length = f + M.length + (T.ks.length - t) := by
    rw [List.length_append, List.length_append, List.length_take, List.length_drop]; omega
  have htopne : tops = 1 → P' ≠ [] := fun e h => by rw [h] at hlen; simp at hlen; omega
  have hhead : ∀ h : P' ≠ [], P'.headD 0 = P'[0]'(List.length_pos_iff.2 h) := fun h => by
    cases P' with
    | nil => exact absurd rfl h
    | cons a b => rfl
  have hdropm : ∀ k, k ∈ P'.drop tops → k ∈ P' := fun k h => List.mem_of_mem_drop h
  refine ⟨⟨?_, hok, ?_, ?_, ?_, ?_, ?_, ?_, ?_⟩, ?_, ?_, ?_, ?_, ?_⟩
  · -- len
    show (T.ks.take f ++ P'.drop tops ++ T.ks.drop t).length = _
    rw [hLlen, List.length_append, List.length_append, hdl, List.length_take, List.length_drop]; omega
  · -- rn
    show (if r = r then _ else _) = _
    rw [if_pos rfl]; rfl
  · -- rp
    show (if r = r then _ else _) = _
    rw [if_pos rfl]
    rcases ht01 with e | e
    · simp only [e, Nat.zero_ne_one, if_false, if_true, List.drop_zero]
      have hsmall : ¬ 1 < T.ks.length - (t - f) + M.length := fun h => by rw [if_pos h] at htops; omega
      rw [e] at hlen
      rcases hm with h | ⟨rfl, rfl⟩
      · have hmp := List.length_pos_iff.2 h
        have hf0 : f = 0 := by omega
        have htl : t = T.ks.length := by omega
        subst hf0 htl
        simp
      · simp
    · have h1 := htopne e
      simp only [e, if_true]
      have := hP'pos (P'.headD 0) (by rw [hhead h1]; exact List.getElem_mem _)
      rw [if_neg (by omega)]
  · -- top0
    show (if tops = 1 then P'.headD 0 else 0) = 0 ↔ _
    rw [hLlen]
    rcases ht01 with e | e
    · rw [if_neg (by omega)]
      have hsmall : ¬ 1 < T.ks.length - (t - f) + M.length := fun h => by rw [if_pos h] at htops; omega
      exact ⟨fun _ => by omega, fun _ => rfl⟩
    · have h1 := htopne e
      have := hP'pos (P'.headD 0) (by rw [hhead h1]; exact List.getElem_mem _)
      have hbig : 1 < T.ks.length - (t - f) + M.length := by
        apply Classical.byContradiction
        intro h
        rw [if_neg h] at htops; omega
      rw [if_pos e]
      exact ⟨fun h => by omega, fun h => by omega⟩
  · -- ltop
    show (if tops = 1 then P'.headD 0 else 0) ≠ 0 → _
    intro h
    have e : tops = 1 := by
      rcases ht01 with e | e
      · rw [if_neg (by omega)] at h; exact absurd rfl h
      · exact e
    have h1 := htopne e
    have hin : P'.headD 0 ∈ P' := by rw [hhead h1]; exact List.getElem_mem _
    simp only [if_pos e]
    refine ⟨(hP'pos _ hin).2, (hus _).2 (.inr hin), ?_, ?_⟩
    · show V2.tx (P'.headD 0) = _
      rw [hhead h1]
      have := hW.tx 0 (List.length_pos_iff.2 h1) (List.length_pos_iff.2 h1) (by rw [if_pos e]; simp)
      rw [this]
      congr 1
      simp only [if_pos e, List.singleton_append, List.getElem_cons_zero]
    · have hx := hap _ hin
      simp only [List.mem_append, not_or]
      refine ⟨⟨hx.1, fun h2 => ?_⟩, hx.2⟩
      rw [hhead h1, e] at h2
      obtain ⟨j, hj, he⟩ := List.getElem_of_mem h2
      rw [List.getElem_drop] at he
      have := (List.getElem_inj hF.nodup).1 he
      omega
  · -- low
    show ∀ k ∈ T.ks.take f ++ P'.drop tops ++ T.ks.drop t, _
    intro k hk
    simp only [List.mem_append] at hk
    rcases hk with (hk | hk) | hk
    · have h1 := hA.low k (hmem k (.inl hk))
      exact ⟨h1.1, h1.2.1, (hus k).2 (.inl ⟨h1.2.2, hPnot k (.inl hk)⟩)⟩
    · have h1 := hP'pos k (hdropm k hk)
      exact ⟨h1.1, h1.2, (hus k).2 (.inr (hdropm k hk))⟩
    · have h1 := hA.low k (hmem k (.inr hk))
      exact ⟨h1.1, h1.2.1, (hus k).2 (.inl ⟨h1.2.2, hPnot k (.inr hk)⟩)⟩
  · -- page
    show ∀ i (hi : i < (T.ks.take f ++ P'.drop tops ++ T.ks.drop t).length) (hl : i < (T.Ls.take f ++ M ++ T.Ls.drop t).length), V2.tx (T.ks.take f ++ P'.drop tops ++ T.ks.drop t)[i] = pad (leafB (T.Ls.take f ++ M ++ T.Ls.drop t)[i])
    intro i hi hl2
    have lf : (T.ks.take f).length = f := by rw [List.length_take]; omega
    have lf2 : (T.Ls.take f).length = f := by rw [List.length_take]; omega
    rcases Nat.lt_or_ge i f with h1 | h1
    · rw [List.getElem_append_left (by rw [List.length_append, lf]; omega), List.getElem_append_left (by rw [lf]; exact h1), List.getElem_append_left (by rw [List.length_append, lf2]; omega), List.getElem_append_left (by rw [lf2]; exact h1)]
      have hk : (T.ks.take f)[i]'(by rw [lf]; exact h1) ∈ T.ks.take f := List.getElem_mem _
      rw [hkeep _ (fun e => (hap _ e).1 hk) (hA.low _ (hmem _ (.inl hk))).2.2]
      rw [List.getElem_take, List.getElem_take]
      exact hA.page i (by omega) (by omega)
    · rcases Nat.lt_or_ge i (f + M.length) with h2 | h2
      · rw [List.getElem_append_left (by rw [List.length_append, lf, hdl]; exact h2), List.getElem_append_right (by rw [lf]; exact h1), List.getElem_append_left (by rw [List.length_append, lf2]; exact h2), List.getElem_append_right (by rw [lf2]; exact h1)]
        simp only [lf, lf2, List.getElem_drop]
        have hj : tops + (i - f) < P'.length := by omega
        have hj2 : tops + (i - f) < ((if tops = 1 then [topB (T.ks.take f ++ P'.drop tops ++ T.ks.drop t)] else []) ++ M.map leafB).length := by
          rw [List.length_append, List.length_map]
          rcases ht01 with e | e
          · rw [if_neg (by omega)]; simp; omega
          · rw [if_pos e]; simp; omega
        rw [hW.tx _ hj hj hj2]
        congr 1
        rcases ht01 with e | e
        · simp [e]
        · simp only [e, if_true]
          rw [List.getElem_append_right (by simp)]
          simp
      · rw [List.getElem_append_right (by rw [List.length_append, lf, hdl]; exact h2), List.getElem_append_right (by rw [List.length_append, lf2]; exact h2)]
        have hk : (T.ks.drop t)[i - (T.ks.take f ++ P'.drop tops).length]'(by rw [List.length_append, lf, hdl, List.length_drop]; rw [List.length_append, List.length_append, lf, hdl, List.length_drop] at hi; omega) ∈ T.ks.drop t := List.getElem_mem _
        rw [hkeep _ (fun e => (hap _ e).2 hk) (hA.low _ (hmem _ (.inr hk))).2.2]
        simp only [List.getElem_drop, List.length_append, lf, lf2, hdl]
        exact hA.page _ (by rw [List.length_append, List.length_append, lf, hdl, List.length_drop] at hi; omega) (by rw [List.length_append, List.length_append, lf, hdl, List.length_drop] at hi; omega)
  · -- nodup
    show (T.ks.take f ++ P'.drop tops ++ T.ks.drop t).Nodup
    rw [List.nodup_append, List.nodup_append]
    refine ⟨⟨nd1, hF.nodup.sublist (List.drop_sublist _ _), fun a ha b hb e => (hap b (hdropm b hb)).1 (e ▸ ha)⟩, nd5, fun a ha b hb e => ?_⟩
    subst e
    rcases List.mem_append.1 ha with ha | ha
    · exact nd3 a ha a (List.mem_append.2 (.inr hb)) rfl
    · exact (hap a (hdropm a ha)).2 hb
  · -- used
    intro k
    show V2.used k = true ↔ _
    rw [hus k]
    have hT : k ∈ T.pgL ↔ (k ∈ (if T.top = 0 then [] else [T.top]) ++ (T.ks.drop f).take (t - f)) ∨ k ∈ T.ks.take f ∨ k ∈ T.ks.drop t := by
      unfold Tr.pgL
      conv => lhs; rw [hsplit]
      simp only [List.mem_append]
      constructor
      · rintro (h | h | h | h)
        · exact .inl (.inl h)
        · exact .inr (.inl h)
        · exact .inl (.inr h)
        · exact .inr (.inr h)
      · rintro ((h | h) | h | h)
        · exact .inl h
        · exact .inr (.inr (.inl h))
        · exact .inr (.inl h)
        · exact .inr (.inr (.inr h))
    have hT' : k ∈ Tr.pgL ⟨if tops = 1 then P'.headD 0 else 0, T.ks.take f ++ P'.drop tops ++ T.ks.drop t, T.Ls.take f ++ M ++ T.Ls.drop t⟩ ↔ k ∈ P' ∨ k ∈ T.ks.take f ∨ k ∈ T.ks.drop t := by
      unfold Tr.pgL
      rcases ht01 with e | e
      · simp only [e, Nat.zero_ne_one, if_false, if_true, List.nil_append, List.drop_zero, List.mem_append]
        constructor
        · rintro ((h | h) | h)
          · exact .inr (.inl h)
          · exact .inl h
          · exact .inr (.inr h)
        · rintro (h | h | h)
          · exact .inl (.inr h)
          · exact .inl (.inl h)
          · exact .inr h
      · have h1 := htopne e
        have hin : P'.headD 0 ∈ P' := by rw [hhead h1]; exact List.getElem_mem _
        have hpos := (hP'pos _ hin).1
        simp only [e, if_true]
        rw [if_neg (by omega)]
        have hc : k ∈ P' ↔ k = P'.headD 0 ∨ k ∈ P'.drop 1 := by
          cases P' with
          | nil => exact absurd rfl h1
          | cons a b => simp
        rw [hc]
        simp only [List.mem_append, List.mem_singleton]
        constructor
        · rintro (h | (h | h) | h)
          · exact .inl (.inl h)
          · exact .inr (.inl h)
          · exact .inl (.inr h)
          · exact .inr (.inr h)
        · rintro ((h | h) | h | h)
          · exact .inl h
          · exact .inr (.inl (.inr h))
          · exact .inr (.inl (.inl h))
          · exact .inr (.inr h)
    rw [hT, hT']
    constructor
    · rintro (⟨h1, h2⟩ | h)
      · by_cases h3 : k ∈ T.ks.take f ∨ k ∈ T.ks.drop t
        · exact .inr (.inr h3)
        · exact .inl ⟨h1, fun h => h.elim h2 h3⟩
      · exact .inr (.inl h)
    · rintro (⟨h1, h2⟩ | h | h)
      · exact .inl ⟨h1, fun h => h2 (.inl h)⟩
      · exact .inr h
      · exact .inl ⟨(hA.low k (hmem k h)).2.2, hPnot k h⟩
  · -- new
    intro k hk
    have hk2 : k ∈ P' ∨ k ∈ T.ks.take f ∨ k ∈ T.ks.drop t := by
      unfold Tr.pgL at hk
      rcases ht01 with e | e
      · simp only [e, Nat.zero_ne_one, if_false, if_true, List.nil_append, List.drop_zero, List.mem_append] at hk
        rcases hk with (h | h) | h
        · exact .inr (.inl h)
        · exact .inl h
        · exact .inr (.inr h)
      · have h1 := htopne e
        have hin : P'.headD 0 ∈ P' := by rw [hhead h1]; exact List.getElem_mem _
        have hpos := (hP'pos _ hin).1
        simp only [e, if_true] at hk
        rw [if_neg (by omega)] at hk
        simp only [List.mem_append, List.mem_singleton] at hk
        rcases hk with h | (h | h) | h
        · exact .inl (h ▸ hin)
        · exact .inr (.inl h)
        · exact .inl (List.mem_of_mem_drop h)
        · exact .inr (.inr h)
    rcases hk2 with h | h
    · rcases hF.new k h with h | h
      · refine .inl ?_
        unfold Tr.pgL
        rcases List.mem_append.1 h with h | h
        · exact List.mem_append.2 (.inl h)
        · exact List.mem_append.2 (.inr (List.mem_of_mem_drop (List.mem_of_mem_take h)))
      · exact .inr h
    · exact .inl (List.mem_append.2 (.inr (hmem k h)))
  · -- tx
    intro k hu hk
    show V2.tx k = V.tx k
    refine hkeep k (fun e => ?_) hu
    rcases hF.new k e with h | h
    · refine hk ?_
      unfold Tr.pgL
      rcases List.mem_append.1 h with h | h
      · exact List.mem_append.2 (.inl h)
      · exact List.mem_append.2 (.inr (List.mem_of_mem_drop (List.mem_of_mem_take h)))
    · rw [hu] at h; cases h
  · intro i hi
    show (if i = r then _ else V2.rp i) = _
    rw [if_neg hi, hW.rp, hF.rp]
  · intro i hi
    show (if i = r then _ else V2.rn i) = _
    rw [if_neg hi, hW.rn, hF.rn]
end Go.Proofs.YtdphlkljenbkcaaGreatDoor
namespace Go.Proofs.YtdphlkljenbkcaaGreatDoor
open Go.RowKit Go.Maps

/-- a variable that holds a slice of texts of its own -/
def Tvar (B : Nat) (ts : List ByteArray) (w : World) : Prop := ∃ v, Own1 B v w ∧ SRow (B + 1) v ts w
theorem row_far {w : World} {base C o size n : Nat} {e : TypeId} {v u : Value} {xs : List Value} (h : w.ownsRow base e size v n xs) (hC : C < base) : (w.setCell ⟨C, o, none⟩ u).ownsRow base e size v n xs := by
  refine ⟨h.1, ?_⟩
  rcases h.2 with h2 | ⟨g, cap, cur, h1, h2, h3, h4⟩
  · exact .inl h2
  · have hg : g < w.heap.size := by
      rcases Nat.lt_or_ge g w.heap.size with hh | hh
      · exact hh
      · rw [Array.getElem?_eq_none hh] at h3; cases h3
    exact .inr ⟨g, cap, cur, h1, h2, by rw [(Only.set C o u w).block g hg (by omega)]; exact h3, h4⟩
set_option maxRecDepth 100000 in
set_option maxHeartbeats 1000000 in
theorem change_cl {B : Nat} {ts : List ByteArray} (w : World) (h : Tvar B ts w) (hn : ts.length ≤ 1000) (t : ByteArray) :
    Calls Tryz.prog 95 #[.string t, .pointer (some ⟨B, 0, none⟩)] w fun e w' => e = .returned (.bool true) ∧ Tvar B (ts ++ [t]) w' ∧ Below B w w' := by
  obtain ⟨v, h1, h2⟩ := h
  have HR : Hid _ := h2
  have HN : Hid (ts.length ≤ 1000) := hn
  have HO : Hid (Own1 B v w) := h1
  have c0 := h1.cell
  have hlt := h1.lt
  have hvb : ∀ k, v.ownBlock = some k → B + 1 ≤ k := fun k e => (World.ownsRow.lt h2 k e).1
  have HVB : Hid _ := hvb
  have HB : Hid (Below B w (w.alloc (.cells #[.string t] 9))) := (Below.refl B w).alloc (by omega) _
  have HO2 : Hid _ := World.ownsRow.alloc h2 (.cells #[.string t] 9)
  obtain ⟨i0, hi, hz0, hz1, hz2⟩ := info9
  clear h1 h2 hn hvb
  go_enter Tryz.func95, Tryz.ntmps95
  go_wp2_with (at_builtin; refine wpList_append_own _ rfl _ _ 22 rfl (B + 1) 9 i0 (.string ⟨#[]⟩) 1 16 Tryz.underlying22 hi hz0 hz1 hz2 rfl (by decide) _ _ _ rfl HO2.out ⟨w.heap.size, 0, none⟩ 1 1 [.string t] rfl rfl (news_str w t 9) (by intro u hu; simp at hu; subst hu; rfl) (by have := HN.out; simp only [maxLen]; omega) (by have := HN.out; omega) (by simp; omega) ?_; intro v' w' hO hG hN; have hne : some B ≠ v.ownBlock := (fun e => absurd (HVB.out B e.symm) (by omega)); have o1 : Own1 B v w' := (HO.out.below ((Below.refl _ w).alloc (Nat.le_refl _) _)).block (hG.block B (by simp; omega) hne); obtain ⟨g, cap, hv', hg1, hg2⟩ := World.ownsRow.form hO (by omega); subst hv'; have c1 := o1.cell; have c2 := o1.free)
  go_ret
  refine ⟨rfl, ⟨_, o1.set _, ?_⟩, ?_⟩
  · show World.ownsRow _ _ _ _ _ _ _
    rw [List.map_append, List.length_append]
    exact row_far hO (by omega)
  · exact (HB.out.grown hG (by simp; omega) (fun k e => by have := HVB.out k e; omega)).setCell (Nat.le_refl _) _
end Go.Proofs.YtdphlkljenbkcaaGreatDoor
namespace Go.Proofs.YtdphlkljenbkcaaGreatDoor
open Go.RowKit Go.Maps

end Go.Proofs.YtdphlkljenbkcaaGreatDoor
namespace Go.Proofs.YtdphlkljenbkcaaGreatDoor
open Go.RowKit Go.Maps

def pairC (x : Pr) : List Value := [.string x.k, .string x.i]
/-- a slice of pairs -/
def PRow (B : Nat) (v : Value) (ps : List Pr) (w : World) : Prop := w.ownsRow B 104 2 v ps.length (ps.flatMap pairC)
def Pvar (B C : Nat) (ps : List Pr) (w : World) : Prop := ∃ v, Own1 B v w ∧ PRow C v ps w
theorem info64 : ∃ i0 : TypeInfo, Tryz.prog.info? 104 = some i0 ∧ i0.zero = some (.agg #[.string ⟨#[]⟩, .string ⟨#[]⟩]) ∧ i0.size = 2 ∧ i0.bytes = 32 := by
  have h : (Tryz.prog.info? 104).map (fun i => (i.zero, i.size, i.bytes)) = some (some (.agg #[.string ⟨#[]⟩, .string ⟨#[]⟩]), 2, 32) := by kernel_rfl
  cases hq : Tryz.prog.info? 104 with
  | none => rw [hq] at h; simp at h
  | some i => rw [hq] at h; simp at h; exact ⟨i, rfl, h.1, h.2.1, h.2.2⟩
theorem row_only {w w' : World} {base size n : Nat} {e : TypeId} {v : Value} {xs : List Value} {S : Nat → Prop} (h : w.ownsRow base e size v n xs) (ho : Only S w w') (hS : ∀ b, S b → b < base) : w'.ownsRow base e size v n xs := by
  refine ⟨h.1, ?_⟩
  rcases h.2 with h2 | ⟨g, cap, cur, h1, h2, h3, h4⟩
  · exact .inl h2
  · have hg : g < w.heap.size := by
      rcases Nat.lt_or_ge g w.heap.size with hh | hh
      · exact hh
      · rw [Array.getElem?_eq_none hh] at h3; cases h3
    exact .inr ⟨g, cap, cur, h1, h2, by rw [ho.block g hg (fun e => by have := hS g e; omega)]; exact h3, h4⟩
theorem below_only {w w' : World} (h : Below w.heap.size w w') (S : Nat → Prop) : Only S w w' := ⟨h.os, h.tape, h.output, h.size, fun k hk _ => h.block k hk⟩
theorem Own1.only {B : Nat} {v : Value} {w w' : World} {S : Nat → Prop} (h : Own1 B v w) (ho : Only S w w') (hS : ¬ S B) : Own1 B v w' := h.block (ho.block B h.lt hS)
theorem Var2.only {B : Nat} {a b : Value} {w w' : World} {S : Nat → Prop} (h : Var2 B a b w) (ho : Only S w w') (hS : ¬ S B) : Var2 B a b w' := h.block (ho.block B h.lt hS)
end Go.Proofs.YtdphlkljenbkcaaGreatDoor
namespace Go.Proofs.YtdphlkljenbkcaaGreatDoor
open Go

section
variable {P : Program} {ops : Array Oper} {Q : Exit → Act → World → Prop} {md : Region.Mode} {S : World → Prop} {js : Nat}
/-- whatever order is picked, and S holds behind every operation but the last one -/
def wpAnyL (P : Program) (md : Region.Mode) (ops : Array Oper) (Q : Exit → Act → World → Prop) (S : World → Prop) (js : Nat) : Nat → Array Bool → Act → World → Prop
  | 0, listed, a, w => Region.ready md ops listed = [] ∧ Q .normal a w
  | fuel + 1, listed, a, w =>
    (Region.ready md ops listed = [] → Q .normal a w) ∧
    ∀ i ∈ Region.ready md ops listed, wpOp P ops Q i (fun a' w' => (i = js → wpAny P md ops Q fuel (listed.setIfInBounds i true) a' w') ∧ (i ≠ js → S w' ∧ wpAnyL P md ops Q S js fuel (listed.setIfInBounds i true) a' w')) a w
theorem wpAny_of_late : ∀ (fuel : Nat) (listed : Array Bool) (a : Act) (w : World), wpAnyL P md ops Q S js fuel listed a w → wpAny P md ops Q fuel listed a w
  | 0, _, _, _, h => h
  | fuel + 1, _, _, _, h => ⟨h.1, fun i hi => wpOp_mono (fun a' w' h' => by
      by_cases e : i = js
      · exact h'.1 e
      · exact wpAny_of_late fuel _ a' w' (h'.2 e).2) (h.2 i hi)⟩
theorem wpAnyL_first {i : Nat} {oi : Oper} {v : Value} (hi : ops[i]? = some oi) (hsel : ∀ (j : Nat) (o : Oper) cs b, ops[j]? = some o → o.op ≠ .select cs b)
    (hQ : ∀ c a w, Q (.panic c) (a.put oi.dst v) w → Q (.panic c) a w) (hne : i ≠ js) (hw : ∀ o, ops[js]? = some o → ∃ e ∈ o.after, Region.binds md e = true ∧ e.on = i) :
    ∀ (fuel : Nat) (listed : Array Bool) (a : Act) (w : World),
      (∀ j oj, ops[j]? = some oj → j ≠ i → listed.getD j true = false → (∀ e ∈ oj.after, Region.binds md e = true → e.on ≠ i) → oi.apart ops oj = true) →
      i ∈ Region.ready md ops listed → YieldsIf P ops S oi v a → S w →
      wpAnyL P md ops Q S js fuel (listed.setIfInBounds i true) (a.put oi.dst v) w → wpAnyL P md ops Q S js (fuel + 1) listed a w := by
  intro fuel
  induction fuel with
  | zero =>
    intro listed a w _ hr hy hS H
    refine ⟨fun h => (by rw [h] at hr; cases hr), fun j hj => ?_⟩
    by_cases hji : j = i
    · subst hji; exact hy.wpOp hi hS ⟨fun e => absurd e hne, fun _ => ⟨hS, H⟩⟩
    · have := ready_mono hj hji
      rw [H.1] at this
      cases this
  | succ fuel ih =>
    intro listed a w hfree hr hy hS H
    refine ⟨fun h => (by rw [h] at hr; cases hr), fun j hj => ?_⟩
    by_cases hji : j = i
    · subst hji; exact hy.wpOp hi hS ⟨fun e => absurd e hne, fun _ => ⟨hS, H⟩⟩
    · have h1 := H.2 j (ready_mono hj hji)
      obtain ⟨hjun, oj, hoj, hall⟩ := mem_ready.1 hj
      have hnot : ∀ e ∈ oj.after, Region.binds md e = true → e.on ≠ i := fun e he hb heq => by
        have h1 := hall e he hb
        have h0 := (mem_ready.1 hr).1
        rw [heq] at h1
        rcases Nat.lt_or_ge i listed.size with h' | h'
        · simp [h'] at h0 h1; rw [h0] at h1; cases h1
        · simp [Array.getElem?_eq_none h'] at h1
      have hjs : j ≠ js := fun e => by
        obtain ⟨x, hx, hb, ho⟩ := hw oj (e ▸ hoj)
        exact hnot x hx hb ho
      have h2 := wpOp_putIf hoj (hfree j oj hoj hji hjun hnot) (fun cs b => hsel i oi cs b hi) (fun cs b => hsel j oj cs b hoj) hQ hy h1
      have hfree' : ∀ k ok, ops[k]? = some ok → k ≠ i → (listed.setIfInBounds j true).getD k true = false →
          (∀ e ∈ ok.after, Region.binds md e = true → e.on ≠ i) → oi.apart ops ok = true := fun k ok hk hki hun hno => by
        refine hfree k ok hk hki ?_ hno
        by_cases hjk : j = k
        · subst hjk; exact hjun
        · rw [getD_set_ne true hjk] at hun; exact hun
      refine wpOp_mono (fun a' w' h3 => ⟨fun e => absurd e hjs, fun _ => ?_⟩) h2
      obtain ⟨k1, k2⟩ := h3.2.2 hjs
      refine ⟨k1, ih (listed.setIfInBounds j true) a' w' hfree' (ready_mono hr (Ne.symm hji)) h3.1 k1 ?_⟩
      rw [Array.setIfInBounds_comm _ _ hji]
      exact k2
theorem wpAnyL_take {i : Nat} {oi : Oper} {v : Value} {fuel : Nat} {listed : Array Bool} {a : Act} {w : World} (hi : ops[i]? = some oi)
    (hs : Region.noSelect ops = true) (hf : Region.free md ops listed i = true) (hr : (Region.ready md ops listed).contains i = true)
    (hQ : ∀ c a w, Q (.panic c) (a.put oi.dst v) w → Q (.panic c) a w) (hne : i ≠ js) (hw : ((ops[js]?).map fun o => o.after.any fun e => Region.binds md e && e.on == i) = some true) (hy : YieldsIf P ops S oi v a) (hS : S w)
    (h : wpAnyL P md ops Q S js fuel (listed.setIfInBounds i true) (a.put oi.dst v) w) : wpAnyL P md ops Q S js (fuel + 1) listed a w :=
  wpAnyL_first hi (Region.noSelect_spec hs) hQ hne (fun o ho => by
    rw [ho] at hw
    simp only [Option.map_some, Option.some.injEq] at hw
    obtain ⟨k, hk, hb⟩ := Array.any_eq_true.1 hw
    simp at hb
    exact ⟨_, Array.getElem_mem hk, hb.1, hb.2⟩) fuel listed a w (Region.free_spec hi hf) (by simpa using hr) hy hS h
theorem wpAnyL_one {i : Nat} {o : Oper} {fuel : Nat} {listed : Array Bool} {a : Act} {w : World} (hr : Region.ready md ops listed = [i]) (ho : ops[i]? = some o) (hne : i ≠ js) (hwt : Region.wanted o (yielded ops a.tmps) = true)
    (h : ∀ K' : Act → World → Prop, Shut (∀ a w, S w → (S w → wpAnyL P md ops Q S js fuel (listed.setIfInBounds i true) a w) → K' a w) → Oper.wp P o a w K' Q) : wpAnyL P md ops Q S js (fuel + 1) listed a w :=
  ⟨fun h0 => (by rw [hr] at h0; cases h0), fun j hj => by
    rw [hr] at hj
    obtain rfl := List.mem_singleton.1 hj
    exact wpOp_step ho (fun K' hK => by rw [if_pos hwt]; exact h K' (fun a w hS hW => hK a w ⟨fun e => absurd e hne, fun _ => ⟨hS, hW hS⟩⟩))⟩
theorem wpAnyL_last {o : Oper} {fuel : Nat} {listed : Array Bool} {a : Act} {w : World} (hr : Region.ready md ops listed = [js]) (hr2 : Region.ready md ops (listed.setIfInBounds js true) = []) (ho : ops[js]? = some o) (hwt : Region.wanted o (yielded ops a.tmps) = true)
    (h : ∀ K' : Act → World → Prop, Shut (∀ a w, Q .normal a w → K' a w) → Oper.wp P o a w K' Q) : wpAnyL P md ops Q S js (fuel + 1) listed a w :=
  ⟨fun h0 => (by rw [hr] at h0; cases h0), fun j hj => by
    rw [hr] at hj
    obtain rfl := List.mem_singleton.1 hj
    have hd : ∀ a w, Q .normal a w → wpAny P md ops Q fuel (listed.setIfInBounds j true) a w := fun a w hq => by
      cases fuel with
      | zero => exact ⟨hr2, hq⟩
      | succ f => exact ⟨fun _ => hq, by rw [hr2]; simp⟩
    exact wpOp_step ho (fun K' hK => by rw [if_pos hwt]; exact h K' (fun a w hq => hK a w ⟨fun _ => hd a w hq, fun e => absurd rfl e⟩))⟩
theorem wp_region_late {id : Nat} {a : Act} {w : World} (hm : P.follows .mixedOrders = true) (hS : S w.drew)
    (h : S w.drew → wpAnyL P .any ops Q S js ops.size (Array.replicate ops.size false) a w.drew) : (Code.region id ops true).wp P Q a w :=
  wp_region_any hm (wpAny_of_late _ _ _ _ (h hS))
end
end Go.Proofs.YtdphlkljenbkcaaGreatDoor
namespace Go.Proofs.YtdphlkljenbkcaaGreatDoor
open Go.RowKit Go.Maps

theorem cell_of_block {wa wb : World} {b : Nat} (h : wb.heap[b]? = wa.heap[b]?) (o : Nat) : wb.cell? ⟨b, o, none⟩ = wa.cell? ⟨b, o, none⟩ := by simp only [World.cell?]; rw [h]
theorem grown_only {wa wb : World} {S : Nat → Prop} {k : Option Nat} (h : wa.grownBy wb k) (hk : ∀ b, k = some b → S b) : Only S wa wb :=
  ⟨h.os, h.tape, h.output, h.size, fun b hb hs => h.block b hb (fun e => hs (hk b e.symm))⟩
set_option maxRecDepth 100000 in
set_option maxHeartbeats 1000000 in
theorem collect_cl {fw Bf Bw Bl C : Nat} {cw : Array Value} {ps : List Pr} {wnt : Nat → ByteArray → Bool} {W : Nat → Prop} {I : Nat → World → Prop} (w : World) (from_ : ByteArray) (x : Pr) (n : Int) (hx : x.Ok) (hfw : Bf < Bw) (hwl : Bw < Bl) (hlc : Bl < C) (hC : C ≤ w.heap.size) (hn : ps.length ≤ 40000)
    (h1 : Own1 Bf (.string from_) w) (h2 : Own1 Bw (.func (.func fw) #[] cw) w) (h3 : Pvar Bl C ps w) (hW : ∀ b, W b → b < Bf) (eg : ∀ args w, (callFunc fw args).run Tryz.prog w = .ok (.enter fw args) w)
    (hI : I ps.length w) (hst : ∀ k wx wy, I k wx → Only (fun b => Bf ≤ b) wx wy → I k wy)
    (hc : ∀ k key wx, k ≤ 40000 → I k wx → Calls Tryz.prog fw (#[.string key] ++ cw) wx fun e w' => e = .returned (.bool (wnt k key)) ∧ I (k + 1) w' ∧ Only W wx w') :
    Calls Tryz.prog 101 #[.agg #[.string x.k, .string x.i], .int .i64 n, .pointer (some ⟨Bf, 0, none⟩), .pointer (some ⟨Bw, 0, none⟩), .pointer (some ⟨Bl, 0, none⟩)] w fun e w' =>
      (bl x.k from_ = true ∧ e = .returned (.bool true) ∧ Below w.heap.size w w') ∨ (bl x.k from_ = false ∧ wnt ps.length x.k = false ∧ e = .returned (.bool false) ∧ Pvar Bl C ps w' ∧ Only (fun b => W b ∨ b = Bl ∨ C ≤ b) w w') ∨
      (bl x.k from_ = false ∧ wnt ps.length x.k = true ∧ e = .returned (.bool true) ∧ Pvar Bl C (ps ++ [x]) w' ∧ I (ps.length + 1) w' ∧ Only (fun b => W b ∨ b = Bl ∨ C ≤ b) w w') := by
  obtain ⟨kx, ix⟩ := x
  obtain ⟨ok1, ok2, ok3⟩ := hx
  simp only at ok1 ok2 ok3 ⊢
  obtain ⟨v, l1, l2⟩ := h3
  have HST : Hid _ := hst
  have HL1 : Hid _ := l1
  have HL2 : Hid _ := l2
  have H1 : Hid _ := h1
  have H2 : Hid _ := h2
  have hB : Below w.heap.size w (w.alloc (.cells #[.string kx, .string ix] 104)) := (Below.refl _ w).alloc (Nat.le_refl _) _
  have HC : Hid (Calls Tryz.prog fw (#[.string kx] ++ cw) (w.alloc (.cells #[.string kx, .string ix] 104)) fun e w' => e = .returned (.bool (wnt ps.length kx)) ∧ I (ps.length + 1) w' ∧ Only W (w.alloc (.cells #[.string kx, .string ix] 104)) w') := hc ps.length kx _ hn (hst _ _ _ hI (below_only hB _))
  have HNV : Hid (v.ownBlock ≠ some w.heap.size) := fun e => absurd ((World.ownsRow.lt l2 _ e).2) (by omega)
  have c1 := (h1.below hB).cell
  have c2 := (h2.below hB).cell
  have HB : Hid _ := hB
  have HWW : Hid _ := hW
  clear hc l1 l2 h1 h2 hB hW hst hI
  cases hb : bl kx from_
  · have hb' : Op.bytesLess kx.toList from_.toList = false := hb
    cases hwt : wnt ps.length kx
    · rw [hwt] at HC
      go_enter Tryz.func101, Tryz.ntmps101
      go_wp2_with fail
      refine (show Calls _ _ _ _ _ from HC.out).mono ?_
      rintro _ w2 ⟨rfl, _, ho⟩
      have hWW := HWW.out
      have hlf := HL1.out.lt
      have HL3 : Hid (Own1 Bl v w2) := (HL1.out.below HB.out).only ho (fun e => by have := hWW _ e; omega)
      have HL4 : Hid (PRow C v ps w2) := row_only (World.ownsRow.alloc HL2.out _) ho (fun b e => by have := hWW _ e; omega)
      have HO2 : Hid (Only (fun b => W b ∨ b = Bl ∨ C ≤ b) w w2) := (below_only HB.out _).trans (ho.mono (fun _ e => .inl e)) (fun _ e => .inl e)
      clear ho hlf hWW
      go_wp2
      go_ret
      first | exact .inr (.inl ⟨trivial, trivial, rfl, ⟨_, HL3.out, HL4.out⟩, HO2.out⟩) | exact ⟨rfl, ⟨_, HL3.out, HL4.out⟩, HO2.out⟩
    · rw [hwt] at HC
      have HWT : Hid (wnt ps.length kx = true) := hwt
      obtain ⟨i0, hi, hz0, hz1, hz2⟩ := info64
      clear hwt
      go_enter Tryz.func101, Tryz.ntmps101
      go_wp2_with fail
      refine (show Calls _ _ _ _ _ from HC.out).mono ?_
      rintro _ w2 ⟨rfl, hi2, ho⟩
      have hlf := HL1.out.lt
      have hWW := HWW.out
      have HI2 : Hid (I (ps.length + 1) w2) := hi2
      have HV2 : Hid (Var2 w.heap.size (.string kx) (.string ix) w2) := (Var2.new w _ _ 104).only ho (fun e => by have := hWW _ e; omega)
      have HL3 : Hid (Own1 Bl v w2) := (HL1.out.below HB.out).only ho (fun e => by have := hWW _ e; omega)
      have HL4 : Hid (PRow C v ps w2) := row_only (World.ownsRow.alloc HL2.out _) ho (fun b e => by have := hWW _ e; omega)
      have HO2 : Hid (Only (fun b => W b ∨ b = Bl ∨ C ≤ b) w w2) := (below_only HB.out _).trans (ho.mono (fun _ e => .inl e)) (fun _ e => .inl e)
      clear ho hlf hWW hi2 c1 c2
      go_wp2_with fail
      refine wp_region_late (S := fun wx => wx.cell? ⟨w.heap.size, 0, none⟩ = some (.string kx) ∧ wx.cell? ⟨w.heap.size, 1, none⟩ = some (.string ix) ∧ wx.cell? ⟨Bl, 0, none⟩ = some v) (js := 10) (by kernel_rfl) (⟨HV2.out.c0, HV2.out.c1, HL3.out.cell⟩) ?_
      intro g0
      refine wpAnyL_take (i := 0) (oi := { dst := some 17, op := Op.load 100 (Operand.tmp 4), type := 100, pos := "tree.go:125", after := #[], guard := none }) (v := v) rfl (by kernel_rfl) (by kernel_rfl) (by kernel_rfl) (fun _ _ _ h => h) (by decide) (by kernel_rfl) (Or.inl ⟨by rfl, fun wx h => by have h8 := h.2.2; go_simp⟩) g0 ?_
      simp only [Act.put, List.setIfInBounds_toArray, List.set_cons_zero, List.set_cons_succ]
      refine wpAnyL_take (i := 1) (oi := { dst := some 18, op := Op.fieldAddr 104 (Operand.tmp 5) 0, type := 0, pos := "tree.go:125", after := #[], guard := none }) (v := .pointer (some ⟨w.heap.size, 0, none⟩)) rfl (by kernel_rfl) (by kernel_rfl) (by kernel_rfl) (fun _ _ _ h => h) (by decide) (by kernel_rfl) (Or.inl ⟨by rfl, fun wx _ => by go_simp⟩) g0 ?_
      simp only [Act.put, List.setIfInBounds_toArray, List.set_cons_zero, List.set_cons_succ]
      refine wpAnyL_take (i := 2) (oi := { dst := some 19, op := Op.load 9 (Operand.tmp 18), type := 9, pos := "tree.go:125", after := #[{ on := 1, ground := Ground.data }], guard := none }) (v := .string kx) rfl (by kernel_rfl) (by kernel_rfl) (by kernel_rfl) (fun _ _ _ h => h) (by decide) (by kernel_rfl) (Or.inl ⟨by rfl, fun wx h => by have h8 := h.1; go_simp⟩) g0 ?_
      simp only [Act.put, List.setIfInBounds_toArray, List.set_cons_zero, List.set_cons_succ]
      refine wpAnyL_take (i := 4) (oi := { dst := some 21, op := Op.fieldAddr 104 (Operand.tmp 5) 1, type := 0, pos := "tree.go:125", after := #[], guard := none }) (v := .pointer (some ⟨w.heap.size, 1, none⟩)) rfl (by kernel_rfl) (by kernel_rfl) (by kernel_rfl) (fun _ _ _ h => h) (by decide) (by kernel_rfl) (Or.inl ⟨by rfl, fun wx _ => by go_simp⟩) g0 ?_
      simp only [Act.put, List.setIfInBounds_toArray, List.set_cons_zero, List.set_cons_succ]
      refine wpAnyL_take (i := 5) (oi := { dst := some 22, op := Op.load 9 (Operand.tmp 21), type := 9, pos := "tree.go:125", after := #[{ on := 4, ground := Ground.data }], guard := none }) (v := .string ix) rfl (by kernel_rfl) (by kernel_rfl) (by kernel_rfl) (fun _ _ _ h => h) (by decide) (by kernel_rfl) (Or.inl ⟨by rfl, fun wx h => by have h8 := h.2.1; go_simp⟩) g0 ?_
      simp only [Act.put, List.setIfInBounds_toArray, List.set_cons_zero, List.set_cons_succ]
      refine wpAnyL_one (i := 3) (o := { dst := some 20, op := Op.call { callee := Callee.value (Operand.func 60), args := #[Operand.tmp 19], argTypes := #[9] }, type := 9, pos := "tree.go:125", after := #[{ on := 2, ground := Ground.data }], guard := none }) (by kernel_rfl) rfl (by decide) (by rfl) (fun K hK => ?_)
      go_simp
      refine (clone_any kx _ (by omega)).mono ?_
      rintro _ w3 ⟨rfl, hb3⟩
      have HB3 : Hid _ := hb3
      clear hb3
      refine hK.out _ _ (⟨keepc HB3.out g0.1, keepc HB3.out g0.2.1, keepc HB3.out g0.2.2⟩) (fun g1 => ?_)
      clear hK K
      try simp only [Act.put, List.setIfInBounds_toArray, List.set_cons_zero, List.set_cons_succ]
      refine wpAnyL_one (i := 6) (o := { dst := some 23, op := Op.call { callee := Callee.value (Operand.func 60), args := #[Operand.tmp 22], argTypes := #[9] }, type := 9, pos := "tree.go:125", after := #[{ on := 5, ground := Ground.data }, { on := 3, ground := Ground.chain }], guard := none }) (by kernel_rfl) rfl (by decide) (by rfl) (fun K hK => ?_)
      go_simp
      refine (clone_any ix _ (by omega)).mono ?_
      rintro _ w4 ⟨rfl, hb4⟩
      have HB4 : Hid _ := hb4
      clear hb4
      refine hK.out _ _ (⟨keepc HB4.out g1.1, keepc HB4.out g1.2.1, keepc HB4.out g1.2.2⟩) (fun g2 => ?_)
      clear hK K
      try simp only [Act.put, List.setIfInBounds_toArray, List.set_cons_zero, List.set_cons_succ]
      refine wpAnyL_take (i := 7) (oi := { dst := some 24, op := Op.build 104 #[(0, Operand.tmp 20), (1, Operand.tmp 23)], type := 104, pos := "tree.go:125", after := #[{ on := 3, ground := Ground.data }, { on := 6, ground := Ground.data }], guard := none }) (v := .agg #[.string kx, .string ix]) rfl (by kernel_rfl) (by kernel_rfl) (by kernel_rfl) (fun _ _ _ h => h) (by decide) (by kernel_rfl) (Or.inl ⟨by rfl, fun wx _ => by go_simp⟩) g2 ?_
      simp only [Act.put, List.setIfInBounds_toArray, List.set_cons_zero, List.set_cons_succ]
      refine wpAnyL_one (i := 8) (o := { dst := some 25, op := Op.buildSlice 100 1 #[(0, Operand.tmp 24)], type := 100, pos := "tree.go:125", after := #[{ on := 7, ground := Ground.data }], guard := none }) (by kernel_rfl) rfl (by decide) (by rfl) (fun K hK => ?_)
      have HB5 : Hid (Below w4.heap.size w4 (w4.alloc (.cells #[.string kx, .string ix] 104))) := (Below.refl _ _).alloc (Nat.le_refl _) _
      go_simp
      try simp only [Act.put, List.setIfInBounds_toArray, List.set_cons_zero, List.set_cons_succ]
      refine hK.out _ _ (⟨keepc HB5.out g2.1, keepc HB5.out g2.2.1, keepc HB5.out g2.2.2⟩) (fun g3 => ?_)
      clear hK K
      try simp only [Act.put, List.setIfInBounds_toArray, List.set_cons_zero, List.set_cons_succ]
      have HRW : Hid (PRow C v ps (w4.alloc (.cells #[.string kx, .string ix] 104))) := row_only (row_only (row_only (row_only HL4.out (below_only (Below.refl _ w2).drew (fun _ => False)) (fun _ e => e.elim)) (below_only HB3.out (fun _ => False)) (fun _ e => e.elim)) (below_only HB4.out (fun _ => False)) (fun _ e => e.elim)) (below_only HB5.out (fun _ => False)) (fun _ e => e.elim)
      have HO5 : Hid (Only (fun b => W b ∨ b = Bl ∨ C ≤ b) w (w4.alloc (.cells #[.string kx, .string ix] 104))) := (((HO2.out.trans (below_only (Below.refl _ w2).drew _) (fun _ e => .inl e)).trans (below_only HB3.out _) (fun _ e => .inl e)).trans (below_only HB4.out _) (fun _ e => .inl e)).trans (below_only HB5.out _) (fun _ e => .inl e)
      have HOW5 : Hid (Own1 Bl v (w4.alloc (.cells #[.string kx, .string ix] 104))) := (((HL3.out.drew).below HB3.out).below HB4.out).below HB5.out
      have HI5 : Hid (I (ps.length + 1) (w4.alloc (.cells #[.string kx, .string ix] 104))) := HST.out _ _ _ HI2.out ((((below_only (Below.refl _ w2).drew _).trans (below_only HB3.out _) (fun _ e => .inl e)).trans (below_only HB4.out _) (fun _ e => .inl e)).trans (below_only HB5.out _) (fun _ e => .inl e))
      have HSZ5 : Hid (C ≤ (w4.alloc (.cells #[.string kx, .string ix] 104)).heap.size) := Nat.le_trans hC HO5.out.size
      refine wpAnyL_one (i := 9) (o := { dst := some 26, op := Op.call { callee := Callee.builtin Builtin.append, args := #[Operand.tmp 17, Operand.tmp 25], argTypes := #[100, 100] }, type := 100, pos := "tree.go:125", after := #[{ on := 0, ground := Ground.data }, { on := 8, ground := Ground.data }, { on := 6, ground := Ground.chain }], guard := none }) (by kernel_rfl) rfl (by decide) (by rfl) (fun K hK => ?_)
      refine wp_append_own _ _ _ 100 rfl C 104 i0 (.agg #[.string ⟨#[]⟩, .string ⟨#[]⟩]) 2 32 Tryz.underlying100 hi hz0 hz1 hz2 rfl (by decide) _ _ _ rfl HRW.out ⟨w4.heap.size, 0, none⟩ 1 1 [.string kx, .string ix] rfl rfl (news_two w4 _ _ 104) (by intro u hu; simp at hu; rcases hu with rfl | rfl <;> rfl) (by simp only [maxLen]; omega) (by omega) (by have := HSZ5.out; omega) ?_
      intro v' w' hO hG hN
      have hne : some Bl ≠ v.ownBlock := fun e => absurd ((World.ownsRow.lt HRW.out Bl e.symm).1) (by omega)
      have hne2 : some w.heap.size ≠ v.ownBlock := fun e => HNV.out e.symm
      obtain ⟨z5, hz5⟩ : ∃ z5, w4.alloc (.cells #[.string kx, .string ix] 104) = z5 := ⟨_, rfl⟩
      rw [hz5] at hG g3 HOW5 HI5 HO5 HRW
      have HOW6 : Hid (Own1 Bl v w') := HOW5.out.block (hG.block Bl HOW5.out.lt hne)
      have hl6 := World.block_lt_of_cell? z5 _ g3.1
      have hOn : Only (fun b => C ≤ b) z5 w' := grown_only hG (fun k e => by have := (World.ownsRow.lt HRW.out k e).1; omega)
      refine hK.out _ _ (⟨(cell_of_block (hG.block _ hl6 hne2) _).trans g3.1, (cell_of_block (hG.block _ hl6 hne2) _).trans g3.2.1, HOW6.out.cell⟩) (fun g4 => ?_)
      clear hK K
      try simp only [Act.put, List.setIfInBounds_toArray, List.set_cons_zero, List.set_cons_succ]
      refine wpAnyL_last (o := { dst := none, op := Op.store 100 (Operand.tmp 4) (Operand.tmp 26), type := 0, pos := "tree.go:125", after := #[{ on := 9, ground := Ground.data }, { on := 9, ground := Ground.chain }, { on := 0, ground := Ground.phase }, { on := 1, ground := Ground.phase }, { on := 2, ground := Ground.phase }, { on := 3, ground := Ground.phase }, { on := 4, ground := Ground.phase }, { on := 5, ground := Ground.phase }, { on := 6, ground := Ground.phase }, { on := 7, ground := Ground.phase }, { on := 8, ground := Ground.phase }, { on := 9, ground := Ground.phase }], guard := none }) (by kernel_rfl) (by kernel_rfl) rfl (by rfl) (fun K hK => ?_)
      obtain ⟨g, cap, hv', hg1, hg2⟩ := World.ownsRow.form hO (by omega)
      subst hv'
      have c1 := HOW6.out.cell
      have c2 := HOW6.out.free
      go_simp
      refine hK.out _ _ ?_
      clear hK K
      try simp only [Act.put, List.setIfInBounds_toArray, List.set_cons_zero, List.set_cons_succ]
      go_wp2
      go_ret
      refine ⟨rfl, ⟨_, HOW6.out.set _, ?_⟩, ?_, ?_⟩
      · show World.ownsRow _ _ _ _ _ _ _
        rw [List.flatMap_append, List.length_append]
        exact row_far hO (by omega)
      · exact HST.out _ _ _ HI5.out ((hOn.mono (fun _ e => by omega)).trans (Only.set Bl 0 _ _) (fun _ e => .inl (by omega)))
      · exact (HO5.out.trans (hOn.mono (fun _ e => .inr (.inr e))) (fun _ e => .inl e)).trans (Only.set Bl 0 _ _) (fun _ e => .inl (.inr (.inl e)))
  · have hb' : Op.bytesLess kx.toList from_.toList = true := hb
    go_enter Tryz.func101, Tryz.ntmps101
    go_wp2
    go_ret
    first | exact .inl ⟨trivial, rfl, HB.out⟩ | exact ⟨rfl, HB.out⟩
end Go.Proofs.YtdphlkljenbkcaaGreatDoor
