/- Texts of the proof of MatchSets: Tgt, Tmj, Tmc, Tc1, Twc, Tcp, Tll. -/
import Derived.Test.YtjgdnainhoipgaaGreatDoorM12
namespace Go.Proofs.YtjgdnainhoipgaaGreatDoor
open Go.RowKit Go.Maps

theorem bl_ne {x y : ByteArray} (h : bl x y = true) : x ≠ y := fun e => by subst e; rw [bl_irrefl] at h; cases h
/-- what stands in a leaf does not stand ahead of its first key -/
theorem first_le {L : List Pr} (hs : L.Pairwise (fun a b => bl a.k b.k = true)) {x : Pr} (hx : x ∈ L) : firstK L = x.k ∨ bl (firstK L) x.k = true := by
  cases L with
  | nil => simp at hx
  | cons y r =>
    show y.k = x.k ∨ bl y.k x.k = true
    rcases List.mem_cons.1 hx with rfl | h
    · exact .inl rfl
    · exact .inr ((List.pairwise_cons.1 hs).1 x h)
theorem LsOk.row {Ls : List (List Pr)} (h : LsOk Ls) {L : List Pr} (hL : L ∈ Ls) : L.Pairwise (fun a b => bl a.k b.k = true) := by
  have := h.sorted
  rw [List.pairwise_flatten] at this
  exact this.1 L hL
theorem LsOk.apart {Ls : List (List Pr)} (h : LsOk Ls) {i j : Nat} (hij : i < j) (hj : j < Ls.length) {x y : Pr} (hx : x ∈ Ls[i]'(by omega)) (hy : y ∈ Ls[j]) : bl x.k y.k = true := by
  have := h.sorted
  rw [List.pairwise_flatten] at this
  exact List.pairwise_iff_getElem.1 this.2 i j (by omega) hj hij x hx y hy
theorem LsOk.first_mem {Ls : List (List Pr)} (h : LsOk Ls) {i : Nat} (hi : i < Ls.length) : ∃ x ∈ Ls[i], x.k = firstK Ls[i] := by
  obtain ⟨x, r, hx⟩ := List.exists_cons_of_ne_nil (h.ne _ (List.getElem_mem hi))
  exact ⟨x, by rw [hx]; simp, by rw [hx]; rfl⟩
/-- a key that its spot's leaf has not, no leaf has -/
theorem SpotIn.only {T : Tr} {key txt : ByteArray} {l a b : Nat} (h : SpotIn T key l txt a b) (ok : LsOk T.Ls) {x : Pr} {i : Nat} (hi : i < T.Ls.length) (hx : x ∈ T.Ls[i]) (hk : x.k = key) : i = l := by
  rcases Nat.lt_trichotomy i l with hlt | e | hgt
  · exfalso
    obtain ⟨y, hy, hyk⟩ := ok.first_mem h.lt
    have h1 := ok.apart hlt h.lt hx hy
    have h2 := h.left l (by omega) (Nat.le_refl _) h.lt
    rw [hk, hyk] at h1
    rw [h1] at h2; cases h2
  · exact e
  · exfalso
    have h2 := h.right i hgt hi
    rcases first_le (ok.row (List.getElem_mem hi)) hx with e | e
    · rw [e, hk, bl_irrefl] at h2; cases h2
    · rw [hk] at e
      have := bl_trans h2 e
      rw [bl_irrefl] at this; cases this
/-- which pair a spot is at -/
theorem SpotIn.none {T : Tr} {key txt : ByteArray} {l a b : Nat} (h : SpotIn T key l txt a b) (ok : LsOk T.Ls) (hab : ¬ a < b) : ∀ x ∈ T.Ls.flatten, x.k ≠ key := by
  intro x hx hk
  obtain ⟨L, hL, hxL⟩ := List.mem_flatten.1 hx
  obtain ⟨i, hi, rfl⟩ := List.getElem_of_mem hL
  obtain rfl := h.only ok hi hxL hk
  obtain ⟨j, hf⟩ := h.find
  obtain ⟨p, hp, rfl⟩ := List.getElem_of_mem hxL
  have hs := ok.row (List.getElem_mem hi)
  rcases Nat.lt_or_ge p j with hpj | hpj
  · have := hf.less p hpj
    exact bl_ne this hk
  · rcases hf.to_ with ⟨_, hn⟩ | ⟨hj, _, _, hb⟩
    · have hj : j < T.Ls[i].length := by omega
      obtain ⟨n1, n2⟩ := hn hj
      rcases Nat.eq_or_lt_of_le hpj with rfl | hlt
      · rw [hk] at n2; simp at n2
      · have h3 := List.pairwise_iff_getElem.1 hs j p hj hp hlt
        rw [hk] at h3
        rw [h3] at n1; cases n1
    · have e1 := hf.from_
      have e2 := szL_take_succ hj
      unfold Pr.sz at e2
      omega
theorem SpotIn.some {T : Tr} {key txt : ByteArray} {l a b : Nat} (h : SpotIn T key l txt a b) (hab : a < b) : ∃ L, L ∈ T.Ls ∧ txt = leafB L ∧ ∃ j, ∃ hj : j < L.length, L[j].k = key ∧ a = szL (L.take j) ∧ b = szL (L.take (j + 1)) := by
  obtain ⟨j, hf⟩ := h.find
  refine ⟨_, List.getElem_mem h.lt, h.txt, ?_⟩
  rcases hf.to_ with ⟨e, _⟩ | ⟨hj, e, _, hb⟩
  · omega
  · exact ⟨j, hj, bytes_of_beq e, hf.from_, hb⟩
theorem Var6.new6 (w : World) (a b c d e f : Value) (t : TypeId) : Var6 w.heap.size [a, b, c, d, e, f] (w.alloc (.cells #[a, b, c, d, e, f] t)) := by
  have hn : (w.alloc (.cells #[a, b, c, d, e, f] t)).heap[w.heap.size]? = Option.some (.cells #[a, b, c, d, e, f] t) := heap_alloc_new w _
  refine ⟨fun i hi => ?_, fun i => by simp only [World.frozen?, hn]; simp, rfl⟩
  simp only [World.cell?, hn]
  simp only [List.length_cons, List.length_nil] at hi
  rcases i with _ | _ | _ | _ | _ | _ | i <;> first | rfl | omega
/-- what Get tells -/
def GetTo (T : Tr) (key : ByteArray) (e : Ending) : Prop := (∃ x ∈ T.all, x.k = key ∧ e = .returned (.tuple #[.string x.i, .nilIface])) ∨ ((∀ x ∈ T.all, x.k ≠ key) ∧ e = .returned (.tuple #[.string ⟨#[]⟩, .iface 52 (.int .i64 7)]))
section
variable {bt bp bd bm N r : Nat} {s : St} {up : Nat → Bool} {cm : Int} {V : Pst} {w : World}
set_option maxRecDepth 100000 in
set_option maxHeartbeats 1000000 in
theorem get_any (hT : Tt bt bp r w) (h : Tw bp bd bm N s up cm V w) {T : Tr} (hA : TrAt V r T) (key : ByteArray) :
    Calls Tryz.prog 31 #[.pointer (some ⟨bt, 0, none⟩), .string key] w fun e w' => GetTo T key e ∧ Below w.heap.size w w' := by
  have HA : Hid _ := hA
  have HT : Hid _ := hT
  have HW : Hid _ := h
  clear hA hT h
  go_enter Tryz.func31, Tryz.ntmps31
  go_wp2_with fail
  refine (seek_any HT.out HW.out HA.out key).mono ?_
  rintro _ w1 ⟨v, l, txt, a, b, rfl, hs, hv1, hb1⟩
  have HS : Hid _ := hs
  have HB : Hid (Below w.heap.size w w1) := hb1
  obtain ⟨a9, cap9, hv9, _⟩ := hv1.is
  generalize (ints T.ks).length = n9 at hv9
  subst hv9
  clear hs hv1 hb1
  have HB2 : Hid (Below w.heap.size w (w1.alloc (.cells #[.int .i64 (T.top : Nat), .slice a9 n9 cap9, .int .i64 (l : Nat), .string txt, .int .i64 (a : Nat), .int .i64 (b : Nat)] 132))) := HB.out.alloc HB.out.size _
  go_wp2_with fail
  refine (taken_any _ _ _ _ _ _ _).mono ?_
  rintro _ w2 ⟨rfl, hb2⟩
  have HV6 : Hid _ := (Var6.new6 w1 (.int .i64 (T.top : Nat)) (.slice a9 n9 cap9) (.int .i64 (l : Nat)) (.string txt) (.int .i64 (a : Nat)) (.int .i64 (b : Nat)) 132).below hb2
  have HB3 : Hid (Below w.heap.size w w2) := HB2.out.trans (hb2.mono HB2.out.size)
  clear hb2 HB2 HB
  by_cases hab : a < b
  · have hin : SpotIn T key l txt a b := by
      rcases HS.out with ⟨_, _, _, h1, h2⟩ | h1
      · omega
      · exact h1
    obtain ⟨L, hLm, htx, j, hj, hk, h1, h2⟩ := hin.some hab
    have hft := HA.out.ok.fit _ hLm
    have hL : Leaf txt L 0 := by
      rw [htx]
      exact leafB_leaf (HA.out.ok.ok _ hLm) (by omega)
    have hr := hL.room hj
    have hi := hL.item hj
    have hok := hL.ok _ (List.getElem_mem hj)
    rw [szL_take_succ hj] at h2
    have HM : Hid (L[j] ∈ T.all) := List.mem_flatten.2 ⟨_, hLm, List.getElem_mem hj⟩
    rw [hk, ← h1] at hi
    unfold Pr.sz at hr h2
    rw [hk, ← h1] at hr
    rw [hk, ← h1] at h2
    unfold Pr.Ok at hok
    have HK : Hid _ := hk
    generalize L[j] = x at *
    obtain ⟨ok1, ok2, ok3⟩ := hok
    rw [hk] at ok2
    have e1 : (decide ((a : Int) < (b : Int))) = true := decide_eq_true (by omega)
    rw [e1]
    have c3 := HV6.out.cell 3 (by simp)
    have c4 := HV6.out.cell 4 (by simp)
    have c5 := HV6.out.cell 5 (by simp)
    have hbt : a + 2 + key.size + x.i.size = b := by omega
    rw [hbt] at hi
    have s0 := run_piece txt (a + 2 + key.size) b (by omega) (by omega) ((a : Int) + 2 + (key.size : Int)) (b : Int) (by omega) rfl x.i hi
    have hsz : txt.size ≤ 1024 := by rw [hL.size]; omega
    have hw1 : IntKind.i64.wrap ((a : Int) + 2) = (a : Int) + 2 := by simp [IntKind.wrap, IntKind.signed, IntKind.bits]; omega
    have hw2 : IntKind.i64.wrap ((a : Int) + 2 + (key.size : Int)) = (a : Int) + 2 + (key.size : Int) := by simp [IntKind.wrap, IntKind.signed, IntKind.bits]; omega
    clear hin h1 h2 hL hr hi e1 hbt hab hj hk hLm htx hft
    go_wp2_with fail
    refine (clone_any x.i _ (by omega)).mono ?_
    rintro _ w3 ⟨rfl, hb3⟩
    go_wp2
    go_ret2
    exact ⟨.inl ⟨x, HM.out, HK.out, rfl⟩, HB3.out.trans (hb3.mono HB3.out.size)⟩
  · have HN : Hid (∀ x ∈ T.all, x.k ≠ key) := by
      rcases HS.out with ⟨h1, _⟩ | h1
      · intro x hx
        unfold Tr.all at hx
        rw [h1] at hx
        simp at hx
      · exact h1.none HA.out.ok hab
    have e1 : (decide ((a : Int) < (b : Int))) = false := decide_eq_false (by omega)
    rw [e1]
    clear e1 hab
    go_wp2
    go_ret2
    exact ⟨.inr ⟨HN.out, rfl⟩, HB3.out⟩
end
end Go.Proofs.YtjgdnainhoipgaaGreatDoor
namespace Go.Proofs.YtjgdnainhoipgaaGreatDoor

/-- one more leaf, joined to the last one if there is room -/
def mstep (l : List (List Pr)) (s : List Pr) : List (List Pr) := match l.getLast? with
  | none => l ++ [s]
  | some x => if szL x + szL s ≤ 1024 then l.dropLast ++ [x ++ s] else l ++ [s]
def mjoin (M : List (List Pr)) : List (List Pr) := M.foldl mstep []
theorem mstep_nil (s : List Pr) : mstep [] s = [s] := rfl
theorem mstep_snoc (l : List (List Pr)) (x s : List Pr) : mstep (l ++ [x]) s = if szL x + szL s ≤ 1024 then l ++ [x ++ s] else l ++ [x] ++ [s] := by
  unfold mstep
  rw [List.getLast?_append]
  simp
theorem mjoin_snoc (M : List (List Pr)) (s : List Pr) : mjoin (M ++ [s]) = mstep (mjoin M) s := by
  unfold mjoin
  rw [List.foldl_append]
  rfl
/-- leaves side by side do not fit into one -/
def Adj : List (List Pr) → Prop
  | [] => True
  | [_] => True
  | a :: b :: r => 1024 < szL a + szL b ∧ Adj (b :: r)
theorem adj_iff : ∀ (Ls : List (List Pr)), Adj Ls ↔ ∀ i (hi : i + 1 < Ls.length), 1024 < szL (Ls[i]'(by omega)) + szL Ls[i + 1]
  | [] => ⟨fun _ i hi => absurd hi (by simp), fun _ => trivial⟩
  | [a] => ⟨fun _ i hi => absurd hi (by simp), fun _ => trivial⟩
  | a :: b :: r => by
    unfold Adj
    rw [adj_iff (b :: r)]
    constructor
    · rintro ⟨h1, h2⟩ i hi
      cases i with
      | zero => exact h1
      | succ i => exact h2 i (by simp at hi ⊢; omega)
    · intro h
      exact ⟨h 0 (by simp), fun i hi => h (i + 1) (by simp at hi ⊢; omega)⟩
theorem adj_append : ∀ (A B : List (List Pr)), Adj (A ++ B) ↔ Adj A ∧ Adj B ∧ ∀ x y, A.getLast? = some x → B.head? = some y → 1024 < szL x + szL y
  | [], B => by simp [Adj]
  | [a], B => by
    cases B with
    | nil => simp [Adj]
    | cons b r => simp [Adj, and_comm]
  | a :: b :: r, B => by
    have ih := adj_append (b :: r) B
    show (1024 < szL a + szL b ∧ Adj (b :: r ++ B)) ↔ _
    rw [ih, List.getLast?_cons_cons]
    show _ ↔ (1024 < szL a + szL b ∧ Adj (b :: r)) ∧ _
    constructor
    · rintro ⟨h1, h2, h3, h4⟩; exact ⟨⟨h1, h2⟩, h3, h4⟩
    · rintro ⟨⟨h1, h2⟩, h3, h4⟩; exact ⟨h1, h2, h3, h4⟩
theorem snoc_cases (l : List (List Pr)) : l = [] ∨ ∃ l' x, l = l' ++ [x] := by
  rcases List.eq_nil_or_concat l with h | ⟨l', x, h⟩
  · exact .inl h
  · exact .inr ⟨l', x, by rw [h, List.concat_eq_append]⟩
theorem mstep_adj {l : List (List Pr)} (s : List Pr) (h : Adj l) : Adj (mstep l s) := by
  rcases snoc_cases l with rfl | ⟨l', x, rfl⟩
  · exact trivial
  · rw [mstep_snoc]
    split
    · rw [adj_append] at h ⊢
      refine ⟨h.1, trivial, fun u v hu hv => ?_⟩
      have := h.2.2 u x hu rfl
      simp at hv
      subst hv
      rw [szL_append]
      omega
    · rename_i hn
      rw [adj_append]
      refine ⟨h, trivial, fun u v hu hv => ?_⟩
      rw [List.getLast?_append] at hu
      simp at hu hv
      subst hu hv
      omega
theorem mjoin_induct {P : List (List Pr) → Prop} (h0 : P []) (hs : ∀ l s, P l → P (mstep l s)) (M : List (List Pr)) : P (mjoin M) := by
  unfold mjoin
  have : ∀ (M l : List (List Pr)), P l → P (M.foldl mstep l) := by
    intro M
    induction M with
    | nil => exact fun l h => h
    | cons a r ih => exact fun l h => ih _ (hs l a h)
  exact this M [] h0
theorem mjoin_adj (M : List (List Pr)) : Adj (mjoin M) := mjoin_induct trivial (fun _ s h => mstep_adj s h) M
theorem mstep_flatten (l : List (List Pr)) (s : List Pr) : (mstep l s).flatten = l.flatten ++ s := by
  rcases snoc_cases l with rfl | ⟨l', x, rfl⟩
  · simp [mstep_nil]
  · rw [mstep_snoc]
    split <;> simp
theorem mjoin_flatten (M : List (List Pr)) : (mjoin M).flatten = M.flatten := by
  have : ∀ (M l : List (List Pr)), (M.foldl mstep l).flatten = l.flatten ++ M.flatten := by
    intro M
    induction M with
    | nil => intro l; simp
    | cons a r ih => intro l; rw [List.foldl_cons, ih, mstep_flatten]; simp
  unfold mjoin
  rw [this]; simp
theorem mjoin_fit {M : List (List Pr)} (h : ∀ L ∈ M, szL L ≤ 1024) : ∀ L ∈ mjoin M, szL L ≤ 1024 := by
  have : ∀ (M l : List (List Pr)), (∀ L ∈ M, szL L ≤ 1024) → (∀ L ∈ l, szL L ≤ 1024) → ∀ L ∈ M.foldl mstep l, szL L ≤ 1024 := by
    intro M
    induction M with
    | nil => exact fun l _ h => h
    | cons a r ih =>
      intro l h1 h2
      refine ih _ (fun L hL => h1 L (List.mem_cons_of_mem _ hL)) ?_
      rcases snoc_cases l with rfl | ⟨l', x, rfl⟩
      · intro L hL
        rw [mstep_nil] at hL
        simp at hL
        subst hL
        exact h1 _ List.mem_cons_self
      · rw [mstep_snoc]
        split
        · intro L hL
          rcases List.mem_append.1 hL with hL | hL
          · exact h2 L (List.mem_append_left _ hL)
          · simp at hL
            subst hL
            rw [szL_append]
            assumption
        · intro L hL
          rcases List.mem_append.1 hL with hL | hL
          · exact h2 L hL
          · simp at hL
            subst hL
            exact h1 _ List.mem_cons_self
  exact this M [] h (fun L hL => absurd hL (by simp))
/-- the first leaf of what is joined begins with the first one -/
theorem mjoin_head (L : List Pr) (R : List (List Pr)) : ∃ y r, mjoin (L :: R) = y :: r ∧ szL L ≤ szL y := by
  have : ∀ (R l : List (List Pr)) (x : List Pr), ∃ y r, R.foldl mstep (x :: l) = y :: r ∧ szL x ≤ szL y := by
    intro R
    induction R with
    | nil => exact fun l x => ⟨x, l, rfl, Nat.le_refl _⟩
    | cons a R ih =>
      intro l x
      rw [List.foldl_cons]
      rcases snoc_cases l with rfl | ⟨l', z, rfl⟩
      · have e : mstep [x] a = if szL x + szL a ≤ 1024 then [x ++ a] else [x, a] := mstep_snoc [] x a
        rw [e]
        split
        · obtain ⟨y, r, h1, h2⟩ := ih [] (x ++ a)
          exact ⟨y, r, h1, by rw [szL_append] at h2; omega⟩
        · exact ih [a] x
      · have e : mstep (x :: (l' ++ [z])) a = if szL z + szL a ≤ 1024 then x :: (l' ++ [z ++ a]) else x :: (l' ++ [z] ++ [a]) := mstep_snoc (x :: l') z a
        rw [e]
        split
        · exact ih _ x
        · exact ih _ x
  exact this R [] L
/-- the last leaf of what is joined ends with the last one -/
theorem mjoin_last (M : List (List Pr)) (s : List Pr) : ∃ r y, mjoin (M ++ [s]) = r ++ [y] ∧ szL s ≤ szL y := by
  rw [mjoin_snoc]
  rcases snoc_cases (mjoin M) with h | ⟨l', x, h⟩
  · rw [h]; exact ⟨[], s, rfl, Nat.le_refl _⟩
  · rw [h, mstep_snoc]
    split
    · exact ⟨l', x ++ s, rfl, by rw [szL_append]; omega⟩
    · exact ⟨l' ++ [x], s, rfl, Nat.le_refl _⟩
/-- leaves of which no two fit into one are not empty, if there is anything at all -/
theorem adj_ne {Ls : List (List Pr)} (ha : Adj Ls) (hf : ∀ L ∈ Ls, szL L ≤ 1024) (hn : Ls.flatten ≠ []) : ∀ L ∈ Ls, L ≠ [] := by
  intro L hL e
  subst e
  obtain ⟨i, hi, hi2⟩ := List.getElem_of_mem hL
  rw [adj_iff] at ha
  have z : szL ([] : List Pr) = 0 := rfl
  rcases Nat.eq_zero_or_pos i with h0 | h0
  · by_cases h1 : i + 1 < Ls.length
    · have := ha i h1
      have h2 := hf _ (List.getElem_mem h1)
      rw [hi2, z] at this
      omega
    · have hl : Ls.length = 1 := by omega
      obtain ⟨a, rfl⟩ := List.length_eq_one_iff.1 hl
      simp at hL hn
      exact hn hL
  · have := ha (i - 1) (by omega)
    have e : i - 1 + 1 = i := by omega
    simp only [e] at this
    have h2 := hf _ (List.getElem_mem (show i - 1 < Ls.length by omega))
    rw [hi2, z] at this
    omega
/-- leaves in a window are changed and joined: what comes of it may be -/
theorem LsOk.window {A B C M : List (List Pr)} (h : LsOk (A ++ B ++ C)) (hfit : ∀ L ∈ M, szL L ≤ 1024) (hok : ∀ L ∈ M, ∀ x ∈ L, x.Ok)
    (hA : A ≠ [] → ∃ L R S, B = L :: R ∧ M = L :: S) (hC : C ≠ [] → ∃ L R S, B = R ++ [L] ∧ M = S ++ [L])
    (hs : (A ++ M ++ C).flatten.Pairwise (fun a b => bl a.k b.k = true)) (hsum : szL (A ++ M ++ C).flatten ≤ 30000) (hne : M.flatten ≠ []) : LsOk (A ++ mjoin M ++ C) := by
  have ef : (A ++ mjoin M ++ C).flatten = (A ++ M ++ C).flatten := by
    rw [List.flatten_append, List.flatten_append, mjoin_flatten, List.flatten_append, List.flatten_append]
  have h1 := (adj_iff _).2 h.adj
  rw [adj_append, adj_append] at h1
  obtain ⟨⟨a1, a2, a3⟩, a4, a5⟩ := h1
  have hfm := mjoin_fit hfit
  have fitA : ∀ L ∈ A, szL L ≤ 1024 := fun L hL => h.fit L (List.mem_append_left _ (List.mem_append_left _ hL))
  have fitC : ∀ L ∈ C, szL L ≤ 1024 := fun L hL => h.fit L (List.mem_append_right _ hL)
  have hfa : ∀ L ∈ A ++ mjoin M ++ C, szL L ≤ 1024 := by
    intro L hL
    rcases List.mem_append.1 hL with hL | hL
    · rcases List.mem_append.1 hL with hL | hL
      · exact fitA L hL
      · exact hfm L hL
    · exact fitC L hL
  have hmn : mjoin M ≠ [] := by
    intro e
    have := mjoin_flatten M
    rw [e] at this
    exact hne this.symm
  have adj : Adj (A ++ mjoin M ++ C) := by
    rw [adj_append, adj_append]
    refine ⟨⟨a1, mjoin_adj M, fun x y hx hy => ?_⟩, a4, fun x y hx hy => ?_⟩
    · obtain ⟨L, R, S, rfl, rfl⟩ := hA (by rintro rfl; simp at hx)
      obtain ⟨z, r, e1, e2⟩ := mjoin_head L S
      rw [e1] at hy
      simp at hy
      subst hy
      have := a3 x L hx rfl
      omega
    · obtain ⟨L, R, S, rfl, rfl⟩ := hC (by rintro rfl; simp at hy)
      obtain ⟨r, z, e1, e2⟩ := mjoin_last S L
      rw [e1, ← List.append_assoc, List.getLast?_append] at hx
      simp at hx
      subst hx
      have := a5 L y (by rw [← List.append_assoc, List.getLast?_append]; simp) hy
      omega
  have hfl : (A ++ mjoin M ++ C).flatten ≠ [] := by
    rw [ef, List.flatten_append, List.flatten_append]
    intro e
    have := (List.append_eq_nil_iff.1 e).1
    exact hne (List.append_eq_nil_iff.1 this).2
  refine ⟨adj_ne adj hfa hfl, hfa, ?_, (adj_iff _).1 adj, by rw [ef]; exact hsum, by rw [ef]; exact hs⟩
  intro L hL x hx
  rcases List.mem_append.1 hL with hL | hL
  · rcases List.mem_append.1 hL with hL | hL
    · exact h.ok L (List.mem_append_left _ (List.mem_append_left _ hL)) x hx
    · have : x ∈ M.flatten := by rw [← mjoin_flatten]; exact List.mem_flatten.2 ⟨L, hL, hx⟩
      obtain ⟨L', h1, h2⟩ := List.mem_flatten.1 this
      exact hok L' h1 x h2
  · exact h.ok L (List.mem_append_right _ hL) x hx
end Go.Proofs.YtjgdnainhoipgaaGreatDoor
namespace Go.Proofs.YtjgdnainhoipgaaGreatDoor

theorem leafB_append (a b : List Pr) : leafB (a ++ b) = leafB a ++ leafB b := by
  apply ByteArray.ext
  rw [ByteArray.data_append]
  unfold leafB
  rw [encL_append]
  simp
theorem joinStep_map (l : List (List Pr)) (s : List Pr) : joinStep (l.map leafB) (leafB s) = (mstep l s).map leafB := by
  rcases snoc_cases l with rfl | ⟨l', x, rfl⟩
  · rfl
  · rw [mstep_snoc]
    unfold joinStep
    rw [List.map_append, List.map_singleton, List.getLast?_append]
    simp only [List.getLast?_singleton, Option.some_or, leafB_size]
    split
    · rw [List.dropLast_concat, List.map_append, List.map_singleton, leafB_append]
    · simp
theorem joinL_map (M : List (List Pr)) : joinL (M.map leafB) = (mjoin M).map leafB := by
  have : ∀ (M l : List (List Pr)), (M.map leafB).foldl joinStep (l.map leafB) = (M.foldl mstep l).map leafB := by
    intro M
    induction M with
    | nil => exact fun _ => rfl
    | cons a r ih => intro l; rw [List.map_cons, List.foldl_cons, List.foldl_cons, joinStep_map, ih]
  exact this M []
/-- what stands ahead of a spot, and behind it -/
structure Cut (T : Tr) (key : ByteArray) (l a b : Nat) (L : List Pr) (j k : Nat) : Prop where
  at_ : T.Ls[l]? = some L
  jk : (k = j ∧ b = a) ∨ (k = j + 1 ∧ a < b)
  le : k ≤ L.length
  from_ : a = szL (L.take j)
  to_ : b = szL (L.take k)
  less : ∀ x ∈ (T.Ls.take l).flatten ++ L.take j, bl x.k key = true
  more : ∀ x ∈ L.drop k ++ (T.Ls.drop (l + 1)).flatten, bl key x.k = true
theorem SpotIn.cut {T : Tr} {key txt : ByteArray} {l a b : Nat} (h : SpotIn T key l txt a b) (ok : LsOk T.Ls) : ∃ L j k, txt = leafB L ∧ Cut T key l a b L j k := by
  obtain ⟨j, hf⟩ := h.find
  have hlt := h.lt
  have hrow := ok.row (List.getElem_mem hlt)
  have less : ∀ x ∈ (T.Ls.take l).flatten ++ T.Ls[l].take j, bl x.k key = true := by
    intro x hx
    rcases List.mem_append.1 hx with hx | hx
    · obtain ⟨L, hL, hxL⟩ := List.mem_flatten.1 hx
      obtain ⟨i, hi, rfl⟩ := List.mem_take_iff_getElem.1 hL
      obtain ⟨y, hy, hyk⟩ := ok.first_mem hlt
      have h1 := ok.apart (show i < l by omega) hlt hxL hy
      have h2 := h.left l (by omega) (Nat.le_refl _) hlt
      rw [hyk] at h1
      rcases bl_tri (firstK T.Ls[l]) key with e | e | e
      · exact bl_trans h1 e
      · rw [← e]; exact h1
      · rw [e] at h2; cases h2
    · obtain ⟨i, hi, rfl⟩ := List.mem_take_iff_getElem.1 hx
      exact hf.less i (by omega)
  have far : ∀ x ∈ (T.Ls.drop (l + 1)).flatten, bl key x.k = true := by
    intro x hx
    obtain ⟨L, hL, hxL⟩ := List.mem_flatten.1 hx
    obtain ⟨i, hi, rfl⟩ := List.getElem_of_mem hL
    rw [List.length_drop] at hi
    rw [List.getElem_drop] at hxL
    have h2 := h.right (l + 1 + i) (by omega) (by omega)
    rcases first_le (ok.row (List.getElem_mem (show l + 1 + i < T.Ls.length by omega))) hxL with e | e
    · rw [← e]; exact h2
    · exact bl_trans h2 e
  rcases hf.to_ with ⟨hb, hn⟩ | ⟨hj, he, _, hb⟩
  · refine ⟨T.Ls[l], j, j, h.txt, List.getElem?_eq_getElem hlt, .inl ⟨rfl, hb⟩, hf.le, hf.from_, by rw [hb]; exact hf.from_, less, fun x hx => ?_⟩
    rcases List.mem_append.1 hx with hx | hx
    · obtain ⟨i, hi, rfl⟩ := List.getElem_of_mem hx
      rw [List.length_drop] at hi
      rw [List.getElem_drop]
      obtain ⟨n1, n2⟩ := hn (by omega)
      have h3 : bl key (T.Ls[l][j]'(by omega)).k = true := by
        rcases bl_tri (T.Ls[l][j]'(by omega)).k key with e | e | e
        · rw [e] at n1; cases n1
        · rw [e] at n2; simp at n2
        · exact e
      rcases Nat.eq_zero_or_pos i with rfl | hi0
      · exact h3
      · exact bl_trans h3 (List.pairwise_iff_getElem.1 hrow j (j + i) (by omega) (by omega) (by omega))
    · exact far x hx
  · have hk := bytes_of_beq he
    have e2 := szL_take_succ hj
    unfold Pr.sz at e2
    have e3 := hf.from_
    refine ⟨T.Ls[l], j, j + 1, h.txt, List.getElem?_eq_getElem hlt, .inr ⟨rfl, by omega⟩, hj, hf.from_, hb, less, fun x hx => ?_⟩
    rcases List.mem_append.1 hx with hx | hx
    · obtain ⟨i, hi, rfl⟩ := List.getElem_of_mem hx
      rw [List.length_drop] at hi
      rw [List.getElem_drop]
      have := List.pairwise_iff_getElem.1 hrow j (j + 1 + i) hj (by omega) (by omega)
      rw [hk] at this
      exact this
    · exact far x hx
/-- the leaves around a changed one, joined, may be -/
theorem LsOk.changed {A P C S parts : List (List Pr)} {L L' : List Pr} (h : LsOk (A ++ (P ++ [L] ++ S) ++ C)) (hP : (P = [] ∧ A = []) ∨ ∃ p, P = [p]) (hS : (S = [] ∧ C = []) ∨ ∃ q, S = [q])
    (hp : parts.flatten = L') (hfit : ∀ X ∈ parts, szL X ≤ 1024) (hok : ∀ x ∈ L', x.Ok) (hs : ((A ++ P).flatten ++ L' ++ (S ++ C).flatten).Pairwise (fun a b => bl a.k b.k = true))
    (hsum : szL ((A ++ P).flatten ++ L' ++ (S ++ C).flatten) ≤ 30000) (hne : (A ++ P).flatten ++ L' ++ (S ++ C).flatten ≠ []) :
    LsOk (A ++ mjoin (P ++ parts ++ S) ++ C) ∧ (A ++ mjoin (P ++ parts ++ S) ++ C).flatten = (A ++ P).flatten ++ L' ++ (S ++ C).flatten := by
  have ef : (A ++ (P ++ parts ++ S) ++ C).flatten = (A ++ P).flatten ++ L' ++ (S ++ C).flatten := by
    simp only [List.flatten_append, hp, List.append_assoc]
  refine ⟨LsOk.window (B := P ++ [L] ++ S) h ?_ ?_ ?_ ?_ (by rw [ef]; exact hs) (by rw [ef]; exact hsum) ?_, ?_⟩
  · intro X hX
    rcases List.mem_append.1 hX with hX | hX
    · rcases List.mem_append.1 hX with hX | hX
      · exact h.fit X (by simp [hX])
      · exact hfit X hX
    · exact h.fit X (by simp [hX])
  · intro X hX x hx
    rcases List.mem_append.1 hX with hX | hX
    · rcases List.mem_append.1 hX with hX | hX
      · exact h.ok X (by simp [hX]) x hx
      · exact hok x (by rw [← hp]; exact List.mem_flatten.2 ⟨X, hX, hx⟩)
    · exact h.ok X (by simp [hX]) x hx
  · intro hA
    rcases hP with ⟨_, e⟩ | ⟨p, rfl⟩
    · exact absurd e hA
    · exact ⟨p, [L] ++ S, parts ++ S, by simp, by simp⟩
  · intro hC
    rcases hS with ⟨_, e⟩ | ⟨q, rfl⟩
    · exact absurd e hC
    · exact ⟨q, P ++ [L], P ++ parts, rfl, rfl⟩
  · intro e
    rw [List.flatten_append, List.flatten_append] at e
    have e1 := List.append_eq_nil_iff.1 e
    have e2 := List.append_eq_nil_iff.1 e1.1
    have hP0 : P = [] ∧ A = [] := by
      rcases hP with hP | ⟨p, rfl⟩
      · exact hP
      · exact absurd (by simpa using e2.1) (h.ne p (by simp))
    have hS0 : S = [] ∧ C = [] := by
      rcases hS with hS | ⟨q, rfl⟩
      · exact hS
      · exact absurd (by simpa using e1.2) (h.ne q (by simp))
    apply hne
    rw [hP0.1, hP0.2, hS0.1, hS0.2, ← hp, e2.2]
    rfl
  · rw [← ef]
    simp only [List.flatten_append, mjoin_flatten]
/-- the pairs stay in order -/
theorem Cut.sorted {T : Tr} {key : ByteArray} {l a b j k : Nat} {L : List Pr} (h : Cut T key l a b L j k) (ok : LsOk T.Ls) {nw : List Pr} (hn : nw = [] ∨ ∃ x, nw = [x] ∧ x.k = key) :
    ((T.Ls.take l).flatten ++ (L.take j ++ nw ++ L.drop k) ++ (T.Ls.drop (l + 1)).flatten).Pairwise (fun a b => bl a.k b.k = true) := by
  obtain ⟨hlt, hL⟩ := List.getElem?_eq_some_iff.1 h.at_
  have e : T.Ls = T.Ls.take l ++ (L :: T.Ls.drop (l + 1)) := by
    rw [← hL, ← List.drop_eq_getElem_cons hlt, List.take_append_drop]
  have hjk : j ≤ k := by rcases h.jk with h | h <;> omega
  have e2 : L = L.take j ++ (L.drop j).take (k - j) ++ L.drop k := by
    rw [List.append_assoc]
    have : (L.drop j).take (k - j) ++ L.drop k = L.drop j := by
      have h2 : L.drop k = (L.drop j).drop (k - j) := by rw [List.drop_drop]; congr 1; omega
      rw [h2, List.take_append_drop]
    rw [this, List.take_append_drop]
  have hs := ok.sorted
  rw [e, List.flatten_append, List.flatten_cons] at hs
  have sub : List.Sublist ((T.Ls.take l).flatten ++ (L.take j ++ L.drop k) ++ (T.Ls.drop (l + 1)).flatten) ((T.Ls.take l).flatten ++ (L ++ (T.Ls.drop (l + 1)).flatten)) := by
    rw [List.append_assoc]
    refine List.Sublist.append (List.Sublist.refl _) (List.Sublist.append ?_ (List.Sublist.refl _))
    conv => rhs; rw [e2]
    exact List.Sublist.append (List.sublist_append_left _ _) (List.Sublist.refl _)
  have hs2 := hs.sublist sub
  rcases hn with rfl | ⟨x, rfl, rfl⟩
  · rw [List.append_nil]
    exact hs2
  · have e3 : (T.Ls.take l).flatten ++ (L.take j ++ L.drop k) ++ (T.Ls.drop (l + 1)).flatten = ((T.Ls.take l).flatten ++ L.take j) ++ (L.drop k ++ (T.Ls.drop (l + 1)).flatten) := by simp only [List.append_assoc]
    have e4 : (T.Ls.take l).flatten ++ (L.take j ++ [x] ++ L.drop k) ++ (T.Ls.drop (l + 1)).flatten = ((T.Ls.take l).flatten ++ L.take j) ++ (x :: (L.drop k ++ (T.Ls.drop (l + 1)).flatten)) := by simp only [List.append_assoc, List.cons_append, List.nil_append]
    rw [e3, List.pairwise_append] at hs2
    rw [e4, List.pairwise_append, List.pairwise_cons]
    refine ⟨hs2.1, ⟨h.more, hs2.2.1⟩, fun u hu v hv => ?_⟩
    rcases List.mem_cons.1 hv with rfl | hv
    · exact h.less u hu
    · exact hs2.2.2 u hu v hv
end Go.Proofs.YtjgdnainhoipgaaGreatDoor
namespace Go.Proofs.YtjgdnainhoipgaaGreatDoor
open Go.RowKit Go.Maps

/-- a variable that holds a slice of texts of its own -/
def Tvar (B : Nat) (ts : List ByteArray) (w : World) : Prop := ∃ v, Own1 B v w ∧ SRow (B + 1) v ts w
theorem row_far {w : World} {base C o size n : Nat} {e : TypeId} {v u : Value} {xs : List Value} (h : w.ownsRow base e size v n xs) (hC : C < base) : (w.setCell ⟨C, o, none⟩ u).ownsRow base e size v n xs := by
  refine ⟨h.1, ?_⟩
  rcases h.2 with h2 | ⟨g, cap, cur, h1, h2, h3, h4⟩
  · exact .inl h2
  · have hg : g < w.heap.size := by
      rcases Nat.lt_or_ge g w.heap.size with hh | hh
      · exact hh
      · rw [Array.getElem?_eq_none hh] at h3; cases h3
    exact .inr ⟨g, cap, cur, h1, h2, by rw [(Only.set C o u w).block g hg (by omega)]; exact h3, h4⟩
set_option maxRecDepth 100000 in
set_option maxHeartbeats 1000000 in
theorem change_cl {B : Nat} {ts : List ByteArray} (w : World) (h : Tvar B ts w) (hn : ts.length ≤ 1000) (t : ByteArray) :
    Calls Tryz.prog 106 #[.string t, .pointer (some ⟨B, 0, none⟩)] w fun e w' => e = .returned (.bool true) ∧ Tvar B (ts ++ [t]) w' ∧ Below B w w' := by
  obtain ⟨v, h1, h2⟩ := h
  have HR : Hid _ := h2
  have HN : Hid (ts.length ≤ 1000) := hn
  have HO : Hid (Own1 B v w) := h1
  have c0 := h1.cell
  have hlt := h1.lt
  have hvb : ∀ k, v.ownBlock = some k → B + 1 ≤ k := fun k e => (World.ownsRow.lt h2 k e).1
  have HVB : Hid _ := hvb
  have HB : Hid (Below B w (w.alloc (.cells #[.string t] 9))) := (Below.refl B w).alloc (by omega) _
  have HO2 : Hid _ := World.ownsRow.alloc h2 (.cells #[.string t] 9)
  obtain ⟨i0, hi, hz0, hz1, hz2⟩ := info9
  clear h1 h2 hn hvb
  go_enter Tryz.func106, Tryz.ntmps106
  go_wp2_with (at_builtin; refine wpList_append_own _ rfl _ _ 22 rfl (B + 1) 9 i0 (.string ⟨#[]⟩) 1 16 Tryz.underlying22 hi hz0 hz1 hz2 rfl (by decide) _ _ _ rfl HO2.out ⟨w.heap.size, 0, none⟩ 1 1 [.string t] rfl rfl (news_str w t 9) (by intro u hu; simp at hu; subst hu; rfl) (by have := HN.out; simp only [maxLen]; omega) (by have := HN.out; omega) (by simp; omega) ?_; intro v' w' hO hG hN; have hne : some B ≠ v.ownBlock := (fun e => absurd (HVB.out B e.symm) (by omega)); have o1 : Own1 B v w' := (HO.out.below ((Below.refl _ w).alloc (Nat.le_refl _) _)).block (hG.block B (by simp; omega) hne); obtain ⟨g, cap, hv', hg1, hg2⟩ := World.ownsRow.form hO (by omega); subst hv'; have c1 := o1.cell; have c2 := o1.free)
  go_ret
  refine ⟨rfl, ⟨_, o1.set _, ?_⟩, ?_⟩
  · show World.ownsRow _ _ _ _ _ _ _
    rw [List.map_append, List.length_append]
    exact row_far hO (by omega)
  · exact (HB.out.grown hG (by simp; omega) (fun k e => by have := HVB.out k e; omega)).setCell (Nat.le_refl _) _
end Go.Proofs.YtjgdnainhoipgaaGreatDoor
namespace Go.Proofs.YtjgdnainhoipgaaGreatDoor
open Go.RowKit Go.Maps

end Go.Proofs.YtjgdnainhoipgaaGreatDoor
namespace Go.Proofs.YtjgdnainhoipgaaGreatDoor
open Go.RowKit Go.Maps

def pairC (x : Pr) : List Value := [.string x.k, .string x.i]
/-- a slice of pairs -/
def PRow (B : Nat) (v : Value) (ps : List Pr) (w : World) : Prop := w.ownsRow B 142 2 v ps.length (ps.flatMap pairC)
def Pvar (B C : Nat) (ps : List Pr) (w : World) : Prop := ∃ v, Own1 B v w ∧ PRow C v ps w
theorem info64 : ∃ i0 : TypeInfo, Tryz.prog.info? 142 = some i0 ∧ i0.zero = some (.agg #[.string ⟨#[]⟩, .string ⟨#[]⟩]) ∧ i0.size = 2 ∧ i0.bytes = 32 := by
  have h : (Tryz.prog.info? 142).map (fun i => (i.zero, i.size, i.bytes)) = some (some (.agg #[.string ⟨#[]⟩, .string ⟨#[]⟩]), 2, 32) := by kernel_rfl
  cases hq : Tryz.prog.info? 142 with
  | none => rw [hq] at h; simp at h
  | some i => rw [hq] at h; simp at h; exact ⟨i, rfl, h.1, h.2.1, h.2.2⟩
theorem row_only {w w' : World} {base size n : Nat} {e : TypeId} {v : Value} {xs : List Value} {S : Nat → Prop} (h : w.ownsRow base e size v n xs) (ho : Only S w w') (hS : ∀ b, S b → b < base) : w'.ownsRow base e size v n xs := by
  refine ⟨h.1, ?_⟩
  rcases h.2 with h2 | ⟨g, cap, cur, h1, h2, h3, h4⟩
  · exact .inl h2
  · have hg : g < w.heap.size := by
      rcases Nat.lt_or_ge g w.heap.size with hh | hh
      · exact hh
      · rw [Array.getElem?_eq_none hh] at h3; cases h3
    exact .inr ⟨g, cap, cur, h1, h2, by rw [ho.block g hg (fun e => by have := hS g e; omega)]; exact h3, h4⟩
theorem below_only {w w' : World} (h : Below w.heap.size w w') (S : Nat → Prop) : Only S w w' := ⟨h.os, h.tape, h.output, h.size, fun k hk _ => h.block k hk⟩
theorem Own1.only {B : Nat} {v : Value} {w w' : World} {S : Nat → Prop} (h : Own1 B v w) (ho : Only S w w') (hS : ¬ S B) : Own1 B v w' := h.block (ho.block B h.lt hS)
theorem Var2.only {B : Nat} {a b : Value} {w w' : World} {S : Nat → Prop} (h : Var2 B a b w) (ho : Only S w w') (hS : ¬ S B) : Var2 B a b w' := h.block (ho.block B h.lt hS)
end Go.Proofs.YtjgdnainhoipgaaGreatDoor
namespace Go.Proofs.YtjgdnainhoipgaaGreatDoor
open Go

section
variable {P : Program} {ops : Array Oper} {Q : Exit → Act → World → Prop} {md : Region.Mode} {S : World → Prop} {js : Nat}
/-- whatever order is picked, and S holds behind every operation but the last one -/
def wpAnyL (P : Program) (md : Region.Mode) (ops : Array Oper) (Q : Exit → Act → World → Prop) (S : World → Prop) (js : Nat) : Nat → Array Bool → Act → World → Prop
  | 0, listed, a, w => Region.ready md ops listed = [] ∧ Q .normal a w
  | fuel + 1, listed, a, w =>
    (Region.ready md ops listed = [] → Q .normal a w) ∧
    ∀ i ∈ Region.ready md ops listed, wpOp P ops Q i (fun a' w' => (i = js → wpAny P md ops Q fuel (listed.setIfInBounds i true) a' w') ∧ (i ≠ js → S w' ∧ wpAnyL P md ops Q S js fuel (listed.setIfInBounds i true) a' w')) a w
theorem wpAny_of_late : ∀ (fuel : Nat) (listed : Array Bool) (a : Act) (w : World), wpAnyL P md ops Q S js fuel listed a w → wpAny P md ops Q fuel listed a w
  | 0, _, _, _, h => h
  | fuel + 1, _, _, _, h => ⟨h.1, fun i hi => wpOp_mono (fun a' w' h' => by
      by_cases e : i = js
      · exact h'.1 e
      · exact wpAny_of_late fuel _ a' w' (h'.2 e).2) (h.2 i hi)⟩
theorem wpAnyL_first {i : Nat} {oi : Oper} {v : Value} (hi : ops[i]? = some oi) (hsel : ∀ (j : Nat) (o : Oper) cs b, ops[j]? = some o → o.op ≠ .select cs b)
    (hQ : ∀ c a w, Q (.panic c) (a.put oi.dst v) w → Q (.panic c) a w) (hne : i ≠ js) (hw : ∀ o, ops[js]? = some o → ∃ e ∈ o.after, Region.binds md e = true ∧ e.on = i) :
    ∀ (fuel : Nat) (listed : Array Bool) (a : Act) (w : World),
      (∀ j oj, ops[j]? = some oj → j ≠ i → listed.getD j true = false → (∀ e ∈ oj.after, Region.binds md e = true → e.on ≠ i) → oi.apart ops oj = true) →
      i ∈ Region.ready md ops listed → YieldsIf P ops S oi v a → S w →
      wpAnyL P md ops Q S js fuel (listed.setIfInBounds i true) (a.put oi.dst v) w → wpAnyL P md ops Q S js (fuel + 1) listed a w := by
  intro fuel
  induction fuel with
  | zero =>
    intro listed a w _ hr hy hS H
    refine ⟨fun h => (by rw [h] at hr; cases hr), fun j hj => ?_⟩
    by_cases hji : j = i
    · subst hji; exact hy.wpOp hi hS ⟨fun e => absurd e hne, fun _ => ⟨hS, H⟩⟩
    · have := ready_mono hj hji
      rw [H.1] at this
      cases this
  | succ fuel ih =>
    intro listed a w hfree hr hy hS H
    refine ⟨fun h => (by rw [h] at hr; cases hr), fun j hj => ?_⟩
    by_cases hji : j = i
    · subst hji; exact hy.wpOp hi hS ⟨fun e => absurd e hne, fun _ => ⟨hS, H⟩⟩
    · have h1 := H.2 j (ready_mono hj hji)
      obtain ⟨hjun, oj, hoj, hall⟩ := mem_ready.1 hj
      have hnot : ∀ e ∈ oj.after, Region.binds md e = true → e.on ≠ i := fun e he hb heq => by
        have h1 := hall e he hb
        have h0 := (mem_ready.1 hr).1
        rw [heq] at h1
        rcases Nat.lt_or_ge i listed.size with h' | h'
        · simp [h'] at h0 h1; rw [h0] at h1; cases h1
        · simp [Array.getElem?_eq_none h'] at h1
      have hjs : j ≠ js := fun e => by
        obtain ⟨x, hx, hb, ho⟩ := hw oj (e ▸ hoj)
        exact hnot x hx hb ho
      have h2 := wpOp_putIf hoj (hfree j oj hoj hji hjun hnot) (fun cs b => hsel i oi cs b hi) (fun cs b => hsel j oj cs b hoj) hQ hy h1
      have hfree' : ∀ k ok, ops[k]? = some ok → k ≠ i → (listed.setIfInBounds j true).getD k true = false →
          (∀ e ∈ ok.after, Region.binds md e = true → e.on ≠ i) → oi.apart ops ok = true := fun k ok hk hki hun hno => by
        refine hfree k ok hk hki ?_ hno
        by_cases hjk : j = k
        · subst hjk; exact hjun
        · rw [getD_set_ne true hjk] at hun; exact hun
      refine wpOp_mono (fun a' w' h3 => ⟨fun e => absurd e hjs, fun _ => ?_⟩) h2
      obtain ⟨k1, k2⟩ := h3.2.2 hjs
      refine ⟨k1, ih (listed.setIfInBounds j true) a' w' hfree' (ready_mono hr (Ne.symm hji)) h3.1 k1 ?_⟩
      rw [Array.setIfInBounds_comm _ _ hji]
      exact k2
theorem wpAnyL_take {i : Nat} {oi : Oper} {v : Value} {fuel : Nat} {listed : Array Bool} {a : Act} {w : World} (hi : ops[i]? = some oi)
    (hs : Region.noSelect ops = true) (hf : Region.free md ops listed i = true) (hr : (Region.ready md ops listed).contains i = true)
    (hQ : ∀ c a w, Q (.panic c) (a.put oi.dst v) w → Q (.panic c) a w) (hne : i ≠ js) (hw : ((ops[js]?).map fun o => o.after.any fun e => Region.binds md e && e.on == i) = some true) (hy : YieldsIf P ops S oi v a) (hS : S w)
    (h : wpAnyL P md ops Q S js fuel (listed.setIfInBounds i true) (a.put oi.dst v) w) : wpAnyL P md ops Q S js (fuel + 1) listed a w :=
  wpAnyL_first hi (Region.noSelect_spec hs) hQ hne (fun o ho => by
    rw [ho] at hw
    simp only [Option.map_some, Option.some.injEq] at hw
    obtain ⟨k, hk, hb⟩ := Array.any_eq_true.1 hw
    simp at hb
    exact ⟨_, Array.getElem_mem hk, hb.1, hb.2⟩) fuel listed a w (Region.free_spec hi hf) (by simpa using hr) hy hS h
theorem wpAnyL_one {i : Nat} {o : Oper} {fuel : Nat} {listed : Array Bool} {a : Act} {w : World} (hr : Region.ready md ops listed = [i]) (ho : ops[i]? = some o) (hne : i ≠ js) (hwt : Region.wanted o (yielded ops a.tmps) = true)
    (h : ∀ K' : Act → World → Prop, Shut (∀ a w, S w → (S w → wpAnyL P md ops Q S js fuel (listed.setIfInBounds i true) a w) → K' a w) → Oper.wp P o a w K' Q) : wpAnyL P md ops Q S js (fuel + 1) listed a w :=
  ⟨fun h0 => (by rw [hr] at h0; cases h0), fun j hj => by
    rw [hr] at hj
    obtain rfl := List.mem_singleton.1 hj
    exact wpOp_step ho (fun K' hK => by rw [if_pos hwt]; exact h K' (fun a w hS hW => hK a w ⟨fun e => absurd e hne, fun _ => ⟨hS, hW hS⟩⟩))⟩
theorem wpAnyL_last {o : Oper} {fuel : Nat} {listed : Array Bool} {a : Act} {w : World} (hr : Region.ready md ops listed = [js]) (hr2 : Region.ready md ops (listed.setIfInBounds js true) = []) (ho : ops[js]? = some o) (hwt : Region.wanted o (yielded ops a.tmps) = true)
    (h : ∀ K' : Act → World → Prop, Shut (∀ a w, Q .normal a w → K' a w) → Oper.wp P o a w K' Q) : wpAnyL P md ops Q S js (fuel + 1) listed a w :=
  ⟨fun h0 => (by rw [hr] at h0; cases h0), fun j hj => by
    rw [hr] at hj
    obtain rfl := List.mem_singleton.1 hj
    have hd : ∀ a w, Q .normal a w → wpAny P md ops Q fuel (listed.setIfInBounds j true) a w := fun a w hq => by
      cases fuel with
      | zero => exact ⟨hr2, hq⟩
      | succ f => exact ⟨fun _ => hq, by rw [hr2]; simp⟩
    exact wpOp_step ho (fun K' hK => by rw [if_pos hwt]; exact h K' (fun a w hq => hK a w ⟨fun _ => hd a w hq, fun e => absurd rfl e⟩))⟩
theorem wp_region_late {id : Nat} {a : Act} {w : World} (hm : P.follows .mixedOrders = true) (hS : S w.drew)
    (h : S w.drew → wpAnyL P .any ops Q S js ops.size (Array.replicate ops.size false) a w.drew) : (Code.region id ops true).wp P Q a w :=
  wp_region_any hm (wpAny_of_late _ _ _ _ (h hS))
end
end Go.Proofs.YtjgdnainhoipgaaGreatDoor
