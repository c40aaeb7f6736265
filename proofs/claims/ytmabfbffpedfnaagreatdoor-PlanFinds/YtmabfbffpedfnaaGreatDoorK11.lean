/- Part 11 of 30. -/
import Derived.Test.YtmabfbffpedfnaaGreatDoorK10
namespace Go.Proofs.YtmabfbffpedfnaaGreatDoor
open Go.RowKit

theorem rdp_expr : RdP Ef (Ft 12 1) := Ef_rds
theorem rdp_name {l : List KT} (hs : Src l) {a : ByteArray} {l' : List KT} (h : nameF l = some (a, l')) : NameW a ∧ Src l' ∧ ∀ μ : KT → Nat, wt μ l = μ (1, a) + wt μ l' := by
  obtain ⟨n, e⟩ := name_rd hs h
  subst e
  exact ⟨n, hs.tail, fun μ => wt_cons _ _ _⟩
theorem rdp_need {s : ByteArray} {l l' : List KT} (hs : Src l) (h : needF s l = some l') : Src l' ∧ ∀ μ, MuOk μ → wt μ l = μ (1, s) + wt μ l' := by
  obtain ⟨h1, rfl⟩ := need_wt h
  exact ⟨hs.tail, fun μ hμ => isT_wt h1 hμ⟩
theorem rdp_inside {α : Type} {F : Rf α} {P : α → List KT → Prop} (hF : RdP F P) : RdP (insideF F) (fun a ts => ∃ us, P a us ∧ ts = (4, ⟨#[40]⟩) :: (us ++ [(4, ⟨#[41]⟩)])) := by
  intro l hs a l' h
  obtain ⟨l1, h1, h⟩ := Option.bind_eq_some_iff.1 h
  obtain ⟨⟨b, l2⟩, h2, h⟩ := Option.bind_eq_some_iff.1 h
  obtain ⟨l3, h3, h⟩ := Option.map_eq_some_iff.1 h
  cases h
  obtain ⟨s1, w1⟩ := rdp_need hs h1
  obtain ⟨s2, us, hu, w2⟩ := hF _ s1 _ _ h2
  obtain ⟨s3, w3⟩ := rdp_need s2 h3
  refine ⟨s3, _, ⟨us, hu, rfl⟩, fun μ hμ => ?_⟩
  have a := w1 μ hμ
  have b := w2 μ hμ
  have c := w3 μ hμ
  rw [hμ.same] at a c
  simp only [wt_cons, wt_append, wt_nil]
  try dsimp only at *
  omega
theorem rdp_colm : RdP colmF ClT := by
  intro l hs c l' h
  obtain ⟨⟨a, l1⟩, h1, h⟩ := Option.bind_eq_some_iff.1 h
  obtain ⟨⟨k, l2⟩, h2, h⟩ := Option.bind_eq_some_iff.1 h
  obtain ⟨⟨m, l3⟩, h3, h⟩ := Option.map_eq_some_iff.1 h
  obtain ⟨na, s1, w1⟩ := rdp_name hs h1
  have hk : (k = 1 ∨ k = 2) ∧ Src l2 ∧ ∀ μ, MuOk μ → wt μ l1 = wt μ (if k = 2 then [(1, ⟨#[116, 101, 120, 116]⟩)] else [(1, ⟨#[105, 110, 116]⟩)]) + wt μ l2 := by
    rw [colm1] at h2
    split at h2
    · rename_i hi
      cases h2
      exact ⟨Or.inl rfl, s1.tail, fun μ hμ => by rw [isT_wt hi hμ, if_neg (by decide)]; simp [wt_cons, wt_nil]⟩
    · obtain ⟨l4, h4, h5⟩ := Option.map_eq_some_iff.1 h2
      cases h5
      obtain ⟨s4, w4⟩ := rdp_need s1 h4
      exact ⟨Or.inr rfl, s4, fun μ hμ => by rw [if_pos rfl]; simp only [wt_cons, wt_nil]; have := w4 μ hμ; omega⟩
  obtain ⟨hk, s2, w2⟩ := hk
  have hm : Src l3 ∧ ∀ μ, MuOk μ → wt μ l2 = wt μ (if m then [(1, ⟨#[110, 111, 116]⟩), (1, ⟨#[110, 117, 108, 108]⟩)] else []) + wt μ l3 := by
    rw [colm2] at h3
    split at h3
    · rename_i hi
      obtain ⟨l4, h4, h5⟩ := Option.map_eq_some_iff.1 h3
      cases h5
      obtain ⟨s4, w4⟩ := rdp_need s2.tail h4
      exact ⟨s4, fun μ hμ => by rw [if_pos rfl]; simp only [wt_cons, wt_nil]; have := w4 μ hμ; have := isT_wt hi hμ; dsimp only at *; omega⟩
    · cases h3
      exact ⟨s2, fun μ hμ => by simp [wt_nil]⟩
  obtain ⟨s3, w3⟩ := hm
  have hu : Src l' ∧ ∃ u, c = ⟨a, k, m, u⟩ ∧ (k = 1 ∧ u = false ∨ k = 2) ∧ ∀ μ, MuOk μ → wt μ l3 = wt μ (if u then [(1, ⟨#[119, 111, 114, 100, 115]⟩)] else []) + wt μ l' := by
    simp only [colm3] at h
    by_cases hc : k = 2 ∧ isT ⟨#[119, 111, 114, 100, 115]⟩ l3 = true
    · rw [if_pos hc] at h
      cases h
      exact ⟨s3.tail, true, rfl, Or.inr hc.1, fun μ hμ => by rw [isT_wt hc.2 hμ, if_pos rfl]; simp [wt_cons, wt_nil]⟩
    · rw [if_neg hc] at h
      cases h
      exact ⟨s3, false, rfl, by rcases hk with rfl | rfl; exact Or.inl ⟨rfl, rfl⟩; exact Or.inr rfl, fun μ hμ => by simp [wt_nil]⟩
  obtain ⟨s4, u, rfl, hku, w4⟩ := hu
  refine ⟨s4, _, .mk na hku, fun μ hμ => ?_⟩
  have a1 := w1 μ
  have a2 := w2 μ hμ
  have a3 := w3 μ hμ
  have a4 := w4 μ hμ
  rw [wt_cons, wt_append, wt_append]
  try dsimp only at *
  omega
theorem rdp_row : RdP rowF RwT := rdp_inside (rdp_list rdp_expr)
theorem rdp_set : RdP setF SeT := by
  intro l hs x l' h
  obtain ⟨⟨a, l1⟩, h1, h⟩ := Option.bind_eq_some_iff.1 h
  obtain ⟨l2, h2, h⟩ := Option.bind_eq_some_iff.1 h
  obtain ⟨⟨y, l3⟩, h3, h⟩ := Option.map_eq_some_iff.1 h
  cases h
  obtain ⟨na, s1, w1⟩ := rdp_name hs h1
  obtain ⟨s2, w2⟩ := rdp_need s1 h2
  obtain ⟨s3, us, hu, w3⟩ := rdp_expr _ s2 _ _ h3
  refine ⟨s3, _, .mk na hu, fun μ hμ => ?_⟩
  have a1 := w1 μ
  have a2 := w2 μ hμ
  have a3 := w3 μ hμ
  rw [hμ.same] at a2
  rw [wt_cons, wt_cons]
  try dsimp only at *
  omega
theorem rdp_item : RdP itemF ItT := by
  intro l hs x l' h
  rw [itemF] at h
  split at h
  · rename_i s hf
    obtain ⟨⟨y, l1⟩, h1, h⟩ := Option.map_eq_some_iff.1 h
    cases h
    have hm := List.mem_of_find?_eq_some hf
    have w0 := fun μ (hμ : MuOk μ) => isT_wt (find_is hf) hμ
    have hI : RdP (itemI s.2) (fun x ts => (s.2 = 1 ∧ x = .nil ∧ ts = [(4, ⟨#[42]⟩)]) ∨ Ft 12 1 x ts) := by
      intro l hs x l' h
      rw [itemI] at h
      split at h
      · rename_i hc
        cases h
        exact ⟨hs.tail, _, Or.inl ⟨hc.1, rfl, rfl⟩, fun μ hμ => by rw [isT_wt4 hc.2 hμ]; simp [wt_cons, wt_nil]⟩
      · obtain ⟨s2, us, hu, w⟩ := rdp_expr _ hs _ _ h
        exact ⟨s2, us, Or.inr hu, w⟩
    obtain ⟨s1, ts, ⟨us, hu, rfl⟩, w1⟩ := rdp_inside hI _ hs.tail _ _ h1
    rcases hu with ⟨hk, rfl, rfl⟩ | hu
    · have he : s = (⟨#[99, 111, 117, 110, 116]⟩, 1) := by
        revert hk
        revert hm
        clear h hf w0 hI h1 w1
        revert s
        decide +kernel
      subst he
      refine ⟨s1, _, .star, fun μ hμ => ?_⟩
      have a := w0 μ hμ
      have b := w1 μ hμ
      simp only [wt_cons, wt_append, wt_nil] at b ⊢
      try dsimp only at *
      omega
    · refine ⟨s1, _, .agg hm hu, fun μ hμ => ?_⟩
      have a := w0 μ hμ
      have b := w1 μ hμ
      rw [wt_cons]
      try dsimp only at *
      omega
  · obtain ⟨⟨y, l1⟩, h1, h⟩ := Option.map_eq_some_iff.1 h
    cases h
    obtain ⟨s2, us, hu, w⟩ := rdp_expr _ hs _ _ h1
    exact ⟨s2, us, .plain hu, w⟩
theorem rank2_rd {l : List KT} (hs : Src l) : Src (rank2 l).2 ∧ ∀ μ, MuOk μ → wt μ (if (rank2 l).1 then [(1, ⟨#[100, 101, 115, 99]⟩)] else []) + wt μ (rank2 l).2 ≤ wt μ l := by
  rw [rank2]
  split
  · rename_i h
    exact ⟨hs.tail, fun μ hμ => by rw [isT_wt h hμ]; simp [wt_nil]⟩
  · split
    · rename_i h
      exact ⟨hs.tail, fun μ hμ => by rw [isT_wt h hμ]; simp [wt_cons, wt_nil]⟩
    · exact ⟨hs, fun μ hμ => by simp [wt_nil]⟩
theorem rdp_rank : RdP rankF RkT := by
  intro l hs x l' h
  obtain ⟨⟨y, l1⟩, h1, h⟩ := Option.map_eq_some_iff.1 h
  cases h
  simp only
  rw [rank1] at h1
  split at h1
  · rename_i hr
    cases h1
    obtain ⟨s2, w2⟩ := rank2_rd hs.tail
    refine ⟨s2, _, .rank, fun μ hμ => ?_⟩
    have a := isT_wt hr hμ
    have b := w2 μ hμ
    rw [wt_cons]
    try dsimp only at *
    omega
  · obtain ⟨s1, us, hu, w1⟩ := rdp_expr _ hs _ _ h1
    obtain ⟨s2, w2⟩ := rank2_rd s1
    refine ⟨s2, _, .expr hu, fun μ hμ => ?_⟩
    have a := w1 μ hμ
    have b := w2 μ hμ
    rw [wt_append]
    try dsimp only at *
    omega
theorem rdp_where (s : ByteArray) : RdP (whereF s) (BhT [(1, s)]) := by
  intro l hs x l' h
  rw [whereF] at h
  split at h
  · rename_i hw
    obtain ⟨s1, us, hu, w1⟩ := rdp_expr _ hs.tail _ _ h
    refine ⟨s1, _, .yes hu, fun μ hμ => ?_⟩
    have a := isT_wt hw hμ
    have b := w1 μ hμ
    rw [wt_append, wt_cons, wt_nil]
    try dsimp only at *
    omega
  · cases h
    exact ⟨hs, _, .no, fun μ hμ => by simp [wt_nil]⟩
theorem rdp_group : RdP selGroup (BhT [(1, ⟨#[103, 114, 111, 117, 112]⟩), (1, ⟨#[98, 121]⟩)]) := by
  intro l hs x l' h
  rw [selGroup] at h
  split at h
  · rename_i hw
    obtain ⟨l1, h1, h⟩ := Option.bind_eq_some_iff.1 h
    obtain ⟨s1, w1⟩ := rdp_need hs.tail h1
    obtain ⟨s2, us, hu, w2⟩ := rdp_expr _ s1 _ _ h
    refine ⟨s2, _, .yes hu, fun μ hμ => ?_⟩
    have a := isT_wt hw hμ
    have b := w1 μ hμ
    have c := w2 μ hμ
    rw [wt_append, wt_cons, wt_cons, wt_nil]
    try dsimp only at *
    omega
  · cases h
    exact ⟨hs, _, .no, fun μ hμ => by simp [wt_nil]⟩
theorem rdp_join : RdP selJoin (fun x ts => JnT x.1 x.2 ts) := by
  intro l hs x l' h
  rw [selJoin] at h
  split at h
  · rename_i hw
    obtain ⟨⟨a, l1⟩, h1, h⟩ := Option.bind_eq_some_iff.1 h
    obtain ⟨l2, h2, h⟩ := Option.bind_eq_some_iff.1 h
    obtain ⟨⟨y, l3⟩, h3, h⟩ := Option.map_eq_some_iff.1 h
    cases h
    obtain ⟨na, s1, w1⟩ := rdp_name hs.tail h1
    obtain ⟨s2, w2⟩ := rdp_need s1 h2
    obtain ⟨s3, us, hu, w3⟩ := rdp_expr _ s2 _ _ h3
    refine ⟨s3, _, .yes na hu, fun μ hμ => ?_⟩
    have a0 := isT_wt hw hμ
    have a1 := w1 μ
    have a2 := w2 μ hμ
    have a3 := w3 μ hμ
    rw [wt_cons, wt_cons, wt_cons]
    try dsimp only at *
    omega
  · cases h
    exact ⟨hs, _, .no, fun μ hμ => by simp [wt_nil]⟩
theorem rdp_order : RdP selOrder OrT := by
  intro l hs x l' h
  rw [selOrder] at h
  split at h
  · rename_i hw
    obtain ⟨l1, h1, h⟩ := Option.bind_eq_some_iff.1 h
    obtain ⟨s1, w1⟩ := rdp_need hs.tail h1
    obtain ⟨s2, us, hu, w2⟩ := rdp_list rdp_rank _ s1 _ _ h
    refine ⟨s2, _, .yes hu, fun μ hμ => ?_⟩
    have a := isT_wt hw hμ
    have b := w1 μ hμ
    have c := w2 μ hμ
    rw [wt_cons, wt_cons]
    try dsimp only at *
    omega
  · cases h
    exact ⟨hs, _, .no, fun μ hμ => by simp [wt_nil]⟩
/-- a number of so many digits -/
theorem uint_lt (M : Nat) (l : List UInt8) : ∀ acc v, Lib.parseUintM M acc l = .ok v → v < (acc + 1) * 10 ^ l.length := by
  induction l with
  | nil => intro acc v h; cases h; simp
  | cons c l ih =>
    intro acc v h
    rw [Lib.parseUintM] at h
    split at h
    · rename_i hc
      split at h
      · cases h
      · split at h
        · cases h
        · have := ih _ _ h
          refine Nat.lt_of_lt_of_le this ?_
          rw [List.length_cons, Nat.pow_succ, Nat.mul_comm (10 ^ l.length) 10, ← Nat.mul_assoc]
          exact Nat.mul_le_mul_right _ (by omega)
    · cases h
theorem int_lt {t : ByteArray} (h : digsB t = true) {n : Int} (hp : Lib.parseIntB 64 t.data.toList = .ok n) : 0 ≤ n ∧ n.toNat < 10 ^ t.size ∧ 1 ≤ t.size := by
  have h0 := num_rd h hp
  simp only [digsB, Bool.and_eq_true, decide_eq_true_eq, List.all_eq_true] at h
  refine ⟨h0.1, ?_, by omega⟩
  cases e : t.data.toList with
  | nil => rw [e] at hp; cases hp
  | cons c l =>
    have hc := h.2 c (by rw [e]; simp)
    simp only [isDg, digN, Bool.and_eq_true, decide_eq_true_eq] at hc
    have hl : t.size = (c :: l).length := by rw [← e, ba_len]
    rw [e] at hp
    unfold Lib.parseIntB at hp
    simp only at hp
    rw [if_neg (show ¬ (c.toNat = 43 ∨ c.toNat = 45) by omega)] at hp
    split at hp
    · cases hp
    · cases hp
    · rename_i u hu
      rw [Lib.parseUintB, if_neg (by simp)] at hu
      have := uint_lt _ _ _ _ hu
      rw [if_neg (show ¬ c.toNat = 45 by omega)] at hp
      split at hp
      · cases hp
      · split at hp
        · cases hp
        · have e2 := Lib.NumEnd.ok.inj hp
          rw [hl]
          simp only [Nat.zero_add, Nat.one_mul] at this
          omega
theorem rdp_limit : RdP selLimit LmT := by
  intro l hs x l' h
  rw [selLimit] at h
  split at h
  · rename_i hw
    rw [limitF] at h
    split at h
    · rename_i hk
      cases h
      cases e : l.tail with
      | nil => rw [e] at hk; exact absurd hk.1 (by show ¬ (5 : Int) = 2; decide)
      | cons q r =>
        obtain ⟨k, t⟩ := q
        rw [e] at hk
        obtain rfl : k = 2 := hk.1
        have hz : t.size ≤ 9 := hk.2
        have hd := (hs.tail (2, t) (by rw [e]; simp)).2 rfl
        have hd2 : digsB t = true := hd
        have key : ∃ n, Lib.parseIntB 64 t.data.toList = .ok n := by
          simp only [digsB, Bool.and_eq_true, decide_eq_true_eq, List.all_eq_true] at hd
          have go : ∀ (l : List UInt8) (acc : Nat), (∀ c ∈ l, isDg c = true) → (acc + 1) * 10 ^ l.length ≤ 10 ^ 18 → ∃ v, Lib.parseUintM (2 ^ 64 - 1) acc l = .ok v := by
            intro l
            induction l with
            | nil => intro acc _ _; exact ⟨acc, rfl⟩
            | cons c l ih =>
              intro acc hc hb
              have h1 := hc c (by simp)
              simp only [isDg, digN, Bool.and_eq_true, decide_eq_true_eq] at h1
              rw [List.length_cons, Nat.pow_succ] at hb
              have hpos : 1 ≤ 10 ^ l.length := Nat.one_le_pow _ _ (by decide)
              have hacc : (acc + 1) * 10 ≤ 10 ^ 18 := by
                refine Nat.le_trans ?_ hb
                rw [Nat.mul_comm (10 ^ l.length) 10, ← Nat.mul_assoc]
                exact Nat.le_mul_of_pos_right _ hpos
              rw [Lib.parseUintM, if_pos ⟨by omega, by omega⟩, if_neg (by omega), if_neg (by omega)]
              refine ih _ (fun d hd => hc d (by simp [hd])) (Nat.le_trans ?_ hb)
              rw [Nat.mul_comm (10 ^ l.length) 10, ← Nat.mul_assoc]
              exact Nat.mul_le_mul_right _ (by omega)
          have hb : (0 + 1) * 10 ^ t.data.toList.length ≤ 10 ^ 18 := by
            rw [ba_len, Nat.one_mul]
            exact Nat.pow_le_pow_right (by decide) (by omega)
          obtain ⟨v, hv⟩ := go t.data.toList 0 hd.2 hb
          have hv2 := uint_lt _ _ _ _ hv
          cases e2 : t.data.toList with
          | nil => have := ba_len t; rw [e2] at this; simp at this; omega
          | cons c l2 =>
            have hc := hd.2 c (by rw [e2]; simp)
            simp only [isDg, digN, Bool.and_eq_true, decide_eq_true_eq] at hc
            refine ⟨v, ?_⟩
            unfold Lib.parseIntB
            simp only
            rw [if_neg (show ¬ (c.toNat = 43 ∨ c.toNat = 45) by omega), Lib.parseUintB, if_neg (by simp), ← e2, hv]
            simp only
            rw [if_neg (by omega), if_neg (by omega), if_neg (by omega)]
        obtain ⟨n, hn⟩ := key
        have hi := int_lt hd2 hn
        have hlt : n.toNat < 10 ^ 9 := Nat.lt_of_lt_of_le hi.2.1 (Nat.pow_le_pow_right (by decide) hz)
        have ev : digV (hdT ((2, t) :: r)).2 = n := by rw [hdT_cons, digV, hn]
        rw [ev]
        refine ⟨by have := hs.tail.tail; rw [e] at this; exact this, _, .yes hi.1 (by omega), fun μ hμ => ?_⟩
        have a := isT_wt hw hμ
        have b := hμ.num t n hd2 hn
        rw [e, wt_cons] at a
        simp only [wt_cons, wt_nil, List.tail_cons]
        try dsimp only at *
        omega
    · cases h
  · cases h
    exact ⟨hs, _, .no, fun μ hμ => by simp [wt_nil]⟩
theorem rdp_items : RdP selItems ItsT := by
  intro l hs x l' h
  rw [selItems] at h
  split at h
  · rename_i hw
    cases h
    exact ⟨hs.tail, _, .star, fun μ hμ => by rw [isT_wt4 hw hμ]; simp [wt_cons, wt_nil]⟩
  · obtain ⟨s1, us, hu, w1⟩ := rdp_list rdp_item _ hs _ _ h
    exact ⟨s1, us, .list hu, w1⟩
/-- the same with words ahead -/
theorem rdp_stm : RdP stmF StT := by
  intro l hs x l' h
  rw [stmF] at h
  split at h
  · rename_i k; cases h; exact ⟨hs.tail, _, .begin, fun μ hμ => by rw [isT_wt k hμ]; simp [wt_cons, wt_nil]⟩
  split at h
  · rename_i k; cases h; exact ⟨hs.tail, _, .commit, fun μ hμ => by rw [isT_wt k hμ]; simp [wt_cons, wt_nil]⟩
  split at h
  · rename_i k; cases h; exact ⟨hs.tail, _, .rollback, fun μ hμ => by rw [isT_wt k hμ]; simp [wt_cons, wt_nil]⟩
  split at h
  · rename_i k
    have w0 := fun μ (hμ : MuOk μ) => isT_wt k hμ
    have s0 := hs.tail
    rw [createF] at h
    split at h
    · rename_i ki
      have wi := fun μ (hμ : MuOk μ) => isT_wt ki hμ
      obtain ⟨l1, h1, h⟩ := Option.bind_eq_some_iff.1 h
      obtain ⟨⟨a, l2⟩, h2, h⟩ := Option.bind_eq_some_iff.1 h
      obtain ⟨⟨b, l3⟩, h3, h⟩ := Option.map_eq_some_iff.1 h
      cases h
      obtain ⟨s1, w1⟩ := rdp_need s0.tail h1
      obtain ⟨na, s2, w2⟩ := rdp_name s1 h2
      obtain ⟨l4, h4, h3⟩ := Option.bind_eq_some_iff.1 h3
      obtain ⟨⟨b2, l5⟩, h5, h3⟩ := Option.bind_eq_some_iff.1 h3
      obtain ⟨l6, h6, h3⟩ := Option.map_eq_some_iff.1 h3
      cases h3
      obtain ⟨s4, w4⟩ := rdp_need s2 h4
      obtain ⟨nb, s5, w5⟩ := rdp_name s4 h5
      obtain ⟨s6, w6⟩ := rdp_need s5 h6
      refine ⟨s6, _, .index na nb, fun μ hμ => ?_⟩
      have a0 := w0 μ hμ
      have ai := wi μ hμ
      have a1 := w1 μ hμ
      have a2 := w2 μ
      have a4 := w4 μ hμ
      have a5 := w5 μ
      have a6 := w6 μ hμ
      rw [hμ.same] at a4 a6
      simp only [wt_cons, wt_nil]
      try dsimp only at *
      omega
    · obtain ⟨l1, h1, h⟩ := Option.bind_eq_some_iff.1 h
      obtain ⟨⟨a, l2⟩, h2, h⟩ := Option.bind_eq_some_iff.1 h
      obtain ⟨⟨L, l3⟩, h3, h⟩ := Option.map_eq_some_iff.1 h
      cases h
      obtain ⟨s1, w1⟩ := rdp_need s0 h1
      obtain ⟨na, s2, w2⟩ := rdp_name s1 h2
      obtain ⟨s3, ts, ⟨us, hu, rfl⟩, w3⟩ := rdp_inside (rdp_list rdp_colm) _ s2 _ _ h3
      refine ⟨s3, _, .create na hu, fun μ hμ => ?_⟩
      have a0 := w0 μ hμ
      have a1 := w1 μ hμ
      have a2 := w2 μ
      have a3 := w3 μ hμ
      rw [wt_cons, wt_cons, wt_cons]
      try dsimp only at *
      omega
  split at h
  · rename_i k
    have w0 := fun μ (hμ : MuOk μ) => isT_wt k hμ
    obtain ⟨l1, h1, h⟩ := Option.bind_eq_some_iff.1 h
    obtain ⟨⟨a, l2⟩, h2, h⟩ := Option.map_eq_some_iff.1 h
    cases h
    obtain ⟨s1, w1⟩ := rdp_need hs.tail h1
    obtain ⟨na, s2, w2⟩ := rdp_name s1 h2
    refine ⟨s2, _, .drop na, fun μ hμ => ?_⟩
    have a0 := w0 μ hμ
    have a1 := w1 μ hμ
    have a2 := w2 μ
    simp only [wt_cons, wt_nil]
    try dsimp only at *
    omega
  split at h
  · rename_i k
    have w0 := fun μ (hμ : MuOk μ) => isT_wt k hμ
    obtain ⟨l1, h1, h⟩ := Option.bind_eq_some_iff.1 h
    obtain ⟨⟨a, l2⟩, h2, h⟩ := Option.bind_eq_some_iff.1 h
    obtain ⟨l3, h3, h⟩ := Option.bind_eq_some_iff.1 h
    obtain ⟨⟨L, l4⟩, h4, h⟩ := Option.map_eq_some_iff.1 h
    cases h
    obtain ⟨s1, w1⟩ := rdp_need hs.tail h1
    obtain ⟨na, s2, w2⟩ := rdp_name s1 h2
    obtain ⟨s3, w3⟩ := rdp_need s2 h3
    obtain ⟨s4, us, hu, w4⟩ := rdp_list rdp_row _ s3 _ _ h4
    refine ⟨s4, _, .insert na hu, fun μ hμ => ?_⟩
    have a0 := w0 μ hμ
    have a1 := w1 μ hμ
    have a2 := w2 μ
    have a3 := w3 μ hμ
    have a4 := w4 μ hμ
    rw [wt_cons, wt_cons, wt_cons, wt_cons]
    try dsimp only at *
    omega
  split at h
  · rename_i k
    have w0 := fun μ (hμ : MuOk μ) => isT_wt k hμ
    obtain ⟨l1, h1, h⟩ := Option.bind_eq_some_iff.1 h
    obtain ⟨⟨a, l2⟩, h2, h⟩ := Option.bind_eq_some_iff.1 h
    obtain ⟨⟨y, l4⟩, h4, h⟩ := Option.map_eq_some_iff.1 h
    cases h
    obtain ⟨s1, w1⟩ := rdp_need hs.tail h1
    obtain ⟨na, s2, w2⟩ := rdp_name s1 h2
    obtain ⟨s4, us, hu, w4⟩ := rdp_where _ _ s2 _ _ h4
    refine ⟨s4, _, .delete na hu, fun μ hμ => ?_⟩
    have a0 := w0 μ hμ
    have a1 := w1 μ hμ
    have a2 := w2 μ
    have a4 := w4 μ hμ
    rw [wt_cons, wt_cons, wt_cons]
    try dsimp only at *
    omega
  split at h
  · rename_i k
    have w0 := fun μ (hμ : MuOk μ) => isT_wt k hμ
    obtain ⟨⟨a, l1⟩, h1, h⟩ := Option.bind_eq_some_iff.1 h
    obtain ⟨l2, h2, h⟩ := Option.bind_eq_some_iff.1 h
    obtain ⟨⟨L, l3⟩, h3, h⟩ := Option.bind_eq_some_iff.1 h
    obtain ⟨⟨y, l4⟩, h4, h⟩ := Option.map_eq_some_iff.1 h
    cases h
    obtain ⟨na, s1, w1⟩ := rdp_name hs.tail h1
    obtain ⟨s2, w2⟩ := rdp_need s1 h2
    obtain ⟨s3, us, hu, w3⟩ := rdp_list rdp_set _ s2 _ _ h3
    obtain ⟨s4, vs, hv, w4⟩ := rdp_where _ _ s3 _ _ h4
    refine ⟨s4, _, .update na hu hv, fun μ hμ => ?_⟩
    have a0 := w0 μ hμ
    have a1 := w1 μ
    have a2 := w2 μ hμ
    have a3 := w3 μ hμ
    have a4 := w4 μ hμ
    rw [wt_cons, wt_cons, wt_cons, wt_append]
    try dsimp only at *
    omega
  · obtain ⟨l0, h0, h⟩ := Option.bind_eq_some_iff.1 h
    obtain ⟨s0, w0⟩ := rdp_need hs h0
    obtain ⟨⟨I, l1⟩, h1, h⟩ := Option.bind_eq_some_iff.1 h
    obtain ⟨⟨a, l2⟩, h2, h⟩ := Option.bind_eq_some_iff.1 h
    obtain ⟨⟨b, l3⟩, h3, h⟩ := Option.bind_eq_some_iff.1 h
    obtain ⟨⟨wh, l4⟩, h4, h⟩ := Option.bind_eq_some_iff.1 h
    obtain ⟨⟨gr, l5⟩, h5, h⟩ := Option.bind_eq_some_iff.1 h
    obtain ⟨⟨O, l6⟩, h6, h⟩ := Option.bind_eq_some_iff.1 h
    obtain ⟨⟨n, l7⟩, h7, h⟩ := Option.map_eq_some_iff.1 h
    cases h
    obtain ⟨s1, t1, q1, w1⟩ := rdp_items _ s0 _ _ h1
    obtain ⟨lf, hf, h2⟩ := Option.bind_eq_some_iff.1 h2
    obtain ⟨sf, wf⟩ := rdp_need s1 hf
    obtain ⟨na, s2, w2⟩ := rdp_name sf h2
    obtain ⟨s3, t3, q3, w3⟩ := rdp_join _ s2 _ _ h3
    obtain ⟨s4, t4, q4, w4⟩ := rdp_where _ _ s3 _ _ h4
    obtain ⟨s5, t5, q5, w5⟩ := rdp_group _ s4 _ _ h5
    obtain ⟨s6, t6, q6, w6⟩ := rdp_order _ s5 _ _ h6
    obtain ⟨s7, t7, q7, w7⟩ := rdp_limit _ s6 _ _ h7
    refine ⟨s7, _, .select q1 na q3 q4 q5 q6 q7, fun μ hμ => ?_⟩
    have a0 := w0 μ hμ
    have a1 := w1 μ hμ
    have af := wf μ hμ
    have a2 := w2 μ
    have a3 := w3 μ hμ
    have a4 := w4 μ hμ
    have a5 := w5 μ hμ
    have a6 := w6 μ hμ
    have a7 := w7 μ hμ
    simp only [wt_cons, wt_append]
    try dsimp only at *
    omega
end Go.Proofs.YtmabfbffpedfnaaGreatDoor
namespace Go.Proofs.YtmabfbffpedfnaaGreatDoor
open Go.RowKit

/-- a statement, as it is printed -/
def joinB (o : ByteArray) (on : Ex) : List UInt8 := if o.size = 0 then [] else ([32, 106, 111, 105, 110, 32] ++ o.data.toList) ++ behT [32, 111, 110, 32] on
def ordB (O : List (Ex × Bool)) : List UInt8 := (if O.length = 0 then [] else [32, 111, 114, 100, 101, 114, 32, 98, 121, 32]) ++ lstT (fun i => (fun x : (Ex × Bool) => rankT x.1 x.2) (O.getD i (.nil, false))) O.length
def limB (n : Int) : List UInt8 := if n < 0 then [] else [32, 108, 105, 109, 105, 116, 32] ++ Lib.itoa n
def itsB (I : List (Int × Ex)) : List UInt8 := (if I.length = 0 then [42] else []) ++ lstT (fun i => (fun x : (Int × Ex) => itemT x.1 x.2) (I.getD i (0, .nil))) I.length
def choT (x : Stm) : List UInt8 := [115, 101, 108, 101, 99, 116, 32] ++ (itsB x.items ++ (([32, 102, 114, 111, 109, 32] ++ x.table.data.toList) ++ (joinB x.other x.on ++ (behT [32, 119, 104, 101, 114, 101, 32] x.wh ++ (behT [32, 103, 114, 111, 117, 112, 32, 98, 121, 32] x.grp ++ (ordB x.ord ++ limB x.lim))))))
def stT (x : Stm) : List UInt8 :=
  if x.kind = 1 then ([99, 114, 101, 97, 116, 101, 32, 116, 97, 98, 108, 101, 32] ++ (x.table.data.toList ++ [32, 40])) ++ (lstT (fun i => (fun x : Colm => colT x.nm x.k x.mu x.wo) (x.cols.getD i ⟨⟨#[]⟩, 0, false, false⟩)) x.cols.length ++ [41])
  else if x.kind = 2 then [99, 114, 101, 97, 116, 101, 32, 105, 110, 100, 101, 120, 32, 111, 110, 32] ++ (x.table.data.toList ++ ([32, 40] ++ (x.name.data.toList ++ [41])))
  else if x.kind = 3 then [100, 114, 111, 112, 32, 116, 97, 98, 108, 101, 32] ++ x.table.data.toList
  else if x.kind = 4 then ([105, 110, 115, 101, 114, 116, 32, 105, 110, 116, 111, 32] ++ (x.table.data.toList ++ [32, 118, 97, 108, 117, 101, 115, 32])) ++ lstT (fun i => (fun x : (List Ex) => rowT x) (x.rows.getD i [])) x.rows.length
  else if x.kind = 5 then ([100, 101, 108, 101, 116, 101, 32, 102, 114, 111, 109, 32] ++ x.table.data.toList) ++ behT [32, 119, 104, 101, 114, 101, 32] x.wh
  else if x.kind = 6 then ([117, 112, 100, 97, 116, 101, 32] ++ (x.table.data.toList ++ [32, 115, 101, 116, 32])) ++ (lstT (fun i => (fun x : Ex => setT x) (x.sets.getD i .nil)) x.sets.length ++ behT [32, 119, 104, 101, 114, 101, 32] x.wh)
  else if x.kind = 7 then choT x
  else if x.kind = 8 then [98, 101, 103, 105, 110]
  else if x.kind = 9 then [99, 111, 109, 109, 105, 116]
  else if x.kind = 10 then [114, 111, 108, 108, 98, 97, 99, 107]
  else []
/-- a word and a blank -/
theorem LxP.kw (l : List UInt8) (h : wdB l = true) : LxP true 1 (l ++ [32]) [(1, ⟨l.toArray⟩)] := (LxP.wd l h).then
theorem LxP.bkw (l : List UInt8) (h : wdB l = true) : LxP true 2 (32 :: (l ++ [32])) [(1, ⟨l.toArray⟩)] := ((LxP.wd l h).then).ahead
theorem LxP.bwd (l : List UInt8) (h : wdB l = true) : LxP false 1 (32 :: l) [(1, ⟨l.toArray⟩)] := (LxP.wd l h).ahead
/-- bytes that may be none -/
def Opt (k : Nat) (bs : List UInt8) (ts : List KT) : Prop := (bs = [] ∧ ts = []) ∨ (LxP false k bs ts ∧ cloS bs)
theorem LxP.opt {k j : Nat} {ab bs : List UInt8} {ss ts : List KT} (h : LxP false k ab ss) (g : Opt j bs ts) : LxP false (k + j) (ab ++ bs) (ss ++ ts) := by
  rcases g with ⟨rfl, rfl⟩ | ⟨g, hc⟩
  · rw [List.append_nil, List.append_nil]; exact h.weak (by omega)
  · exact h.join g (fun _ => hc)
theorem Opt.join {k j : Nat} {ab bs : List UInt8} {ss ts : List KT} (h : Opt k ab ss) (g : Opt j bs ts) : Opt (k + j) (ab ++ bs) (ss ++ ts) := by
  rcases h with ⟨rfl, rfl⟩ | ⟨h, hc⟩
  · rcases g with ⟨rfl, rfl⟩ | ⟨g, hc⟩
    · exact Or.inl ⟨rfl, rfl⟩
    · exact Or.inr ⟨g.weak (by omega), hc⟩
  · exact Or.inr ⟨h.opt g, hc.more _⟩
theorem BhT.opt {w : List KT} {x : Ex} {ts : List KT} (h : BhT w x ts) {S : List UInt8} {k : Nat} (hS : LxP true k S w) (hk : k ≤ 2 * w.length) (hc : cloS S) : Opt (2 * ts.length) (behT S x) ts := by
  cases h with
  | no => exact Or.inl ⟨rfl, rfl⟩
  | yes h =>
    obtain ⟨c, v, nm, l, r, rfl⟩ := h.node
    exact Or.inr ⟨(hS.app h.lx).weak (by rw [List.length_append]; omega), hc.more _⟩
theorem where_lx : LxP true 2 [32, 119, 104, 101, 114, 101, 32] [(1, ⟨#[119, 104, 101, 114, 101]⟩)] := LxP.bkw [119, 104, 101, 114, 101] (by decide)
theorem group_lx : LxP true 3 [32, 103, 114, 111, 117, 112, 32, 98, 121, 32] [(1, ⟨#[103, 114, 111, 117, 112]⟩), (1, ⟨#[98, 121]⟩)] := (LxP.bkw [103, 114, 111, 117, 112] (by decide)).app (LxP.kw [98, 121] (by decide))
theorem on_lx : LxP true 2 [32, 111, 110, 32] [(1, ⟨#[111, 110]⟩)] := LxP.bkw [111, 110] (by decide)
theorem NameW.lx {a : ByteArray} (h : NameW a) : LxP false 0 a.data.toList [(1, a)] := LxP.word h.word
theorem NameW.pos {a : ByteArray} (h : NameW a) : a.size ≠ 0 := by
  obtain ⟨c, l, e, _⟩ := h.word
  rw [← ba_len, e]; simp
theorem JnT.opt {a : ByteArray} {x : Ex} {ts : List KT} (h : JnT a x ts) : Opt (2 * ts.length) (joinB a x) ts := by
  cases h with
  | no => exact Or.inl ⟨rfl, rfl⟩
  | @yes a x us h k =>
    right
    rw [joinB, if_neg h.pos]
    obtain ⟨c, v, nm, l, r, rfl⟩ := k.node
    have j := ((LxP.bkw [106, 111, 105, 110] (by decide)).app h.lx).join (on_lx.app k.lx) (fun _ => clo_blank _)
    exact ⟨j.weak (by simp only [List.length_cons]; omega), (clo_blank _)⟩
theorem RkT.lx {x : Ex × Bool} {ts : List KT} (h : RkT x ts) : LxP false (2 * ts.length) (rankT x.1 x.2) ts := by
  cases h with
  | @rank d =>
    have r := LxP.wd [114, 97, 110, 107] (by decide)
    cases d with
    | false => exact r.weak (by decide)
    | true => exact (r.join (LxP.bwd [100, 101, 115, 99] (by decide)) (fun _ => clo_blank _)).weak (by decide)
  | @expr x d us h =>
    obtain ⟨c, v, nm, l, r, rfl⟩ := h.node
    have := h.lx
    cases d with
    | false =>
      simp only [rankT, orT, Bool.false_eq_true, if_false, List.append_nil]
      exact this
    | true =>
      simp only [rankT, orT, if_true]
      exact (this.join (LxP.bwd [100, 101, 115, 99] (by decide)) (fun _ => clo_blank _)).weak (by rw [List.length_append]; simp only [List.length_cons, List.length_nil]; omega)
theorem order_lx : LxP true 3 [32, 111, 114, 100, 101, 114, 32, 98, 121, 32] [(1, ⟨#[111, 114, 100, 101, 114]⟩), (1, ⟨#[98, 121]⟩)] := (LxP.bkw [111, 114, 100, 101, 114] (by decide)).app (LxP.kw [98, 121] (by decide))
theorem OrT.opt {O : List (Ex × Bool)} {ts : List KT} (h : OrT O ts) : Opt (2 * ts.length) (ordB O) ts := by
  cases h with
  | no => exact Or.inl ⟨rfl, rfl⟩
  | @yes O us h =>
    right
    have hp := h.pos
    rw [ordB, if_neg (by omega)]
    exact ⟨(order_lx.app (h.lx (G := fun x => rankT x.1 x.2) (fun _ _ k => k.lx))).weak (by simp only [List.length_cons]; omega), (clo_blank _)⟩
theorem LmT.opt {n : Int} {ts : List KT} (h : LmT n ts) : Opt (2 * ts.length) (limB n) ts := by
  cases h with
  | no => exact Or.inl ⟨rfl, rfl⟩
  | @yes n h0 h1 =>
    right
    rw [limB, if_neg (by omega), Lib.itoa, if_neg (by omega)]
    exact ⟨((LxP.bkw [108, 105, 109, 105, 116] (by decide)).app (LxP.num (u := n.toNat) (Nat.le_trans (nd_le 9 (by decide) _ (by omega)) (by decide)))).weak (by simp), (clo_blank _)⟩
theorem agg_hd : ∀ s ∈ aggL, itemH s.2 = s.1.data.toList ++ [40] ∧ 1 ≤ s.2 ∧ s.2 ≤ 4 ∧ wdB s.1.data.toList = true := by decide +kernel
theorem agg_lx (s : ByteArray × Int) (hs : s ∈ aggL) : LxP true 0 (itemH s.2) [(1, s.1), (4, ⟨#[40]⟩)] := by
  obtain ⟨h, _, _, hw⟩ := agg_hd s hs
  rw [h]
  exact (LxP.word (t := s.1) (wordB_of hw)).join LxP.lpar (fun _ => clo_open _)
theorem star_lx : LxP true 0 [42] [(4, ⟨#[42]⟩)] := LxP.mark (by decide) (by decide) (by decide) (by decide) (by decide)
theorem ItT.lx {x : Int × Ex} {ts : List KT} (h : ItT x ts) : LxP false (2 * ts.length) (itemT x.1 x.2) ts := by
  cases h with
  | plain h => exact h.lx
  | star =>
    have j := ((agg_lx (⟨#[99, 111, 117, 110, 116]⟩, 1) (by simp [aggL])).app star_lx).app LxP.rpar
    exact (j.less).weak (by decide)
  | @agg s x us hs h =>
    obtain ⟨_, h1, h4, _⟩ := agg_hd s hs
    obtain ⟨c, v, nm, l, r, rfl⟩ := h.node
    show LxP false _ (itemT s.2 _) _
    rw [itemT, if_pos ⟨h1, h4⟩]
    have j := ((agg_lx s hs).app h.lx).join LxP.rpar (fun _ => clo_close _)
    exact (j.less).weak (by simp only [List.length_cons, List.length_append, List.length_nil]; omega)
theorem ItsT.lx {I : List (Int × Ex)} {ts : List KT} (h : ItsT I ts) : LxP false (2 * ts.length) (itsB I) ts := by
  cases h with
  | star => exact (star_lx.less).weak (by decide)
  | list h =>
    have hp := h.pos
    rw [itsB, if_neg (by omega), List.nil_append]
    exact h.lx (G := fun x => itemT x.1 x.2) (fun _ _ k => k.lx)
theorem ClT.lx {c : Colm} {ts : List KT} (h : ClT c ts) : LxP false (2 * ts.length) (colT c.nm c.k c.mu c.wo) ts := by
  cases h with
  | @mk a k m u h hk =>
    have j1 : LxP false 1 (if k = 2 then [32, 116, 101, 120, 116] else [32, 105, 110, 116]) (if k = 2 then [(1, ⟨#[116, 101, 120, 116]⟩)] else [(1, ⟨#[105, 110, 116]⟩)]) ∧ cloS (if k = 2 then [32, 116, 101, 120, 116] else [32, 105, 110, 116]) := by
      split
      · exact ⟨LxP.bwd [116, 101, 120, 116] (by decide), clo_blank _⟩
      · exact ⟨LxP.bwd [105, 110, 116] (by decide), clo_blank _⟩
    have j2 : Opt 2 (if m then [32, 110, 111, 116, 32, 110, 117, 108, 108] else []) (if m then [(1, ⟨#[110, 111, 116]⟩), (1, ⟨#[110, 117, 108, 108]⟩)] else []) := by
      cases m with
      | false => exact Or.inl ⟨rfl, rfl⟩
      | true => exact Or.inr ⟨(LxP.bwd [110, 111, 116] (by decide)).join (LxP.bwd [110, 117, 108, 108] (by decide)) (fun _ => clo_blank _), clo_blank _⟩
    have j3 : Opt 1 (if u then [32, 119, 111, 114, 100, 115] else []) (if u then [(1, ⟨#[119, 111, 114, 100, 115]⟩)] else []) := by
      cases u with
      | false => exact Or.inl ⟨rfl, rfl⟩
      | true => exact Or.inr ⟨LxP.bwd [119, 111, 114, 100, 115] (by decide), clo_blank _⟩
    have j := (h.lx.join j1.1 (fun _ => j1.2)).opt (j2.join j3)
    rw [colT, List.append_assoc (_ ++ _)]
    rw [List.append_assoc [(1, a)]] at j
    refine j.weak ?_
    have : 1 ≤ (if k = 2 then [((1 : Int), (⟨#[116, 101, 120, 116]⟩ : ByteArray))] else [(1, ⟨#[105, 110, 116]⟩)]).length := by split <;> decide
    cases m <;> cases u <;> simp only [List.length_cons, List.length_append, Bool.false_eq_true, if_false, if_true, List.length_nil] at this ⊢ <;> omega
theorem RwT.lx {L : List Ex} {ts : List KT} (h : RwT L ts) : LxP false (2 * ts.length) (rowT L) ts := by
  obtain ⟨us, h, rfl⟩ := h
  have j := (LxP.lpar.app (h.lx (G := fun e => prN 1 e) (z := Ex.nil) (fun _ _ k => k.lx))).join LxP.rpar (fun _ => clo_close _)
  exact (j.less).weak (by simp only [List.length_cons, List.length_append, List.length_nil]; omega)
theorem SeT.lx {x : Ex} {ts : List KT} (h : SeT x ts) : LxP false (2 * ts.length) (setT x) ts := by
  cases h with
  | @mk a x us h k =>
    have e : LxP true 2 [32, 61, 32] [(4, ⟨#[61]⟩)] := cmp_lx (⟨#[61]⟩, 9) (by simp [cmpS])
    exact ((h.lx.join e (fun _ => clo_blank _)).app k.lx).weak (by simp only [List.length_cons]; omega)
theorem StT.lx {x : Stm} {ts : List KT} (h : StT x ts) : LxP false (2 * ts.length) (stT x) ts := by
  cases h with
  | begin => exact (LxP.wd [98, 101, 103, 105, 110] (by decide)).weak (by decide)
  | commit => exact (LxP.wd [99, 111, 109, 109, 105, 116] (by decide)).weak (by decide)
  | rollback => exact (LxP.wd [114, 111, 108, 108, 98, 97, 99, 107] (by decide)).weak (by decide)
  | @index a b ha hb =>
    have j := ((LxP.kw [99, 114, 101, 97, 116, 101] (by decide)).app ((LxP.kw [105, 110, 100, 101, 120] (by decide)).app (LxP.kw [111, 110] (by decide)))).app (ha.lx.join ((LxP.lpar.ahead).app (hb.lx.join LxP.rpar (fun _ => clo_close _))) (fun _ => clo_blank _))
    exact (j.less).weak (by simp)
  | @create a L us ha hL =>
    have j := ((LxP.kw [99, 114, 101, 97, 116, 101] (by decide)).app (LxP.kw [116, 97, 98, 108, 101] (by decide))).app (ha.lx.join ((LxP.lpar.ahead).app ((hL.lx (G := fun x => colT x.nm x.k x.mu x.wo) (z := ⟨⟨#[]⟩, 0, false, false⟩) (fun _ _ k => k.lx)).join LxP.rpar (fun _ => clo_close _))) (fun _ => clo_blank _))
    have e : stT { ofS 1 a with cols := L } = ([99, 114, 101, 97, 116, 101, 32, 116, 97, 98, 108, 101, 32] ++ (a.data.toList ++ [32, 40])) ++ (lstT (fun i => (fun x : Colm => colT x.nm x.k x.mu x.wo) (L.getD i ⟨⟨#[]⟩, 0, false, false⟩)) L.length ++ [41]) := rfl
    rw [e, List.append_assoc, List.append_assoc]
    exact (j.less).weak (by simp only [List.length_cons, List.length_append, List.length_nil]; omega)
  | @drop a ha =>
    have j := ((LxP.kw [100, 114, 111, 112] (by decide)).app (LxP.kw [116, 97, 98, 108, 101] (by decide))).app ha.lx
    exact j.weak (by simp)
  | @insert a L us ha hL =>
    have j := ((LxP.kw [105, 110, 115, 101, 114, 116] (by decide)).app (LxP.kw [105, 110, 116, 111] (by decide))).app (ha.lx.join ((LxP.bkw [118, 97, 108, 117, 101, 115] (by decide)).app (hL.lx (G := fun x => rowT x) (z := []) (fun _ _ k => k.lx))) (fun _ => clo_blank _))
    have e : stT { ofS 4 a with rows := L } = ([105, 110, 115, 101, 114, 116, 32, 105, 110, 116, 111, 32] ++ (a.data.toList ++ [32, 118, 97, 108, 117, 101, 115, 32])) ++ lstT (fun i => (fun x : (List Ex) => rowT x) (L.getD i [])) L.length := rfl
    rw [e, List.append_assoc, List.append_assoc]
    exact j.weak (by simp only [List.length_cons]; omega)
  | @delete a x us ha hx =>
    have j := (((LxP.kw [100, 101, 108, 101, 116, 101] (by decide)).app (LxP.kw [102, 114, 111, 109] (by decide))).app ha.lx).opt (hx.opt where_lx (by decide) (clo_blank _))
    exact j.weak (by simp only [List.length_cons]; omega)
  | @update a L x us vs ha hL hx =>
    have j := (LxP.kw [117, 112, 100, 97, 116, 101] (by decide)).app (ha.lx.join ((LxP.bkw [115, 101, 116] (by decide)).app ((hL.lx (G := fun x => setT x) (z := Ex.nil) (fun _ _ k => k.lx)).opt (hx.opt where_lx (by decide) (clo_blank _)))) (fun _ => clo_blank _))
    have e : stT { ofS 6 a with sets := L, wh := x } = ([117, 112, 100, 97, 116, 101, 32] ++ (a.data.toList ++ [32, 115, 101, 116, 32])) ++ (lstT (fun i => (fun x : Ex => setT x) (L.getD i .nil)) L.length ++ behT [32, 119, 104, 101, 114, 101, 32] x) := rfl
    rw [e, List.append_assoc, List.append_assoc]
    exact j.weak (by simp only [List.length_cons, List.length_append]; omega)
  | @select I a b on wh gr O n t1 t2 t3 t4 t5 t6 h1 ha h2 h3 h4 h5 h6 =>
    have j := (LxP.kw [115, 101, 108, 101, 99, 116] (by decide)).app (h1.lx.join (((LxP.bkw [102, 114, 111, 109] (by decide)).app ha.lx).opt (h2.opt.join ((h3.opt where_lx (by decide) (clo_blank _)).join ((h4.opt group_lx (by decide) (clo_blank _)).join (h5.opt.join h6.opt))))) (fun _ => clo_blank _))
    have e : stT ⟨7, a, b, [], ⟨#[]⟩, [], [], on, wh, I, gr, O, n⟩ = [115, 101, 108, 101, 99, 116, 32] ++ (itsB I ++ (([32, 102, 114, 111, 109, 32] ++ a.data.toList) ++ (joinB b on ++ (behT [32, 119, 104, 101, 114, 101, 32] wh ++ (behT [32, 103, 114, 111, 117, 112, 32, 98, 121, 32] gr ++ (ordB O ++ limB n)))))) := rfl
    rw [e]
    exact j.weak (by simp only [List.length_cons, List.length_append]; omega)
end Go.Proofs.YtmabfbffpedfnaaGreatDoor
namespace Go.Proofs.YtmabfbffpedfnaaGreatDoor
open Go.RowKit

/-- a statement that lay there before the writer -/
structure StB (b : Nat) (sv : SV) (x : Stm) (w : World) : Prop where
  kind : sv.kind = x.kind
  table : sv.table = x.table
  other : sv.other = x.other
  name : sv.name = x.name
  lim : sv.lim = x.lim
  cols : ∃ a c, sv.cols = .slice a x.cols.length c ∧ RowG b 4 (ElW1 b) w a x.cols
  rows : ∃ a c, sv.rows = .slice a x.rows.length c ∧ RowG b 1 (ElW2 b) w a x.rows
  sets : ∃ a c, sv.sets = .slice a x.sets.length c ∧ RowG b 1 (ElW3 b) w a x.sets
  items : ∃ a c, sv.items = .slice a x.items.length c ∧ RowG b 2 (ElWI b) w a x.items
  ord : ∃ a c, sv.ord = .slice a x.ord.length c ∧ RowG b 2 (ElWO b) w a x.ord
  on : TrAt b w sv.on x.on
  wh : TrAt b w sv.wh x.wh
  grp : TrAt b w sv.grp x.grp
theorem StB.keep {b : Nat} {sv : SV} {x : Stm} {w w' : World} (h : StB b sv x w) (k : Below b w w') : StB b sv x w' := by
  refine ⟨h.kind, h.table, h.other, h.name, h.lim, ?_, ?_, ?_, ?_, ?_, h.on.keep k, h.wh.keep k, h.grp.keep k⟩
  · obtain ⟨a, c, e, r⟩ := h.cols; exact ⟨a, c, e, r.keep (ElW1.keeps b) k⟩
  · obtain ⟨a, c, e, r⟩ := h.rows; exact ⟨a, c, e, r.keep (ElW2.keeps b) k⟩
  · obtain ⟨a, c, e, r⟩ := h.sets; exact ⟨a, c, e, r.keep (ElW3.keeps b) k⟩
  · obtain ⟨a, c, e, r⟩ := h.items; exact ⟨a, c, e, r.keep (ElWI.keeps b) k⟩
  · obtain ⟨a, c, e, r⟩ := h.ord; exact ⟨a, c, e, r.keep (ElWO.keeps b) k⟩
/-- its trees can be written, its lists are no longer than they may be -/
structure StOk (x : Stm) : Prop where
  rows : ∀ L ∈ x.rows, (∀ e ∈ L, TreeOk e) ∧ L.length ≤ 1000000
  sets : ∀ e ∈ x.sets, TreeOk e
  items : ∀ e ∈ x.items, TreeOk e.2
  ord : ∀ e ∈ x.ord, TreeOk e.1
  on : TreeOk x.on
  wh : TreeOk x.wh
  grp : TreeOk x.grp
  lim : x.lim ≤ 9223372036854775807
  n1 : x.cols.length ≤ 1000000
  n2 : x.rows.length ≤ 1000000
  n3 : x.sets.length ≤ 1000000
  n4 : x.items.length ≤ 1000000
  n5 : x.ord.length ≤ 1000000
/-- the writer at work on a statement: block q holds the writer, block r the statement -/
structure CS (b q r : Nat) (l : List UInt8) (sv : SV) (x : Stm) (w0 w : World) : Prop where
  ws : WS b l w
  wk : WK b w0 w
  wr : Blk q #[.pointer (some ⟨b, 0, none⟩)] 0 w
  st : Blk r sv.cells 62 w
  tr : StB b sv x w
  q0 : b < q ∧ b < r
theorem CS.step {b q r : Nat} {l t : List UInt8} {sv : SV} {x : Stm} {w0 w w' : World} {e : Ending} (h : CS b q r l sv x w0 w) (hp : Puts b l t w e w') : CS b q r (l ++ t) sv x w0 w' :=
  ⟨hp.2.1, h.wk.trans hp.2.2, hp.2.2.blk h.wr (by have := h.q0; omega) (by decide), hp.2.2.blk h.st (by have := h.q0; omega) (by decide), h.tr.keep hp.2.2.below, h.q0⟩
theorem CS.sc {b q r : Nat} {l : List UInt8} {sv : SV} {x : Stm} {w0 w : World} (h : CS b q r l sv x w0 w) (i : Nat) : w.cell? ⟨r, i, none⟩ = sv.cells[i]? := h.st.cell i
theorem CS.begin {b : Nat} {l : List UInt8} {sv : SV} {x : Stm} {w W : World} (hw : WS b l w) (hs : StB b sv x w) (hW : (w.alloc (.cells #[.pointer (some ⟨b, 0, none⟩)] 0)).alloc (.cells sv.cells 62) = W) : CS b w.heap.size (w.heap.size + 1) l sv x w W := by
  have hlt := hw.wr.lt
  have hk2 : Blk (w.heap.size + 1) sv.cells 62 W := by
    have := Blk.new (w.alloc (.cells #[.pointer (some ⟨b, 0, none⟩)] 0)) sv.cells 62
    rw [hW, World.size_alloc] at this
    exact this
  have hk : WK b w W := by rw [← hW]; exact ((WK.refl _ _).alloc (Nat.le_of_lt hlt) _).alloc (by simp; omega) _
  refine ⟨by rw [← hW]; exact (hw.alloc _).alloc _, hk, ?_, hk2, hs.keep hk.below, hlt, by omega⟩
  rw [← hW]; exact (Blk.new _ _ _).below ((Below.refl _ _).alloc (Nat.le_refl _) _)
theorem CS.below {b q r : Nat} {l : List UInt8} {sv : SV} {x : Stm} {w0 w w' : World} (h : CS b q r l sv x w0 w) (hb : Below w.heap.size w w') : CS b q r l sv x w0 w' :=
  ⟨h.ws.below hb, h.wk.trans (WK.of_below hb (Nat.le_of_lt h.ws.wr.lt)), h.wr.below hb, h.st.below hb, h.tr.keep (hb.mono (Nat.le_of_lt h.ws.wr.lt)), h.q0⟩
end Go.Proofs.YtmabfbffpedfnaaGreatDoor
