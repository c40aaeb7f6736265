/- Part 21 of 39. -/
import Derived.Test.YtbdcbaamjkjhaaaGreatDoorG20
namespace Go.Proofs.YtbdcbaamjkjhaaaGreatDoor
open Go.RowKit

/-- things with commas between, token by token -/
inductive Ls {α : Type} (P : α → List KT → Prop) : List α → List KT → Prop
  | one {a : α} {ts : List KT} : P a ts → Ls P [a] ts
  | more {L : List α} {a : α} {ts us : List KT} : Ls P L ts → P a us → Ls P (L ++ [a]) (ts ++ ((4, ⟨#[44]⟩) :: us))
theorem Ls.pos {α : Type} {P : α → List KT → Prop} {L : List α} {ts : List KT} (h : Ls P L ts) : 0 < L.length := by
  cases h <;> simp
theorem Ls.all {α : Type} {P : α → List KT → Prop} {L : List α} {ts : List KT} (h : Ls P L ts) : ∀ a ∈ L, ∃ us, P a us := by
  induction h with
  | one h => intro a ha; rw [List.mem_singleton] at ha; subst ha; exact ⟨_, h⟩
  | more _ h ih =>
    intro a ha
    rw [List.mem_append, List.mem_singleton] at ha
    rcases ha with ha | rfl
    · exact ih a ha
    · exact ⟨_, h⟩
/-- read again -/
theorem Ls.go {α : Type} {P : α → List KT → Prop} {F : Rf α} {St : List KT → Prop} (hc : ∀ l, St ((4, ⟨#[44]⟩) :: l)) (hF : ∀ a us, P a us → ∀ l, St l → F (us ++ l) = some (a, l)) {L : List α} {ts : List KT} (h : Ls P L ts) :
    ∀ l, St l → ∃ L0 T k, oneOf F [] (ts ++ l) = some (L0, T) ∧ k + l.length ≤ T.length ∧ ∀ f, eachL (oneOf F) (f + k) L0 T = eachL (oneOf F) f L l := by
  induction h with
  | one h => intro l hl; exact ⟨_, l, 0, by rw [oneOf, hF _ _ h l hl]; rfl, by omega, fun f => rfl⟩
  | @more L a ts us _ h ih =>
    intro l hl
    obtain ⟨L0, T, k, h1, h2, h3⟩ := ih ((4, ⟨#[44]⟩) :: (us ++ l)) (hc _)
    refine ⟨L0, T, k + 1, by rw [List.append_assoc, List.cons_append]; exact h1, by simp only [List.length_cons, List.length_append] at h2; omega, fun f => ?_⟩
    rw [show f + (k + 1) = (f + 1) + k by omega, h3 (f + 1), eachL, isT_self (Or.inr rfl), if_pos rfl, List.tail_cons, oneOf, hF _ _ h l hl]
    rfl
theorem Ls.read {α : Type} {P : α → List KT → Prop} {F : Rf α} {St : List KT → Prop} (hc : ∀ l, St ((4, ⟨#[44]⟩) :: l)) (hF : ∀ a us, P a us → ∀ l, St l → F (us ++ l) = some (a, l)) {L : List α} {ts : List KT} (h : Ls P L ts) (l : List KT) (hl : St l) (hn : isT ⟨#[44]⟩ l = false) : listF F (ts ++ l) = some (L, l) := by
  obtain ⟨L0, T, k, h1, h2, h3⟩ := h.go hc hF l hl
  rw [listF, listS, h1]
  show eachL (oneOf F) T.length L0 T = _
  rw [show T.length = (T.length - k) + k by omega, h3]
  exact each_stop hn _ _
/-- what is read can be printed -/
def RdP {α : Type} (F : Rf α) (P : α → List KT → Prop) : Prop := ∀ l, Src l → ∀ a l', F l = some (a, l') → Src l' ∧ ∃ ts, P a ts ∧ ∀ μ, MuOk μ → wt μ ts + wt μ l' ≤ wt μ l
theorem rdp_each {α : Type} {F : Rf α} {P : α → List KT → Prop} (hF : RdP F P) (f : Nat) : ∀ L l L' l', Src l → eachL (oneOf F) f L l = some (L', l') → ∀ ts, Ls P L ts → Src l' ∧ ∃ us, Ls P L' us ∧ ∀ μ, MuOk μ → wt μ us + wt μ l' ≤ wt μ ts + wt μ l := by
  induction f with
  | zero => intro L l L' l' hs h ts ht; cases h; exact ⟨hs, ts, ht, fun μ _ => Nat.le_refl _⟩
  | succ f ih =>
    intro L l L' l' hs h ts ht
    rw [eachL] at h
    split at h
    · rename_i hcm
      obtain ⟨⟨L2, l2⟩, hy, h⟩ := Option.bind_eq_some_iff.1 h
      obtain ⟨⟨a, l3⟩, ha, hy⟩ := Option.map_eq_some_iff.1 hy
      cases hy
      obtain ⟨hs2, us, hu, hw⟩ := hF _ hs.tail a l3 ha
      obtain ⟨hs3, vs, hv, hw2⟩ := ih _ _ _ _ hs2 h _ (.more ht hu)
      refine ⟨hs3, vs, hv, fun μ hμ => ?_⟩
      have a := hw μ hμ
      have b := hw2 μ hμ
      have c := isT_wt4 hcm hμ
      rw [wt_append, wt_cons] at b
      omega
    · cases h; exact ⟨hs, ts, ht, fun μ _ => Nat.le_refl _⟩
theorem rdp_list {α : Type} {F : Rf α} {P : α → List KT → Prop} (hF : RdP F P) : RdP (listF F) (Ls P) := by
  intro l hs L l' h
  obtain ⟨⟨L2, l2⟩, hy, h⟩ := Option.bind_eq_some_iff.1 h
  obtain ⟨⟨a, l3⟩, ha, hy⟩ := Option.map_eq_some_iff.1 hy
  cases hy
  obtain ⟨hs2, us, hu, hw⟩ := hF _ hs a l3 ha
  obtain ⟨hs3, vs, hv, hw2⟩ := rdp_each hF _ _ _ _ _ hs2 h us (.one hu)
  refine ⟨hs3, vs, hv, fun μ hμ => ?_⟩
  have a := hw μ hμ
  have b := hw2 μ hμ
  omega
/-- the bytes -/
theorem lstT_congr {F G : Nat → List UInt8} (n : Nat) (h : ∀ i, i < n → F i = G i) : lstT F n = lstT G n := by
  induction n with
  | zero => rfl
  | succ n ih => rw [lstT, lstT, ih (fun i hi => h i (by omega)), h n (by omega)]
theorem comma_lx : LxP true 1 [44, 32] [(4, ⟨#[44]⟩)] := (LxP.mark (c := 44) (by decide) (by decide) (by decide) (by decide) (by decide)).then
theorem Ls.lx {α : Type} {P : α → List KT → Prop} {G : α → List UInt8} {z : α} (hG : ∀ a us, P a us → LxP false (2 * us.length) (G a) us) {L : List α} {ts : List KT} (h : Ls P L ts) : LxP false (2 * ts.length) (lstT (fun i => G (L.getD i z)) L.length) ts := by
  induction h with
  | @one a ts h => exact hG a ts h
  | @more L a ts us hL h ih =>
    have hp := hL.pos
    rw [show (L ++ [a]).length = L.length + 1 by simp, lstT, if_pos hp]
    have e1 : lstT (fun i => G ((L ++ [a]).getD i z)) L.length = lstT (fun i => G (L.getD i z)) L.length := lstT_congr _ (fun i hi => by simp [List.getD, List.getElem?_append_left hi])
    have e2 : G ((L ++ [a]).getD L.length z) = G a := by simp [List.getD]
    rw [e1, e2]
    have := ih.join (comma_lx.app (hG a us h)) (fun _ => clo_comma _)
    exact this.weak (by rw [List.length_append, List.length_cons]; omega)
/-- a column -/
inductive ClT : Colm → List KT → Prop
  | mk {a : ByteArray} {k : Int} {m u : Bool} : NameW a → (k = 1 ∧ u = false ∨ k = 2) → ClT ⟨a, k, m, u⟩ ((1, a) :: ((if k = 2 then [(1, ⟨#[116, 101, 120, 116]⟩)] else [(1, ⟨#[105, 110, 116]⟩)]) ++ ((if m then [(1, ⟨#[110, 111, 116]⟩), (1, ⟨#[110, 117, 108, 108]⟩)] else []) ++ (if u then [(1, ⟨#[119, 111, 114, 100, 115]⟩)] else []))))
/-- a row -/
def RwT (L : List Ex) (ts : List KT) : Prop := ∃ us, Ls (Ft 12 1) L us ∧ ts = (4, ⟨#[40]⟩) :: (us ++ [(4, ⟨#[41]⟩)])
/-- what is set -/
inductive SeT : Ex → List KT → Prop
  | mk {a : ByteArray} {x : Ex} {us : List KT} : NameW a → Ft 12 1 x us → SeT (.node 2 .none a x .nil) ((1, a) :: (4, ⟨#[61]⟩) :: us)
/-- one that is asked -/
inductive ItT : Int × Ex → List KT → Prop
  | plain {x : Ex} {us : List KT} : Ft 12 1 x us → ItT (0, x) us
  | star : ItT (1, .nil) [(1, ⟨#[99, 111, 117, 110, 116]⟩), (4, ⟨#[40]⟩), (4, ⟨#[42]⟩), (4, ⟨#[41]⟩)]
  | agg {s : ByteArray × Int} {x : Ex} {us : List KT} : s ∈ aggL → Ft 12 1 x us → ItT (s.2, x) ((1, s.1) :: (4, ⟨#[40]⟩) :: (us ++ [(4, ⟨#[41]⟩)]))
/-- a rank -/
inductive RkT : Ex × Bool → List KT → Prop
  | rank {d : Bool} : RkT (.nil, d) ((1, ⟨#[114, 97, 110, 107]⟩) :: (if d then [(1, ⟨#[100, 101, 115, 99]⟩)] else []))
  | expr {x : Ex} {d : Bool} {us : List KT} : Ft 12 1 x us → RkT (x, d) (us ++ (if d then [(1, ⟨#[100, 101, 115, 99]⟩)] else []))
/-- an expression behind words, if there is one -/
inductive BhT (w : List KT) : Ex → List KT → Prop
  | no : BhT w .nil []
  | yes {x : Ex} {us : List KT} : Ft 12 1 x us → BhT w x (w ++ us)
inductive ItsT : List (Int × Ex) → List KT → Prop
  | star : ItsT [] [(4, ⟨#[42]⟩)]
  | list {L : List (Int × Ex)} {us : List KT} : Ls ItT L us → ItsT L us
inductive JnT : ByteArray → Ex → List KT → Prop
  | no : JnT ⟨#[]⟩ .nil []
  | yes {a : ByteArray} {x : Ex} {us : List KT} : NameW a → Ft 12 1 x us → JnT a x ((1, ⟨#[106, 111, 105, 110]⟩) :: (1, a) :: (1, ⟨#[111, 110]⟩) :: us)
inductive OrT : List (Ex × Bool) → List KT → Prop
  | no : OrT [] []
  | yes {L : List (Ex × Bool)} {us : List KT} : Ls RkT L us → OrT L ((1, ⟨#[111, 114, 100, 101, 114]⟩) :: (1, ⟨#[98, 121]⟩) :: us)
inductive LmT : Int → List KT → Prop
  | no : LmT (-1) []
  | yes {n : Int} : 0 ≤ n → n ≤ 999999999 → LmT n [(1, ⟨#[108, 105, 109, 105, 116]⟩), (2, ⟨(Lib.decDigits n.toNat).toArray⟩)]
/-- a statement, token by token -/
inductive StT : Stm → List KT → Prop
  | begin : StT (ofS 8 ⟨#[]⟩) [(1, ⟨#[98, 101, 103, 105, 110]⟩)]
  | commit : StT (ofS 9 ⟨#[]⟩) [(1, ⟨#[99, 111, 109, 109, 105, 116]⟩)]
  | rollback : StT (ofS 10 ⟨#[]⟩) [(1, ⟨#[114, 111, 108, 108, 98, 97, 99, 107]⟩)]
  | index {a b : ByteArray} : NameW a → NameW b → StT { ofS 2 a with name := b } [(1, ⟨#[99, 114, 101, 97, 116, 101]⟩), (1, ⟨#[105, 110, 100, 101, 120]⟩), (1, ⟨#[111, 110]⟩), (1, a), (4, ⟨#[40]⟩), (1, b), (4, ⟨#[41]⟩)]
  | create {a : ByteArray} {L : List Colm} {us : List KT} : NameW a → Ls ClT L us → StT { ofS 1 a with cols := L } ((1, ⟨#[99, 114, 101, 97, 116, 101]⟩) :: (1, ⟨#[116, 97, 98, 108, 101]⟩) :: (1, a) :: (4, ⟨#[40]⟩) :: (us ++ [(4, ⟨#[41]⟩)]))
  | drop {a : ByteArray} : NameW a → StT (ofS 3 a) [(1, ⟨#[100, 114, 111, 112]⟩), (1, ⟨#[116, 97, 98, 108, 101]⟩), (1, a)]
  | insert {a : ByteArray} {L : List (List Ex)} {us : List KT} : NameW a → Ls RwT L us → StT { ofS 4 a with rows := L } ((1, ⟨#[105, 110, 115, 101, 114, 116]⟩) :: (1, ⟨#[105, 110, 116, 111]⟩) :: (1, a) :: (1, ⟨#[118, 97, 108, 117, 101, 115]⟩) :: us)
  | delete {a : ByteArray} {x : Ex} {us : List KT} : NameW a → BhT [(1, ⟨#[119, 104, 101, 114, 101]⟩)] x us → StT { ofS 5 a with wh := x } ((1, ⟨#[100, 101, 108, 101, 116, 101]⟩) :: (1, ⟨#[102, 114, 111, 109]⟩) :: (1, a) :: us)
  | update {a : ByteArray} {L : List Ex} {x : Ex} {us vs : List KT} : NameW a → Ls SeT L us → BhT [(1, ⟨#[119, 104, 101, 114, 101]⟩)] x vs → StT { ofS 6 a with sets := L, wh := x } ((1, ⟨#[117, 112, 100, 97, 116, 101]⟩) :: (1, a) :: (1, ⟨#[115, 101, 116]⟩) :: (us ++ vs))
  | select {I : List (Int × Ex)} {a b : ByteArray} {on wh gr : Ex} {O : List (Ex × Bool)} {n : Int} {t1 t2 t3 t4 t5 t6 : List KT} : ItsT I t1 → NameW a → JnT b on t2 → BhT [(1, ⟨#[119, 104, 101, 114, 101]⟩)] wh t3 → BhT [(1, ⟨#[103, 114, 111, 117, 112]⟩), (1, ⟨#[98, 121]⟩)] gr t4 → OrT O t5 → LmT n t6 →
      StT ⟨7, a, b, [], ⟨#[]⟩, [], [], on, wh, I, gr, O, n⟩ ((1, ⟨#[115, 101, 108, 101, 99, 116]⟩) :: (t1 ++ ((1, ⟨#[102, 114, 111, 109]⟩) :: (1, a) :: (t2 ++ (t3 ++ (t4 ++ (t5 ++ t6)))))))
end Go.Proofs.YtbdcbaamjkjhaaaGreatDoor
namespace Go.Proofs.YtbdcbaamjkjhaaaGreatDoor
open Go.RowKit

theorem sgn_comma (l : List KT) : sgn ((4, ⟨#[44]⟩) :: l) < 1 := by rw [sgn_mark]; decide +kernel
theorem sgn_close (l : List KT) : sgn ((4, ⟨#[41]⟩) :: l) < 1 := by rw [sgn_mark]; decide +kernel
theorem sgn_kw {s : ByteArray} (h : sgnT s < 1) (l : List KT) : sgn ((1, s) :: l) < 1 := by rw [sgn_word]; exact h
theorem Ft.noT {d : Nat} {e : Ex} {ts : List KT} (h : Ft d 1 e ts) {s : ByteArray} (hs : s ∈ keepL ∨ ∃ c l, s.data.toList = c :: l ∧ isAl c = false) (h1 : s ≠ ⟨#[40]⟩) (h2 : s ≠ ⟨#[110, 117, 108, 108]⟩) (h3 : s ≠ ⟨#[45]⟩) (h4 : s ≠ ⟨#[110, 111, 116]⟩) (l : List KT) : isT s (ts ++ l) = false := by
  obtain ⟨t, m, rfl, k⟩ := h.hd
  exact k.isT hs h1 h2 (fun _ => h3) (fun _ => h4) _
theorem inside_read {α : Type} {F : Rf α} {a : α} {us l : List KT} (h : F (us ++ ((4, ⟨#[41]⟩) :: l)) = some (a, (4, ⟨#[41]⟩) :: l)) : insideF F ((4, ⟨#[40]⟩) :: (us ++ ((4, ⟨#[41]⟩) :: l))) = some (a, l) := by
  rw [insideF, need_self (Or.inr rfl), Option.bind_some, h, Option.bind_some]
  show (needF _ ((4, _) :: _)).map _ = _
  rw [need_self (Or.inr rfl)]
  rfl
/-- a comma or a ) stands there -/
def Sep (l : List KT) : Prop := ∃ r, l = (4, ⟨#[44]⟩) :: r ∨ l = (4, ⟨#[41]⟩) :: r
theorem Sep.no {l : List KT} (h : Sep l) {s : ByteArray} (h1 : ⟨#[44]⟩ ≠ s) (h2 : ⟨#[41]⟩ ≠ s) : isT s l = false := by
  obtain ⟨r, rfl | rfl⟩ := h
  · exact ne_isT h1 _
  · exact ne_isT h2 _
theorem ClT.read {c : Colm} {ts : List KT} (h : ClT c ts) (l : List KT) (hl : Sep l) : colmF (ts ++ l) = some (c, l) := by
  cases h with
  | @mk a k m u h hk =>
    have e0 := hl.no (s := ⟨#[110, 111, 116]⟩) (by decide +kernel) (by decide +kernel)
    have e1 := hl.no (s := ⟨#[119, 111, 114, 100, 115]⟩) (by decide +kernel) (by decide +kernel)
    have q1 : ∀ x, isT ⟨#[105, 110, 116]⟩ ((1, ⟨#[116, 101, 120, 116]⟩) :: x) = false := fun x => ne_isT (by decide +kernel) _
    have q2 : ∀ x, isT ⟨#[110, 111, 116]⟩ ((1, ⟨#[119, 111, 114, 100, 115]⟩) :: x) = false := fun x => ne_isT (by decide +kernel) _
    rw [List.cons_append, colmF, h.read, Option.bind_some]
    simp only
    rcases hk with ⟨rfl, rfl⟩ | rfl
    · rw [if_neg (by decide)]
      simp only [Bool.false_eq_true, if_false, List.append_nil]
      rw [List.append_assoc, List.singleton_append, colm1, isT_self (Or.inl rfl), if_pos rfl, Option.bind_some, List.tail_cons]
      cases m with
      | false =>
        rw [if_neg (by decide), List.nil_append, colm2, e0]
        simp [colm3]
      | true =>
        rw [if_pos rfl, List.cons_append, List.singleton_append, colm2, isT_self (Or.inl rfl), if_pos rfl, List.tail_cons, need_self (Or.inl rfl)]
        simp [colm3]
    · rw [if_pos rfl, List.append_assoc, List.singleton_append, colm1, q1, if_neg (by decide), need_self (Or.inl rfl), Option.map_some, Option.bind_some]
      simp only
      cases m with
      | false =>
        cases u with
        | false =>
          simp only [Bool.false_eq_true, if_false, List.nil_append]
          rw [colm2, e0]
          simp [colm3, e1]
        | true =>
          simp only [Bool.false_eq_true, if_false, if_true, List.nil_append, List.singleton_append]
          rw [colm2, q2]
          simp [colm3, isT_self]
      | true =>
        cases u with
        | false =>
          simp only [Bool.false_eq_true, if_false, if_true, List.append_nil, List.cons_append, List.nil_append]
          rw [colm2, isT_self (Or.inl rfl), if_pos rfl, List.tail_cons, need_self (Or.inl rfl)]
          simp [colm3, e1]
        | true =>
          simp only [if_true, List.cons_append, List.nil_append]
          rw [colm2, isT_self (Or.inl rfl), if_pos rfl, List.tail_cons, need_self (Or.inl rfl)]
          simp [colm3, isT_self]
theorem exprs_read {L : List Ex} {ts : List KT} (h : Ls (Ft 12 1) L ts) (l : List KT) (hl : sgn l < 1) (hn : isT ⟨#[44]⟩ l = false) : listF Ef (ts ++ l) = some (L, l) :=
  h.read (St := fun l => sgn l < 1) sgn_comma (fun _ _ h l hl => h.back l hl) l hl hn
theorem no_comma_close (l : List KT) : isT ⟨#[44]⟩ ((4, ⟨#[41]⟩) :: l) = false := ne_isT (by decide +kernel) _
theorem RwT.read {L : List Ex} {ts : List KT} (h : RwT L ts) (l : List KT) : rowF (ts ++ l) = some (L, l) := by
  obtain ⟨us, h, rfl⟩ := h
  rw [List.cons_append, List.append_assoc, List.singleton_append, rowF]
  exact inside_read (exprs_read h _ (sgn_close l) (no_comma_close l))
theorem SeT.read {x : Ex} {ts : List KT} (h : SeT x ts) (l : List KT) (hl : sgn l < 1) : setF (ts ++ l) = some (x, l) := by
  cases h with
  | mk h k =>
    rw [List.cons_append, List.cons_append, setF, h.read, Option.bind_some]
    simp only
    rw [need_self (Or.inr rfl), Option.bind_some, k.back l hl]
    rfl
theorem agg_keep : ∀ s ∈ aggL, s.1 ∈ keepL := by
  intro s hs
  simp only [aggL, List.mem_cons, List.not_mem_nil, or_false] at hs
  rcases hs with rfl | rfl | rfl | rfl <;> simp [keepL]
theorem agg_ne : ∀ s ∈ aggL, s.1 ≠ ⟨#[40]⟩ ∧ s.1 ≠ ⟨#[110, 117, 108, 108]⟩ ∧ s.1 ≠ ⟨#[45]⟩ ∧ s.1 ≠ ⟨#[110, 111, 116]⟩ := by decide +kernel
theorem find_agg (s : ByteArray × Int) (h : s ∈ aggL) (l : List KT) : aggL.find? (fun q => isT q.1 ((1, s.1) :: l)) = some s := by
  simp only [isT_cons]
  revert s
  decide +kernel
theorem Ft.noAgg {d : Nat} {e : Ex} {ts : List KT} (h : Ft d 1 e ts) (l : List KT) : aggL.find? (fun q => isT q.1 (ts ++ l)) = none := by
  rw [List.find?_eq_none]
  intro s hs
  have n := agg_ne s hs
  rw [h.noT (Or.inl (agg_keep s hs)) n.1 n.2.1 n.2.2.1 n.2.2.2]
  decide
theorem Ft.noStar {d : Nat} {e : Ex} {ts : List KT} (h : Ft d 1 e ts) (l : List KT) : isT ⟨#[42]⟩ (ts ++ l) = false :=
  h.noT (Or.inr ⟨42, [], rfl, by decide⟩) (by decide +kernel) (by decide +kernel) (by decide +kernel) (by decide +kernel) l
theorem ItT.read {x : Int × Ex} {ts : List KT} (h : ItT x ts) (l : List KT) (hl : sgn l < 1) : itemF (ts ++ l) = some (x, l) := by
  cases h with
  | plain h => rw [itemF, h.noAgg]; simp only; rw [h.back l hl]; rfl
  | star =>
    rw [List.cons_append, itemF, find_agg (⟨#[99, 111, 117, 110, 116]⟩, 1) (by simp [aggL])]
    simp only [List.tail_cons]
    have := inside_read (F := itemI 1) (a := Ex.nil) (us := [(4, ⟨#[42]⟩)]) (l := l) (by rw [itemI, List.singleton_append, if_pos ⟨rfl, isT_self (Or.inr rfl) _ _⟩]; rfl)
    rw [List.singleton_append] at this
    show (insideF (itemI 1) ((4, _) :: (4, _) :: (4, _) :: l)).map _ = _
    rw [this]
    rfl
  | @agg s x us hs h =>
    rw [List.cons_append, itemF, find_agg s hs]
    simp only [List.tail_cons]
    rw [List.cons_append, List.append_assoc, List.singleton_append, inside_read (F := itemI s.2) (a := x) (by rw [itemI, if_neg (by rw [h.noStar]; simp)]; exact h.back _ (sgn_close l))]
    rfl
/-- what may stand behind a rank -/
def StR (l : List KT) : Prop := sgn l < 1 ∧ isT ⟨#[97, 115, 99]⟩ l = false ∧ isT ⟨#[100, 101, 115, 99]⟩ l = false
theorem rank2_no {l : List KT} (h : StR l) : rank2 l = (false, l) := by rw [rank2, h.2.1, h.2.2]; rfl
theorem rank2_desc (l : List KT) : rank2 ((1, ⟨#[100, 101, 115, 99]⟩) :: l) = (true, l) := by
  rw [rank2, ne_isT (by decide +kernel), isT_self (Or.inl rfl)]; rfl
theorem rank_keep : ⟨#[114, 97, 110, 107]⟩ ∈ keepL := by simp [keepL]
theorem RkT.read {x : Ex × Bool} {ts : List KT} (h : RkT x ts) (l : List KT) (hl : StR l) : rankF (ts ++ l) = some (x, l) := by
  cases h with
  | @rank d =>
    rw [List.cons_append, rankF, rank1, isT_self (Or.inl rfl), if_pos rfl, Option.map_some, List.tail_cons]
    cases d with
    | false => simp only [Bool.false_eq_true, if_false, List.nil_append]; rw [rank2_no hl]
    | true => simp only [if_true, List.singleton_append]; rw [rank2_desc]
  | @expr x d us h =>
    have hno : ∀ l, isT ⟨#[114, 97, 110, 107]⟩ (us ++ l) = false := fun l => h.noT (Or.inl rank_keep) (by decide +kernel) (by decide +kernel) (by decide +kernel) (by decide +kernel) l
    cases d with
    | false =>
      simp only [Bool.false_eq_true, if_false, List.append_nil]
      rw [rankF, rank1, hno, if_neg (by decide), h.back l hl.1, Option.map_some]
      simp only
      rw [rank2_no hl]
    | true =>
      simp only [if_true]
      rw [List.append_assoc, List.singleton_append, rankF, rank1, hno, if_neg (by decide), h.back _ (sgn_kw (by decide +kernel) l), Option.map_some]
      simp only
      rw [rank2_desc]
/-- what may stand behind the parts of a select -/
def folL : List (Nat × KT) := [(1, (1, ⟨#[106, 111, 105, 110]⟩)), (2, (1, ⟨#[119, 104, 101, 114, 101]⟩)), (3, (1, ⟨#[103, 114, 111, 117, 112]⟩)), (4, (1, ⟨#[111, 114, 100, 101, 114]⟩)), (5, (1, ⟨#[108, 105, 109, 105, 116]⟩)), (6, (5, ⟨#[]⟩))]
def Fol (k : Nat) (l : List KT) : Prop := ∃ q ∈ folL, k < q.1 ∧ ∃ r, l = q.2 :: r
theorem Fol.sgn {k : Nat} {l : List KT} (h : Fol k l) : sgn l < 1 := by
  obtain ⟨q, hq, hk, r, rfl⟩ := h
  rw [sgn_cons]
  clear hk
  revert q
  decide +kernel
theorem Fol.no {k : Nat} {l : List KT} (h : Fol k l) {s : ByteArray} (hs : ∀ q ∈ folL, k < q.1 → ((decide (q.2.1 = 1) || decide (q.2.1 = 4)) && decide (q.2.2 = s)) = false) : isT s l = false := by
  obtain ⟨q, hq, hk, r, rfl⟩ := h
  rw [isT_cons]
  exact hs q hq hk
theorem Fol.low {k j : Nat} {l : List KT} (h : Fol k l) (hj : j ≤ k) : Fol j l := by
  obtain ⟨q, hq, hk, hr⟩ := h
  exact ⟨q, hq, by omega, hr⟩
theorem Fol.str {k : Nat} {l : List KT} (h : Fol k l) : StR l := ⟨h.sgn, (h.low (Nat.zero_le k)).no (by decide +kernel), (h.low (Nat.zero_le k)).no (by decide +kernel)⟩
theorem Fol.comma {k : Nat} {l : List KT} (h : Fol k l) : isT ⟨#[44]⟩ l = false := (h.low (Nat.zero_le k)).no (by decide +kernel)
theorem where_read {x : Ex} {ts : List KT} (h : BhT [(1, ⟨#[119, 104, 101, 114, 101]⟩)] x ts) (l : List KT) (hl : Fol 2 l) : whereF ⟨#[119, 104, 101, 114, 101]⟩ (ts ++ l) = some (x, l) := by
  cases h with
  | no => rw [List.nil_append, whereF, hl.no (by decide +kernel)]; rfl
  | yes h => rw [List.append_assoc, List.singleton_append, whereF, isT_self (Or.inl rfl), if_pos rfl, List.tail_cons]; exact h.back l hl.sgn
theorem group_read {x : Ex} {ts : List KT} (h : BhT [(1, ⟨#[103, 114, 111, 117, 112]⟩), (1, ⟨#[98, 121]⟩)] x ts) (l : List KT) (hl : Fol 3 l) : selGroup (ts ++ l) = some (x, l) := by
  cases h with
  | no => rw [List.nil_append, selGroup, hl.no (by decide +kernel)]; rfl
  | yes h =>
    rw [List.append_assoc, List.cons_append, List.singleton_append, selGroup, isT_self (Or.inl rfl), if_pos rfl, List.tail_cons, need_self (Or.inl rfl), Option.bind_some]
    exact h.back l hl.sgn
theorem join_read {a : ByteArray} {x : Ex} {ts : List KT} (h : JnT a x ts) (l : List KT) (hl : Fol 1 l) : selJoin (ts ++ l) = some ((a, x), l) := by
  cases h with
  | no => rw [List.nil_append, selJoin, hl.no (by decide +kernel)]; rfl
  | yes h k =>
    rw [List.cons_append, List.cons_append, List.cons_append, selJoin, isT_self (Or.inl rfl), if_pos rfl, List.tail_cons, h.read, Option.bind_some]
    simp only
    rw [need_self (Or.inl rfl), Option.bind_some, k.back l hl.sgn]
    rfl
theorem StR_comma (l : List KT) : StR ((4, ⟨#[44]⟩) :: l) := ⟨sgn_comma l, ne_isT (by decide +kernel) _, ne_isT (by decide +kernel) _⟩
theorem order_read {L : List (Ex × Bool)} {ts : List KT} (h : OrT L ts) (l : List KT) (hl : Fol 4 l) : selOrder (ts ++ l) = some (L, l) := by
  cases h with
  | no => rw [List.nil_append, selOrder, hl.no (by decide +kernel)]; rfl
  | yes h =>
    rw [List.cons_append, List.cons_append, selOrder, isT_self (Or.inl rfl), if_pos rfl, List.tail_cons, need_self (Or.inl rfl), Option.bind_some]
    exact h.read (St := StR) StR_comma (fun _ _ h l hl => h.read l hl) l hl.str hl.comma
theorem nd_le (k : Nat) (hk : 1 ≤ k) : ∀ u, u < 10 ^ k → Lib.nDigits u ≤ k := by
  induction k with
  | zero => omega
  | succ k ih =>
    intro u hu
    by_cases h : u < 10
    · rw [Lib.nDigits_small h]; omega
    · rw [Lib.nDigits_big h]
      rcases Nat.eq_zero_or_pos k with rfl | hk
      · simp at hu; omega
      · have := ih hk (u / 10) (by rw [Nat.pow_succ] at hu; omega)
        omega
theorem limit_read {n : Int} {ts : List KT} (h : LmT n ts) (l : List KT) (hl : Fol 5 l) : selLimit (ts ++ l) = some (n, l) := by
  cases h with
  | no => rw [List.nil_append, selLimit, hl.no (by decide +kernel)]; rfl
  | yes h0 h1 =>
    rw [List.cons_append, List.singleton_append, selLimit, isT_self (Or.inl rfl), if_pos rfl, List.tail_cons, limitF, hdT_cons]
    have hd : (⟨(Lib.decDigits n.toNat).toArray⟩ : ByteArray).size ≤ 9 := by
      rw [← ba_len]
      simp only [Lib.decDigits_length]
      exact nd_le 9 (by decide) _ (by omega)
    rw [if_pos ⟨rfl, hd⟩, digV]
    simp only [parse_dec h0 (show n ≤ 9223372036854775807 by omega)]
    rfl
theorem items_read {I : List (Int × Ex)} {ts : List KT} (h : ItsT I ts) (l : List KT) : selItems (ts ++ ((1, ⟨#[102, 114, 111, 109]⟩) :: l)) = some (I, (1, ⟨#[102, 114, 111, 109]⟩) :: l) := by
  cases h with
  | star => rw [List.singleton_append, selItems, isT_self (Or.inr rfl)]; rfl
  | list h =>
    have hs : ∀ l, isT ⟨#[42]⟩ (ts ++ l) = false := by
      have key : ∀ {L : List (Int × Ex)} {ts : List KT}, Ls ItT L ts → ∀ l, isT ⟨#[42]⟩ (ts ++ l) = false := by
        intro L ts h
        induction h with
        | one h =>
          intro l
          cases h with
          | plain h => exact h.noStar l
          | star => exact ne_isT (by decide +kernel) _
          | @agg s _ _ hs _ => exact ne_isT (fun e => absurd (show s.1 = ⟨#[42]⟩ from e) (by revert s; decide +kernel)) _
        | more _ _ ih => intro l; rw [List.append_assoc]; exact ih _
      exact key h
    rw [selItems, hs, if_neg (by decide)]
    exact h.read (St := fun l => sgn l < 1) sgn_comma (fun _ _ h l hl => h.read l hl) _ (sgn_kw (by decide +kernel) l) (ne_isT (by decide +kernel) _)
theorem fol_limit {n : Int} {ts l : List KT} (h : LmT n ts) (hl : Fol 5 l) : Fol 4 (ts ++ l) := by
  cases h with
  | no => exact hl.low (by decide)
  | yes _ _ => exact ⟨(5, (1, ⟨#[108, 105, 109, 105, 116]⟩)), by simp [folL], by decide, _, rfl⟩
theorem fol_order {L : List (Ex × Bool)} {ts l : List KT} (h : OrT L ts) (hl : Fol 4 l) : Fol 3 (ts ++ l) := by
  cases h with
  | no => exact hl.low (by decide)
  | yes _ => exact ⟨(4, (1, ⟨#[111, 114, 100, 101, 114]⟩)), by simp [folL], by decide, _, rfl⟩
theorem fol_group {x : Ex} {ts l : List KT} (h : BhT [(1, ⟨#[103, 114, 111, 117, 112]⟩), (1, ⟨#[98, 121]⟩)] x ts) (hl : Fol 3 l) : Fol 2 (ts ++ l) := by
  cases h with
  | no => exact hl.low (by decide)
  | yes _ => exact ⟨(3, (1, ⟨#[103, 114, 111, 117, 112]⟩)), by simp [folL], by decide, _, rfl⟩
theorem fol_where {x : Ex} {ts l : List KT} (h : BhT [(1, ⟨#[119, 104, 101, 114, 101]⟩)] x ts) (hl : Fol 2 l) : Fol 1 (ts ++ l) := by
  cases h with
  | no => exact hl.low (by decide)
  | yes _ => exact ⟨(2, (1, ⟨#[119, 104, 101, 114, 101]⟩)), by simp [folL], by decide, _, rfl⟩
theorem fol_end : Fol 5 [(5, ⟨#[]⟩)] := ⟨(6, (5, ⟨#[]⟩)), by simp [folL], by decide, _, rfl⟩
/-- begins with this word, not with that -/
theorem kw_no {s t : ByteArray} (h : s ≠ t) (l : List KT) : isT t ((1, s) :: l) = false := ne_isT h _
theorem Ls.seT_name {L : List Ex} {ts : List KT} (h : Ls SeT L ts) : ∃ a r, ts = (1, a) :: r := by
  induction h with
  | one h => cases h with | mk _ _ => exact ⟨_, _, rfl⟩
  | more _ _ ih => obtain ⟨a, r, rfl⟩ := ih; exact ⟨a, _, rfl⟩
theorem need_kw {s : ByteArray} (l : List KT) : needF s ((1, s) :: l) = some l := need_self (Or.inl rfl) _ _
theorem StT.read {x : Stm} {ts : List KT} (h : StT x ts) {l : List KT} (hl : Fol 5 l) : stmF (ts ++ l) = some (x, l) := by
  cases h with
  | begin => rw [List.singleton_append, stmF, isT_self (Or.inl rfl)]; rfl
  | commit => rw [List.singleton_append, stmF, kw_no (by decide +kernel), isT_self (Or.inl rfl)]; rfl
  | rollback => rw [List.singleton_append, stmF, kw_no (by decide +kernel), kw_no (by decide +kernel), isT_self (Or.inl rfl)]; rfl
  | @index a b ha hb =>
    rw [List.cons_append, stmF, kw_no (by decide +kernel), kw_no (by decide +kernel), kw_no (by decide +kernel), isT_self (Or.inl rfl)]
    simp only [Bool.false_eq_true, if_false, if_true, List.tail_cons]
    show createF ((1, _) :: (1, _) :: (1, a) :: (4, _) :: ([(1, b)] ++ ((4, _) :: l))) = _
    rw [createF, isT_self (Or.inl rfl), if_pos rfl, List.tail_cons, need_kw, Option.bind_some, ha.read, Option.bind_some]
    simp only
    rw [inside_read (F := nameF) (a := b) (by rw [List.singleton_append, hb.read])]
    rfl
  | @create a L us ha hL =>
    rw [List.cons_append, stmF, kw_no (by decide +kernel), kw_no (by decide +kernel), kw_no (by decide +kernel), isT_self (Or.inl rfl)]
    simp only [Bool.false_eq_true, if_false, if_true, List.tail_cons]
    rw [List.cons_append, List.cons_append, List.cons_append, List.append_assoc, List.singleton_append]
    rw [createF, kw_no (by decide +kernel), if_neg (by decide), need_kw, Option.bind_some, ha.read, Option.bind_some]
    simp only
    rw [inside_read (F := listF colmF) (a := L) (hL.read (St := Sep) (fun l => ⟨l, Or.inl rfl⟩) (fun _ _ h l hl => h.read l hl) _ ⟨l, Or.inr rfl⟩ (no_comma_close l))]
    rfl
  | @drop a ha =>
    rw [List.cons_append, stmF, kw_no (by decide +kernel), kw_no (by decide +kernel), kw_no (by decide +kernel), kw_no (by decide +kernel), isT_self (Or.inl rfl)]
    simp only [Bool.false_eq_true, if_false, if_true, List.tail_cons]
    show dropF ((1, _) :: (1, a) :: l) = _
    rw [dropF, need_kw, Option.bind_some, ha.read]
    rfl
  | @insert a L us ha hL =>
    rw [List.cons_append, stmF, kw_no (by decide +kernel), kw_no (by decide +kernel), kw_no (by decide +kernel), kw_no (by decide +kernel), kw_no (by decide +kernel), isT_self (Or.inl rfl)]
    simp only [Bool.false_eq_true, if_false, if_true, List.tail_cons, List.cons_append]
    rw [insertF, need_kw, Option.bind_some, ha.read, Option.bind_some]
    simp only
    rw [need_kw, Option.bind_some, hL.read (F := rowF) (St := fun _ => True) (fun _ => trivial) (fun _ _ h l _ => h.read l) l trivial hl.comma]
    rfl
  | @delete a x us ha hx =>
    rw [List.cons_append, stmF, kw_no (by decide +kernel), kw_no (by decide +kernel), kw_no (by decide +kernel), kw_no (by decide +kernel), kw_no (by decide +kernel), kw_no (by decide +kernel), isT_self (Or.inl rfl)]
    simp only [Bool.false_eq_true, if_false, if_true, List.tail_cons, List.cons_append]
    rw [deleteF, need_kw, Option.bind_some, ha.read, Option.bind_some]
    simp only
    rw [where_read hx l (hl.low (by decide))]
    rfl
  | @update a L x us vs ha hL hx =>
    rw [List.cons_append, stmF, kw_no (by decide +kernel), kw_no (by decide +kernel), kw_no (by decide +kernel), kw_no (by decide +kernel), kw_no (by decide +kernel), kw_no (by decide +kernel), kw_no (by decide +kernel), isT_self (Or.inl rfl)]
    simp only [Bool.false_eq_true, if_false, if_true, List.tail_cons, List.cons_append]
    have hf := fol_where hx (hl.low (show 2 ≤ 5 by decide))
    rw [updateF, ha.read, Option.bind_some]
    simp only
    rw [need_kw, Option.bind_some, List.append_assoc, hL.read (F := setF) (St := fun l => sgn l < 1) sgn_comma (fun _ _ h l hl => h.read l hl) _ hf.sgn hf.comma, Option.bind_some]
    simp only
    rw [where_read hx l (hl.low (by decide))]
    rfl
  | @select I a b on wh gr O n t1 t2 t3 t4 t5 t6 h1 ha h2 h3 h4 h5 h6 =>
    rw [List.cons_append, stmF, kw_no (by decide +kernel), kw_no (by decide +kernel), kw_no (by decide +kernel), kw_no (by decide +kernel), kw_no (by decide +kernel), kw_no (by decide +kernel), kw_no (by decide +kernel), kw_no (by decide +kernel)]
    simp only [Bool.false_eq_true, if_false]
    rw [need_kw, Option.bind_some]
    simp only [List.append_assoc, List.cons_append]
    have f5 := fol_limit h6 hl
    have f4 := fol_order h5 f5
    have f3 := fol_group h4 f4
    have f2 := fol_where h3 f3
    rw [choiceF, items_read h1, Option.bind_some]
    simp only
    rw [selTable, need_kw, Option.bind_some, ha.read, Option.bind_some]
    simp only
    rw [join_read h2 _ f2, Option.bind_some]
    simp only
    rw [where_read h3 _ f3, Option.bind_some]
    simp only
    rw [group_read h4 _ f4, Option.bind_some]
    simp only
    rw [order_read h5 _ f5, Option.bind_some]
    simp only
    rw [limit_read h6 _ hl]
    rfl
theorem StT.back {x : Stm} {ts : List KT} (h : StT x ts) : readF (ts ++ [(5, ⟨#[]⟩)]) = some x := by
  rw [readF, h.read fol_end, Option.bind_some]
  rfl
end Go.Proofs.YtbdcbaamjkjhaaaGreatDoor
