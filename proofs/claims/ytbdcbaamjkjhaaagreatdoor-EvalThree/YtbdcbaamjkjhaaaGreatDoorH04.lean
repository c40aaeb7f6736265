/- Part 4 of 35. -/
import Derived.Test.YtbdcbaamjkjhaaaGreatDoorH03
import Derived.Deep.RegionLaw
import Derived.Deep.DrawnRows
namespace Go.Proofs.YtbdcbaamjkjhaaaGreatDoor
open Go.RowKit

/-- what reads makes something -/
def NN (F : Rf Ex) : Prop := ∀ l x, F l = some x → x.1 ≠ .nil
theorem chainL_nn (F : Rf Ex) (sg : List (ByteArray × Int)) (f : Nat) : ∀ e l x, e ≠ .nil → chainL F sg f e l = some x → x.1 ≠ .nil := by
  induction f with
  | zero => intro e l x he h; cases h; exact he
  | succ f ih =>
    intro e l x he h
    rw [chainL] at h
    split at h
    · cases h; exact he
    · obtain ⟨y, _, h⟩ := Option.bind_eq_some_iff.1 h
      exact ih _ _ x (fun e => by cases e) h
theorem chainF_nn {F : Rf Ex} (hF : NN F) (sg : List (ByteArray × Int)) : NN (chainF F sg) := fun l x h => by
  obtain ⟨y, hy, h⟩ := Option.bind_eq_some_iff.1 h
  exact chainL_nn F sg _ _ _ x (hF _ _ hy) h
theorem sumF_nn {M : Rf Ex} (h : NN M) : NN (sumF M) := chainF_nn (chainF_nn h _) _
theorem exprF_nn {N : Rf Ex} (h : NN N) : NN (exprF N) := chainF_nn (chainF_nn h _) _
theorem askF_nn {S : Rf Ex} (hS : NN S) : NN (askF S) := fun l x h => by
  obtain ⟨y, hy, h⟩ := Option.bind_eq_some_iff.1 h
  have h1 := hS _ _ hy
  unfold askR at h
  split at h
  · obtain ⟨z, _, rfl⟩ := Option.map_eq_some_iff.1 h
    exact fun e => by cases e
  · split at h
    · unfold nullF at h
      split at h
      · obtain ⟨z, _, rfl⟩ := Option.map_eq_some_iff.1 h
        exact fun e => by cases e
      · obtain ⟨z, _, rfl⟩ := Option.map_eq_some_iff.1 h
        exact fun e => by cases e
    · split at h
      · obtain ⟨z, _, rfl⟩ := Option.map_eq_some_iff.1 h
        exact fun e => by cases e
      · cases h; exact h1
theorem notF_nn {N A : Rf Ex} (hA : NN A) : NN (notF N A) := fun l x h => by
  unfold notF at h
  split at h
  · obtain ⟨z, _, rfl⟩ := Option.map_eq_some_iff.1 h
    exact fun e => by cases e
  · exact hA l x h
theorem minusF_nn {N A : Rf Ex} (hA : NN A) : NN (minusF N A) := fun l x h => by
  unfold minusF at h
  split at h
  · obtain ⟨z, _, rfl⟩ := Option.map_eq_some_iff.1 h
    exact fun e => by cases e
  · exact hA l x h
theorem oneF_nn {E : Rf Ex} (hE : NN E) : NN (oneF E) := fun l x h => by
  unfold oneF at h
  split at h
  · obtain ⟨z, _, rfl⟩ := Option.map_eq_some_iff.1 h
    exact fun e => by cases e
  · split at h
    · obtain ⟨z, _, rfl⟩ := Option.map_eq_some_iff.1 h
      exact fun e => by cases e
    · split at h
      · cases h; exact fun e => by cases e
      · split at h
        · obtain ⟨y, hy, h⟩ := Option.bind_eq_some_iff.1 h
          obtain ⟨z, _, rfl⟩ := Option.map_eq_some_iff.1 h
          show y.1 ≠ _
          exact hE _ y hy
        · obtain ⟨y, hy, h⟩ := Option.bind_eq_some_iff.1 h
          split at h
          · obtain ⟨z, _, rfl⟩ := Option.map_eq_some_iff.1 h
            exact fun e => by cases e
          · cases h; exact fun e => by cases e
theorem lev_nn (d : Nat) : NN (lev d).E ∧ NN (lev d).N ∧ NN (lev d).M := by
  induction d with
  | zero => exact ⟨(fun _ _ h => by cases h), (fun _ _ h => by cases h), (fun _ _ h => by cases h)⟩
  | succ d ih =>
    have hM : NN (minusF (lev d).M (oneF (lev d).E)) := minusF_nn (oneF_nn ih.1)
    have hN : NN (notF (lev d).N (askF (sumF (minusF (lev d).M (oneF (lev d).E))))) := notF_nn (askF_nn (sumF_nn hM))
    exact ⟨exprF_nn hN, hN, hM⟩
theorem ask_cmp {S : Rf Ex} {e : Ex} {l : List KT} {s : ByteArray × Int} (h : cmpS.find? (fun s => isT s.1 l) = some s) : askR S e l = (S l.tail).map fun x => (.two s.2 e x.1, x.2) := by unfold askR; rw [h]
theorem ask_is {S : Rf Ex} {e : Ex} {l : List KT} (h : cmpS.find? (fun s => isT s.1 l) = none) (h1 : isT ⟨#[105, 115]⟩ l = true) : askR S e l = nullF e l.tail := by unfold askR; rw [h]; simp only; rw [if_pos h1]
theorem ask_match {S : Rf Ex} {e : Ex} {l : List KT} (h : cmpS.find? (fun s => isT s.1 l) = none) (h1 : isT ⟨#[105, 115]⟩ l = false) (h2 : e.code = 2) (h3 : isT ⟨#[109, 97, 116, 99, 104]⟩ l = true) : askR S e l = (textF l.tail).map fun x => (.node 17 x.1 ⟨#[]⟩ e .nil, x.2) := by unfold askR; rw [h]; simp only; rw [if_neg (by rw [h1]; decide), if_pos ⟨h2, h3⟩]
theorem ask_not {S : Rf Ex} {e : Ex} {l : List KT} (h : cmpS.find? (fun s => isT s.1 l) = none) (h1 : isT ⟨#[105, 115]⟩ l = false) (h2 : ¬ (e.code = 2 ∧ isT ⟨#[109, 97, 116, 99, 104]⟩ l = true)) : askR S e l = some (e, l) := by unfold askR; rw [h]; simp only; rw [if_neg (by rw [h1]; decide), if_neg h2]
set_option maxRecDepth 100000 in
set_option maxHeartbeats 16000000 in
theorem ask_of {S : Rf Ex} {n : Nat} (hS : SSpec S n) (hN : NN S) : ASpec (askF S) n := by
  intro A l w h
  have HS : Hid (SSpec S n ∧ NN S) := ⟨hS, hN⟩
  have H : Hid (RdIs A l w) := h
  obtain ⟨q0, hq0⟩ : ∃ q0, w.heap.size - 1 = q0 := ⟨_, rfl⟩
  have HQ : Hid (A ≤ q0 ∧ q0 < w.heap.size) := by have := h.lt; exact ⟨by omega, by omega⟩
  have HQe : Hid (w.heap.size - 1 = q0) := hq0
  obtain ⟨R, hR⟩ : ∃ R, askF S l = R := ⟨_, rfl⟩
  have HR : Hid (askF S l = R) := hR
  unfold Told
  rw [hR, hq0]
  clear h hS hN hR hq0
  go_enter Tryz.func178, Tryz.ntmps178
  go_wp2_with fail
  refine (HS.out.1 A l w H.out).mono ?_
  rintro _ w1 ⟨hg1, ⟨e, l1, p, hs1, rfl, hx1, hr1⟩ | ⟨hs1, n1, m1, rfl⟩⟩
  · rw [HQe.out] at hx1
    have hnn := HS.out.2 _ _ hs1
    have HR1 : Hid (askR S e l1 = R) := by
      show _ = _
      rw [← HR.out]; unfold askF; rw [hs1]; rfl
    have H1 : Hid (RdIs A l1 w1 ∧ w.grownBy w1 (some A) ∧ ExIs q0 w1 p e) := ⟨hr1, hg1, hx1⟩
    clear hs1 hg1 hr1 HR hx1
    go_wp2_with fail
    refine (bet_any sg_cmp A l1 w1 H1.out.1).mono ?_
    rintro _ w2 ⟨hg2, ⟨s, hf2, hs2, rfl, hr2⟩ | ⟨hf2, rfl, hr2⟩⟩
    · have HR2 : Hid (R = (S l1.tail).map fun x => (.two s.2 e x.1, x.2)) := by show _ = _; rw [← HR1.out]; exact ask_cmp hf2
      have H2 : Hid (RdIs A l1.tail w2 ∧ w.grownBy w2 (some A) ∧ ExIs q0 w2 p e) := ⟨hr2, H1.out.2.1.trans hg2, ExIs.grownN HQ.out.1 hg2 H1.out.2.2⟩
      obtain ⟨c, hc⟩ : ∃ c, s.2 = c := ⟨_, rfl⟩
      rw [hc] at hs2 HR2 ⊢
      have d0 : (c != 0) = true := by simpa using hs2
      clear hf2 hs2 hr2 hg2 hc HR1 H1 hnn
      go_wp2_with fail
      refine (HS.out.1 A l1.tail w2 H2.out.1).mono ?_
      rintro _ w3 ⟨hg3, ⟨e3, l3, p3, hs3, rfl, hx3, hr3⟩ | ⟨hs3, n1, m1, rfl⟩⟩
      · have HB3 : Hid _ := box_told (w0 := w) HQ.out.2 c .none ⟨#[]⟩ p p3 e e3 hr3 (ExIs.grownN HQ.out.1 hg3 H2.out.2.2) (hx3.mono (by have h1 := H2.out.2.1.size; have h2 := HQe.out; omega)) (H2.out.2.1.trans hg3)
        have HR3 : Hid (R = some (.two c e e3, l3)) := by show _ = _; rw [HR2.out, hs3]; rfl
        clear hs3 hx3 hr3 hg3
        go_wp2
        go_ret
        exact ⟨HB3.out.1, .inl ⟨_, _, _, HR3.out, rfl, HB3.out.2.1, HB3.out.2.2⟩⟩
      · have HG : Hid (w.grownBy w3 (some A) ∧ R = none) := ⟨H2.out.2.1.trans hg3, by rw [HR2.out, hs3]; rfl⟩
        clear hg3 hs3
        go_wp2
        exact ⟨by first | rfl | trivial, HG.out.1, .inr ⟨HG.out.2, n1, m1, rfl⟩⟩
    · have HF2 : Hid (cmpS.find? (fun s => isT s.1 l1) = none) := hf2
      have H2 : Hid (RdIs A l1 w2 ∧ w.grownBy w2 (some A) ∧ ExIs q0 w2 p e) := ⟨hr2, H1.out.2.1.trans hg2, ExIs.grownN HQ.out.1 hg2 H1.out.2.2⟩
      obtain ⟨b, hb⟩ : ∃ b, isT ⟨#[105, 115]⟩ l1 = b := ⟨_, rfl⟩
      have HB : Hid (isT ⟨#[105, 115]⟩ l1 = b) := hb
      clear hf2 hr2 hg2 hb H1
      go_wp2_with fail
      refine (has_any A l1 ⟨#[105, 115]⟩ b HB.out w2 H2.out.1).mono ?_
      rintro _ w3 ⟨rfl, hr3, hg3⟩
      have H3 : Hid (RdIs A (if b then l1.tail else l1) w3 ∧ w.grownBy w3 (some A) ∧ ExIs q0 w3 p e) := ⟨hr3, H2.out.2.1.trans hg3, ExIs.grownN HQ.out.1 hg3 H2.out.2.2⟩
      clear hr3 hg3
      cases b
      · cases e with
        | nil => exact absurd rfl hnn
        | node c v nm ea eb =>
          obtain ⟨B, pa, pb, rfl, hB1, hB2, _, _⟩ := H3.out.2.2
          have hc : w3.cell? ⟨B, 0, none⟩ = some (.int .i64 c) := by simp [World.cell?, hB2]
          clear hB1 hB2 hnn
          by_cases hc2 : c = 2
          · subst hc2
            obtain ⟨b2, hb2⟩ : ∃ b, isT ⟨#[109, 97, 116, 99, 104]⟩ l1 = b := ⟨_, rfl⟩
            have HB2 : Hid (isT ⟨#[109, 97, 116, 99, 104]⟩ l1 = b2) := hb2
            clear hb2
            go_wp2_with fail
            refine (has_any A l1 ⟨#[109, 97, 116, 99, 104]⟩ b2 HB2.out w3 H3.out.1).mono ?_
            rintro _ w4 ⟨rfl, hr4, hg4⟩
            have H4 : Hid (RdIs A (if b2 then l1.tail else l1) w4 ∧ w.grownBy w4 (some A) ∧ ExIs q0 w4 (some ⟨B, 0, none⟩) (.node 2 v nm ea eb)) := ⟨hr4, H3.out.2.1.trans hg4, ExIs.grownN HQ.out.1 hg4 H3.out.2.2⟩
            clear hr4 hg4 hc
            cases b2
            · have HR4 : Hid (R = some (.node 2 v nm ea eb, l1)) := by show _ = _; rw [← HR1.out]; exact ask_not HF2.out HB.out (by rw [HB2.out]; simp)
              go_wp2
              go_ret
              exact ⟨H4.out.2.1, .inl ⟨_, _, _, HR4.out, rfl, H4.out.2.2, H4.out.1⟩⟩
            · have HR4 : Hid (R = (textF l1.tail).map fun x => (.node 17 x.1 ⟨#[]⟩ (.node 2 v nm ea eb) .nil, x.2)) := by show _ = _; rw [← HR1.out]; exact ask_match HF2.out HB.out rfl HB2.out
              go_wp2_with fail
              refine (text_any A l1.tail w4 H4.out.1).mono ?_
              rintro _ w5 ⟨hg5, ⟨v5, l5, hs5, rfl, hr5⟩ | ⟨hs5, n1, m1, rfl⟩⟩
              · have HB5 : Hid _ := box_told (w0 := w) HQ.out.2 17 v5 ⟨#[]⟩ _ none (.node 2 v nm ea eb) .nil hr5 (ExIs.grownN HQ.out.1 hg5 H4.out.2.2) (exNil _ _) (H4.out.2.1.trans hg5)
                have HR5 : Hid (R = some (.node 17 v5 ⟨#[]⟩ (.node 2 v nm ea eb) .nil, l5)) := by show _ = _; rw [HR4.out, hs5]; rfl
                clear hs5 hr5 hg5
                go_wp2
                go_ret
                exact ⟨HB5.out.1, .inl ⟨_, _, _, HR5.out, rfl, HB5.out.2.1, HB5.out.2.2⟩⟩
              · have HG : Hid (w.grownBy w5 (some A) ∧ R = none) := ⟨H4.out.2.1.trans hg5, by rw [HR4.out, hs5]; rfl⟩
                clear hg5 hs5
                go_wp2
                exact ⟨by first | rfl | trivial, HG.out.1, .inr ⟨HG.out.2, n1, m1, rfl⟩⟩
          · have d2 : (c == 2) = false := by rw [beq_eq_false_iff_ne]; exact hc2
            have HR4 : Hid (R = some (.node c v nm ea eb, l1)) := by show _ = _; rw [← HR1.out]; exact ask_not HF2.out HB.out (fun h => hc2 h.1)
            clear hc2
            go_wp2
            go_ret
            exact ⟨H3.out.2.1, .inl ⟨_, _, _, HR4.out, rfl, H3.out.2.2, H3.out.1⟩⟩
      · have HR3 : Hid (nullF e l1.tail = R) := by show _ = _; rw [← HR1.out]; exact (ask_is HF2.out HB.out).symm
        clear hnn
        go_wp2_with fail
        refine (null_any A q0 e p l1.tail w3 ⟨HQ.out.1, by have := H3.out.2.1.size; have := HQ.out.2; omega⟩ H3.out.1 H3.out.2.2).mono ?_
        rintro _ w4 ⟨hg4, hc⟩
        rw [HR3.out] at hc
        have HG4 : Hid (w.grownBy w4 (some A)) := H3.out.2.1.trans hg4
        clear hg4
        rcases hc with ⟨x4, l4, p4, h1, rfl, h3, h4⟩ | ⟨h1, n1, m1, rfl⟩
        · go_wp2
          go_ret
          exact ⟨HG4.out, .inl ⟨_, _, _, h1, rfl, h3, h4⟩⟩
        · go_wp2
          exact ⟨by first | rfl | trivial, HG4.out, .inr ⟨h1, n1, m1, rfl⟩⟩
  · go_wp2
    exact ⟨by first | rfl | trivial, hg1, .inr ⟨by rw [← HR.out]; unfold askF; rw [hs1]; rfl, n1, m1, rfl⟩⟩
end Go.Proofs.YtbdcbaamjkjhaaaGreatDoor
namespace Go.Proofs.YtbdcbaamjkjhaaaGreatDoor
open Go.RowKit

/-- a column -/
structure Colm where
  nm : ByteArray
  k : Int
  mu : Bool
  wo : Bool
/-- a statement -/
structure Stm where
  kind : Int
  table : ByteArray
  other : ByteArray
  cols : List Colm
  name : ByteArray
  rows : List (List Ex)
  sets : List Ex
  on : Ex
  wh : Ex
  items : List (Int × Ex)
  grp : Ex
  ord : List (Ex × Bool)
  lim : Int
def ofS (k : Int) (t : ByteArray) : Stm := ⟨k, t, ⟨#[]⟩, [], ⟨#[]⟩, [], [], .nil, .nil, [], .nil, [], -1⟩
/-- what stands between ( and ) -/
def insideF {α : Type} (F : Rf α) : Rf α := fun l => (needF ⟨#[40]⟩ l).bind fun l1 => (F l1).bind fun x => (needF ⟨#[41]⟩ x.2).map fun l2 => (x.1, l2)
/-- things with commas between -/
def eachL {σ : Type} (one : σ → Rf σ) : Nat → σ → Rf σ
  | 0, s, l => some (s, l)
  | f + 1, s, l => if isT ⟨#[44]⟩ l then (one s l.tail).bind fun x => eachL one f x.1 x.2 else some (s, l)
def listS {σ : Type} (one : σ → Rf σ) (s : σ) : Rf σ := fun l => (one s l).bind fun x => eachL one x.2.length x.1 x.2
/-- one more of such -/
def oneOf {α : Type} (F : Rf α) (L : List α) : Rf (List α) := fun l => (F l).map fun x => (L ++ [x.1], x.2)
def listF {α : Type} (F : Rf α) : Rf (List α) := listS (oneOf F) []
def whereF (s : ByteArray) : Rf Ex := fun l => if isT s l then Ef l.tail else some (.nil, l)
def colm1 : Rf Int := fun l => if isT ⟨#[105, 110, 116]⟩ l then some (1, l.tail) else (needF ⟨#[116, 101, 120, 116]⟩ l).map fun l2 => (2, l2)
def colm2 : Rf Bool := fun l => if isT ⟨#[110, 111, 116]⟩ l then (needF ⟨#[110, 117, 108, 108]⟩ l.tail).map fun l2 => (true, l2) else some (false, l)
def colm3 (k : Int) (l : List KT) : Bool × List KT := if k = 2 ∧ isT ⟨#[119, 111, 114, 100, 115]⟩ l = true then (true, l.tail) else (false, l)
def colmF : Rf Colm := fun l => (nameF l).bind fun a => (colm1 a.2).bind fun b => (colm2 b.2).map fun c => (⟨a.1, b.1, c.1, (colm3 b.1 c.2).1⟩, (colm3 b.1 c.2).2)
def rowF : Rf (List Ex) := insideF (listF Ef)
def setF : Rf Ex := fun l => (nameF l).bind fun a => (needF ⟨#[61]⟩ a.2).bind fun l2 => (Ef l2).map fun b => (.node 2 .none a.1 b.1 .nil, b.2)
def aggL : List (ByteArray × Int) := [(⟨#[99, 111, 117, 110, 116]⟩, 1), (⟨#[115, 117, 109]⟩, 2), (⟨#[109, 105, 110]⟩, 3), (⟨#[109, 97, 120]⟩, 4)]
def itemI (k : Int) : Rf Ex := fun l => if k = 1 ∧ isT ⟨#[42]⟩ l = true then some (.nil, l.tail) else Ef l
def itemF : Rf (Int × Ex) := fun l => match aggL.find? (fun s => isT s.1 l) with
  | some s => (insideF (itemI s.2) l.tail).map fun x => ((s.2, x.1), x.2)
  | none => (Ef l).map fun x => ((0, x.1), x.2)
def rank1 : Rf Ex := fun l => if isT ⟨#[114, 97, 110, 107]⟩ l then some (.nil, l.tail) else Ef l
def rank2 (l : List KT) : Bool × List KT := if isT ⟨#[97, 115, 99]⟩ l then (false, l.tail) else if isT ⟨#[100, 101, 115, 99]⟩ l then (true, l.tail) else (false, l)
def rankF : Rf (Ex × Bool) := fun l => (rank1 l).map fun x => ((x.1, (rank2 x.2).1), (rank2 x.2).2)
def digV (s : ByteArray) : Int := match Lib.parseIntB 64 s.data.toList with | .ok n => n | _ => 0
def limitF : Rf Int := fun l => if (hdT l).1 = 2 ∧ (hdT l).2.size ≤ 9 then some (digV (hdT l).2, l.tail) else none
/-- a select, step by step -/
def selItems : Rf (List (Int × Ex)) := fun l => if isT ⟨#[42]⟩ l then some ([], l.tail) else listF itemF l
def selTable : Rf ByteArray := fun l => (needF ⟨#[102, 114, 111, 109]⟩ l).bind nameF
def selJoin : Rf (ByteArray × Ex) := fun l => if isT ⟨#[106, 111, 105, 110]⟩ l then (nameF l.tail).bind fun a => (needF ⟨#[111, 110]⟩ a.2).bind fun l2 => (Ef l2).map fun b => ((a.1, b.1), b.2) else some ((⟨#[]⟩, .nil), l)
def selGroup : Rf Ex := fun l => if isT ⟨#[103, 114, 111, 117, 112]⟩ l then (needF ⟨#[98, 121]⟩ l.tail).bind Ef else some (.nil, l)
def selOrder : Rf (List (Ex × Bool)) := fun l => if isT ⟨#[111, 114, 100, 101, 114]⟩ l then (needF ⟨#[98, 121]⟩ l.tail).bind (listF rankF) else some ([], l)
def selLimit : Rf Int := fun l => if isT ⟨#[108, 105, 109, 105, 116]⟩ l then limitF l.tail else some (-1, l)
def choiceF : Rf Stm := fun l => (selItems l).bind fun a => (selTable a.2).bind fun b => (selJoin b.2).bind fun c => (whereF ⟨#[119, 104, 101, 114, 101]⟩ c.2).bind fun d => (selGroup d.2).bind fun e => (selOrder e.2).bind fun f => (selLimit f.2).map fun g =>
  (⟨7, b.1, c.1.1, [], ⟨#[]⟩, [], [], c.1.2, d.1, a.1, e.1, f.1, g.1⟩, g.2)
def createF : Rf Stm := fun l =>
  if isT ⟨#[105, 110, 100, 101, 120]⟩ l then (needF ⟨#[111, 110]⟩ l.tail).bind fun l1 => (nameF l1).bind fun a => (insideF nameF a.2).map fun b => ({ ofS 2 a.1 with name := b.1 }, b.2)
  else (needF ⟨#[116, 97, 98, 108, 101]⟩ l).bind fun l1 => (nameF l1).bind fun a => (insideF (listF colmF) a.2).map fun b => ({ ofS 1 a.1 with cols := b.1 }, b.2)
def dropF : Rf Stm := fun l => (needF ⟨#[116, 97, 98, 108, 101]⟩ l).bind fun l1 => (nameF l1).map fun a => (ofS 3 a.1, a.2)
def insertF : Rf Stm := fun l => (needF ⟨#[105, 110, 116, 111]⟩ l).bind fun l1 => (nameF l1).bind fun a => (needF ⟨#[118, 97, 108, 117, 101, 115]⟩ a.2).bind fun l2 => (listF rowF l2).map fun b => ({ ofS 4 a.1 with rows := b.1 }, b.2)
def deleteF : Rf Stm := fun l => (needF ⟨#[102, 114, 111, 109]⟩ l).bind fun l1 => (nameF l1).bind fun a => (whereF ⟨#[119, 104, 101, 114, 101]⟩ a.2).map fun b => ({ ofS 5 a.1 with wh := b.1 }, b.2)
def updateF : Rf Stm := fun l => (nameF l).bind fun a => (needF ⟨#[115, 101, 116]⟩ a.2).bind fun l2 => (listF setF l2).bind fun b => (whereF ⟨#[119, 104, 101, 114, 101]⟩ b.2).map fun c => ({ ofS 6 a.1 with sets := b.1, wh := c.1 }, c.2)
def stmF : Rf Stm := fun l =>
  if isT ⟨#[98, 101, 103, 105, 110]⟩ l then some (ofS 8 ⟨#[]⟩, l.tail)
  else if isT ⟨#[99, 111, 109, 109, 105, 116]⟩ l then some (ofS 9 ⟨#[]⟩, l.tail)
  else if isT ⟨#[114, 111, 108, 108, 98, 97, 99, 107]⟩ l then some (ofS 10 ⟨#[]⟩, l.tail)
  else if isT ⟨#[99, 114, 101, 97, 116, 101]⟩ l then createF l.tail
  else if isT ⟨#[100, 114, 111, 112]⟩ l then dropF l.tail
  else if isT ⟨#[105, 110, 115, 101, 114, 116]⟩ l then insertF l.tail
  else if isT ⟨#[100, 101, 108, 101, 116, 101]⟩ l then deleteF l.tail
  else if isT ⟨#[117, 112, 100, 97, 116, 101]⟩ l then updateF l.tail
  else (needF ⟨#[115, 101, 108, 101, 99, 116]⟩ l).bind choiceF
def semiF (l : List KT) : List KT := if isT ⟨#[59]⟩ l then l.tail else l
def readF (l : List KT) : Option Stm := (stmF l).bind fun x => if (hdT (semiF x.2)).1 = 5 then some x.1 else none
/-- the statement that a text is -/
def parseS (s : ByteArray) : Option Stm := match lexS s with
  | .ok L => readF (L.map Tok.kt)
  | .error _ => none

theorem inside_reads {α : Type} {F : Rf α} (hF : Reads F) : Reads (insideF F) := fun l h x he => by
  obtain ⟨l1, h1, he⟩ := Option.bind_eq_some_iff.1 he
  obtain ⟨y, h2, he⟩ := Option.bind_eq_some_iff.1 he
  obtain ⟨z, h3, rfl⟩ := Option.map_eq_some_iff.1 he
  have k1 := need_reads h h1
  have k2 := hF _ k1.1 y h2
  have k3 := need_reads k2.1 h3
  exact ⟨k3.1, Nat.le_trans k3.2 (Nat.le_trans k2.2 k1.2)⟩
theorem each_stop {σ : Type} {one : σ → Rf σ} {l : List KT} (h : isT ⟨#[44]⟩ l = false) (f : Nat) (s : σ) : eachL one f s l = some (s, l) := by
  cases f with
  | zero => rfl
  | succ f => rw [eachL, h]; rfl
theorem eachL_reads {σ : Type} {one : σ → Rf σ} (hO : ∀ s, Reads (one s)) (f : Nat) : ∀ s, Reads (eachL one f s) := by
  induction f with
  | zero => intro s l h x he; cases he; exact ⟨h, Nat.le_refl _⟩
  | succ f ih =>
    intro s l h x he
    rw [eachL] at he
    split at he
    · rename_i hs
      obtain ⟨y, hy, he⟩ := Option.bind_eq_some_iff.1 he
      have h2 := hO s _ (h.seen hs) y hy
      have h3 := ih _ _ h2.1 x he
      exact ⟨h3.1, Nat.le_trans h3.2 (Nat.le_trans h2.2 (tail_le l))⟩
    · cases he; exact ⟨h, Nat.le_refl _⟩
theorem eachL_fuel {σ : Type} {one : σ → Rf σ} (hO : ∀ s, Reads (one s)) (f : Nat) : ∀ g s l, OkT l → l.length ≤ f → l.length ≤ g → eachL one f s l = eachL one g s l := by
  induction f with
  | zero => intro g s l h h1 _; have := h.cons; rw [this] at h1; simp at h1
  | succ f ih =>
    intro g s l h h1 h2
    cases g with
    | zero => have := h.cons; rw [this] at h2; simp at h2
    | succ g =>
      rw [eachL, eachL]
      split
      · rename_i hs
        cases hb : one s l.tail with
        | none => rfl
        | some y =>
          have h3 := hO s _ (h.seen hs) y hb
          have h4 : l.tail.length + 1 = l.length := by rw [h.cons]; rfl
          exact ih g _ _ h3.1 (by omega) (by omega)
      · rfl
theorem each_step {σ : Type} {one : σ → Rf σ} (hO : ∀ s, Reads (one s)) {l : List KT} (hl : OkT l) (h : isT ⟨#[44]⟩ l = true) (s : σ) : eachL one l.length s l = (one s l.tail).bind fun x => eachL one x.2.length x.1 x.2 := by
  have h1 : l.length = l.tail.length + 1 := by rw [hl.cons]; rfl
  rw [h1, eachL, if_pos h]
  cases hb : one s l.tail with
  | none => rfl
  | some y =>
    have h3 := hO s _ (hl.seen h) y hb
    exact eachL_fuel hO _ _ _ _ h3.1 h3.2 (Nat.le_refl _)
theorem listS_reads {σ : Type} {one : σ → Rf σ} (hO : ∀ s, Reads (one s)) (s : σ) : Reads (listS one s) := fun l h x he => by
  obtain ⟨y, hy, he⟩ := Option.bind_eq_some_iff.1 he
  have h1 := hO s l h y hy
  have h2 := eachL_reads hO _ _ _ h1.1 x he
  exact ⟨h2.1, Nat.le_trans h2.2 h1.2⟩
theorem oneOf_reads {α : Type} {F : Rf α} (hF : Reads F) (L : List α) : Reads (oneOf F L) := fun l h x he => by
  obtain ⟨y, hy, rfl⟩ := Option.map_eq_some_iff.1 he
  exact hF l h y hy
theorem listF_reads {α : Type} {F : Rf α} (hF : Reads F) : Reads (listF F) := listS_reads (oneOf_reads hF) _
theorem whereF_reads (s : ByteArray) : Reads (whereF s) := fun l h x he => by
  unfold whereF at he
  split at he
  · rename_i hs
    have := Ef_reads _ (h.seen hs) x he
    exact ⟨this.1, Nat.le_trans this.2 (tail_le l)⟩
  · cases he; exact ⟨h, Nat.le_refl _⟩
theorem colm1_reads : Reads colm1 := fun l h x he => by
  unfold colm1 at he
  split at he
  · rename_i hs; cases he; exact ⟨h.seen hs, tail_le l⟩
  · obtain ⟨y, hy, rfl⟩ := Option.map_eq_some_iff.1 he; exact need_reads h hy
theorem colm2_reads : Reads colm2 := fun l h x he => by
  unfold colm2 at he
  split at he
  · rename_i hs
    obtain ⟨y, hy, rfl⟩ := Option.map_eq_some_iff.1 he
    have := need_reads (h.seen hs) hy
    exact ⟨this.1, Nat.le_trans this.2 (tail_le l)⟩
  · cases he; exact ⟨h, Nat.le_refl _⟩
theorem colm3_reads (k : Int) (l : List KT) (h : OkT l) : OkT (colm3 k l).2 ∧ (colm3 k l).2.length ≤ l.length := by
  unfold colm3
  split
  · rename_i hs; exact ⟨h.seen hs.2, tail_le l⟩
  · exact ⟨h, Nat.le_refl _⟩
theorem colmF_reads : Reads colmF := fun l h x he => by
  obtain ⟨a, h1, he⟩ := Option.bind_eq_some_iff.1 he
  obtain ⟨b, h2, he⟩ := Option.bind_eq_some_iff.1 he
  obtain ⟨c, h3, rfl⟩ := Option.map_eq_some_iff.1 he
  have k1 := name_reads l h a h1
  have k2 := colm1_reads _ k1.1 b h2
  have k3 := colm2_reads _ k2.1 c h3
  have k4 := colm3_reads b.1 c.2 k3.1
  exact ⟨k4.1, Nat.le_trans k4.2 (Nat.le_trans k3.2 (Nat.le_trans k2.2 k1.2))⟩
theorem rowF_reads : Reads rowF := inside_reads (listF_reads Ef_reads)
theorem setF_reads : Reads setF := fun l h x he => by
  obtain ⟨a, h1, he⟩ := Option.bind_eq_some_iff.1 he
  obtain ⟨b, h2, he⟩ := Option.bind_eq_some_iff.1 he
  obtain ⟨c, h3, rfl⟩ := Option.map_eq_some_iff.1 he
  have k1 := name_reads l h a h1
  have k2 := need_reads k1.1 h2
  have k3 := Ef_reads _ k2.1 c h3
  exact ⟨k3.1, Nat.le_trans k3.2 (Nat.le_trans k2.2 k1.2)⟩
theorem itemI_reads (k : Int) : Reads (itemI k) := fun l h x he => by
  unfold itemI at he
  split at he
  · rename_i hs; cases he; exact ⟨h.seen hs.2, tail_le l⟩
  · exact Ef_reads l h x he
theorem itemF_reads : Reads itemF := fun l h x he => by
  unfold itemF at he
  split at he
  · rename_i s hs
    obtain ⟨y, hy, rfl⟩ := Option.map_eq_some_iff.1 he
    have := inside_reads (itemI_reads s.2) _ (h.seen (find_is hs)) y hy
    exact ⟨this.1, Nat.le_trans this.2 (tail_le l)⟩
  · obtain ⟨y, hy, rfl⟩ := Option.map_eq_some_iff.1 he
    exact Ef_reads l h y hy
theorem rank1_reads : Reads rank1 := fun l h x he => by
  unfold rank1 at he
  split at he
  · rename_i hs; cases he; exact ⟨h.seen hs, tail_le l⟩
  · exact Ef_reads l h x he
theorem rank2_reads (l : List KT) (h : OkT l) : OkT (rank2 l).2 ∧ (rank2 l).2.length ≤ l.length := by
  unfold rank2
  split
  · rename_i hs; exact ⟨h.seen hs, tail_le l⟩
  · split
    · rename_i hs; exact ⟨h.seen hs, tail_le l⟩
    · exact ⟨h, Nat.le_refl _⟩
theorem rankF_reads : Reads rankF := fun l h x he => by
  obtain ⟨y, hy, rfl⟩ := Option.map_eq_some_iff.1 he
  have k1 := rank1_reads l h y hy
  have k2 := rank2_reads _ k1.1
  exact ⟨k2.1, Nat.le_trans k2.2 k1.2⟩
end Go.Proofs.YtbdcbaamjkjhaaaGreatDoor
namespace Go.Proofs.YtbdcbaamjkjhaaaGreatDoor
open Go.RowKit

set_option maxRecDepth 100000 in
set_option maxHeartbeats 4000000 in
theorem inside_o {α : Type} {F : Rf α} (A : Nat) (x0 x1 x2 : Value) (Pre : List KT → World → Prop) (Inv : α → List KT → World → Prop) (Err : World → Prop) (hR : ∀ l w, Pre l w → RdIs A l w) (hP : ∀ l l1 w w1, Pre l w → RdIs A l1 w1 → w.grownBy w1 (some A) → l1.length ≤ l.length → Pre l1 w1)
    (hJ : ∀ a l w, Inv a l w → RdIs A l w) (hK : ∀ a l l1 w w1, Inv a l w → RdIs A l1 w1 → w.grownBy w1 (some A) → l1.length ≤ l.length → Inv a l1 w1) (hE : ∀ l w w1, Pre l w → w.grownBy w1 (some A) → Err w1) (hE2 : ∀ a l w w1, Inv a l w → w.grownBy w1 (some A) → Err w1)
    (hO : ∀ l w, Pre l w → Calls Tryz.prog 206 #[x0, x1, x2] w fun e w' => (∃ a l2, F l = some (a, l2) ∧ e = .returned (.tuple #[]) ∧ Inv a l2 w') ∨ (F l = none ∧ Thr e ∧ Err w')) (l : List KT) (w : World) (h : Pre l w) :
    Calls Tryz.prog 116 #[.pointer (some ⟨A, 0, none⟩), .func (.func 206) #[] #[x0, x1, x2]] w fun e w' => (∃ a l2, insideF F l = some (a, l2) ∧ e = .returned (.tuple #[]) ∧ Inv a l2 w') ∨ (insideF F l = none ∧ Thr e ∧ Err w') := by
  have HO : Hid (∀ l w, Pre l w → Calls Tryz.prog 206 #[x0, x1, x2] w fun e w' => (∃ a l2, F l = some (a, l2) ∧ e = .returned (.tuple #[]) ∧ Inv a l2 w') ∨ (F l = none ∧ Thr e ∧ Err w')) := hO
  have HP : Hid (∀ l l1 w w1, Pre l w → RdIs A l1 w1 → w.grownBy w1 (some A) → l1.length ≤ l.length → Pre l1 w1) := hP
  have HJ : Hid ((∀ a l w, Inv a l w → RdIs A l w) ∧ (∀ a l l1 w w1, Inv a l w → RdIs A l1 w1 → w.grownBy w1 (some A) → l1.length ≤ l.length → Inv a l1 w1) ∧ (∀ l w w1, Pre l w → w.grownBy w1 (some A) → Err w1) ∧ (∀ a l w w1, Inv a l w → w.grownBy w1 (some A) → Err w1)) := ⟨hJ, hK, hE, hE2⟩
  have H : Hid (Pre l w ∧ RdIs A l w) := ⟨h, hR l w h⟩
  obtain ⟨R, hRe⟩ : ∃ R, insideF F l = R := ⟨_, rfl⟩
  have HR : Hid (insideF F l = R) := hRe
  rw [hRe]
  clear hO hR hP hJ hK hE hE2 h hRe
  go_enter Tryz.func116, Tryz.ntmps116
  go_wp2_with fail
  refine (need_any A l ⟨#[40]⟩ w H.out.2).mono ?_
  rintro _ w1 ⟨hg1, ⟨l1, hn1, rfl, hr1⟩ | ⟨hn1, n1, m1, rfl⟩⟩
  · have H1 : Hid (Pre l1 w1) := HP.out l l1 w w1 H.out.1 hr1 hg1 (need_reads H.out.2.ok hn1).2
    have HR1 : Hid (R = (F l1).bind fun x => (needF ⟨#[41]⟩ x.2).map fun l2 => (x.1, l2)) := by
      show _ = _
      rw [← HR.out]; unfold insideF; rw [hn1]; rfl
    clear hg1 hn1 hr1
    go_wp2_with fail
    refine (HO.out l1 w1 H1.out).mono ?_
    rintro _ w2 (⟨a, l2, hf2, rfl, hi2⟩ | ⟨hf2, ⟨n1, m1, rfl⟩, he2⟩)
    · have HR2 : Hid (R = (needF ⟨#[41]⟩ l2).map fun l3 => (a, l3)) := by show _ = _; rw [HR1.out, hf2]; rfl
      have H2 : Hid (Inv a l2 w2) := hi2
      clear hf2 hi2
      go_wp2_with fail
      refine (need_any A l2 ⟨#[41]⟩ w2 (HJ.out.1 _ _ _ H2.out)).mono ?_
      rintro _ w3 ⟨hg3, ⟨l3, hn3, rfl, hr3⟩ | ⟨hn3, n1, m1, rfl⟩⟩
      · have H3 : Hid (Inv a l3 w3 ∧ R = some (a, l3)) := ⟨HJ.out.2.1 a l2 l3 w2 w3 H2.out hr3 hg3 (need_reads (HJ.out.1 _ _ _ H2.out).ok hn3).2, by rw [HR2.out, hn3]; rfl⟩
        clear hg3 hn3 hr3
        go_wp2
        go_end0
        exact .inl ⟨a, l3, H3.out.2, rfl, H3.out.1⟩
      · have H3 : Hid (Err w3 ∧ R = none) := ⟨HJ.out.2.2.2 a l2 w2 w3 H2.out hg3, by rw [HR2.out, hn3]; rfl⟩
        clear hg3 hn3
        go_wp2
        exact ⟨by first | rfl | trivial, .inr ⟨H3.out.2, ⟨n1, m1, rfl⟩, H3.out.1⟩⟩
    · have H3 : Hid (Err w2 ∧ R = none) := ⟨he2, by rw [HR1.out, hf2]; rfl⟩
      clear he2 hf2
      go_wp2
      exact ⟨by first | rfl | trivial, .inr ⟨H3.out.2, ⟨n1, m1, rfl⟩, H3.out.1⟩⟩
  · have H3 : Hid (Err w1 ∧ R = none) := ⟨HJ.out.2.2.1 l w w1 H.out.1 hg1, by rw [← HR.out]; unfold insideF; rw [hn1]; rfl⟩
    clear hg1 hn1
    go_wp2
    exact ⟨by first | rfl | trivial, .inr ⟨H3.out.2, ⟨n1, m1, rfl⟩, H3.out.1⟩⟩
end Go.Proofs.YtbdcbaamjkjhaaaGreatDoor
namespace Go.Proofs.YtbdcbaamjkjhaaaGreatDoor
open Go.RowKit

theorem ExIs.setB {A b T : Nat} {cs : Array Value} {u : World} (hb : Blk b cs T u) (hT : T ≠ 48) (o : Nat) (v : Value) {q : Ex} {p : Option Addr} (h : ExIs A u p q) : ExIs A (u.setCell ⟨b, o, none⟩ v) p q := by
  have hf : Fr (fun k _ => k = b) u (u.setCell ⟨b, o, none⟩ v) := Fr.set (fun _ => rfl) o v
  refine ExIs.fr hf (fun k cs' fz _ hk e => ?_) q h
  have hb' : u.heap[b]? = some (.cells cs T (0, 0)) := hb
  rw [e, hb'] at hk
  cases hk
  exact hT rfl
/-- between ( and ): what is read goes into a box -/
def PreO (A x y z n : Nat) (w0 : World) (l : List KT) (w : World) : Prop := RdIs A l w ∧ BoxAt A x y n w ∧ w0.grownBy w (some A) ∧ w0.heap.size ≤ z ∧ A < w0.heap.size ∧ Blk z #[.pointer none] 26 w
def InvO (A z : Nat) (w0 : World) (a : Ex) (l : List KT) (w : World) : Prop := RdIs A l w ∧ w0.grownBy w (some A) ∧ (z ≠ A ∧ A < w0.heap.size) ∧ ∃ p, Blk z #[.pointer p] 26 w ∧ ExIs (w0.heap.size - 1) w p a
set_option maxHeartbeats 4000000 in
theorem one1_any {E : Rf Ex} {n : Nat} (hE : ESpec E (n + 1)) (A x y z : Nat) (w0 : World) (hn : n ≤ 12) (l : List KT) (w : World) (h : PreO A x y z n w0 l w) : Calls Tryz.prog 206 #[.pointer (some ⟨x, 0, none⟩), .pointer (some ⟨y, 0, none⟩), .pointer (some ⟨z, 0, none⟩)] w fun e w' =>
    (∃ a l2, E l = some (a, l2) ∧ e = .returned (.tuple #[]) ∧ InvO A z w0 a l2 w') ∨ (E l = none ∧ Thr e ∧ w0.grownBy w' (some A)) := by
  have HE : Hid (ESpec E (n + 1)) := hE
  have H : Hid (PreO A x y z n w0 l w) := h
  have h1 := h.2.1.cx
  have h2 := h.2.1.cy
  have HCast : Hid (((n : Int) + 1) = ((n + 1 : Nat) : Int)) := by show _ = _; omega
  clear hE h
  go_enter Tryz.func206, Tryz.ntmps206
  go_wp2_with fail
  rw [HCast.out]
  refine (HE.out A l w H.out.1).mono ?_
  rintro _ w1 ⟨hg1, ⟨a, l1, p, hs1, rfl, hx1, hr1⟩ | ⟨hs1, n1, m1, rfl⟩⟩
  · have hzA : z ≠ A := by have h1 := H.out.2.2.2.1; have h2 := H.out.2.2.2.2.1; omega
    have hk := H.out.2.2.2.2.2.keep hzA hg1
    have hc : w1.cell? ⟨z, 0, none⟩ = some (.pointer none) := by rw [hk.cell 0]; rfl
    have hf := hk.free 0
    have H1 : Hid (E l = some (a, l1) ∧ InvO A z w0 a l1 (w1.setCell ⟨z, 0, none⟩ (.pointer p))) := by
      refine ⟨hs1, hr1.set (by have h1 := H.out.2.2.2.1; have h2 := H.out.2.2.2.2.1; omega) 0 _, grown_new (H.out.2.2.1.trans hg1) H.out.2.2.2.1 0 _, ⟨hzA, H.out.2.2.2.2.1⟩, p, hk.set 0 _, ?_⟩
      exact ExIs.setB hk (by decide) 0 _ (hx1.mono (by have := H.out.2.2.1.size; omega))
    clear hs1 hx1 hr1 hg1 hk
    go_wp2
    go_end0
    exact .inl ⟨a, l1, H1.out.1, rfl, H1.out.2⟩
  · have H1 : Hid (E l = none ∧ w0.grownBy w1 (some A)) := ⟨hs1, H.out.2.2.1.trans hg1⟩
    clear hs1 hg1
    go_wp2
    exact ⟨by first | rfl | trivial, .inr ⟨H1.out.1, ⟨n1, m1, rfl⟩, H1.out.2⟩⟩
theorem inO_any {E : Rf Ex} {n : Nat} (hE : ESpec E (n + 1)) (A x y z : Nat) (w0 : World) (hn : n ≤ 12) (l : List KT) (w : World) (h : PreO A x y z n w0 l w) :
    Calls Tryz.prog 116 #[.pointer (some ⟨A, 0, none⟩), .func (.func 206) #[] #[.pointer (some ⟨x, 0, none⟩), .pointer (some ⟨y, 0, none⟩), .pointer (some ⟨z, 0, none⟩)]] w fun e w' =>
      (∃ a l2, insideF E l = some (a, l2) ∧ e = .returned (.tuple #[]) ∧ InvO A z w0 a l2 w') ∨ (insideF E l = none ∧ Thr e ∧ w0.grownBy w' (some A)) := by
  refine inside_o A _ _ _ (PreO A x y z n w0) (InvO A z w0) (fun w' => w0.grownBy w' (some A)) (fun l w h => h.1) ?_ (fun a l w h => h.1) ?_ (fun l w w1 h hg => h.2.2.1.trans hg) (fun a l w w1 h hg => h.2.1.trans hg) (fun l w h => one1_any hE A x y z w0 hn l w h) l w h
  · intro l l1 w w1 h hr hg _
    exact ⟨hr, h.2.1.grown hg, h.2.2.1.trans hg, h.2.2.2.1, h.2.2.2.2.1, h.2.2.2.2.2.keep (by have h1 := h.2.2.2.1; have h2 := h.2.2.2.2.1; omega) hg⟩
  · rintro a l l1 w w1 ⟨h1, h2, h3, p, h4, h5⟩ hr hg _
    exact ⟨hr, h2.trans hg, h3, p, h4.keep h3.1 hg, ExIs.grownN (by have := h3.2; omega) hg h5⟩
def oneD (n : Nat) (E : Rf Ex) : Rf Ex := fun l => if n ≤ 12 then oneF E l else none
theorem one_num {E : Rf Ex} {l : List KT} (h : (hdT l).1 = 2) : oneF E l = (numF l).map fun x => (.node 1 x.1 ⟨#[]⟩ .nil .nil, x.2) := by unfold oneF; rw [if_pos h]
theorem one_txt {E : Rf Ex} {l : List KT} (h2 : (hdT l).1 = 3) : oneF E l = (textF l).map fun x => (.node 1 x.1 ⟨#[]⟩ .nil .nil, x.2) := by unfold oneF; rw [if_neg (by omega), if_pos h2]
theorem one_nul {E : Rf Ex} {l : List KT} (h1 : (hdT l).1 ≠ 2) (h2 : (hdT l).1 ≠ 3) (h : isT ⟨#[110, 117, 108, 108]⟩ l = true) : oneF E l = some (.node 1 .none ⟨#[]⟩ .nil .nil, l.tail) := by unfold oneF; rw [if_neg h1, if_neg h2, if_pos h]
theorem one_par {E : Rf Ex} {l : List KT} (h1 : (hdT l).1 ≠ 2) (h2 : (hdT l).1 ≠ 3) (h3 : isT ⟨#[110, 117, 108, 108]⟩ l = false) (h : isT ⟨#[40]⟩ l = true) : oneF E l = insideF E l := by
  unfold oneF insideF needF
  rw [if_neg h1, if_neg h2, if_neg (by rw [h3]; decide), if_pos h, if_pos h]; rfl
theorem one_col {E : Rf Ex} {l : List KT} (h1 : (hdT l).1 ≠ 2) (h2 : (hdT l).1 ≠ 3) (h3 : isT ⟨#[110, 117, 108, 108]⟩ l = false) (h4 : isT ⟨#[40]⟩ l = false) : oneF E l = colF l := by
  unfold oneF; rw [if_neg h1, if_neg h2, if_neg (by rw [h3]; decide), if_neg (by rw [h4]; decide)]
theorem col_no {l : List KT} (h : nameB l = false) : colF l = none := by unfold colF nameF; rw [if_neg (by rw [h]; simp)]; rfl
end Go.Proofs.YtbdcbaamjkjhaaaGreatDoor
attribute [local go_sem ↓] Go.wp_at_zero Go.wp_at_succ
namespace Go.Proofs.YtbdcbaamjkjhaaaGreatDoor
open Go.RowKit

set_option maxRecDepth 100000 in
set_option maxHeartbeats 32000000 in
theorem one_n (hPI : PIntSpec) {E : Rf Ex} {n : Nat} (hn13 : n ≤ 13) (hE : n ≤ 12 → ESpec E (n + 1)) (hEr : Reads E) (A : Nat) (l : List KT) (w : World) (h : RdIs A l w) (hc : (hdT l).1 = 2) : Calls Tryz.prog 204 #[.pointer (some ⟨A, 0, none⟩), .int .i64 (n : Int)] w fun e w' => Told A (oneD n E l) w e w' := by
  have HE : Hid (PIntSpec ∧ (n ≤ 12 → ESpec E (n + 1)) ∧ Reads E) := ⟨hPI, hE, hEr⟩
  obtain ⟨V, hV⟩ : ∃ V, (w.alloc (.cells #[.pointer (some ⟨A, 0, none⟩)] 104)).alloc (.cells #[.int .i64 (n : Int)] 3) = V := ⟨_, rfl⟩
  have hVb : Below w.heap.size w V := by rw [← hV]; exact ((Below.refl _ _).alloc (Nat.le_refl _) _).alloc (by simp) _
  have hbx : BoxAt A w.heap.size (w.heap.size + 1) n V := by rw [← hV]; exact box_new n h.lt
  have HV : Hid (RdIs A l V ∧ BoxAt A w.heap.size (w.heap.size + 1) n V ∧ w.grownBy V (some A) ∧ A < w.heap.size) := ⟨h.below hVb, hbx, grown_of_belowA hVb _, h.lt⟩
  have HBx : Hid (∀ wx, V.grownBy wx (some A) → wx.cell? ⟨w.heap.size, 0, none⟩ = some (.pointer (some ⟨A, 0, none⟩)) ∧ wx.cell? ⟨w.heap.size + 1, 0, none⟩ = some (.int .i64 (n : Int))) := fun wx hg => ⟨(hbx.grown hg).cx, (hbx.grown hg).cy⟩
  obtain ⟨q0, hq0⟩ : ∃ q0, w.heap.size - 1 = q0 := ⟨_, rfl⟩
  have HQ : Hid (q0 < w.heap.size) := by have := h.lt; show _ < _; omega
  have HQe : Hid (w.heap.size - 1 = q0) := hq0
  obtain ⟨R, hR⟩ : ∃ R, oneD n E l = R := ⟨_, rfl⟩
  have HR : Hid ((n ≤ 12 → oneF E l = R) ∧ (¬ n ≤ 12 → R = none)) := by
    rw [← hR]; unfold oneD
    exact ⟨fun h => (if_pos h).symm, fun h => if_neg h⟩
  unfold Told
  rw [hR, hq0]
  generalize hk : (hdT l).1 = k
  generalize ht : (hdT l).2 = t
  have HK : Hid ((hdT l).1 = k ∧ (hdT l).2 = t) := ⟨hk, ht⟩
  obtain ⟨b1, hb1⟩ : ∃ b, isT ⟨#[40]⟩ l = b := ⟨_, rfl⟩
  obtain ⟨b2, hb2⟩ : ∃ b, isT ⟨#[110, 117, 108, 108]⟩ l = b := ⟨_, rfl⟩
  obtain ⟨b5, hb5⟩ : ∃ b, nameB l = b := ⟨_, rfl⟩
  have HT : Hid (isT ⟨#[40]⟩ l = b1 ∧ isT ⟨#[110, 117, 108, 108]⟩ l = b2 ∧ nameB l = b5) := ⟨hb1, hb2, hb5⟩
  have h1 := hbx.cx
  have h2 := hbx.cy
  have hn13' : (n : Int) ≤ 13 := by omega
  have hf := field0 k
  have hka : b1 = true → k = 1 ∨ k = 4 := fun e => by rw [← hk]; exact (isT_k (by rw [hb1, e])).1
  have hkb : b2 = true → k = 1 ∨ k = 4 := fun e => by rw [← hk]; exact (isT_k (by rw [hb2, e])).1
  have hkc : b5 = true → k = 1 := fun e => by
    rw [e] at hb5
    simp only [nameB, Bool.and_eq_true, decide_eq_true_eq] at hb5
    rw [← hk]; exact hb5.1
  have hkd : b1 = true → b2 = false := fun e => by
    cases hh : b2 with
    | false => rfl
    | true =>
      have e1 := (isT_k (by rw [hb1, e])).2
      have e2 := (isT_k (by rw [hb2, hh])).2
      rw [e1] at e2
      exact absurd e2 (by decide)
  have hAw := h.lt
  clear h hPI hE hEr hbx hVb hR hq0 hk ht hb1 hb2 hb5
  go_enter Tryz.func204, Tryz.ntmps204
  go_wp2_with fail
  refine (now_any A l V HV.out.1).mono ?_
  rintro _ w1 ⟨⟨p, rfl⟩, hb1⟩
  rw [HK.out.1, HK.out.2]
  have HB : Hid (Below V.heap.size V w1) := hb1
  have HG0 : Hid (∀ wx, Below V.heap.size V wx → V.grownBy wx (some A) ∧ RdIs A l wx) := fun wx hb => ⟨grown_of_belowA hb _, HV.out.1.below hb⟩
  obtain ⟨c1, c2⟩ := HBx.out w1 (grown_of_belowA hb1 _)
  clear hb1 h1 h2 hV
  generalize hWB : w.heap.size = B at *
  have hk2 : k = 2 := by rw [← HK.out.1]; exact hc
  subst hk2
  obtain rfl : b1 = false := by cases hb : b1; rfl; have := hka hb; omega
  obtain rfl : b2 = false := by cases hb : b2; rfl; have := hkb hb; omega
  clear hka hkb hkc hkd
  clear hc
  go_wp2_with fail
  have HB : Hid (Below V.heap.size V w1.drew) := HB.out.drew
  have HC : Hid (w.heap.size = B ∧ A < B ∧ n ≤ 13 ∧ (n : Int) ≤ 13) := ⟨hWB, hAw, hn13, hn13'⟩
  clear hWB hAw hn13' hf hn13
  refine wp_region_held_drew (S := fun w' => w'.cell? ⟨B, 0, none⟩ = some (.pointer (some ⟨A, 0, none⟩))) (by kernel_rfl) (HBx.out _ (HG0.out _ HB.out).1).1 (fun hHeld => ?_)
  refine wpAnyH_take (i := 0) (oi := { dst := some 10, op := Op.load 104 (Operand.tmp 2), type := 104, pos := "expr.go:71", after := #[], guard := none }) (v := (.pointer (some ⟨A, 0, none⟩))) rfl (by kernel_rfl) (by kernel_rfl) (by kernel_rfl) (fun _ _ _ h => h) (Or.inl ⟨by rfl, fun w' hSw => ?_⟩) hHeld ?_
  · (try dsimp only at hSw)
    go_simp
  simp only [Act.put, List.setIfInBounds_toArray, List.set_cons_zero, List.set_cons_succ]
  refine wpAnyH_take (i := 1) (oi := { dst := some 11, op := Op.load 104 (Operand.tmp 2), type := 104, pos := "expr.go:71", after := #[], guard := none }) (v := (.pointer (some ⟨A, 0, none⟩))) rfl (by kernel_rfl) (by kernel_rfl) (by kernel_rfl) (fun _ _ _ h => h) (Or.inl ⟨by rfl, fun w' hSw => ?_⟩) hHeld ?_
  · (try dsimp only at hSw)
    go_simp
  simp only [Act.put, List.setIfInBounds_toArray, List.set_cons_zero, List.set_cons_succ]
  refine wpAnyH_ready (rs := [2]) (by kernel_rfl) (by simp) ?_
  refine AllReadyH.cons (o := { dst := some 12, op := Op.call { callee := Callee.value (Operand.func 96), args := #[Operand.tmp 11, Operand.const (Value.string { data := #[40] })], argTypes := #[104, 9] }, type := 4, pos := "expr.go:71", after := #[{ on := 1, ground := Ground.data }], guard := none }) rfl (fun K hK => ?_) AllReadyH.nil
  clear hHeld
  go_simp
  refine (is_any A l _ false HT.out.1 _ (HG0.out _ HB.out).2).mono ?_
  rintro _ w10 ⟨rfl, hb10⟩
  have HB : Hid (Below V.heap.size V w10) := HB.out.trans (hb10.mono HB.out.size)
  clear hb10
  go_simp
  refine hK.out _ _ (HBx.out _ (HG0.out _ HB.out).1).1 (fun hHeld => ?_)
  clear hK K
  refine wpAnyH_take (i := 3) (oi := { dst := some 13, op := Op.move (Operand.tmp 12), type := 4, pos := "expr.go:71", after := #[{ on := 2, ground := Ground.data }, { on := 2, ground := Ground.chain }], guard := none }) (v := (.bool false)) rfl (by kernel_rfl) (by kernel_rfl) (by kernel_rfl) (fun _ _ _ h => h) (Or.inl ⟨by rfl, fun w' hSw => ?_⟩) hHeld ?_
  · (try dsimp only at hSw)
    go_simp
  simp only [Act.put, List.setIfInBounds_toArray, List.set_cons_zero, List.set_cons_succ]
  refine wpAnyH_take (i := 4) (oi := { dst := some 14, op := Op.load 104 (Operand.tmp 2), type := 104, pos := "expr.go:71", after := #[{ on := 3, ground := Ground.guard }], guard := some (3, false) }) (v := (.pointer (some ⟨A, 0, none⟩))) rfl (by kernel_rfl) (by kernel_rfl) (by kernel_rfl) (fun _ _ _ h => h) (Or.inl ⟨by rfl, fun w' hSw => ?_⟩) hHeld ?_
  · (try dsimp only at hSw)
    go_simp
  simp only [Act.put, List.setIfInBounds_toArray, List.set_cons_zero, List.set_cons_succ]
  refine wpAnyH_ready (rs := [5]) (by kernel_rfl) (by simp) ?_
  refine AllReadyH.cons (o := { dst := some 15, op := Op.call { callee := Callee.value (Operand.func 96), args := #[Operand.tmp 14, Operand.const (Value.string { data := #[110, 117, 108, 108] })], argTypes := #[104, 9] }, type := 4, pos := "expr.go:71", after := #[{ on := 4, ground := Ground.data }, { on := 3, ground := Ground.chain }, { on := 3, ground := Ground.guard }], guard := some (3, false) }) rfl (fun K hK => ?_) AllReadyH.nil
  clear hHeld
  go_simp
  refine (is_any A l _ false HT.out.2.1 _ (HG0.out _ HB.out).2).mono ?_
  rintro _ w11 ⟨rfl, hb10⟩
  have HB : Hid (Below V.heap.size V w11) := HB.out.trans (hb10.mono HB.out.size)
  clear hb10
  go_simp
  refine hK.out _ _ (HBx.out _ (HG0.out _ HB.out).1).1 (fun hHeld => ?_)
  clear hK K
  refine wpAnyH_take (i := 6) (oi := { dst := some 16, op := Op.pick (Operand.tmp 13) (Operand.const (Value.bool true)) (Operand.tmp 15), type := 4, pos := "expr.go:71", after := #[{ on := 3, ground := Ground.data }, { on := 5, ground := Ground.data }], guard := none }) (v := (.bool false)) rfl (by kernel_rfl) (by kernel_rfl) (by kernel_rfl) (fun _ _ _ h => h) (Or.inl ⟨by rfl, fun w' hSw => ?_⟩) hHeld ?_
  · (try dsimp only at hSw)
    go_simp
  simp only [Act.put, List.setIfInBounds_toArray, List.set_cons_zero, List.set_cons_succ]
  refine wpAnyH_take (i := 7) (oi := { dst := some 17, op := Op.move (Operand.tmp 16), type := 4, pos := "expr.go:71", after := #[{ on := 6, ground := Ground.data }, { on := 5, ground := Ground.chain }], guard := none }) (v := (.bool false)) rfl (by kernel_rfl) (by kernel_rfl) (by kernel_rfl) (fun _ _ _ h => h) (Or.inl ⟨by rfl, fun w' hSw => ?_⟩) hHeld ?_
  · (try dsimp only at hSw)
    go_simp
  simp only [Act.put, List.setIfInBounds_toArray, List.set_cons_zero, List.set_cons_succ]
  refine wpAnyH_take (i := 8) (oi := { dst := some 18, op := Op.move (Operand.tmp 5), type := 3, pos := "expr.go:71", after := #[{ on := 7, ground := Ground.guard }], guard := some (7, false) }) (v := (.int .i64 2)) rfl (by kernel_rfl) (by kernel_rfl) (by kernel_rfl) (fun _ _ _ h => h) (Or.inl ⟨by rfl, fun w' hSw => ?_⟩) hHeld ?_
  · (try dsimp only at hSw)
    go_simp
  simp only [Act.put, List.setIfInBounds_toArray, List.set_cons_zero, List.set_cons_succ]
  refine wpAnyH_take (i := 9) (oi := { dst := some 19, op := Op.binOp BinOp.eql 3 (Operand.tmp 18) (Operand.const (Value.int IntKind.i64 2)) 3, type := 4, pos := "expr.go:71", after := #[{ on := 8, ground := Ground.data }, { on := 7, ground := Ground.guard }], guard := some (7, false) }) (v := (.bool true)) rfl (by kernel_rfl) (by kernel_rfl) (by kernel_rfl) (fun _ _ _ h => h) (Or.inl ⟨by rfl, fun w' hSw => ?_⟩) hHeld ?_
  · (try dsimp only at hSw)
    go_simp
  simp only [Act.put, List.setIfInBounds_toArray, List.set_cons_zero, List.set_cons_succ]
  refine wpAnyH_take (i := 10) (oi := { dst := some 20, op := Op.pick (Operand.tmp 17) (Operand.const (Value.bool true)) (Operand.tmp 19), type := 4, pos := "expr.go:71", after := #[{ on := 7, ground := Ground.data }, { on := 9, ground := Ground.data }], guard := none }) (v := (.bool true)) rfl (by kernel_rfl) (by kernel_rfl) (by kernel_rfl) (fun _ _ _ h => h) (Or.inl ⟨by rfl, fun w' hSw => ?_⟩) hHeld ?_
  · (try dsimp only at hSw)
    go_simp
  simp only [Act.put, List.setIfInBounds_toArray, List.set_cons_zero, List.set_cons_succ]
  refine wpAnyH_take (i := 11) (oi := { dst := some 21, op := Op.move (Operand.tmp 20), type := 4, pos := "expr.go:71", after := #[{ on := 10, ground := Ground.data }, { on := 7, ground := Ground.chain }], guard := none }) (v := (.bool true)) rfl (by kernel_rfl) (by kernel_rfl) (by kernel_rfl) (fun _ _ _ h => h) (Or.inl ⟨by rfl, fun w' hSw => ?_⟩) hHeld ?_
  · (try dsimp only at hSw)
    go_simp
  simp only [Act.put, List.setIfInBounds_toArray, List.set_cons_zero, List.set_cons_succ]
  refine wpAnyH_take (i := 12) (oi := { dst := some 22, op := Op.move (Operand.tmp 5), type := 3, pos := "expr.go:71", after := #[{ on := 11, ground := Ground.guard }], guard := some (11, false) }) (v := undef) rfl (by kernel_rfl) (by kernel_rfl) (by kernel_rfl) (fun _ _ _ h => h) (Or.inr ⟨by rfl, rfl⟩) hHeld ?_
  simp only [Act.put, List.setIfInBounds_toArray, List.set_cons_zero, List.set_cons_succ]
  refine wpAnyH_take (i := 13) (oi := { dst := some 23, op := Op.binOp BinOp.eql 3 (Operand.tmp 22) (Operand.const (Value.int IntKind.i64 3)) 3, type := 4, pos := "expr.go:71", after := #[{ on := 12, ground := Ground.data }, { on := 11, ground := Ground.guard }], guard := some (11, false) }) (v := undef) rfl (by kernel_rfl) (by kernel_rfl) (by kernel_rfl) (fun _ _ _ h => h) (Or.inr ⟨by rfl, rfl⟩) hHeld ?_
  simp only [Act.put, List.setIfInBounds_toArray, List.set_cons_zero, List.set_cons_succ]
  refine wpAnyH_take (i := 14) (oi := { dst := some 24, op := Op.pick (Operand.tmp 21) (Operand.const (Value.bool true)) (Operand.tmp 23), type := 4, pos := "expr.go:71", after := #[{ on := 11, ground := Ground.data }, { on := 13, ground := Ground.data }], guard := none }) (v := (.bool true)) rfl (by kernel_rfl) (by kernel_rfl) (by kernel_rfl) (fun _ _ _ h => h) (Or.inl ⟨by rfl, fun w' hSw => ?_⟩) hHeld ?_
  · (try dsimp only at hSw)
    go_simp
  simp only [Act.put, List.setIfInBounds_toArray, List.set_cons_zero, List.set_cons_succ]
  refine wpAnyH_take (i := 15) (oi := { dst := some 25, op := Op.move (Operand.tmp 24), type := 4, pos := "expr.go:71", after := #[{ on := 14, ground := Ground.data }, { on := 11, ground := Ground.chain }], guard := none }) (v := (.bool true)) rfl (by kernel_rfl) (by kernel_rfl) (by kernel_rfl) (fun _ _ _ h => h) (Or.inl ⟨by rfl, fun w' hSw => ?_⟩) hHeld ?_
  · (try dsimp only at hSw)
    go_simp
  simp only [Act.put, List.setIfInBounds_toArray, List.set_cons_zero, List.set_cons_succ]
  refine wpAnyH_take (i := 16) (oi := { dst := some 26, op := Op.load 104 (Operand.tmp 2), type := 104, pos := "expr.go:71", after := #[{ on := 15, ground := Ground.guard }], guard := some (15, false) }) (v := undef) rfl (by kernel_rfl) (by kernel_rfl) (by kernel_rfl) (fun _ _ _ h => h) (Or.inr ⟨by rfl, rfl⟩) hHeld ?_
  simp only [Act.put, List.setIfInBounds_toArray, List.set_cons_zero, List.set_cons_succ]
  refine wpAnyH_take (i := 17) (oi := { dst := some 27, op := Op.call { callee := Callee.value (Operand.func 122), args := #[Operand.tmp 26], argTypes := #[104] }, type := 4, pos := "expr.go:71", after := #[{ on := 16, ground := Ground.data }, { on := 15, ground := Ground.chain }, { on := 15, ground := Ground.guard }], guard := some (15, false) }) (v := undef) rfl (by kernel_rfl) (by kernel_rfl) (by kernel_rfl) (fun _ _ _ h => h) (Or.inr ⟨by rfl, rfl⟩) hHeld ?_
  simp only [Act.put, List.setIfInBounds_toArray, List.set_cons_zero, List.set_cons_succ]
  refine wpAnyH_take (i := 18) (oi := { dst := some 28, op := Op.pick (Operand.tmp 25) (Operand.const (Value.bool true)) (Operand.tmp 27), type := 4, pos := "expr.go:71", after := #[{ on := 15, ground := Ground.data }, { on := 17, ground := Ground.data }], guard := none }) (v := (.bool true)) rfl (by kernel_rfl) (by kernel_rfl) (by kernel_rfl) (fun _ _ _ h => h) (Or.inl ⟨by rfl, fun w' hSw => ?_⟩) hHeld ?_
  · (try dsimp only at hSw)
    go_simp
  simp only [Act.put, List.setIfInBounds_toArray, List.set_cons_zero, List.set_cons_succ]
  refine wpAnyH_ready (rs := [19]) (by kernel_rfl) (by simp) ?_
  refine AllReadyH.cons (o := { dst := some 29, op := Op.call { callee := Callee.value (Operand.func 51), args := #[Operand.tmp 10, Operand.tmp 28], argTypes := #[104, 4] }, type := 0, pos := "expr.go:71", after := #[{ on := 0, ground := Ground.data }, { on := 18, ground := Ground.data }, { on := 17, ground := Ground.chain }], guard := none }) rfl (fun K hK => ?_) AllReadyH.nil
  clear hHeld
  go_simp
  refine (must_yes A _).mono ?_
  rintro _ w12 ⟨rfl, hw12⟩
  subst hw12
  go_simp
  refine hK.out _ _ (HBx.out _ (HG0.out _ HB.out).1).1 (fun hHeld => ?_)
  clear hK K
  refine wpAnyH_done (by kernel_rfl) ?_ _
  obtain ⟨y1, y2⟩ := HBx.out _ (HG0.out _ HB.out).1
  have hWB := HC.out.1
  obtain rfl := hWB
  clear c1 c2
  go_wp2_with fail
  by_cases hn : n ≤ 12
  · refine (most_yes A (n : Int) 12 (by omega) _).mono ?_
    rintro _ w3 ⟨rfl, hw3⟩
    subst hw3
    have H3 : Hid (RdIs A l w3 ∧ w.grownBy w3 (some A) ∧ BoxAt A w.heap.size (w.heap.size + 1) n w3) := ⟨(HG0.out _ HB.out).2, HV.out.2.2.1.trans (HG0.out _ HB.out).1, HV.out.2.1.grown (HG0.out _ HB.out).1⟩
    have HR3 : Hid (oneF E l = R) := HR.out.1 hn
    clear hn
    go_wp2_with fail
    refine (number_any HE.out.1 A l HK.out.1 w3 H3.out.1).mono ?_
    rintro _ w4 ⟨hg4, ⟨v4, l4, hs4, rfl, hr4⟩ | ⟨hs4, n1, m1, rfl⟩⟩
    · have HB4 : Hid _ := box_told (w0 := w) HQ.out 1 v4 ⟨#[]⟩ none none .nil .nil hr4 (exNil _ _) (exNil _ _) (H3.out.2.1.trans hg4)
      have HR4 : Hid (R = some (.node 1 v4 ⟨#[]⟩ .nil .nil, l4)) := by show _ = _; rw [← HR3.out, one_num HK.out.1, hs4]; rfl
      clear hs4 hr4 hg4
      go_wp2
      go_ret
      exact ⟨HB4.out.1, .inl ⟨_, _, _, HR4.out, rfl, HB4.out.2.1, HB4.out.2.2⟩⟩
    · have HR4 : Hid (R = none ∧ w.grownBy w4 (some A)) := ⟨by rw [← HR3.out, one_num HK.out.1, hs4]; rfl, H3.out.2.1.trans hg4⟩
      clear hs4 hg4
      go_wp2
      exact ⟨by first | rfl | trivial, HR4.out.2, .inr ⟨HR4.out.1, n1, m1, rfl⟩⟩
  · refine (most_no A l (n : Int) 12 (by omega) _ (HG0.out _ HB.out).2).mono ?_
    rintro _ w4 ⟨⟨n1, m1, rfl⟩, hb4⟩
    have HG : Hid (w.grownBy w4 (some A) ∧ R = none) := ⟨(HV.out.2.2.1.trans (HG0.out _ HB.out).1).trans (grown_of_belowA hb4 _), HR.out.2 hn⟩
    clear hb4
    go_wp2
    exact ⟨by first | rfl | trivial, HG.out.1, .inr ⟨HG.out.2, n1, m1, rfl⟩⟩
end Go.Proofs.YtbdcbaamjkjhaaaGreatDoor
