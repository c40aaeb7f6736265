/- Part 12 of 30. -/
import Derived.Test.YtmabfbffpedfnaaGreatDoorK11
namespace Go.Proofs.YtmabfbffpedfnaaGreatDoor
open Go.RowKit

/-- what a statement's cells say -/
structure SVIs (N : Nat) (sv : SV) (st : Stm) (w : World) : Prop where
  kind : sv.kind = st.kind
  table : sv.table = st.table
  other : sv.other = st.other
  cols : RowOf N 29 4 (EC w) w sv.cols st.cols
  name : sv.name = st.name
  rows : RowOf N 58 1 ((ERw (N - 1) N) w) w sv.rows st.rows
  sets : RowOf N 26 1 ((EP (N - 1)) w) w sv.sets st.sets
  on : ExIs (N - 1) w sv.on st.on
  wh : ExIs (N - 1) w sv.wh st.wh
  items : RowOf N 146 2 ((EI (N - 1)) w) w sv.items st.items
  grp : ExIs (N - 1) w sv.grp st.grp
  ord : RowOf N 149 2 ((ER (N - 1)) w) w sv.ord st.ord
  lim : sv.lim = st.lim
  e_cols : st.cols = [] → sv.cols = .slice none 0 0
  e_rows : st.rows = [] → sv.rows = .slice none 0 0
  e_sets : st.sets = [] → sv.sets = .slice none 0 0
  e_items : st.items = [] → sv.items = .slice none 0 0
  e_ord : st.ord = [] → sv.ord = .slice none 0 0
theorem SVIs.rowsOk {N : Nat} {sv : SV} {st : Stm} {w : World} (h : SVIs N sv st w) : sv.Rows := by
  obtain ⟨c_cols, _, o_cols⟩ := h.cols
  obtain ⟨a_cols, k_cols, e_cols⟩ := own_slice o_cols
  obtain ⟨c_rows, _, o_rows⟩ := h.rows
  obtain ⟨a_rows, k_rows, e_rows⟩ := own_slice o_rows
  obtain ⟨c_sets, _, o_sets⟩ := h.sets
  obtain ⟨a_sets, k_sets, e_sets⟩ := own_slice o_sets
  obtain ⟨c_items, _, o_items⟩ := h.items
  obtain ⟨a_items, k_items, e_items⟩ := own_slice o_items
  obtain ⟨c_ord, _, o_ord⟩ := h.ord
  obtain ⟨a_ord, k_ord, e_ord⟩ := own_slice o_ord
  exact ⟨⟨_, _, _, e_cols⟩, ⟨_, _, _, e_rows⟩, ⟨_, _, _, e_sets⟩, ⟨_, _, _, e_items⟩, ⟨_, _, _, e_ord⟩⟩
theorem svis_of (N : Nat) (k : Int) (t : ByteArray) (w : World) : SVIs N (svOf k t) (ofS k t) w := ⟨rfl, rfl, rfl, RowOf.nil _ _ _ _ _, rfl, RowOf.nil _ _ _ _ _, RowOf.nil _ _ _ _ _, rfl, rfl, RowOf.nil _ _ _ _ _, rfl, RowOf.nil _ _ _ _ _, rfl, fun _ => rfl, fun _ => rfl, fun _ => rfl, fun _ => rfl, fun _ => rfl⟩
theorem SVIs.grown {A N : Nat} {sv : SV} {st : Stm} {w w' : World} (hN : A < N) (h : SVIs N sv st w) (hg : w.grownBy w' (some A)) : SVIs N sv st w' :=
  ⟨h.kind, h.table, h.other, h.cols.fr (X := fun k _ => k = A) (Fr.of_grown (fun _ => rfl) hg) (fun k _ hk _ e => by omega) (fun a c hc => (EC_stays : Stays A 62 62 _).1 _ _ a c hg hc), h.name, h.rows.fr (X := fun k _ => k = A) (Fr.of_grown (fun _ => rfl) hg) (fun k _ hk _ e => by omega) (fun a c hc => (ERw_stays (by omega) hN (by decide) : Stays A 62 62 _).1 _ _ a c hg hc), h.sets.fr (X := fun k _ => k = A) (Fr.of_grown (fun _ => rfl) hg) (fun k _ hk _ e => by omega) (fun a c hc => (EP_stays (by omega) (by decide) : Stays A 62 62 _).1 _ _ a c hg hc), ExIs.grownN (by omega) hg h.on, ExIs.grownN (by omega) hg h.wh, h.items.fr (X := fun k _ => k = A) (Fr.of_grown (fun _ => rfl) hg) (fun k _ hk _ e => by omega) (fun a c hc => (EI_stays (by omega) (by decide) : Stays A 62 62 _).1 _ _ a c hg hc), ExIs.grownN (by omega) hg h.grp, h.ord.fr (X := fun k _ => k = A) (Fr.of_grown (fun _ => rfl) hg) (fun k _ hk _ e => by omega) (fun a c hc => (ER_stays (by omega) (by decide) : Stays A 62 62 _).1 _ _ a c hg hc), h.lim, h.e_cols, h.e_rows, h.e_sets, h.e_items, h.e_ord⟩
theorem SVIs.xt_cols {N : Nat} {sv : SV} {st : Stm} {w w' : World} (hN : 0 < N) (hn : sv.cols = .slice none 0 0 ∧ st.cols = []) (hf : Fr (XT 29 62) w w') (h : SVIs N sv st w) : SVIs N sv st w' :=
  ⟨h.kind, h.table, h.other, by rw [hn.1, hn.2]; exact RowOf.nil _ _ _ _ _, h.name, h.rows.fr hf (fun k cs _ _ => by (rintro ⟨c, fz, e | e⟩ <;> cases e)) (fun a c hc => (ERw_stays (Nat.zero_le _) hN (by decide) : Stays 0 29 62 _).2 _ _ a c hf hc), h.sets.fr hf (fun k cs _ _ => by (rintro ⟨c, fz, e | e⟩ <;> cases e)) (fun a c hc => (EP_stays (Nat.zero_le _) (by decide) : Stays 0 29 62 _).2 _ _ a c hf hc), ExIs.xt (by decide) hf h.on, ExIs.xt (by decide) hf h.wh, h.items.fr hf (fun k cs _ _ => by (rintro ⟨c, fz, e | e⟩ <;> cases e)) (fun a c hc => (EI_stays (Nat.zero_le _) (by decide) : Stays 0 29 62 _).2 _ _ a c hf hc), ExIs.xt (by decide) hf h.grp, h.ord.fr hf (fun k cs _ _ => by (rintro ⟨c, fz, e | e⟩ <;> cases e)) (fun a c hc => (ER_stays (Nat.zero_le _) (by decide) : Stays 0 29 62 _).2 _ _ a c hf hc), h.lim, h.e_cols, h.e_rows, h.e_sets, h.e_items, h.e_ord⟩
theorem SVIs.xt_rows {N : Nat} {sv : SV} {st : Stm} {w w' : World} (_hN : 0 < N) (hn : sv.rows = .slice none 0 0 ∧ st.rows = []) (hf : Fr (XT 58 62) w w') (h : SVIs N sv st w) : SVIs N sv st w' :=
  ⟨h.kind, h.table, h.other, h.cols.fr hf (fun k cs _ _ => by (rintro ⟨c, fz, e | e⟩ <;> cases e)) (fun a c hc => (EC_stays : Stays 0 58 62 _).2 _ _ a c hf hc), h.name, by rw [hn.1, hn.2]; exact RowOf.nil _ _ _ _ _, h.sets.fr hf (fun k cs _ _ => by (rintro ⟨c, fz, e | e⟩ <;> cases e)) (fun a c hc => (EP_stays (Nat.zero_le _) (by decide) : Stays 0 58 62 _).2 _ _ a c hf hc), ExIs.xt (by decide) hf h.on, ExIs.xt (by decide) hf h.wh, h.items.fr hf (fun k cs _ _ => by (rintro ⟨c, fz, e | e⟩ <;> cases e)) (fun a c hc => (EI_stays (Nat.zero_le _) (by decide) : Stays 0 58 62 _).2 _ _ a c hf hc), ExIs.xt (by decide) hf h.grp, h.ord.fr hf (fun k cs _ _ => by (rintro ⟨c, fz, e | e⟩ <;> cases e)) (fun a c hc => (ER_stays (Nat.zero_le _) (by decide) : Stays 0 58 62 _).2 _ _ a c hf hc), h.lim, h.e_cols, h.e_rows, h.e_sets, h.e_items, h.e_ord⟩
theorem SVIs.xt_sets {N : Nat} {sv : SV} {st : Stm} {w w' : World} (_hN : 0 < N) (hn : sv.sets = .slice none 0 0 ∧ st.sets = []) (hm : sv.rows = .slice none 0 0 ∧ st.rows = []) (hf : Fr (XT 26 62) w w') (h : SVIs N sv st w) : SVIs N sv st w' :=
  ⟨h.kind, h.table, h.other, h.cols.fr hf (fun k cs _ _ => by (rintro ⟨c, fz, e | e⟩ <;> cases e)) (fun a c hc => (EC_stays : Stays 0 26 62 _).2 _ _ a c hf hc), h.name, by rw [hm.1, hm.2]; exact RowOf.nil _ _ _ _ _, by rw [hn.1, hn.2]; exact RowOf.nil _ _ _ _ _, ExIs.xt (by decide) hf h.on, ExIs.xt (by decide) hf h.wh, h.items.fr hf (fun k cs _ _ => by (rintro ⟨c, fz, e | e⟩ <;> cases e)) (fun a c hc => (EI_stays (Nat.zero_le _) (by decide) : Stays 0 26 62 _).2 _ _ a c hf hc), ExIs.xt (by decide) hf h.grp, h.ord.fr hf (fun k cs _ _ => by (rintro ⟨c, fz, e | e⟩ <;> cases e)) (fun a c hc => (ER_stays (Nat.zero_le _) (by decide) : Stays 0 26 62 _).2 _ _ a c hf hc), h.lim, h.e_cols, h.e_rows, h.e_sets, h.e_items, h.e_ord⟩
theorem SVIs.xt_items {N : Nat} {sv : SV} {st : Stm} {w w' : World} (hN : 0 < N) (hn : sv.items = .slice none 0 0 ∧ st.items = []) (hf : Fr (XT 146 62) w w') (h : SVIs N sv st w) : SVIs N sv st w' :=
  ⟨h.kind, h.table, h.other, h.cols.fr hf (fun k cs _ _ => by (rintro ⟨c, fz, e | e⟩ <;> cases e)) (fun a c hc => (EC_stays : Stays 0 146 62 _).2 _ _ a c hf hc), h.name, h.rows.fr hf (fun k cs _ _ => by (rintro ⟨c, fz, e | e⟩ <;> cases e)) (fun a c hc => (ERw_stays (Nat.zero_le _) hN (by decide) : Stays 0 146 62 _).2 _ _ a c hf hc), h.sets.fr hf (fun k cs _ _ => by (rintro ⟨c, fz, e | e⟩ <;> cases e)) (fun a c hc => (EP_stays (Nat.zero_le _) (by decide) : Stays 0 146 62 _).2 _ _ a c hf hc), ExIs.xt (by decide) hf h.on, ExIs.xt (by decide) hf h.wh, by rw [hn.1, hn.2]; exact RowOf.nil _ _ _ _ _, ExIs.xt (by decide) hf h.grp, h.ord.fr hf (fun k cs _ _ => by (rintro ⟨c, fz, e | e⟩ <;> cases e)) (fun a c hc => (ER_stays (Nat.zero_le _) (by decide) : Stays 0 146 62 _).2 _ _ a c hf hc), h.lim, h.e_cols, h.e_rows, h.e_sets, h.e_items, h.e_ord⟩
theorem SVIs.xt_ord {N : Nat} {sv : SV} {st : Stm} {w w' : World} (hN : 0 < N) (hn : sv.ord = .slice none 0 0 ∧ st.ord = []) (hf : Fr (XT 149 62) w w') (h : SVIs N sv st w) : SVIs N sv st w' :=
  ⟨h.kind, h.table, h.other, h.cols.fr hf (fun k cs _ _ => by (rintro ⟨c, fz, e | e⟩ <;> cases e)) (fun a c hc => (EC_stays : Stays 0 149 62 _).2 _ _ a c hf hc), h.name, h.rows.fr hf (fun k cs _ _ => by (rintro ⟨c, fz, e | e⟩ <;> cases e)) (fun a c hc => (ERw_stays (Nat.zero_le _) hN (by decide) : Stays 0 149 62 _).2 _ _ a c hf hc), h.sets.fr hf (fun k cs _ _ => by (rintro ⟨c, fz, e | e⟩ <;> cases e)) (fun a c hc => (EP_stays (Nat.zero_le _) (by decide) : Stays 0 149 62 _).2 _ _ a c hf hc), ExIs.xt (by decide) hf h.on, ExIs.xt (by decide) hf h.wh, h.items.fr hf (fun k cs _ _ => by (rintro ⟨c, fz, e | e⟩ <;> cases e)) (fun a c hc => (EI_stays (Nat.zero_le _) (by decide) : Stays 0 149 62 _).2 _ _ a c hf hc), ExIs.xt (by decide) hf h.grp, by rw [hn.1, hn.2]; exact RowOf.nil _ _ _ _ _, h.lim, h.e_cols, h.e_rows, h.e_sets, h.e_items, h.e_ord⟩
theorem SVIs.st {N : Nat} {sv : SV} {st : Stm} {w w' : World} (hN : 0 < N) (hf0 : Fr (fun _ o => ∃ c fz, o = .cells c 62 fz) w w') (h : SVIs N sv st w) : SVIs N sv st w' :=
  have hf : Fr (XT 62 62) w w' := hf0.mono (fun k o ⟨c, fz, e⟩ => ⟨c, fz, .inl e⟩)
  ⟨h.kind, h.table, h.other, h.cols.fr hf (fun k cs _ _ => by (rintro ⟨c, fz, e | e⟩ <;> cases e)) (fun a c hc => (EC_stays : Stays 0 62 62 _).2 _ _ a c hf hc), h.name, h.rows.fr hf (fun k cs _ _ => by (rintro ⟨c, fz, e | e⟩ <;> cases e)) (fun a c hc => (ERw_stays (Nat.zero_le _) hN (by decide) : Stays 0 62 62 _).2 _ _ a c hf hc), h.sets.fr hf (fun k cs _ _ => by (rintro ⟨c, fz, e | e⟩ <;> cases e)) (fun a c hc => (EP_stays (Nat.zero_le _) (by decide) : Stays 0 62 62 _).2 _ _ a c hf hc), ExIs.xt (by decide) hf h.on, ExIs.xt (by decide) hf h.wh, h.items.fr hf (fun k cs _ _ => by (rintro ⟨c, fz, e | e⟩ <;> cases e)) (fun a c hc => (EI_stays (Nat.zero_le _) (by decide) : Stays 0 62 62 _).2 _ _ a c hf hc), ExIs.xt (by decide) hf h.grp, h.ord.fr hf (fun k cs _ _ => by (rintro ⟨c, fz, e | e⟩ <;> cases e)) (fun a c hc => (ER_stays (Nat.zero_le _) (by decide) : Stays 0 62 62 _).2 _ _ a c hf hc), h.lim, h.e_cols, h.e_rows, h.e_sets, h.e_items, h.e_ord⟩
/-- the state between two steps -/
structure SI (A S : Nat) (w0 : World) (st : Stm) (l : List KT) (w : World) : Prop where
  rd : RdIs A l w
  gr : w0.grownBy w (some A)
  st : ∃ sv, Blk S sv.cells 62 w ∧ SVIs w0.heap.size sv st w
  lo : A < w0.heap.size
  S0 : w0.heap.size ≤ S
theorem SI.grown {A S : Nat} {w0 : World} {st : Stm} {l l' : List KT} {w w' : World} (h : SI A S w0 st l w) (hr : RdIs A l' w') (hg : w.grownBy w' (some A)) : SI A S w0 st l' w' := by
  obtain ⟨sv, hk, hv⟩ := h.st
  have h1 := h.lo
  have h2 := h.S0
  exact ⟨hr, h.gr.trans hg, ⟨sv, hk.keep (by omega) hg, hv.grown h1 hg⟩, h1, h2⟩
theorem SI.put {A S i : Nat} {w0 : World} {st st' : Stm} {l : List KT} {w : World} {sv sv' : SV} {v : Value} (h : SI A S w0 st l w) (hk : Blk S sv.cells 62 w) (hc : sv.cells.setIfInBounds i v = sv'.cells) (hv : ∀ w', Fr (fun _ o => ∃ c fz, o = .cells c 62 fz) w w' → SVIs w0.heap.size sv' st' w') : SI A S w0 st' l (w.setCell ⟨S, i, none⟩ v) := by
  have h1 := h.lo
  have h2 := h.S0
  refine ⟨h.rd.set (by omega) i v, grown_new h.gr h2 i v, ⟨sv', ?_, hv _ ?_⟩, h1, h2⟩
  · have := hk.set i v
    rw [hc] at this
    exact this
  · exact fr_sets [v] i hk
theorem SI.set_table {A S : Nat} {w0 : World} {st : Stm} {l : List KT} {w : World} (h : SI A S w0 st l w) (a : ByteArray) : SI A S w0 { st with table := a } l (w.setCell ⟨S, 1, none⟩ (.string a)) := by
  obtain ⟨sv, hk, hv⟩ := h.st
  refine h.put (sv' := { sv with table := a }) hk rfl (fun w' hf => ?_)
  have k := hv.st (by have := h.lo; omega) hf
  exact { k with table := rfl }
theorem SI.set_other {A S : Nat} {w0 : World} {st : Stm} {l : List KT} {w : World} (h : SI A S w0 st l w) (a : ByteArray) : SI A S w0 { st with other := a } l (w.setCell ⟨S, 2, none⟩ (.string a)) := by
  obtain ⟨sv, hk, hv⟩ := h.st
  refine h.put (sv' := { sv with other := a }) hk rfl (fun w' hf => ?_)
  have k := hv.st (by have := h.lo; omega) hf
  exact { k with other := rfl }
theorem SI.set_name {A S : Nat} {w0 : World} {st : Stm} {l : List KT} {w : World} (h : SI A S w0 st l w) (a : ByteArray) : SI A S w0 { st with name := a } l (w.setCell ⟨S, 4, none⟩ (.string a)) := by
  obtain ⟨sv, hk, hv⟩ := h.st
  refine h.put (sv' := { sv with name := a }) hk rfl (fun w' hf => ?_)
  have k := hv.st (by have := h.lo; omega) hf
  exact { k with name := rfl }
theorem SI.set_lim {A S : Nat} {w0 : World} {st : Stm} {l : List KT} {w : World} (h : SI A S w0 st l w) (a : Int) : SI A S w0 { st with lim := a } l (w.setCell ⟨S, 12, none⟩ (.int .i64 a)) := by
  obtain ⟨sv, hk, hv⟩ := h.st
  refine h.put (sv' := { sv with lim := a }) hk rfl (fun w' hf => ?_)
  have k := hv.st (by have := h.lo; omega) hf
  exact { k with lim := rfl }
theorem SI.set_on {A S : Nat} {w0 : World} {st : Stm} {l : List KT} {w : World} (h : SI A S w0 st l w) {p : Option Addr} {e : Ex} (hx : ExIs (w0.heap.size - 1) w p e) : SI A S w0 { st with on := e } l (w.setCell ⟨S, 7, none⟩ (.pointer p)) := by
  obtain ⟨sv, hk, hv⟩ := h.st
  refine h.put (sv' := { sv with on := p }) hk rfl (fun w' hf => ?_)
  have k := hv.st (by have := h.lo; omega) hf
  exact { k with on := ExIs.xt (T := 62) (T' := 62) (by decide) (hf.mono (fun k o ⟨c, fz, e⟩ => ⟨c, fz, .inl e⟩)) hx }
theorem SI.set_wh {A S : Nat} {w0 : World} {st : Stm} {l : List KT} {w : World} (h : SI A S w0 st l w) {p : Option Addr} {e : Ex} (hx : ExIs (w0.heap.size - 1) w p e) : SI A S w0 { st with wh := e } l (w.setCell ⟨S, 8, none⟩ (.pointer p)) := by
  obtain ⟨sv, hk, hv⟩ := h.st
  refine h.put (sv' := { sv with wh := p }) hk rfl (fun w' hf => ?_)
  have k := hv.st (by have := h.lo; omega) hf
  exact { k with wh := ExIs.xt (T := 62) (T' := 62) (by decide) (hf.mono (fun k o ⟨c, fz, e⟩ => ⟨c, fz, .inl e⟩)) hx }
theorem SI.set_grp {A S : Nat} {w0 : World} {st : Stm} {l : List KT} {w : World} (h : SI A S w0 st l w) {p : Option Addr} {e : Ex} (hx : ExIs (w0.heap.size - 1) w p e) : SI A S w0 { st with grp := e } l (w.setCell ⟨S, 10, none⟩ (.pointer p)) := by
  obtain ⟨sv, hk, hv⟩ := h.st
  refine h.put (sv' := { sv with grp := p }) hk rfl (fun w' hf => ?_)
  have k := hv.st (by have := h.lo; omega) hf
  exact { k with grp := ExIs.xt (T := 62) (T' := 62) (by decide) (hf.mono (fun k o ⟨c, fz, e⟩ => ⟨c, fz, .inl e⟩)) hx }
theorem SI.cell {A S : Nat} {w0 : World} {st : Stm} {l : List KT} {w : World} (h : SI A S w0 st l w) {i : Nat} (hi : i < 13) : (∃ v, w.cell? ⟨S, i, none⟩ = some v) ∧ w.frozen? ⟨S, i, none⟩ = false := by
  obtain ⟨sv, hk, _⟩ := h.st
  have hs : sv.cells.size = 13 := rfl
  exact ⟨⟨sv.cells[i]'(by rw [hs]; exact hi), by rw [hk.cell i]; exact Array.getElem?_eq_getElem _⟩, hk.free i⟩
theorem SI.acc_cols {A S x : Nat} {w0 : World} {st : Stm} {l : List KT} {w : World} (h : SI A S w0 st l w) (hn : st.cols = []) (hx : Blk x #[.pointer (some ⟨A, 0, none⟩)] 117 w) (nx : x ≠ A) (xS : x ≠ S) :
    ∃ sv, Acc 300 A S x w0 (fun v => ({ sv with cols := v } : SV).cells) 62 29 4 EC (fun u => SVIs w0.heap.size sv st u) [] l w ∧ StaysJ A 29 62 (fun u => SVIs w0.heap.size sv st u) := by
  obtain ⟨sv, hk, hv⟩ := h.st
  have he : sv.cols = .slice none 0 0 := hv.e_cols hn
  refine ⟨sv, ⟨h.rd, hx, nx, xS, ⟨.slice none 0 0, ?_, RowOf.nil _ _ _ _ _⟩, h.gr, h.lo, h.S0, by simpa using h.rd.ok.2, hv⟩, fun u u' hg hu => hu.grown h.lo hg, fun u u' hf hu => hu.xt_cols (by have := h.lo; omega) ⟨he, hn⟩ hf⟩
  have e : ({ sv with cols := .slice none 0 0 } : SV) = sv := by rw [← he]
  show Blk S ({ sv with cols := .slice none 0 0 } : SV).cells 62 w
  rw [e]; exact hk
theorem SI.of_cols {A S x : Nat} {w0 : World} {st : Stm} {sv : SV} {L : List _} {l : List KT} {w : World} (h : Acc 301 A S x w0 (fun v => ({ sv with cols := v } : SV).cells) 62 29 4 EC (fun u => SVIs w0.heap.size sv st u) L l w) (hL : L ≠ []) : SI A S w0 { st with cols := L } l w := by
  obtain ⟨v, hk, hr⟩ := h.st
  exact ⟨h.rd, h.gr, ⟨{ sv with cols := v }, hk, { h.side with cols := hr, e_cols := fun e => absurd e hL }⟩, h.lo, h.S0⟩
theorem SI.acc_rows {A S x : Nat} {w0 : World} {st : Stm} {l : List KT} {w : World} (h : SI A S w0 st l w) (hn : st.rows = []) (hx : Blk x #[.pointer (some ⟨A, 0, none⟩)] 117 w) (nx : x ≠ A) (xS : x ≠ S) :
    ∃ sv, Acc 300 A S x w0 (fun v => ({ sv with rows := v } : SV).cells) 62 58 1 (ERw (w0.heap.size - 1) w0.heap.size) (fun u => SVIs w0.heap.size sv st u) [] l w ∧ StaysJ A 58 62 (fun u => SVIs w0.heap.size sv st u) := by
  obtain ⟨sv, hk, hv⟩ := h.st
  have he : sv.rows = .slice none 0 0 := hv.e_rows hn
  refine ⟨sv, ⟨h.rd, hx, nx, xS, ⟨.slice none 0 0, ?_, RowOf.nil _ _ _ _ _⟩, h.gr, h.lo, h.S0, by simpa using h.rd.ok.2, hv⟩, fun u u' hg hu => hu.grown h.lo hg, fun u u' hf hu => hu.xt_rows (by have := h.lo; omega) ⟨he, hn⟩ hf⟩
  have e : ({ sv with rows := .slice none 0 0 } : SV) = sv := by rw [← he]
  show Blk S ({ sv with rows := .slice none 0 0 } : SV).cells 62 w
  rw [e]; exact hk
theorem SI.of_rows {A S x : Nat} {w0 : World} {st : Stm} {sv : SV} {L : List _} {l : List KT} {w : World} (h : Acc 301 A S x w0 (fun v => ({ sv with rows := v } : SV).cells) 62 58 1 (ERw (w0.heap.size - 1) w0.heap.size) (fun u => SVIs w0.heap.size sv st u) L l w) (hL : L ≠ []) : SI A S w0 { st with rows := L } l w := by
  obtain ⟨v, hk, hr⟩ := h.st
  exact ⟨h.rd, h.gr, ⟨{ sv with rows := v }, hk, { h.side with rows := hr, e_rows := fun e => absurd e hL }⟩, h.lo, h.S0⟩
theorem SI.acc_sets {A S x : Nat} {w0 : World} {st : Stm} {l : List KT} {w : World} (h : SI A S w0 st l w) (hn : st.sets = []) (hm : st.rows = []) (hx : Blk x #[.pointer (some ⟨A, 0, none⟩)] 117 w) (nx : x ≠ A) (xS : x ≠ S) :
    ∃ sv, Acc 300 A S x w0 (fun v => ({ sv with sets := v } : SV).cells) 62 26 1 (EP (w0.heap.size - 1)) (fun u => SVIs w0.heap.size sv st u) [] l w ∧ StaysJ A 26 62 (fun u => SVIs w0.heap.size sv st u) := by
  obtain ⟨sv, hk, hv⟩ := h.st
  have he : sv.sets = .slice none 0 0 ∧ sv.rows = .slice none 0 0 := ⟨hv.e_sets hn, hv.e_rows hm⟩
  refine ⟨sv, ⟨h.rd, hx, nx, xS, ⟨.slice none 0 0, ?_, RowOf.nil _ _ _ _ _⟩, h.gr, h.lo, h.S0, by simpa using h.rd.ok.2, hv⟩, fun u u' hg hu => hu.grown h.lo hg, fun u u' hf hu => hu.xt_sets (by have := h.lo; omega) ⟨he.1, hn⟩ ⟨he.2, hm⟩ hf⟩
  have e : ({ sv with sets := .slice none 0 0 } : SV) = sv := by rw [← he.1]
  show Blk S ({ sv with sets := .slice none 0 0 } : SV).cells 62 w
  rw [e]; exact hk
theorem SI.of_sets {A S x : Nat} {w0 : World} {st : Stm} {sv : SV} {L : List _} {l : List KT} {w : World} (h : Acc 301 A S x w0 (fun v => ({ sv with sets := v } : SV).cells) 62 26 1 (EP (w0.heap.size - 1)) (fun u => SVIs w0.heap.size sv st u) L l w) (hL : L ≠ []) : SI A S w0 { st with sets := L } l w := by
  obtain ⟨v, hk, hr⟩ := h.st
  exact ⟨h.rd, h.gr, ⟨{ sv with sets := v }, hk, { h.side with sets := hr, e_sets := fun e => absurd e hL }⟩, h.lo, h.S0⟩
theorem SI.acc_items {A S x : Nat} {w0 : World} {st : Stm} {l : List KT} {w : World} (h : SI A S w0 st l w) (hn : st.items = []) (hx : Blk x #[.pointer (some ⟨A, 0, none⟩)] 117 w) (nx : x ≠ A) (xS : x ≠ S) :
    ∃ sv, Acc 300 A S x w0 (fun v => ({ sv with items := v } : SV).cells) 62 146 2 (EI (w0.heap.size - 1)) (fun u => SVIs w0.heap.size sv st u) [] l w ∧ StaysJ A 146 62 (fun u => SVIs w0.heap.size sv st u) := by
  obtain ⟨sv, hk, hv⟩ := h.st
  have he : sv.items = .slice none 0 0 := hv.e_items hn
  refine ⟨sv, ⟨h.rd, hx, nx, xS, ⟨.slice none 0 0, ?_, RowOf.nil _ _ _ _ _⟩, h.gr, h.lo, h.S0, by simpa using h.rd.ok.2, hv⟩, fun u u' hg hu => hu.grown h.lo hg, fun u u' hf hu => hu.xt_items (by have := h.lo; omega) ⟨he, hn⟩ hf⟩
  have e : ({ sv with items := .slice none 0 0 } : SV) = sv := by rw [← he]
  show Blk S ({ sv with items := .slice none 0 0 } : SV).cells 62 w
  rw [e]; exact hk
theorem SI.of_items {A S x : Nat} {w0 : World} {st : Stm} {sv : SV} {L : List _} {l : List KT} {w : World} (h : Acc 301 A S x w0 (fun v => ({ sv with items := v } : SV).cells) 62 146 2 (EI (w0.heap.size - 1)) (fun u => SVIs w0.heap.size sv st u) L l w) (hL : L ≠ []) : SI A S w0 { st with items := L } l w := by
  obtain ⟨v, hk, hr⟩ := h.st
  exact ⟨h.rd, h.gr, ⟨{ sv with items := v }, hk, { h.side with items := hr, e_items := fun e => absurd e hL }⟩, h.lo, h.S0⟩
theorem SI.acc_ord {A S x : Nat} {w0 : World} {st : Stm} {l : List KT} {w : World} (h : SI A S w0 st l w) (hn : st.ord = []) (hx : Blk x #[.pointer (some ⟨A, 0, none⟩)] 117 w) (nx : x ≠ A) (xS : x ≠ S) :
    ∃ sv, Acc 300 A S x w0 (fun v => ({ sv with ord := v } : SV).cells) 62 149 2 (ER (w0.heap.size - 1)) (fun u => SVIs w0.heap.size sv st u) [] l w ∧ StaysJ A 149 62 (fun u => SVIs w0.heap.size sv st u) := by
  obtain ⟨sv, hk, hv⟩ := h.st
  have he : sv.ord = .slice none 0 0 := hv.e_ord hn
  refine ⟨sv, ⟨h.rd, hx, nx, xS, ⟨.slice none 0 0, ?_, RowOf.nil _ _ _ _ _⟩, h.gr, h.lo, h.S0, by simpa using h.rd.ok.2, hv⟩, fun u u' hg hu => hu.grown h.lo hg, fun u u' hf hu => hu.xt_ord (by have := h.lo; omega) ⟨he, hn⟩ hf⟩
  have e : ({ sv with ord := .slice none 0 0 } : SV) = sv := by rw [← he]
  show Blk S ({ sv with ord := .slice none 0 0 } : SV).cells 62 w
  rw [e]; exact hk
theorem SI.of_ord {A S x : Nat} {w0 : World} {st : Stm} {sv : SV} {L : List _} {l : List KT} {w : World} (h : Acc 301 A S x w0 (fun v => ({ sv with ord := v } : SV).cells) 62 149 2 (ER (w0.heap.size - 1)) (fun u => SVIs w0.heap.size sv st u) L l w) (hL : L ≠ []) : SI A S w0 { st with ord := L } l w := by
  obtain ⟨v, hk, hr⟩ := h.st
  exact ⟨h.rd, h.gr, ⟨{ sv with ord := v }, hk, { h.side with ord := hr, e_ord := fun e => absurd e hL }⟩, h.lo, h.S0⟩
theorem eachL_ne {α : Type} {F : Rf α} (f : Nat) : ∀ (L : List α) (l : List KT) x, L ≠ [] → eachL (oneOf F) f L l = some x → x.1 ≠ [] := by
  induction f with
  | zero => intro L l x hL h; cases h; exact hL
  | succ f ih =>
    intro L l x hL h
    rw [eachL] at h
    split at h
    · obtain ⟨y, hy, h⟩ := Option.bind_eq_some_iff.1 h
      obtain ⟨z, _, rfl⟩ := Option.map_eq_some_iff.1 hy
      exact ih _ _ x (by simp) h
    · cases h; exact hL
theorem listS_ne {α : Type} {F : Rf α} {L : List α} {l : List KT} {x : List α × List KT} (h : listS (oneOf F) L l = some x) : x.1 ≠ [] := by
  obtain ⟨y, hy, h⟩ := Option.bind_eq_some_iff.1 h
  obtain ⟨z, _, rfl⟩ := Option.map_eq_some_iff.1 hy
  exact eachL_ne _ _ _ x (by simp) h
/-- what a function that reads a statement tells -/
def ToldT (A : Nat) (R : Option (Stm × List KT)) (w : World) (e : Ending) (w' : World) : Prop :=
  w.grownBy w' (some A) ∧ ((∃ st l sv, R = some (st, l) ∧ e = .returned (.agg sv.cells) ∧ SVIs w.heap.size sv st w' ∧ RdIs A l w') ∨ (R = none ∧ Thr e))
theorem RowOf.lowN {α : Type} {N n T sz : Nat} {E E' : α → List Value → Prop} {u : World} {v : Value} {L : List α} (h : RowOf N T sz E u v L) (hn : n ≤ N) (hE : ∀ a c, E a c → E' a c) : RowOf n T sz E' u v L := by
  obtain ⟨cs, h1, h2⟩ := h
  refine ⟨cs, h1.mono hE, h2.1, ?_⟩
  rcases h2.2 with h3 | ⟨g, cap, cur, e1, e2, e3, e4⟩
  · exact .inl h3
  · exact .inr ⟨g, cap, cur, e1, by omega, e3, e4⟩
theorem SVIs.low {N n : Nat} {sv : SV} {st : Stm} {w : World} (h : SVIs N sv st w) (hn : n ≤ N) : SVIs n sv st w :=
  ⟨h.kind, h.table, h.other, h.cols.lowN hn (fun _ _ h => h), h.name, h.rows.lowN hn (fun _ _ ⟨v, e, hr⟩ => ⟨v, e, hr.lowN hn (fun _ _ ⟨p, e, hx⟩ => ⟨p, e, hx.mono (by omega)⟩)⟩), h.sets.lowN hn (fun _ _ ⟨p, e, hx⟩ => ⟨p, e, hx.mono (by omega)⟩), h.on.mono (by omega), h.wh.mono (by omega), h.items.lowN hn (fun _ _ ⟨p, e, hx⟩ => ⟨p, e, hx.mono (by omega)⟩), h.grp.mono (by omega), h.ord.lowN hn (fun _ _ ⟨p, e, hx⟩ => ⟨p, e, hx.mono (by omega)⟩), h.lim, h.e_cols, h.e_rows, h.e_sets, h.e_items, h.e_ord⟩
end Go.Proofs.YtmabfbffpedfnaaGreatDoor
namespace Go.Proofs.YtmabfbffpedfnaaGreatDoor
open Go.RowKit

theorem All2.at {α : Type} {E : α → List Value → Prop} {sz : Nat} (hz : ∀ a c, E a c → c.length = sz) {L : List α} {cs : List (List Value)} (h : All2 E L cs) : ∀ j (hj : j < L.length), ∃ c, E L[j] c ∧ ∀ i, i < sz → cs.flatten[j * sz + i]? = c[i]? := by
  induction h with
  | nil => intro j hj; simp at hj
  | @cons a c L cs hac _ ih =>
    intro j hj
    have hl := hz a c hac
    cases j with
    | zero => exact ⟨c, hac, fun i hi => by rw [Nat.zero_mul, Nat.zero_add, List.flatten_cons, List.getElem?_append_left (by omega)]⟩
    | succ j =>
      obtain ⟨d, hd, hi⟩ := ih j (by simpa using hj)
      refine ⟨d, hd, fun i h => ?_⟩
      rw [List.flatten_cons, List.getElem?_append_right (by rw [hl, Nat.succ_mul]; omega), ← hi i h]
      congr 1
      rw [hl, Nat.succ_mul]; omega
theorem RowOf.at {α : Type} {N T sz : Nat} {E : α → List Value → Prop} {w : World} {v : Value} {L : List α} (h : RowOf N T sz E w v L) (hz : ∀ a c, E a c → c.length = sz) {b : Nat} (hb : w.heap.size ≤ b) {El : α → Nat → Nat → World → Prop}
    (hE : ∀ a c g o, E a c → (∀ i, i < sz → w.cell? ⟨g, o + i, none⟩ = c[i]?) → El a g o w) : ∃ a c, v = .slice a L.length c ∧ RowG b sz El w a L := by
  obtain ⟨cs, h1, h2, h3⟩ := h
  rcases h3 with ⟨rfl, h3⟩ | ⟨g, cap, cur, rfl, hg, hc, hn, hm, hs, ht⟩
  · exact ⟨none, 0, by rw [h3], Or.inl (List.length_eq_zero_iff.1 h3)⟩
  · refine ⟨_, cap, rfl, Or.inr ⟨g, 0, rfl, ?_, fun j hj => ?_⟩⟩
    · have := (Array.getElem?_eq_some_iff.1 hc).1; omega
    · obtain ⟨c, hac, hi⟩ := h1.at hz j hj
      refine hE _ c g _ hac (fun i hlt => ?_)
      rw [← hi i hlt, Nat.zero_add]
      have hk : Blk g cur T w := hc
      rw [hk.cell, ← ht]
      have hlt2 : j * sz + i < L.length * sz := by
        have : (j + 1) * sz ≤ L.length * sz := Nat.mul_le_mul_right _ (by omega)
        rw [Nat.succ_mul] at this
        omega
      rw [List.getElem?_take_of_lt hlt2]
      simp
theorem TrAt.of {n b : Nat} {w : World} {p : Option Addr} {e : Ex} (h : ExIs n w p e) (hb : w.heap.size ≤ b) : TrAt b w p e := ⟨w, n, h, hb, Below.refl _ _⟩
theorem EP.to {n b : Nat} {w : World} (hb : w.heap.size ≤ b) (a : Ex) (c : List Value) (g o : Nat) (h : EP n w a c) (hc : ∀ i, i < 1 → w.cell? ⟨g, o + i, none⟩ = c[i]?) : ElW3 b a g o w := by
  obtain ⟨p, rfl, h⟩ := h
  exact ⟨p, hc 0 (by decide), TrAt.of h hb⟩
theorem RowG.tr {b : Nat} {w : World} {a : Option Addr} {L : List Ex} (h : RowG b 1 (ElW3 b) w a L) : RowTr b w a L := by
  rcases h with h | ⟨g, off, e, hg, h⟩
  · exact Or.inl h
  · refine Or.inr ⟨g, off, e, hg, fun j hj => ?_⟩
    have := h j hj
    rw [Nat.mul_one] at this
    exact this
theorem StB.of {N b : Nat} {sv : SV} {x : Stm} {w : World} (h : SVIs N sv x w) (hb : w.heap.size ≤ b) : StB b sv x w := by
  refine ⟨h.kind, h.table, h.other, h.name, h.lim, ?_, ?_, ?_, ?_, ?_, TrAt.of h.on hb, TrAt.of h.wh hb, TrAt.of h.grp hb⟩
  · exact h.cols.at (fun a c hc => by rw [hc]; rfl) hb (fun a c g o hc hi => by rw [hc] at hi; exact ⟨hi 0 (by decide), hi 1 (by decide), hi 2 (by decide), hi 3 (by decide)⟩)
  · refine h.rows.at (fun a c hc => by obtain ⟨v, rfl, _⟩ := hc; rfl) hb (fun a c g o hc hi => ?_)
    obtain ⟨v, rfl, hr⟩ := hc
    obtain ⟨a2, c2, rfl, hg⟩ := hr.at (fun a c hc => by obtain ⟨p, rfl, _⟩ := hc; rfl) hb (fun a c g o hc hi => EP.to hb a c g o hc hi)
    exact ⟨a2, c2, hi 0 (by decide), hg.tr⟩
  · exact h.sets.at (fun a c hc => by obtain ⟨p, rfl, _⟩ := hc; rfl) hb (fun a c g o hc hi => EP.to hb a c g o hc hi)
  · exact h.items.at (fun a c hc => by obtain ⟨p, rfl, _⟩ := hc; rfl) hb (fun a c g o hc hi => by obtain ⟨p, rfl, hx⟩ := hc; exact ⟨p, hi 0 (by decide), hi 1 (by decide), TrAt.of hx hb⟩)
  · exact h.ord.at (fun a c hc => by obtain ⟨p, rfl, _⟩ := hc; rfl) hb (fun a c g o hc hi => by obtain ⟨p, rfl, hx⟩ := hc; exact ⟨p, hi 0 (by decide), hi 1 (by decide), TrAt.of hx hb⟩)
theorem RowTr.up {b b' : Nat} {w : World} {a : Option Addr} {L : List Ex} (h : RowTr b w a L) (hb : b ≤ b') : RowTr b' w a L := by
  rcases h with h | ⟨g, off, e, hg, h⟩
  · exact Or.inl h
  · refine Or.inr ⟨g, off, e, by omega, fun j hj => ?_⟩
    obtain ⟨p, h1, w0, q, h2, h3, h4⟩ := h j hj
    exact ⟨p, h1, w0, q, h2, by omega, h4⟩
theorem TrAt.up {b b' : Nat} {w : World} {p : Option Addr} {e : Ex} (h : TrAt b w p e) (hb : b ≤ b') : TrAt b' w p e := by
  obtain ⟨w0, q, h2, h3, h4⟩ := h
  exact ⟨w0, q, h2, by omega, h4⟩
theorem RowG.up {α : Type} {b b' sz : Nat} {El El' : α → Nat → Nat → World → Prop} {w : World} {a : Option Addr} {L : List α} (h : RowG b sz El w a L) (hb : b ≤ b') (hE : ∀ x g o, El x g o w → El' x g o w) : RowG b' sz El' w a L := by
  rcases h with h | ⟨g, off, e, hg, h⟩
  · exact Or.inl h
  · exact Or.inr ⟨g, off, e, by omega, fun j hj => hE _ _ _ (h j hj)⟩
theorem StB.up {b b' : Nat} {sv : SV} {x : Stm} {w : World} (h : StB b sv x w) (hb : b ≤ b') : StB b' sv x w := by
  refine ⟨h.kind, h.table, h.other, h.name, h.lim, ?_, ?_, ?_, ?_, ?_, h.on.up hb, h.wh.up hb, h.grp.up hb⟩
  · obtain ⟨a, c, e, r⟩ := h.cols; exact ⟨a, c, e, r.up hb (fun _ _ _ h => h)⟩
  · obtain ⟨a, c, e, r⟩ := h.rows; exact ⟨a, c, e, r.up hb (fun _ _ _ h => by obtain ⟨a, c, h1, h2⟩ := h; exact ⟨a, c, h1, h2.up hb⟩)⟩
  · obtain ⟨a, c, e, r⟩ := h.sets; exact ⟨a, c, e, r.up hb (fun _ _ _ h => by obtain ⟨p, h1, h2⟩ := h; exact ⟨p, h1, h2.up hb⟩)⟩
  · obtain ⟨a, c, e, r⟩ := h.items; exact ⟨a, c, e, r.up hb (fun _ _ _ h => by obtain ⟨p, h1, h2, h3⟩ := h; exact ⟨p, h1, h2, h3.up hb⟩)⟩
  · obtain ⟨a, c, e, r⟩ := h.ord; exact ⟨a, c, e, r.up hb (fun _ _ _ h => by obtain ⟨p, h1, h2, h3⟩ := h; exact ⟨p, h1, h2, h3.up hb⟩)⟩
theorem StB.rowsOk {b : Nat} {sv : SV} {x : Stm} {w : World} (h : StB b sv x w) : sv.Rows := by
  obtain ⟨a1, c1, e1, _⟩ := h.cols
  obtain ⟨a2, c2, e2, _⟩ := h.rows
  obtain ⟨a3, c3, e3, _⟩ := h.sets
  obtain ⟨a4, c4, e4, _⟩ := h.items
  obtain ⟨a5, c5, e5, _⟩ := h.ord
  exact ⟨⟨_, _, _, e1⟩, ⟨_, _, _, e2⟩, ⟨_, _, _, e3⟩, ⟨_, _, _, e4⟩, ⟨_, _, _, e5⟩⟩
end Go.Proofs.YtmabfbffpedfnaaGreatDoor
