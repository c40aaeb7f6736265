/- Part 36 of 39. -/
import Derived.Test.YtbdcbaamjkjhaaaGreatDoorG35
namespace Go.Proofs.YtbdcbaamjkjhaaaGreatDoor
open Go.RowKit

/-- what lies in memory ahead of reading and writing -/
structure BAt (w : World) : Prop where
  pa : PAt w
  g : GAt w
theorem BAt.below {w w' : World} (h : BAt w) (hb : Below w.heap.size w w') : BAt w' := ⟨h.pa.below hb, h.g.below hb h.g.lo⟩
/-- a statement that was read, in memory -/
structure PS (sv : SV) (st : Stm) (w : World) : Prop where
  sb : StB w.heap.size sv st w
  wh : ExAt w sv.wh st.wh
  on : ExAt w sv.on st.on
  grp : ExAt w sv.grp st.grp
theorem PS.of {N : Nat} {sv : SV} {st : Stm} {w : World} (h : SVIs N sv st w) : PS sv st w := ⟨StB.of h (Nat.le_refl _), exAt_of _ h.wh, exAt_of _ h.on, exAt_of _ h.grp⟩
theorem PS.below {sv : SV} {st : Stm} {w w' : World} (h : PS sv st w) (hb : Below w.heap.size w w') : PS sv st w' := ⟨(h.sb.keep hb).up hb.size, h.wh.below hb, h.on.below hb, h.grp.below hb⟩
def psT : ByteArray := ⟨#[100, 101, 108, 101, 116, 101, 32, 102, 114, 111, 109, 32, 116, 32, 119, 104, 101, 114, 101, 32, 40, 40, 40, 97, 41, 43, 40, 98, 42, 50, 41, 41, 32, 61, 32, 51, 41, 32, 97, 110, 100, 32, 110, 111, 116, 32, 40, 99, 32, 105, 115, 32, 110, 117, 108, 108, 41]⟩
def colE (n : ByteArray) : Ex := .node 2 .none n .nil .nil
def numE (n : Int) : Ex := .node 1 ⟨1, n, ⟨#[]⟩⟩ ⟨#[]⟩ .nil .nil
def ps0 : Stm := { ofS 5 ⟨#[116]⟩ with wh := .two 15 (.two 9 (.two 6 (colE ⟨#[97]⟩) (.two 8 (colE ⟨#[98]⟩) (numE 2))) (numE 3)) (.two 4 (.two 5 (colE ⟨#[99]⟩) .nil) .nil) }
theorem ps_read : parseS psT = some ps0 := by kernel_rfl
theorem ps_print : (⟨(stT ps0).toArray⟩ : ByteArray) = ⟨#[100, 101, 108, 101, 116, 101, 32, 102, 114, 111, 109, 32, 116, 32, 119, 104, 101, 114, 101, 32, 97, 32, 43, 32, 98, 32, 42, 32, 50, 32, 61, 32, 51, 32, 97, 110, 100, 32, 99, 32, 105, 115, 32, 110, 111, 116, 32, 110, 117, 108, 108]⟩ := by kernel_rfl
theorem ps_wrt : Wrt ps0 := read_ok (by decide) ps_read
/-- a statement that is stored -/
theorem stored_below (w : World) (sv : SV) : Below w.heap.size w ((w.alloc (.cells svZ.cells 30)).setCells w.heap.size 0 sv.cells.toList) := by
  have key : ∀ (l : List Value) (o : Nat) (u : World), Below w.heap.size w u → Below w.heap.size w (u.setCells w.heap.size o l) := by
    intro l
    induction l with
    | nil => intro o u h; exact h
    | cons v l ih => intro o u h; exact ih (o + 1) _ (h.setCell (Nat.le_refl _) _)
  exact key _ _ _ ((Below.refl _ _).alloc (Nat.le_refl _) _)
theorem wpList_load_want {ops : Array Oper} {rest : List Oper} {op : Oper} {a : Act} {w : World} {Q : Exit → Act → World → Prop} (hw : Region.wanted op (yielded ops a.tmps) = true) (ty : TypeId) (x : Operand) (ho : op.op = .load ty x)
    (b o : Nat) (hx : a.eval x = .pointer (some ⟨b, o, none⟩)) (cs : List Value) (d : TypeDesc) (hc : w.rangeAt b o cs)
    (hu : Tryz.prog.underlying ty = some d) (hd : d.isRow = true) (hi : (Tryz.prog.info? ty).map (·.size) = some cs.length)
    (h : wpList Tryz.prog ops Q rest (a.put op.dst (.agg cs.toArray)) w) : wpList Tryz.prog ops Q (op :: rest) a w :=
  BigFrame.wpList_want hw fun _ hK => wp_load_mid ty x ho b o hx cs d hc hu hd hi (hK _ _ h)
set_option maxRecDepth 100000 in
set_option maxHeartbeats 4000000 in
theorem parsed_any (w : World) (h : BAt w) : Calls Tryz.prog 6 #[] w fun e w' => e = .returned (.bool true) ∧ Below w.heap.size w w' := by
  have H : Hid (BAt w) := h
  clear h
  go_enter Tryz.func6, Tryz.ntmps6
  go_wp2_with fail
  refine (parse_any psT w (by decide) H.out.pa).mono ?_
  rintro _ w1 ⟨hb, sv, E, rfl, ⟨st, hp, rfl, hv⟩ | ⟨hn, _⟩⟩
  · obtain rfl : st = ps0 := by rw [ps_read] at hp; exact (Option.some.inj hp).symm
    obtain ⟨V, hV⟩ : ∃ V, (w1.alloc (.cells #[.int .i64 0, .string ⟨#[]⟩, .string ⟨#[]⟩, .slice none 0 0, .string ⟨#[]⟩, .slice none 0 0, .slice none 0 0, .pointer none, .pointer none, .slice none 0 0, .pointer none, .slice none 0 0, .int .i64 0] 30)).setCells w1.heap.size 0 sv.cells.toList = V := ⟨_, rfl⟩
    have hkA : Blk w1.heap.size svZ.cells 30 (w1.alloc (.cells #[.int .i64 0, .string ⟨#[]⟩, .string ⟨#[]⟩, .slice none 0 0, .string ⟨#[]⟩, .slice none 0 0, .slice none 0 0, .pointer none, .pointer none, .slice none 0 0, .pointer none, .slice none 0 0, .int .i64 0] 30)) := Blk.new _ _ _
    have hbV : Below w1.heap.size w1 V := by rw [← hV]; exact stored_below w1 sv
    have HKA : Hid (Blk w1.heap.size svZ.cells 30 (w1.alloc (.cells #[.int .i64 0, .string ⟨#[]⟩, .string ⟨#[]⟩, .slice none 0 0, .string ⟨#[]⟩, .slice none 0 0, .slice none 0 0, .pointer none, .pointer none, .slice none 0 0, .pointer none, .slice none 0 0, .int .i64 0] 30)) ∧ sv.Rows) := ⟨hkA, hv.rowsOk⟩
    have HV : Hid (Blk w1.heap.size sv.cells 30 V ∧ BAt V ∧ PS sv ps0 V ∧ Below w.heap.size w V ∧ w1.heap.size < V.heap.size) := by
      have hk : Blk w1.heap.size sv.cells 30 V := by rw [← hV]; exact hkA.stored
      exact ⟨hk, (H.out.below hb).below hbV, (PS.of hv).below hbV, hb.trans (hbV.mono hb.size), (Array.getElem?_eq_some_iff.1 hk).1⟩
    clear hb hp hv hkA hbV
    go_wp2_with (first | (refine wpList_store_mid rfl 30 _ _ rfl _ 0 sv.cells rfl rfl (HKA.out.1.there rfl) (s30 _) HKA.out.2.one ?_; rw [hV]) | (refine wpList_load_want (by rfl) 30 _ rfl _ 0 rfl sv.cells.toList _ HV.out.1.range Tryz.underlying30 rfl (s30 sv) ?_))
    clear HKA
    have hp := print_any ps0 ps_wrt.k1 ps_wrt.k10 ps_wrt.ok ps_wrt.ne (Nat.le_trans ps_wrt.len (by decide)) sv V HV.out.2.1.g HV.out.2.2.1.sb
    rw [ps_print] at hp
    refine hp.mono ?_
    clear hp
    rintro _ w2 ⟨rfl, hb⟩
    obtain ⟨B, pa, pb, e8, hlt, hc, _, _⟩ := HV.out.2.2.1.wh
    have z8 : w2.cell? ⟨w1.heap.size, 8, none⟩ = some (.pointer (some ⟨B, 0, none⟩)) := by rw [hb.cell (p := ⟨w1.heap.size, 8, none⟩) HV.out.2.2.2.2, HV.out.1.cell 8, ← e8]; rfl
    have zB : w2.cell? ⟨B, 0, none⟩ = some (.int .i64 15) := by rw [hb.cell (p := ⟨B, 0, none⟩) hlt]; exact hc.1
    have HE : Hid (Below w.heap.size w w2) := HV.out.2.2.2.1.trans (hb.mono HV.out.2.2.2.1.size)
    clear hb e8 hlt hc
    go_wp2
    go_ret
    exact ⟨rfl, HE.out⟩
  · rw [ps_read] at hn; cases hn
end Go.Proofs.YtbdcbaamjkjhaaaGreatDoor
