/- Texts of the proof of FinderPlays: Gmy, Gpl, Gbg, Glf. -/
import Derived.Test.YtabcficlnhajeaaGreatDoorF23
import Derived.Sort.OwnSorted
import Derived.Maps.Own
import Derived.Maps.OwnOps
import Derived.Maps.OwnSet
import Derived.Maps.Ext
import Derived.StringKeys
namespace Go.Proofs.YtabcficlnhajeaaGreatDoor
open Go.RowKit Go.Maps

set_option maxRecDepth 100000 in
set_option maxHeartbeats 1000000 in
theorem many_cl {B : Nat} {s n c : Nat} {nm wd : ByteArray} {a : Option Addr} (w : World) (h : Own1 B (.int .i64 (s : Nat)) w) (hs : s ≤ 1000000) (hn : n ≤ 1000000) :
    Calls Tryz.prog 44 #[.agg #[.string nm, .string wd, .slice a n c], .pointer (some ⟨B, 0, none⟩)] w fun e w' => e = .returned (.tuple #[]) ∧ Own1 B (.int .i64 ((s + n : Nat) : Int)) w' ∧ Only (fun b => b = B) w w' := by
  have hlt := h.lt
  have hbB : Below w.heap.size w (w.alloc (.cells #[.string nm, .string wd, .slice a n c] 105)) := (Below.refl _ w).alloc (Nat.le_refl _) _
  have HV : Hid (VarN w.heap.size [.string nm, .string wd, .slice a n c] (w.alloc (.cells #[.string nm, .string wd, .slice a n c] 105))) := VarN.new w #[.string nm, .string wd, .slice a n c] 105 (by simp)
  have HO : Hid (Own1 B (.int .i64 (s : Nat)) (w.alloc (.cells #[.string nm, .string wd, .slice a n c] 105))) := h.below hbB
  have HO0 : Hid (Own1 B (.int .i64 (s : Nat)) w) := h
  have c0 := HO.out.cell
  have c1 := HV.out.c3.2.2
  have hwp : IntKind.i64.wrap ((s : Int) + (n : Int)) = ((s + n : Nat) : Int) := by rw [wraps_i64 _ (by omega) (by omega)]; omega
  have hf0 := HO.out.free
  clear h hbB
  go_enter Tryz.func44, Tryz.ntmps44
  go_wp2
  go_end0
  refine ⟨rfl, ?_, ?_⟩
  · rw [Int.natCast_add]
    exact (HO0.out.set _).below ((Below.refl _ _).alloc (Nat.le_refl _) _)
  · exact (Only.set B 0 _ _).trans (below_only ((Below.refl _ _).alloc (Nat.le_refl _) _) (fun _ => False)) (fun _ e => e.elim)
section
variable {bf bt bp bd bm N : Nat} {up : Nat → Bool} {V : Pst} {T : Tr} {w : World} {L : List Pc}
theorem pfx_nil (k : Nat) (x : ByteArray) : pfx ⟨#[]⟩ k x = true := by
  unfold pfx Lib.hasPrefix
  rfl
set_option maxRecDepth 100000 in
set_option maxHeartbeats 1000000 in
theorem many_any (h : Fs bf bt bp bd bm N up V T w) {m : Int} (hm : w.cell? ⟨2, 0, none⟩ = some (.int .i64 m)) (hL : ∀ c ∈ L, c.Ok) (hps : T.all = L.map Pc.pr) (hLl : L.length ≤ 10000) :
    Calls Tryz.prog 19 #[.pointer (some ⟨bf, 0, none⟩)] w fun e w' => e = .returned (.tuple #[.int .i64 (cntL L : Nat), .nilIface]) ∧ Below w.heap.size w w' := by
  have hbB : Below w.heap.size w (w.alloc (.cells #[.int .i64 0] 3)) := (Below.refl _ w).alloc (Nat.le_refl _) _
  have hO0 : Own1 w.heap.size (.int .i64 ((0 : Nat) : Int)) (w.alloc (.cells #[.int .i64 0] 3)) := Own1.new w _ _
  have hmf : ∀ (fn : Fn) (first cap : Array Value) (w : World), (Instr.makeFunc fn first cap).run Tryz.prog w = .ok (.func fn first cap) w := fun _ _ _ _ => rfl
  have hcnt := cntL_le hL
  have hwk : walkL (pfx ⟨#[]⟩) ⟨#[]⟩ 0 T.all = L.map Pc.pr := by
    rw [walkP ⟨#[]⟩ T.all 0 h.sorted, ← hps]
    exact List.filter_eq_self.2 (fun x _ => pfx_nil 0 x.k)
  have hm2 : 2 < w.heap.size := World.block_lt_of_cell? _ _ hm
  have HLK : Hid (Calls Tryz.prog 43 #[.pointer (some ⟨bf, 0, none⟩), .string ⟨#[]⟩, .func (.func 44) #[] #[.pointer (some ⟨w.heap.size, 0, none⟩)]] (w.alloc (.cells #[.int .i64 0] 3)) fun e w' => e = .returned .nilIface ∧ (∃ B, (w.alloc (.cells #[.int .i64 0] 3)).heap.size ≤ B ∧ Own1 w.heap.size (.int .i64 (cntL (L.take L.length) : Nat)) w') ∧ Only (fun b => b = w.heap.size) (w.alloc (.cells #[.int .i64 0] 3)) w') := by
    refine look_any (I := fun _ k wx => Own1 w.heap.size (.int .i64 (cntL (L.take k) : Nat)) wx) (h.below hbB) (keepc hbB hm) ⟨#[]⟩ hL hwk hLl (fun b e => ?_) (enters_of Tryz.func44 (by kernel_rfl) rfl) (fun B wx h1 h2 h3 => hO0.below h3) (fun B k hk v wr wx h1 h2 h3 h4 h5 => ?_)
    · subst e; rw [World.size_alloc]; exact ⟨by omega, by omega⟩
    · obtain ⟨a5, c5, rfl⟩ := row_slice h5
      have hc2 := cntL_le (L := L.take k) (fun c hc => hL c (List.mem_of_mem_take hc))
      rw [List.length_take] at hc2
      have hl5 := (hL L[k] (List.getElem_mem hk)).len
      refine (many_cl wx (h3.below h4) (by omega) (by omega)).mono ?_
      rintro e w' ⟨rfl, g1, g2⟩
      refine ⟨rfl, ?_, g2.mono (fun _ e => .inl e)⟩
      show Own1 _ _ _
      rw [cntL_take hk]; exact g1
  have HB : Hid _ := hbB
  clear hbB hO0 hm hL hps hwk h
  rw [List.take_length] at HLK
  go_enter Tryz.func19, Tryz.ntmps19
  go_wp2_with fail
  refine (show Calls _ _ _ _ _ from HLK.out).mono ?_
  rintro _ w2 ⟨rfl, ⟨B, _, hO⟩, ho⟩
  have HB2 : Hid (Below w.heap.size w w2) := Only.below HB.out ho (by rw [World.size_alloc]; omega) (fun b e => by omega)
  have c0 := hO.cell
  clear hO ho
  go_wp2
  go_ret2
  exact ⟨rfl, HB2.out⟩
end
end Go.Proofs.YtabcficlnhajeaaGreatDoor
namespace Go.Proofs.YtabcficlnhajeaaGreatDoor
open Go.RowKit Go.Maps

/-- where a word stands -/
def plsW (nm wd : ByteArray) : List Pc → List Pl
  | [] => []
  | c :: l => if c.n = nm ∧ c.w = wd then c.l ++ plsW nm wd l else plsW nm wd l
theorem plsW_append (nm wd : ByteArray) : ∀ (a b : List Pc), plsW nm wd (a ++ b) = plsW nm wd a ++ plsW nm wd b
  | [], b => by simp [plsW]
  | c :: a, b => by
    rw [List.cons_append, plsW, plsW, plsW_append nm wd a b]
    split
    · rw [List.append_assoc]
    · rfl
theorem plsW_take (nm wd : ByteArray) {L : List Pc} {k : Nat} (hk : k < L.length) : plsW nm wd (L.take (k + 1)) = plsW nm wd (L.take k) ++ (if L[k].n = nm ∧ L[k].w = wd then L[k].l else []) := by
  rw [List.take_succ_eq_append_getElem hk, plsW_append]
  congr 1
  simp only [plsW]
  split <;> simp
theorem plsW_len (nm wd : ByteArray) : ∀ (L : List Pc), (plsW nm wd L).length ≤ cntL L
  | [] => by simp [plsW]
  | c :: l => by
    have := plsW_len nm wd l
    unfold plsW cntL
    split
    · rw [List.length_append]; omega
    · omega
theorem str_neq {a b : ByteArray} (h : ¬ a = b) : (a.toList == b.toList) = false := by
  rw [beq_eq_false_iff_ne, ByteArray.toList_eq, ByteArray.toList_eq]
  exact fun e => h (ba_ext e)
/-- a slice of places in a variable -/
def PlV (B C : Nat) (xs : List Pl) (w : World) : Prop := ∃ v, Own1 C v w ∧ w.ownsRow B 66 2 v xs.length (plc xs)
set_option maxRecDepth 100000 in
set_option maxHeartbeats 1000000 in
theorem places_no {Bn Bw Bl : Nat} {n c : Nat} {nm wd wc : ByteArray} {a : Option Addr} (w : World) (h1 : Own1 Bn (.string nm) w) (h2 : Own1 Bw (.string wd) w) (hne : ¬ wc = wd) :
    Calls Tryz.prog 57 #[.agg #[.string nm, .string wc, .slice a n c], .pointer (some ⟨Bn, 0, none⟩), .pointer (some ⟨Bw, 0, none⟩), .pointer (some ⟨Bl, 0, none⟩)] w fun e w' => e = .returned (.tuple #[]) ∧ Below w.heap.size w w' := by
  have hbB : Below w.heap.size w (w.alloc (.cells #[.string nm, .string wc, .slice a n c] 105)) := (Below.refl _ w).alloc (Nat.le_refl _) _
  have HV : Hid (VarN w.heap.size [.string nm, .string wc, .slice a n c] (w.alloc (.cells #[.string nm, .string wc, .slice a n c] 105))) := VarN.new w #[.string nm, .string wc, .slice a n c] 105 (by simp)
  have c0 := (h1.below hbB).cell
  have c1 := (h2.below hbB).cell
  have d0 := HV.out.c3.1
  have d1 := HV.out.c3.2.1
  have l1 := h1.lt
  have l2 := h2.lt
  have HB : Hid _ := hbB
  have hq := str_neq hne
  clear h1 h2 hbB
  go_enter Tryz.func57, Tryz.ntmps57
  go_wp2
  go_end0
  exact ⟨rfl, HB.out⟩
set_option maxRecDepth 100000 in
set_option maxHeartbeats 1000000 in
theorem places_far {Bn Bw Bl : Nat} {n c : Nat} {nm nc wd wc : ByteArray} {a : Option Addr} (w : World) (h1 : Own1 Bn (.string nm) w) (h2 : Own1 Bw (.string wd) w) (hne : ¬ nc = nm) :
    Calls Tryz.prog 57 #[.agg #[.string nc, .string wc, .slice a n c], .pointer (some ⟨Bn, 0, none⟩), .pointer (some ⟨Bw, 0, none⟩), .pointer (some ⟨Bl, 0, none⟩)] w fun e w' => e = .returned (.tuple #[]) ∧ Below w.heap.size w w' := by
  have hbB : Below w.heap.size w (w.alloc (.cells #[.string nc, .string wc, .slice a n c] 105)) := (Below.refl _ w).alloc (Nat.le_refl _) _
  have HV : Hid (VarN w.heap.size [.string nc, .string wc, .slice a n c] (w.alloc (.cells #[.string nc, .string wc, .slice a n c] 105))) := VarN.new w #[.string nc, .string wc, .slice a n c] 105 (by simp)
  have c0 := (h1.below hbB).cell
  have c1 := (h2.below hbB).cell
  have d0 := HV.out.c3.1
  have d1 := HV.out.c3.2.1
  have l1 := h1.lt
  have l2 := h2.lt
  have HB : Hid _ := hbB
  have hq := str_neq hne
  clear h1 h2 hbB
  go_enter Tryz.func57, Tryz.ntmps57
  go_wp2
  go_end0
  exact ⟨rfl, HB.out⟩
set_option maxRecDepth 100000 in
set_option maxHeartbeats 1000000 in
theorem places_yes {B Bn Bw Bl B5 : Nat} {nm wd : ByteArray} {v : Value} {xs ys : List Pl} (w : World) (h1 : Own1 Bn (.string nm) w) (h2 : Own1 Bw (.string wd) w) (h3 : PlV B Bl xs w) (hlB : Bl < B) (hv : w.ownsRow B5 66 2 v ys.length (plc ys)) (hpos : 0 < ys.length) (hl : xs.length + ys.length ≤ 1000000) (hB2 : B ≤ w.heap.size) :
    Calls Tryz.prog 57 #[.agg #[.string nm, .string wd, v], .pointer (some ⟨Bn, 0, none⟩), .pointer (some ⟨Bw, 0, none⟩), .pointer (some ⟨Bl, 0, none⟩)] w fun e w' => e = .returned (.tuple #[]) ∧ PlV B Bl (xs ++ ys) w' ∧ Only (fun b => b = Bl ∨ B ≤ b) w w' := by
  obtain ⟨u, u1, u2⟩ := h3
  obtain ⟨i0, hi0, hz0, hz1, hz2⟩ := pinfo_parts infoPl
  obtain ⟨n, hn⟩ : ∃ n, ys.length = n := ⟨_, rfl⟩
  have HN : Hid _ := hn
  rw [hn] at hv hpos hl
  obtain ⟨g5, cap5, rfl, k1, k2⟩ := World.ownsRow.form hv hpos
  have hbB : Below w.heap.size w (w.alloc (.cells #[.string nm, .string wd, .slice (some ⟨g5, 0, none⟩) n cap5] 105)) := (Below.refl _ w).alloc (Nat.le_refl _) _
  have HV : Hid (VarN w.heap.size [.string nm, .string wd, .slice (some ⟨g5, 0, none⟩) n cap5] (w.alloc (.cells #[.string nm, .string wd, .slice (some ⟨g5, 0, none⟩) n cap5] 105))) := VarN.new w #[.string nm, .string wd, .slice (some ⟨g5, 0, none⟩) n cap5] 105 (by simp)
  have HU1 : Hid (Own1 Bl u (w.alloc (.cells #[.string nm, .string wd, .slice (some ⟨g5, 0, none⟩) n cap5] 105))) := u1.below hbB
  have HU2 : Hid ((w.alloc (.cells #[.string nm, .string wd, .slice (some ⟨g5, 0, none⟩) n cap5] 105)).ownsRow B 66 2 u xs.length (plc xs)) := row_below u2 hbB
  have HS : Hid ((w.alloc (.cells #[.string nm, .string wd, .slice (some ⟨g5, 0, none⟩) n cap5] 105)).ownsRow B5 66 2 (.slice (some ⟨g5, 0, none⟩) n cap5) n (plc ys)) := row_below hv hbB
  have c0 := (h1.below hbB).cell
  have c1 := (h2.below hbB).cell
  have c2 := HU1.out.cell
  have d0 := HV.out.c3.1
  have d1 := HV.out.c3.2.1
  have d2 := HV.out.c3.2.2
  have l1 := h1.lt
  have l2 := h2.lt
  have l3 := u1.lt
  have HB : Hid _ := hbB
  clear h1 h2 hbB u1 u2 hv hn
  go_enter Tryz.func57, Tryz.ntmps57
  go_wp2_with (at_builtin; refine wpList_append_lies _ rfl _ _ 72 rfl B 66 i0 (.agg #[.int .i64 0, .int .i64 0]) 2 16 Tryz.underlying72 hi0 hz0 hz1 hz2 rfl (by decide) _ _ _ rfl HU2.out ⟨g5, 0, none⟩ n cap5 (plc ys) rfl (by rw [plc_length, HN.out]) (fun j u hu => HS.out.cells rfl j u hu) (plc_one ys) hpos (by simp only [maxLen]; omega) (by omega) (by rw [World.size_alloc]; omega) _ rfl ?_; intro g' cap' w' hO hG hat hlt'; have hU9 : Own1 Bl u w' := HU1.out.block (hG.block Bl HU1.out.lt (fun e => by have := (World.ownsRow.lt HU2.out Bl e.symm).1; omega)); have f9 := hU9.free; have c9 := hU9.cell)
  go_end0
  refine ⟨rfl, ⟨_, hU9.set _, ?_⟩, ?_⟩
  · rw [List.length_append, HN.out, plc_append]
    exact row_far hO (by omega)
  · have e1 : Only (fun b => b = Bl ∨ B ≤ b) w w' := (below_only HB.out _).trans (grown_only (S := fun b => b = Bl ∨ B ≤ b) hG (fun k e => .inr (World.ownsRow.lt HU2.out k e).1)) (fun _ e => .inl e)
    exact e1.trans (Only.set Bl 0 _ _) (fun _ e => .inl (.inl e))
/-- what its keys begin with -/
def begW (nm wd : ByteArray) : ByteArray := startF nm wd ++ ⟨#[0]⟩
theorem begW_pfx (c : Pc) : pfx (begW c.n c.w) 0 c.pr.k = true := by
  unfold pfx Lib.hasPrefix
  refine List.isPrefixOf_iff_prefix.2 ⟨rowB c.r, ?_⟩
  show (begW c.n c.w).data.toList ++ rowB c.r = (keyF c.n c.w c.r).data.toList
  rw [keyF_list]
  simp [begW, startF]
theorem plsW_filter (nm wd : ByteArray) : ∀ (L : List Pc), plsW nm wd (L.filter (fun c => pfx (begW nm wd) 0 c.pr.k)) = plsW nm wd L
  | [] => rfl
  | c :: l => by
    rw [List.filter_cons]
    by_cases h : c.n = nm ∧ c.w = wd
    · have hb : pfx (begW nm wd) 0 c.pr.k = true := by rw [← h.1, ← h.2]; exact begW_pfx c
      rw [hb, if_pos rfl, plsW, plsW, if_pos h, if_pos h, plsW_filter nm wd l]
    · rw [plsW, if_neg h]
      split
      · rw [plsW, if_neg h, plsW_filter nm wd l]
      · exact plsW_filter nm wd l
section
variable {bf bt bp bd bm N : Nat} {up : Nat → Bool} {V : Pst} {T : Tr} {w : World} {L : List Pc}
set_option maxRecDepth 100000 in
set_option maxHeartbeats 1000000 in
theorem places_any (h : Fs bf bt bp bd bm N up V T w) {m : Int} (hm : w.cell? ⟨2, 0, none⟩ = some (.int .i64 m)) (hL : ∀ c ∈ L, c.Ok) (hps : T.all = L.map Pc.pr) (hLl : L.length ≤ 10000) (nm wd : ByteArray) (hnm : nm.size ≤ 100) (hwd : wd.size ≤ 100) :
    Calls Tryz.prog 26 #[.pointer (some ⟨bf, 0, none⟩), .string nm, .string wd] w fun e w' => ∃ v, e = .returned (.tuple #[v, .nilIface]) ∧ w'.ownsRow w.heap.size 66 2 v (plsW nm wd L).length (plc (plsW nm wd L)) ∧ Below w.heap.size w w' := by
  obtain ⟨w0, hw0⟩ : ∃ w0, ((w.alloc (.cells #[.string nm] 9)).alloc (.cells #[.string wd] 9)).alloc (.cells #[.slice none 0 0] 72) = w0 := ⟨_, rfl⟩
  have hbB : Below w.heap.size w w0 := by rw [← hw0]; exact (((Below.refl _ w).alloc (Nat.le_refl _) _).alloc (by simp) _).alloc (by simp only [World.size_alloc]; omega) _
  have hsz : w0.heap.size = w.heap.size + 3 := by rw [← hw0]; simp
  have o1 : Own1 w.heap.size (.string nm) w0 := by
    rw [← hw0]
    exact ((Own1.new w (.string nm) 9).below ((Below.refl _ _).alloc (Nat.le_refl _) _)).below ((Below.refl _ _).alloc (Nat.le_refl _) _)
  have o2 : Own1 (w.heap.size + 1) (.string wd) w0 := by
    rw [← hw0]
    have := Own1.new (w.alloc (.cells #[.string nm] 9)) (.string wd) 9
    rw [World.size_alloc] at this
    exact this.below ((Below.refl _ _).alloc (Nat.le_refl _) _)
  have o3 : Own1 (w.heap.size + 2) (.slice none 0 0) w0 := by
    rw [← hw0]
    have := Own1.new ((w.alloc (.cells #[.string nm] 9)).alloc (.cells #[.string wd] 9)) (.slice none 0 0) 72
    rw [World.size_alloc, World.size_alloc] at this
    exact this
  have hmf : ∀ (fn : Fn) (first cap : Array Value) (w : World), (Instr.makeFunc fn first cap).run Tryz.prog w = .ok (.func fn first cap) w := fun _ _ _ _ => rfl
  have hm2 : 2 < w.heap.size := World.block_lt_of_cell? _ _ hm
  have hwk : walkL (pfx (begW nm wd)) (begW nm wd) 0 T.all = (L.filter (fun c => pfx (begW nm wd) 0 c.pr.k)).map Pc.pr := by
    rw [walkP (begW nm wd) T.all 0 h.sorted, hps, List.filter_map]
    rfl
  have hpf := plsW_filter nm wd L
  have hcnt := cntL_le hL
  have hlen := plsW_len nm wd L
  have hLf : ∀ c ∈ L.filter (fun c => pfx (begW nm wd) 0 c.pr.k), c.Ok := fun c hc => hL c ((List.mem_filter.1 hc).1)
  have hLfl : (L.filter (fun c => pfx (begW nm wd) 0 c.pr.k)).length ≤ 10000 := Nat.le_trans (List.length_filter_le _ _) hLl
  generalize L.filter (fun c => pfx (begW nm wd) 0 c.pr.k) = L' at *
  have HLK : Hid (Calls Tryz.prog 43 #[.pointer (some ⟨bf, 0, none⟩), .string (begW nm wd), .func (.func 57) #[] #[.pointer (some ⟨w.heap.size, 0, none⟩), .pointer (some ⟨w.heap.size + 1, 0, none⟩), .pointer (some ⟨w.heap.size + 2, 0, none⟩)]] w0 fun e w' => e = .returned .nilIface ∧ (∃ B, w0.heap.size ≤ B ∧ (Own1 w.heap.size (.string nm) w' ∧ Own1 (w.heap.size + 1) (.string wd) w' ∧ PlV B (w.heap.size + 2) (plsW nm wd (L'.take L'.length)) w')) ∧ Only (fun b => b = w.heap.size + 2) w0 w') := by
    refine look_any (I := fun B k wx => Own1 w.heap.size (.string nm) wx ∧ Own1 (w.heap.size + 1) (.string wd) wx ∧ PlV B (w.heap.size + 2) (plsW nm wd (L'.take k)) wx) (h.below hbB) (keepc hbB hm) (begW nm wd) hLf hwk hLfl (fun b e => ?_) (enters_of Tryz.func57 (by kernel_rfl) rfl) (fun B wx h1 h2 h3 => ⟨o1.below h3, o2.below h3, _, o3.below h3, World.ownsRow_nil _ _ _ _⟩) (fun B k hk v wr wx h1 h2 h3 h4 h5 => ?_)
    · subst e; exact ⟨by omega, by omega⟩
    · obtain ⟨j1, j2, v3, j3, j4⟩ := h3
      have hok := hLf L'[k] (List.getElem_mem hk)
      have hsb := h4.size
      have hlk : (plsW nm wd (L'.take k)).length ≤ 200000 := by
        have a1 := plsW_len nm wd (L'.take k)
        have a2 := cntL_le (L := L'.take k) (fun c hc => hLf c (List.mem_of_mem_take hc))
        rw [List.length_take] at a2
        omega
      by_cases hw : L'[k].n = nm ∧ L'[k].w = wd
      · refine (show Calls _ _ _ _ _ from ?_).mono (fun e w' hh => hh)
        have hl20 := hok.len
        have := places_yes (Bl := w.heap.size + 2) wx (j1.below h4) (j2.below h4) ⟨v3, j3.below h4, row_below j4 h4⟩ (by omega) h5 hok.pos (by omega) (by omega)
        rw [hw.1, hw.2]
        refine this.mono ?_
        rintro e w' ⟨rfl, g1, g2⟩
        refine ⟨rfl, ⟨(j1.below h4).only g2 (by omega), (j2.below h4).only g2 (by omega), ?_⟩, g2.mono (fun _ e => e)⟩
        rw [plsW_take nm wd hk, if_pos hw]
        exact g1
      · obtain ⟨a5, c5, rfl⟩ := row_slice h5
        refine (show Calls _ _ _ _ (fun e w' => e = .returned (.tuple #[]) ∧ Below wx.heap.size wx w') from by
          by_cases hn : L'[k].n = nm
          · rw [hn]; exact places_no (Bl := w.heap.size + 2) wx (j1.below h4) (j2.below h4) (fun e => hw ⟨hn, e⟩)
          · exact places_far (Bl := w.heap.size + 2) wx (j1.below h4) (j2.below h4) hn).mono ?_
        rintro e w' ⟨rfl, g1⟩
        refine ⟨rfl, ⟨(j1.below h4).below g1, (j2.below h4).below g1, ?_⟩, below_only g1 _⟩
        rw [plsW_take nm wd hk, if_neg hw, List.append_nil]
        exact ⟨v3, (j3.below h4).below g1, row_below (row_below j4 h4) g1⟩
  have HB : Hid _ := hbB
  have HSZ : Hid _ := hsz
  rw [List.take_length, hpf] at HLK
  have c1 := o1.cell
  have c2 := o2.cell
  have hadd := str_long (startF nm wd) ⟨#[0]⟩ (by rw [startF_size]; show nm.size + 1 + wd.size + 1 ≤ _; omega)
  have HSA : Hid _ := startF_any nm wd (by omega) (by omega)
  rw [show startF nm wd ++ ⟨#[0]⟩ = begW nm wd from rfl] at hadd
  clear hbB o1 o2 o3 hm hL hps hwk h hpf hcnt hlen hLf hLfl hsz
  go_enter Tryz.func26, Tryz.ntmps26
  go_wp2_with fail
  refine (show Calls _ _ _ _ _ from HSA.out w0).mono ?_
  rintro _ w9 ⟨rfl, h9⟩
  obtain rfl := h9.symm
  clear h9
  go_wp2_with fail
  refine (show Calls _ _ _ _ _ from HLK.out).mono ?_
  rintro _ w2 ⟨rfl, ⟨B, hB0, _, _, v, hO, hR⟩, ho⟩
  have HB2 : Hid (Below w.heap.size w w2) := Only.below HB.out ho HB.out.size (fun b e => by omega)
  have HR : Hid (w2.ownsRow w.heap.size 66 2 v (plsW nm wd L).length (plc (plsW nm wd L))) := row_base hR (by have := HSZ.out; omega)
  have c0 : w2.cell? ⟨w.heap.size + 1 + 1, 0, none⟩ = some v := hO.cell
  clear hO ho hR
  go_wp2
  go_ret2
  exact ⟨_, rfl, HR.out, HB2.out⟩
end
end Go.Proofs.YtabcficlnhajeaaGreatDoor
namespace Go.Proofs.YtabcficlnhajeaaGreatDoor
open Go.RowKit Go.Maps

theorem row_cut {w : World} {B g n k cap : Nat} {e : TypeId} {xs : List Value} (h : w.ownsRow B e 1 (.slice (some ⟨g, 0, none⟩) n cap) n xs) (hk : k ≤ n) : w.ownsRow B e 1 (.slice (some ⟨g, 0, none⟩) k cap) k (xs.take k) := by
  refine ⟨by rw [List.length_take, h.1]; omega, .inr ?_⟩
  rcases h.2 with ⟨e1, _⟩ | ⟨g', cap', cur, e1, h1, h2, h3, h4, h5, h6⟩
  · cases e1
  · cases e1
    refine ⟨g, cap, cur, rfl, h1, h2, by omega, h4, h5, ?_⟩
    rw [← h6, List.take_take]
    congr 1
    omega
theorem compact_le {α : Type} [Inhabited α] [DecidableEq α] (zs : List α) : (Lib.compact zs).length ≤ zs.length := by
  unfold Lib.compact Lib.compactUpTo
  rw [List.length_map]
  exact Nat.le_trans (List.length_filter_le _ _) (by rw [List.length_range]; exact Nat.le_refl _)
theorem compact_any {B : Nat} {v : Value} {w : World} {zs : List (List UInt8)} (h : w.ownsRow B 9 1 v zs.length (zs.map encStr)) :
    Calls Tryz.prog 61 #[v] w fun e w' => ∃ v', e = .returned v' ∧ w'.ownsRow B 9 1 v' (Lib.compact zs).length ((Lib.compact zs).map encStr) ∧ Only (fun b => B ≤ b) w w' := by
  rcases h.2 with ⟨rfl, h0⟩ | ⟨g, cap, cur, rfl, h1, h2, h3, h4, h5, h6⟩
  · have : zs = [] := List.length_eq_zero_iff.1 h0
    subst this
    refine (Tryz.slices_Compact_string_empty none 0 w).mono ?_
    rintro _ _ ⟨rfl, rfl⟩
    exact ⟨_, rfl, World.ownsRow_nil _ _ _ _, Only.refl _ _⟩
  · rw [Nat.mul_one] at h6
    refine (Tryz.slices_Compact_string g 0 cap zs w (holds_of_block h2 h6) (row_max h) h3).mono ?_
    have hcl := compact_le zs
    rintro _ _ ⟨rfl, q, rfl⟩
    have hg : ∀ x : World, x = Go.Sort.grow x #[] := fun x => by simp [Go.Sort.grow]
    rw [hg (Go.Sort.putRow _ _ _ _ _)]
    refine ⟨_, rfl, ?_, ?_⟩
    · have ho := ownsRow_sorted (w := w) (base := B) (g := g) (cap := cap) (n := q) (os := #[]) (ss := zs) (ts := Lib.compact zs ++ List.replicate (zs.length - (Lib.compact zs).length) []) (by rw [List.length_append, List.length_replicate]; omega) h1 h2 h3 h4 h5
      have := row_cut ho hcl
      rw [List.map_append, List.take_left' (by rw [List.length_map])] at this
      exact this
    · exact grown_only (grownBy_sorted _) (fun b e => by cases e; exact h1)
/-- words, each once -/
def cmpW (ws : List ByteArray) : List ByteArray := (Lib.compact (ws.map (fun w => w.data.toList))).map (fun l => ⟨l.toArray⟩)
/-- the words of a name that begin so -/
def isB (nm s : ByteArray) (c : Pc) : Bool := decide (c.n = nm) && Lib.hasPrefix c.w.data.toList s.data.toList
def begW' (nm s : ByteArray) (L : List Pc) : List ByteArray := (L.filter (isB nm s)).map Pc.w
theorem begW_take (nm s : ByteArray) {L : List Pc} {k : Nat} (hk : k < L.length) : begW' nm s (L.take (k + 1)) = begW' nm s (L.take k) ++ (if isB nm s L[k] = true then [L[k].w] else []) := by
  unfold begW'
  rw [List.take_succ_eq_append_getElem hk, List.filter_append, List.map_append]
  congr 1
  rw [List.filter_cons]
  split <;> simp
theorem begW_len (nm s : ByteArray) (L : List Pc) : (begW' nm s L).length ≤ L.length := by
  unfold begW'
  rw [List.length_map]
  exact List.length_filter_le _ _
def SlV (B C : Nat) (xs : List ByteArray) (w : World) : Prop := ∃ v, Own1 C v w ∧ w.ownsRow B 9 1 v xs.length (sc xs)
set_option maxRecDepth 100000 in
set_option maxHeartbeats 1000000 in
theorem begin_yes {B Bn Bs Bl n c : Nat} {nm ss wd : ByteArray} {a : Option Addr} {xs : List ByteArray} (w : World) (h1 : Own1 Bn (.string nm) w) (h2 : Own1 Bs (.string ss) w) (hpf : Lib.hasPrefix wd.data.toList ss.data.toList = true) (h3 : SlV B Bl xs w) (hlB : Bl < B) (hl : xs.length ≤ 1000000) (hB2 : B ≤ w.heap.size) :
    Calls Tryz.prog 59 #[.agg #[.string nm, .string wd, .slice a n c], .pointer (some ⟨Bn, 0, none⟩), .pointer (some ⟨Bs, 0, none⟩), .pointer (some ⟨Bl, 0, none⟩)] w fun e w' => e = .returned (.tuple #[]) ∧ SlV B Bl (xs ++ [wd]) w' ∧ Only (fun b => b = Bl ∨ B ≤ b) w w' := by
  obtain ⟨u, u1, u2⟩ := h3
  obtain ⟨i0, hi0, hz0, hz1, hz2⟩ := info9
  have hbB : Below w.heap.size w (w.alloc (.cells #[.string nm, .string wd, .slice a n c] 105)) := (Below.refl _ w).alloc (Nat.le_refl _) _
  have HV : Hid (VarN w.heap.size [.string nm, .string wd, .slice a n c] (w.alloc (.cells #[.string nm, .string wd, .slice a n c] 105))) := VarN.new w #[.string nm, .string wd, .slice a n c] 105 (by simp)
  have HU1 : Hid (Own1 Bl u (w.alloc (.cells #[.string nm, .string wd, .slice a n c] 105))) := u1.below hbB
  have HU2 : Hid ((w.alloc (.cells #[.string nm, .string wd, .slice a n c] 105)).ownsRow B 9 1 u xs.length (sc xs)) := row_below u2 hbB
  have c0 := (h1.below hbB).cell
  have c1 := (h2.below hbB).cell
  have c2 := HU1.out.cell
  have d0 := HV.out.c3.1
  have d1 := HV.out.c3.2.1
  have l1 := h1.lt
  have l2 := h2.lt
  have l3 := u1.lt
  have HB : Hid _ := hbB
  have HHP : Hid (∀ wx, Calls Tryz.prog 60 #[.string wd, .string ss] wx fun e w' => e = .returned (.bool true) ∧ w' = wx) := fun wx => (hasPrefix_any wd ss wx).mono (fun e w' hh => by
    rw [hpf] at hh
    exact hh)
  clear h1 h2 hbB u1 u2 hpf
  go_enter Tryz.func59, Tryz.ntmps59
  go_wp2_with fail
  refine (show Calls _ _ _ _ _ from HHP.out _).mono ?_
  rintro _ w9 ⟨rfl, h9⟩
  obtain rfl := h9.symm
  clear h9
  have hbC : Below (w.alloc (.cells #[.string nm, .string wd, .slice a n c] 105)).heap.size (w.alloc (.cells #[.string nm, .string wd, .slice a n c] 105)) ((w.alloc (.cells #[.string nm, .string wd, .slice a n c] 105)).alloc (.cells #[.string wd] 9)) := (Below.refl _ _).alloc (Nat.le_refl _) _
  have HR3 : Hid (((w.alloc (.cells #[.string nm, .string wd, .slice a n c] 105)).alloc (.cells #[.string wd] 9)).ownsRow B 9 1 u xs.length (sc xs)) := row_below HU2.out hbC
  have HU3 : Hid (Own1 Bl u ((w.alloc (.cells #[.string nm, .string wd, .slice a n c] 105)).alloc (.cells #[.string wd] 9))) := HU1.out.below hbC
  have HNW : Hid (∀ (j : Nat) (u : Value), [Value.string wd][j]? = some u → ((w.alloc (.cells #[.string nm, .string wd, .slice a n c] 105)).alloc (.cells #[.string wd] 9)).cell? ((⟨w.heap.size + 1, 0, none⟩ : Addr).add j) = some u) := by
    intro j u hu
    cases j with
    | succ j => simp at hu
    | zero =>
      simp at hu
      subst hu
      have := (Own1.new (w.alloc (.cells #[.string nm, .string wd, .slice a n c] 105)) (.string wd) 9).cell
      rw [World.size_alloc] at this
      rw [add_pl]
      exact this
  have HBC : Hid (Below w.heap.size w ((w.alloc (.cells #[.string nm, .string wd, .slice a n c] 105)).alloc (.cells #[.string wd] 9))) := HB.out.trans (hbC.mono HB.out.size)
  clear hbC
  go_wp2_with (at_builtin; refine wpList_append_lies _ rfl _ _ 59 rfl B 9 i0 (.string ⟨#[]⟩) 1 16 Tryz.underlying59 hi0 hz0 hz1 hz2 rfl (by decide) _ _ _ rfl HR3.out ⟨w.heap.size + 1, 0, none⟩ 1 1 [.string wd] rfl rfl HNW.out (by intro u hu; simp at hu; subst hu; rfl) (by decide) (by simp only [maxLen]; omega) (by omega) (by simp only [World.size_alloc]; omega) _ rfl ?_; intro g' cap' w' hO hG hat hlt'; have hU9 : Own1 Bl u w' := HU3.out.block (hG.block Bl HU3.out.lt (fun e => by have := (World.ownsRow.lt HR3.out Bl e.symm).1; omega)); have f9 := hU9.free; have c9 := hU9.cell)
  go_end0
  refine ⟨rfl, ⟨_, hU9.set _, ?_⟩, ?_⟩
  · rw [List.length_append, sc_append]
    exact row_far hO (by omega)
  · have e1 : Only (fun b => b = Bl ∨ B ≤ b) w w' := (below_only HBC.out _).trans (grown_only (S := fun b => b = Bl ∨ B ≤ b) hG (fun k e => .inr (World.ownsRow.lt HR3.out k e).1)) (fun _ e => .inl e)
    exact e1.trans (Only.set Bl 0 _ _) (fun _ e => .inl (.inl e))
set_option maxRecDepth 100000 in
set_option maxHeartbeats 1000000 in
theorem begin_no {Bn Bs Bl n c : Nat} {nm ss wd : ByteArray} {a : Option Addr} (w : World) (h1 : Own1 Bn (.string nm) w) (h2 : Own1 Bs (.string ss) w) (hpf : Lib.hasPrefix wd.data.toList ss.data.toList = false) :
    Calls Tryz.prog 59 #[.agg #[.string nm, .string wd, .slice a n c], .pointer (some ⟨Bn, 0, none⟩), .pointer (some ⟨Bs, 0, none⟩), .pointer (some ⟨Bl, 0, none⟩)] w fun e w' => e = .returned (.tuple #[]) ∧ Below w.heap.size w w' := by
  have hbB : Below w.heap.size w (w.alloc (.cells #[.string nm, .string wd, .slice a n c] 105)) := (Below.refl _ w).alloc (Nat.le_refl _) _
  have HV : Hid (VarN w.heap.size [.string nm, .string wd, .slice a n c] (w.alloc (.cells #[.string nm, .string wd, .slice a n c] 105))) := VarN.new w #[.string nm, .string wd, .slice a n c] 105 (by simp)
  have c0 := (h1.below hbB).cell
  have c1 := (h2.below hbB).cell
  have d0 := HV.out.c3.1
  have d1 := HV.out.c3.2.1
  have l1 := h1.lt
  have l2 := h2.lt
  have HB : Hid _ := hbB
  have HHP : Hid (∀ wx, Calls Tryz.prog 60 #[.string wd, .string ss] wx fun e w' => e = .returned (.bool false) ∧ w' = wx) := fun wx => (hasPrefix_any wd ss wx).mono (fun e w' hh => by
    rw [hpf] at hh
    exact hh)
  clear h1 h2 hbB hpf
  go_enter Tryz.func59, Tryz.ntmps59
  go_wp2_with fail
  refine (show Calls _ _ _ _ _ from HHP.out _).mono ?_
  rintro _ w9 ⟨rfl, h9⟩
  obtain rfl := h9.symm
  clear h9
  go_wp2
  go_end0
  exact ⟨rfl, HB.out⟩
set_option maxRecDepth 100000 in
set_option maxHeartbeats 1000000 in
theorem begin_far {Bn Bs Bl n c : Nat} {nm nc wd : ByteArray} {a : Option Addr} (w : World) (h1 : Own1 Bn (.string nm) w) (hne : ¬ nc = nm) :
    Calls Tryz.prog 59 #[.agg #[.string nc, .string wd, .slice a n c], .pointer (some ⟨Bn, 0, none⟩), .pointer (some ⟨Bs, 0, none⟩), .pointer (some ⟨Bl, 0, none⟩)] w fun e w' => e = .returned (.tuple #[]) ∧ Below w.heap.size w w' := by
  have hbB : Below w.heap.size w (w.alloc (.cells #[.string nc, .string wd, .slice a n c] 105)) := (Below.refl _ w).alloc (Nat.le_refl _) _
  have HV : Hid (VarN w.heap.size [.string nc, .string wd, .slice a n c] (w.alloc (.cells #[.string nc, .string wd, .slice a n c] 105))) := VarN.new w #[.string nc, .string wd, .slice a n c] 105 (by simp)
  have c0 := (h1.below hbB).cell
  have d0 := HV.out.c3.1
  have l1 := h1.lt
  have HB : Hid _ := hbB
  have hq := str_neq hne
  clear h1 hbB
  go_enter Tryz.func59, Tryz.ntmps59
  go_wp2
  go_end0
  exact ⟨rfl, HB.out⟩
section
variable {bf bt bp bd bm N : Nat} {up : Nat → Bool} {V : Pst} {T : Tr} {w : World} {L : List Pc}
theorem beg_pfx {nm s : ByteArray} {c : Pc} (h : isB nm s c = true) : pfx (startF nm s) 0 c.pr.k = true := by
  unfold isB at h
  rw [Bool.and_eq_true, decide_eq_true_eq] at h
  obtain ⟨rfl, h2⟩ := h
  unfold pfx Lib.hasPrefix at *
  obtain ⟨t, ht⟩ := List.isPrefixOf_iff_prefix.1 h2
  refine List.isPrefixOf_iff_prefix.2 ⟨t ++ 0 :: rowB c.r, ?_⟩
  show _ = (keyF c.n c.w c.r).data.toList
  rw [keyF_list, startF_list, ← ht]
  simp
theorem begW_filter (nm s : ByteArray) (L : List Pc) : begW' nm s (L.filter (fun c => pfx (startF nm s) 0 c.pr.k)) = begW' nm s L := by
  unfold begW'
  rw [List.filter_filter]
  congr 1
  refine List.filter_congr (fun c _ => ?_)
  cases h : isB nm s c
  · rfl
  · rw [beg_pfx h]; rfl
theorem sc_compact (ws : List ByteArray) : (Lib.compact (ws.map (fun w => w.data.toList))).map encStr = sc (cmpW ws) := by
  unfold cmpW sc
  rw [List.map_map]
  exact List.map_congr_left fun x _ => rfl
theorem sc_words (ws : List ByteArray) : (ws.map (fun w => w.data.toList)).map encStr = sc ws := by
  unfold sc
  rw [List.map_map]
  exact List.map_congr_left fun x _ => rfl
set_option maxRecDepth 100000 in
set_option maxHeartbeats 1000000 in
theorem begin_any (h : Fs bf bt bp bd bm N up V T w) {m : Int} (hm : w.cell? ⟨2, 0, none⟩ = some (.int .i64 m)) (hL : ∀ c ∈ L, c.Ok) (hps : T.all = L.map Pc.pr) (hLl : L.length ≤ 10000) (nm ss : ByteArray) (hnm : nm.size ≤ 100) (hss : ss.size ≤ 100) :
    Calls Tryz.prog 30 #[.pointer (some ⟨bf, 0, none⟩), .string nm, .string ss] w fun e w' => ∃ v, e = .returned (.tuple #[v, .nilIface]) ∧ w'.ownsRow w.heap.size 9 1 v (cmpW (begW' nm ss L)).length (sc (cmpW (begW' nm ss L))) ∧ Below w.heap.size w w' := by
  obtain ⟨w0, hw0⟩ : ∃ w0, ((w.alloc (.cells #[.string nm] 9)).alloc (.cells #[.string ss] 9)).alloc (.cells #[.slice none 0 0] 59) = w0 := ⟨_, rfl⟩
  have hbB : Below w.heap.size w w0 := by rw [← hw0]; exact (((Below.refl _ w).alloc (Nat.le_refl _) _).alloc (by simp) _).alloc (by simp only [World.size_alloc]; omega) _
  have hsz : w0.heap.size = w.heap.size + 3 := by rw [← hw0]; simp
  have o1 : Own1 w.heap.size (.string nm) w0 := by
    rw [← hw0]
    exact ((Own1.new w (.string nm) 9).below ((Below.refl _ _).alloc (Nat.le_refl _) _)).below ((Below.refl _ _).alloc (Nat.le_refl _) _)
  have o2 : Own1 (w.heap.size + 1) (.string ss) w0 := by
    rw [← hw0]
    have := Own1.new (w.alloc (.cells #[.string nm] 9)) (.string ss) 9
    rw [World.size_alloc] at this
    exact this.below ((Below.refl _ _).alloc (Nat.le_refl _) _)
  have o3 : Own1 (w.heap.size + 2) (.slice none 0 0) w0 := by
    rw [← hw0]
    have := Own1.new ((w.alloc (.cells #[.string nm] 9)).alloc (.cells #[.string ss] 9)) (.slice none 0 0) 59
    rw [World.size_alloc, World.size_alloc] at this
    exact this
  have hmf : ∀ (fn : Fn) (first cap : Array Value) (w : World), (Instr.makeFunc fn first cap).run Tryz.prog w = .ok (.func fn first cap) w := fun _ _ _ _ => rfl
  have hm2 : 2 < w.heap.size := World.block_lt_of_cell? _ _ hm
  have hwk : walkL (pfx (startF nm ss)) (startF nm ss) 0 T.all = (L.filter (fun c => pfx (startF nm ss) 0 c.pr.k)).map Pc.pr := by
    rw [walkP _ T.all 0 h.sorted, hps, List.filter_map]
    rfl
  have hpf := begW_filter nm ss L
  have hLf : ∀ c ∈ L.filter (fun c => pfx (startF nm ss) 0 c.pr.k), c.Ok := fun c hc => hL c ((List.mem_filter.1 hc).1)
  have hLfl : (L.filter (fun c => pfx (startF nm ss) 0 c.pr.k)).length ≤ 10000 := Nat.le_trans (List.length_filter_le _ _) hLl
  generalize L.filter (fun c => pfx (startF nm ss) 0 c.pr.k) = L' at *
  have HLK : Hid (Calls Tryz.prog 43 #[.pointer (some ⟨bf, 0, none⟩), .string (startF nm ss), .func (.func 59) #[] #[.pointer (some ⟨w.heap.size, 0, none⟩), .pointer (some ⟨w.heap.size + 1, 0, none⟩), .pointer (some ⟨w.heap.size + 2, 0, none⟩)]] w0 fun e w' => e = .returned .nilIface ∧ (∃ B, w0.heap.size ≤ B ∧ (Own1 w.heap.size (.string nm) w' ∧ Own1 (w.heap.size + 1) (.string ss) w' ∧ SlV B (w.heap.size + 2) (begW' nm ss (L'.take L'.length)) w')) ∧ Only (fun b => b = w.heap.size + 2) w0 w') := by
    refine look_any (I := fun B k wx => Own1 w.heap.size (.string nm) wx ∧ Own1 (w.heap.size + 1) (.string ss) wx ∧ SlV B (w.heap.size + 2) (begW' nm ss (L'.take k)) wx) (h.below hbB) (keepc hbB hm) (startF nm ss) hLf hwk hLfl (fun b e => ?_) (enters_of Tryz.func59 (by kernel_rfl) rfl) (fun B wx h1 h2 h3 => ⟨o1.below h3, o2.below h3, _, o3.below h3, World.ownsRow_nil _ _ _ _⟩) (fun B k hk v wr wx h1 h2 h3 h4 h5 => ?_)
    · subst e; exact ⟨by omega, by omega⟩
    · obtain ⟨j1, j2, v3, j3, j4⟩ := h3
      have hsb := h4.size
      obtain ⟨a5, c5, rfl⟩ := row_slice h5
      have hlk := begW_len nm ss (L'.take k)
      rw [List.length_take] at hlk
      by_cases hw : isB nm ss L'[k] = true
      · have hw2 := hw
        unfold isB at hw2
        rw [Bool.and_eq_true, decide_eq_true_eq] at hw2
        have := begin_yes (B := B) (Bl := w.heap.size + 2) (n := L'[k].l.length) (c := c5) (a := a5) (xs := begW' nm ss (L'.take k)) wx (j1.below h4) (j2.below h4) hw2.2 ⟨v3, j3.below h4, row_below j4 h4⟩ (by omega) (by omega) (by omega)
        rw [hw2.1]
        refine this.mono ?_
        rintro e w' ⟨rfl, g1, g2⟩
        refine ⟨rfl, ⟨(j1.below h4).only g2 (by omega), (j2.below h4).only g2 (by omega), ?_⟩, g2.mono (fun _ e => e)⟩
        rw [begW_take nm ss hk, if_pos hw]
        exact g1
      · refine (show Calls _ _ _ _ (fun e w' => e = .returned (.tuple #[]) ∧ Below wx.heap.size wx w') from by
          by_cases hn : L'[k].n = nm
          · rw [hn]
            refine begin_no (Bl := w.heap.size + 2) wx (j1.below h4) (j2.below h4) ?_
            cases hq : Lib.hasPrefix L'[k].w.data.toList ss.data.toList
            · rfl
            · exact absurd (by unfold isB; rw [hq, hn, decide_eq_true rfl]; rfl) hw
          · exact begin_far (Bl := w.heap.size + 2) wx (j1.below h4) hn).mono ?_
        rintro e w' ⟨rfl, g1⟩
        refine ⟨rfl, ⟨(j1.below h4).below g1, (j2.below h4).below g1, ?_⟩, below_only g1 _⟩
        rw [begW_take nm ss hk, if_neg hw, List.append_nil]
        exact ⟨v3, (j3.below h4).below g1, row_below (row_below j4 h4) g1⟩
  have HB : Hid _ := hbB
  have HSZ : Hid _ := hsz
  rw [List.take_length, hpf] at HLK
  have c1 := o1.cell
  have c2 := o2.cell
  have HSA : Hid _ := startF_any nm ss (by omega) (by omega)
  clear hbB o1 o2 o3 hm hL hps hwk h hsz hpf hLf hLfl
  go_enter Tryz.func30, Tryz.ntmps30
  go_wp2_with fail
  refine (show Calls _ _ _ _ _ from HSA.out w0).mono ?_
  rintro _ w9 ⟨rfl, h9⟩
  obtain rfl := h9.symm
  clear h9
  go_wp2_with fail
  refine (show Calls _ _ _ _ _ from HLK.out).mono ?_
  rintro _ w2 ⟨rfl, ⟨B, hB0, _, _, v, hO, hR⟩, ho⟩
  have HB2 : Hid (Below w.heap.size w w2) := Only.below HB.out ho HB.out.size (fun b e => by omega)
  have HCP : Hid (Calls Tryz.prog 61 #[v] w2 fun e w' => ∃ v', e = .returned v' ∧ w'.ownsRow w.heap.size 9 1 v' (cmpW (begW' nm ss L)).length (sc (cmpW (begW' nm ss L))) ∧ Below w.heap.size w w') := by
    have hr2 : w2.ownsRow w.heap.size 9 1 v ((begW' nm ss L).map (fun w => w.data.toList)).length (((begW' nm ss L).map (fun w => w.data.toList)).map encStr) := by
      rw [sc_words, List.length_map]
      exact row_base hR (by have := HSZ.out; omega)
    refine (compact_any hr2).mono ?_
    rintro e w' ⟨v', rfl, g1, g2⟩
    refine ⟨v', rfl, ?_, Only.below HB2.out g2 HB2.out.size (fun _ e => e)⟩
    rw [sc_compact] at g1
    unfold cmpW at g1 ⊢
    rw [List.length_map]
    exact g1
  have c0 : w2.cell? ⟨w.heap.size + 1 + 1, 0, none⟩ = some v := hO.cell
  clear hO ho hR
  go_wp2_with fail
  refine (show Calls _ _ _ _ _ from HCP.out).mono ?_
  rintro _ w3 ⟨v', rfl, g1, g2⟩
  have HR : Hid _ := g1
  have HB3 : Hid _ := g2
  clear g1 g2
  go_wp2
  go_ret2
  exact ⟨_, rfl, HR.out, HB3.out⟩
end
end Go.Proofs.YtabcficlnhajeaaGreatDoor
namespace Go.Proofs.YtabcficlnhajeaaGreatDoor
open Go.RowKit Go.Maps

theorem keyed9 : Keyed Tryz.prog 9 := string_keyed Tryz.underlying9
def kl (k : ByteArray) : Lit := .string k.data.toList
theorem kl_inj {a b : ByteArray} (h : kl a = kl b) : a = b := by
  unfold kl at h
  injection h with h
  exact ba_ext h
theorem kl_ne {a b : ByteArray} (h : a ≠ b) : kl a ≠ kl b := fun e => h (kl_inj e)
theorem kl_key (k : ByteArray) : WideAt.IsKeyLit (kl k) := trivial
theorem kl_of {k : ByteArray} (h : k.size ≤ 1000) : keyOf Tryz.prog 9 (.string k) = some (kl k) := WideMaps.keyOf_string_mk Tryz.underlying9 (Nat.le_trans h (by decide))
/-- an element as it is -/
def heldE (v : Value) : Option (DataW Value × List MemPlace) := some (.held v, [])
theorem heldE_inv {v : Value} {d : DataW Value} {ps : List MemPlace} (h : heldE v = some (d, ps)) : d = .held v := by
  unfold heldE at h
  exact (congrArg Prod.fst (Option.some.inj h)).symm
structure LfD (D : DataW Value) (F : ByteArray → Option Value) : Prop where
  isMap : IsMap D
  has : ∀ k, Maps.has D (kl k) = (F k).isSome
  elem : ∀ k v, F k = some v → ∀ z, D.atKey (kl k) z = .held v
def LfB (m n : Nat) (F : ByteArray → Option Value) (w : World) : Prop := ∃ D : DataW Value, w.ownsMap Tryz.prog 9 heldE m n D ∧ LfD D F
def setF (F : ByteArray → Option Value) (k : ByteArray) (o : Option Value) : ByteArray → Option Value := fun j => if j = k then o else F j
theorem setF_same (F : ByteArray → Option Value) (k : ByteArray) (o : Option Value) : setF F k o k = o := by simp [setF]
theorem setF_other (F : ByteArray → Option Value) {k j : ByteArray} (o : Option Value) (h : j ≠ k) : setF F k o j = F j := by simp [setF, h]
theorem LfD.put {D : DataW Value} {F : ByteArray → Option Value} (h : LfD D F) (k : ByteArray) (v : Value) : LfD (D.put (kl k) (.held v)) (setF F k (some v)) := by
  refine ⟨h.isMap.put _ _, fun j => ?_, fun j u hu z => ?_⟩
  · by_cases e : j = k
    · subst e
      rw [has_put_same h.isMap (kl_key _), setF_same]; rfl
    · rw [has_put_other (kl_ne e), h.has j, setF_other _ _ e]
  · by_cases e : j = k
    · subst e
      rw [setF_same] at hu
      obtain rfl := Option.some.inj hu
      exact atKey_put_same h.isMap (kl_key _) _ z
    · rw [setF_other _ _ e] at hu
      rw [atKey_put_other (kl_ne e)]; exact h.elem j u hu z
theorem LfD.del {D : DataW Value} {F : ByteArray → Option Value} (h : LfD D F) (k : ByteArray) : LfD (D.del (kl k)) (setF F k none) := by
  refine ⟨h.isMap.del _, fun j => ?_, fun j u hu z => ?_⟩
  · by_cases e : j = k
    · subst e
      rw [has_del_same, setF_same]; rfl
    · rw [has_del_other (kl_ne e), h.has j, setF_other _ _ e]
  · by_cases e : j = k
    · subst e
      rw [setF_same] at hu; cases hu
    · rw [setF_other _ _ e] at hu
      rw [atKey_del_other (kl_ne e)]; exact h.elem j u hu z
section
variable {m n : Nat} {F : ByteArray → Option Value} {w w' : World}
theorem LfB.lt (h : LfB m n F w) : m < w.heap.size := by obtain ⟨D, hD, _⟩ := h; exact hD.lt
theorem LfB.block (h : LfB m n F w) (hb : w'.heap[m]? = w.heap[m]?) : LfB m n F w' := by
  obtain ⟨D, ⟨es, clock, hm, F, hs, hD⟩, hM⟩ := h
  exact ⟨D, ⟨es, clock, hb.trans hm, F, hs, hD⟩, hM⟩
theorem LfB.only {S : Nat → Prop} (h : LfB m n F w) (ho : Only S w w') (hs : ¬ S m) : LfB m n F w' := h.block (ho.block m h.lt hs)
theorem LfB.below (h : LfB m n F w) (hb : Below w.heap.size w w') : LfB m n F w' := h.block (hb.block m h.lt)
theorem LfB.new (w : World) : LfB w.heap.size 0 (fun _ => none) (w.alloc (.map #[] 0)) :=
  ⟨.map [], World.ownsMap_made _ _ _ _, ⟨⟨[], rfl⟩, fun k => by simp [has_eq], fun k v h => (by cases h)⟩⟩
end
theorem zero36 (w : World) : (zeroValue 72).run Tryz.prog w = .ok (.slice none 0 0) w := by kernel_rfl
section
variable {ops : Array Oper} {rest : List Oper} {o : Oper} {a : Act} {Q : Exit → Act → World → Prop} {m n : Nat} {F : ByteArray → Option Value}
theorem LfD.look {D : DataW Value} (hM : LfD D F) {k : ByteArray} {v : Value} {ps : List MemPlace} (hv : heldE v = some (D.atKey (kl k) (.held (.slice none 0 0)), ps)) : v = (F k).getD (.slice none 0 0) := by
  have h1 := heldE_inv hv
  cases e : F k with
  | none =>
    have h2 := hM.has k
    rw [e] at h2
    rw [atKey_of_not_has h2] at h1
    injection h1 with h3
    exact h3.symm
  | some u =>
    rw [hM.elem k u e] at h1
    injection h1 with h3
    exact h3.symm
theorem look_lf (w : World) (hg : o.guard = none) (mo x : Operand) (hop : o.op = Op.lookup 155 mo x false) (hS : LfB m n F w) (k : ByteArray) (hk : k.size ≤ 1000) (hm : a.eval mo = .map (some m)) (hx : a.eval x = .string k)
    (hK : wpList Tryz.prog ops Q rest (a.put o.dst ((F k).getD (.slice none 0 0))) w) : wpList Tryz.prog ops Q (o :: rest) a w := by
  obtain ⟨D, hD, hM⟩ := hS
  refine wpList_plain hg fun K' hK' => ?_
  obtain ⟨v, ps, hrun, hv⟩ := hD.lookup keyed9 Tryz.underlying155 (zero36 w) (zd := .held (.slice none 0 0)) (zp := []) rfl (kl_of hk)
  obtain rfl := hM.look hv
  unfold Oper.wp
  simp [execOp, hop, hm, hx, hrun, Result.andThen]
  exact hK' _ _ hK
theorem look2_lf (w : World) (hg : o.guard = none) (mo x : Operand) (hop : o.op = Op.lookup 155 mo x true) (hS : LfB m n F w) (k : ByteArray) (hk : k.size ≤ 1000) (hm : a.eval mo = .map (some m)) (hx : a.eval x = .string k)
    (hK : wpList Tryz.prog ops Q rest (a.put o.dst (.tuple #[(F k).getD (.slice none 0 0), .bool (F k).isSome])) w) : wpList Tryz.prog ops Q (o :: rest) a w := by
  obtain ⟨D, hD, hM⟩ := hS
  refine wpList_lookup_own_ok w hg mo x 155 hop 9 72 keyed9 Tryz.underlying155 heldE (zero36 w) (.held (.slice none 0 0)) [] rfl m n D hm hD _ _ hx (kl_of hk) ?_
  intro v ps hv
  obtain rfl := hM.look hv
  rw [hM.has]
  exact hK
theorem put_lf (w : World) (hg : o.guard = none) (mo x v : Operand) (hop : o.op = Op.mapUpdate 155 mo x v) (hS : LfB m n F w) (hn : n < 1000000) (k : ByteArray) (hk : k.size ≤ 1000) (u : Value) (hm : a.eval mo = .map (some m)) (hx : a.eval x = .string k) (hv : a.eval v = u)
    (hK : ∀ w', LfB m (n + 1) (setF F k (some u)) w' → Only (fun b => b = m) w w' → wpList Tryz.prog ops Q rest (a.put o.dst undef) w') : wpList Tryz.prog ops Q (o :: rest) a w := by
  obtain ⟨D, hD, hM⟩ := hS
  refine wpList_mapUpdate_own w hg mo x v 155 hop 9 72 keyed9 Tryz.underlying155 heldE m n D hm hD (Nat.lt_trans hn (by decide)) _ _ _ hx hv (kl_of hk) (.held u) [] rfl ?_
  intro w' h1 h2
  exact hK w' ⟨_, h1, hM.put k u⟩ (Only.of_grown h2 rfl)
theorem del_lf (w : World) (hg : o.guard = none) (mo x : Operand) (hop : o.op = Op.call { callee := Callee.builtin Builtin.delete, args := #[mo, x], argTypes := #[155, 9] }) (hS : LfB m n F w) (k : ByteArray) (hk : k.size ≤ 1000) (hm : a.eval mo = .map (some m)) (hx : a.eval x = .string k)
    (hK : ∀ w', LfB m n (setF F k none) w' → Only (fun b => b = m) w w' → wpList Tryz.prog ops Q rest (a.put o.dst (.tuple #[])) w') : wpList Tryz.prog ops Q (o :: rest) a w := by
  obtain ⟨D, hD, hM⟩ := hS
  refine wpList_delete_own w hg mo x 155 9 hop 72 keyed9 Tryz.underlying155 heldE m n D hm hD _ _ hx (kl_of hk) ?_
  intro w' h1 h2
  exact hK w' ⟨_, h1, hM.del k⟩ (Only.of_grown h2.grown rfl)
end
/-- the rows that the map has -/
structure LfR (B : Nat) (A : ByteArray → List Pl) (F : ByteArray → Option Value) (w : World) : Prop where
  none : ∀ k, F k = none → A k = []
  row : ∀ k v, F k = some v → w.ownsRow B 66 2 v (A k).length (plc (A k)) ∧ 0 < (A k).length
  ap : ∀ k v j u, F k = some v → F j = some u → k ≠ j → ∀ b, v.ownBlock = some b → u.ownBlock ≠ some b
section
variable {B : Nat} {A : ByteArray → List Pl} {F : ByteArray → Option Value} {w w' : World}
theorem LfR.only {S : Nat → Prop} (h : LfR B A F w) (ho : Only S w w') (hS : ∀ b, S b → b < B) : LfR B A F w' :=
  ⟨h.none, fun k v hv => ⟨row_only (h.row k v hv).1 ho hS, (h.row k v hv).2⟩, h.ap⟩
theorem LfR.below (h : LfR B A F w) (hb : Below w.heap.size w w') : LfR B A F w' := h.only (below_only hb (fun _ => False)) (fun _ e => e.elim)
theorem LfR.del (h : LfR B A F w) (k : ByteArray) {A' : ByteArray → List Pl} (h0 : A' k = []) (h1 : ∀ j, j ≠ k → A' j = A j) : LfR B A' (setF F k Option.none) w := by
  refine ⟨fun j hj => ?_, fun j v hv => ?_, fun j v i u hv hu hne => ?_⟩
  · by_cases e : j = k
    · rw [e]; exact h0
    · rw [setF_other _ _ e] at hj
      rw [h1 j e]; exact h.none j hj
  · by_cases e : j = k
    · subst e; rw [setF_same] at hv; cases hv
    · rw [setF_other _ _ e] at hv
      rw [h1 j e]; exact h.row j v hv
  · by_cases e : j = k
    · subst e; rw [setF_same] at hv; cases hv
    · by_cases e2 : i = k
      · subst e2; rw [setF_same] at hu; cases hu
      · rw [setF_other _ _ e] at hv
        rw [setF_other _ _ e2] at hu
        exact h.ap j v i u hv hu hne
theorem LfR.at (h : LfR B A F w) (k : ByteArray) : w.ownsRow B 66 2 ((F k).getD (.slice Option.none 0 0)) (A k).length (plc (A k)) := by
  cases e : F k with
  | none => rw [h.none k e]; exact World.ownsRow_nil _ _ _ _
  | some v => exact (h.row k v e).1
theorem LfR.put (h : LfR B A F w) (k : ByteArray) {A' : ByteArray → List Pl} {u : Value} (hG : w.grownBy w' ((F k).getD (.slice Option.none 0 0)).ownBlock) (hu : w'.ownsRow B 66 2 u (A' k).length (plc (A' k))) (hp : 0 < (A' k).length) (h1 : ∀ j, j ≠ k → A' j = A j)
    (hat : ∀ b, u.ownBlock = some b → ((F k).getD (.slice Option.none 0 0)).ownBlock = some b ∨ w.heap.size ≤ b) : LfR B A' (setF F k (some u)) w' := by
  have hap : ∀ j v, j ≠ k → F j = some v → ∀ b, v.ownBlock = some b → ((F k).getD (.slice Option.none 0 0)).ownBlock ≠ some b := by
    intro j v hj hv b hb
    cases e : F k with
    | none => intro hx; cases hx
    | some v0 => exact h.ap j v k v0 hv e hj b hb
  have hap2 : ∀ j v, j ≠ k → F j = some v → ∀ b, v.ownBlock = some b → u.ownBlock ≠ some b := by
    intro j v hj hv b hb hub
    rcases hat b hub with e | e
    · exact hap j v hj hv b hb e
    · have := (World.ownsRow.lt (h.row j v hv).1 b hb).2
      omega
  refine ⟨fun j hj => ?_, fun j v hv => ?_, fun j v i u' hv hu' hne => ?_⟩
  · by_cases e : j = k
    · subst e; rw [setF_same] at hj; cases hj
    · rw [setF_other _ _ e] at hj
      rw [h1 j e]; exact h.none j hj
  · by_cases e : j = k
    · subst e; rw [setF_same] at hv
      obtain rfl := Option.some.inj hv
      exact ⟨hu, hp⟩
    · rw [setF_other _ _ e] at hv
      rw [h1 j e]
      refine ⟨?_, (h.row j v hv).2⟩
      exact row_apart (S := fun b => ((F k).getD (.slice Option.none 0 0)).ownBlock = some b) (h.row j v hv).1 (grown_only hG (fun b e => e)) (fun b hb => hap j v e hv b hb)
  · by_cases e : j = k
    · subst e
      rw [setF_same] at hv
      obtain rfl := Option.some.inj hv
      have e2 : i ≠ j := fun e => hne e.symm
      rw [setF_other _ _ e2] at hu'
      exact fun b hb hb2 => hap2 i u' e2 hu' b hb2 hb
    · rw [setF_other _ _ e] at hv
      by_cases e2 : i = k
      · subst e2
        rw [setF_same] at hu'
        obtain rfl := Option.some.inj hu'
        exact fun b hb => hap2 j v e hv b hb
      · rw [setF_other _ _ e2] at hu'
        exact h.ap j v i u' hv hu' hne
end
end Go.Proofs.YtabcficlnhajeaaGreatDoor
