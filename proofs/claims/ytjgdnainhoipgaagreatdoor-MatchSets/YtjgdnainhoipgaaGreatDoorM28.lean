/- Texts of the proof of MatchSets: Gbg, Glf, Gon. -/
import Derived.Test.YtjgdnainhoipgaaGreatDoorM27
import Derived.Sort.OwnSorted
import Derived.Maps.Own
import Derived.Maps.OwnOps
import Derived.Maps.OwnSet
import Derived.Maps.Ext
import Derived.StringKeys
namespace Go.Proofs.YtjgdnainhoipgaaGreatDoor
open Go.RowKit Go.Maps

theorem row_cut {w : World} {B g n k cap : Nat} {e : TypeId} {xs : List Value} (h : w.ownsRow B e 1 (.slice (some ⟨g, 0, none⟩) n cap) n xs) (hk : k ≤ n) : w.ownsRow B e 1 (.slice (some ⟨g, 0, none⟩) k cap) k (xs.take k) := by
  refine ⟨by rw [List.length_take, h.1]; omega, .inr ?_⟩
  rcases h.2 with ⟨e1, _⟩ | ⟨g', cap', cur, e1, h1, h2, h3, h4, h5, h6⟩
  · cases e1
  · cases e1
    refine ⟨g, cap, cur, rfl, h1, h2, by omega, h4, h5, ?_⟩
    rw [← h6, List.take_take]
    congr 1
    omega
theorem compact_le {α : Type} [Inhabited α] [DecidableEq α] (zs : List α) : (Lib.compact zs).length ≤ zs.length := by
  unfold Lib.compact Lib.compactUpTo
  rw [List.length_map]
  exact Nat.le_trans (List.length_filter_le _ _) (by rw [List.length_range]; exact Nat.le_refl _)
theorem compact_any {B : Nat} {v : Value} {w : World} {zs : List (List UInt8)} (h : w.ownsRow B 9 1 v zs.length (zs.map encStr)) :
    Calls Tryz.prog 176 #[v] w fun e w' => ∃ v', e = .returned v' ∧ w'.ownsRow B 9 1 v' (Lib.compact zs).length ((Lib.compact zs).map encStr) ∧ Only (fun b => B ≤ b) w w' := by
  rcases h.2 with ⟨rfl, h0⟩ | ⟨g, cap, cur, rfl, h1, h2, h3, h4, h5, h6⟩
  · have : zs = [] := List.length_eq_zero_iff.1 h0
    subst this
    refine (Tryz.slices_Compact_string_empty none 0 w).mono ?_
    rintro _ _ ⟨rfl, rfl⟩
    exact ⟨_, rfl, World.ownsRow_nil _ _ _ _, Only.refl _ _⟩
  · rw [Nat.mul_one] at h6
    refine (Tryz.slices_Compact_string g 0 cap zs w (holds_of_block h2 h6) (row_max h) h3).mono ?_
    have hcl := compact_le zs
    rintro _ _ ⟨rfl, q, rfl⟩
    have hg : ∀ x : World, x = Go.Sort.grow x #[] := fun x => by simp [Go.Sort.grow]
    rw [hg (Go.Sort.putRow _ _ _ _ _)]
    refine ⟨_, rfl, ?_, ?_⟩
    · have ho := ownsRow_sorted (w := w) (base := B) (g := g) (cap := cap) (n := q) (os := #[]) (ss := zs) (ts := Lib.compact zs ++ List.replicate (zs.length - (Lib.compact zs).length) []) (by rw [List.length_append, List.length_replicate]; omega) h1 h2 h3 h4 h5
      have := row_cut ho hcl
      rw [List.map_append, List.take_left' (by rw [List.length_map])] at this
      exact this
    · exact grown_only (grownBy_sorted _) (fun b e => by cases e; exact h1)
/-- words, each once -/
def cmpW (ws : List ByteArray) : List ByteArray := (Lib.compact (ws.map (fun w => w.data.toList))).map (fun l => ⟨l.toArray⟩)
/-- the words of a name that begin so -/
def isB (nm s : ByteArray) (c : Pc) : Bool := decide (c.n = nm) && Lib.hasPrefix c.w.data.toList s.data.toList
def begW' (nm s : ByteArray) (L : List Pc) : List ByteArray := (L.filter (isB nm s)).map Pc.w
theorem begW_take (nm s : ByteArray) {L : List Pc} {k : Nat} (hk : k < L.length) : begW' nm s (L.take (k + 1)) = begW' nm s (L.take k) ++ (if isB nm s L[k] = true then [L[k].w] else []) := by
  unfold begW'
  rw [List.take_succ_eq_append_getElem hk, List.filter_append, List.map_append]
  congr 1
  rw [List.filter_cons]
  split <;> simp
theorem begW_len (nm s : ByteArray) (L : List Pc) : (begW' nm s L).length ≤ L.length := by
  unfold begW'
  rw [List.length_map]
  exact List.length_filter_le _ _
def SlV (B C : Nat) (xs : List ByteArray) (w : World) : Prop := ∃ v, Own1 C v w ∧ w.ownsRow B 9 1 v xs.length (sc xs)
set_option maxRecDepth 100000 in
set_option maxHeartbeats 1000000 in
theorem begin_yes {B Bn Bs Bl n c : Nat} {nm ss wd : ByteArray} {a : Option Addr} {xs : List ByteArray} (w : World) (h1 : Own1 Bn (.string nm) w) (h2 : Own1 Bs (.string ss) w) (hpf : Lib.hasPrefix wd.data.toList ss.data.toList = true) (h3 : SlV B Bl xs w) (hlB : Bl < B) (hl : xs.length ≤ 1000000) (hB2 : B ≤ w.heap.size) :
    Calls Tryz.prog 175 #[.agg #[.string nm, .string wd, .slice a n c], .pointer (some ⟨Bn, 0, none⟩), .pointer (some ⟨Bs, 0, none⟩), .pointer (some ⟨Bl, 0, none⟩)] w fun e w' => e = .returned (.tuple #[]) ∧ SlV B Bl (xs ++ [wd]) w' ∧ Only (fun b => b = Bl ∨ B ≤ b) w w' := by
  obtain ⟨u, u1, u2⟩ := h3
  obtain ⟨i0, hi0, hz0, hz1, hz2⟩ := info9
  have hbB : Below w.heap.size w (w.alloc (.cells #[.string nm, .string wd, .slice a n c] 94)) := (Below.refl _ w).alloc (Nat.le_refl _) _
  have HV : Hid (VarN w.heap.size [.string nm, .string wd, .slice a n c] (w.alloc (.cells #[.string nm, .string wd, .slice a n c] 94))) := VarN.new w #[.string nm, .string wd, .slice a n c] 94 (by simp)
  have HU1 : Hid (Own1 Bl u (w.alloc (.cells #[.string nm, .string wd, .slice a n c] 94))) := u1.below hbB
  have HU2 : Hid ((w.alloc (.cells #[.string nm, .string wd, .slice a n c] 94)).ownsRow B 9 1 u xs.length (sc xs)) := row_below u2 hbB
  have c0 := (h1.below hbB).cell
  have c1 := (h2.below hbB).cell
  have c2 := HU1.out.cell
  have d0 := HV.out.c3.1
  have d1 := HV.out.c3.2.1
  have l1 := h1.lt
  have l2 := h2.lt
  have l3 := u1.lt
  have HB : Hid _ := hbB
  have HHP : Hid (∀ wx, Calls Tryz.prog 99 #[.string wd, .string ss] wx fun e w' => e = .returned (.bool true) ∧ w' = wx) := fun wx => (hasPrefix_any wd ss wx).mono (fun e w' hh => by
    rw [hpf] at hh
    exact hh)
  clear h1 h2 hbB u1 u2 hpf
  go_enter Tryz.func175, Tryz.ntmps175
  go_wp2_with fail
  refine (show Calls _ _ _ _ _ from HHP.out _).mono ?_
  rintro _ w9 ⟨rfl, h9⟩
  obtain rfl := h9.symm
  clear h9
  have hbC : Below (w.alloc (.cells #[.string nm, .string wd, .slice a n c] 94)).heap.size (w.alloc (.cells #[.string nm, .string wd, .slice a n c] 94)) ((w.alloc (.cells #[.string nm, .string wd, .slice a n c] 94)).alloc (.cells #[.string wd] 9)) := (Below.refl _ _).alloc (Nat.le_refl _) _
  have HR3 : Hid (((w.alloc (.cells #[.string nm, .string wd, .slice a n c] 94)).alloc (.cells #[.string wd] 9)).ownsRow B 9 1 u xs.length (sc xs)) := row_below HU2.out hbC
  have HU3 : Hid (Own1 Bl u ((w.alloc (.cells #[.string nm, .string wd, .slice a n c] 94)).alloc (.cells #[.string wd] 9))) := HU1.out.below hbC
  have HNW : Hid (∀ (j : Nat) (u : Value), [Value.string wd][j]? = some u → ((w.alloc (.cells #[.string nm, .string wd, .slice a n c] 94)).alloc (.cells #[.string wd] 9)).cell? ((⟨w.heap.size + 1, 0, none⟩ : Addr).add j) = some u) := by
    intro j u hu
    cases j with
    | succ j => simp at hu
    | zero =>
      simp at hu
      subst hu
      have := (Own1.new (w.alloc (.cells #[.string nm, .string wd, .slice a n c] 94)) (.string wd) 9).cell
      rw [World.size_alloc] at this
      rw [add_pl]
      exact this
  have HBC : Hid (Below w.heap.size w ((w.alloc (.cells #[.string nm, .string wd, .slice a n c] 94)).alloc (.cells #[.string wd] 9))) := HB.out.trans (hbC.mono HB.out.size)
  clear hbC
  go_wp2_with (at_builtin; refine wpList_append_lies _ rfl _ _ 22 rfl B 9 i0 (.string ⟨#[]⟩) 1 16 Tryz.underlying22 hi0 hz0 hz1 hz2 rfl (by decide) _ _ _ rfl HR3.out ⟨w.heap.size + 1, 0, none⟩ 1 1 [.string wd] rfl rfl HNW.out (by intro u hu; simp at hu; subst hu; rfl) (by decide) (by simp only [maxLen]; omega) (by omega) (by simp only [World.size_alloc]; omega) _ rfl ?_; intro g' cap' w' hO hG hat hlt'; have hU9 : Own1 Bl u w' := HU3.out.block (hG.block Bl HU3.out.lt (fun e => by have := (World.ownsRow.lt HR3.out Bl e.symm).1; omega)); have f9 := hU9.free; have c9 := hU9.cell)
  go_end0
  refine ⟨rfl, ⟨_, hU9.set _, ?_⟩, ?_⟩
  · rw [List.length_append, sc_append]
    exact row_far hO (by omega)
  · have e1 : Only (fun b => b = Bl ∨ B ≤ b) w w' := (below_only HBC.out _).trans (grown_only (S := fun b => b = Bl ∨ B ≤ b) hG (fun k e => .inr (World.ownsRow.lt HR3.out k e).1)) (fun _ e => .inl e)
    exact e1.trans (Only.set Bl 0 _ _) (fun _ e => .inl (.inl e))
set_option maxRecDepth 100000 in
set_option maxHeartbeats 1000000 in
theorem begin_no {Bn Bs Bl n c : Nat} {nm ss wd : ByteArray} {a : Option Addr} (w : World) (h1 : Own1 Bn (.string nm) w) (h2 : Own1 Bs (.string ss) w) (hpf : Lib.hasPrefix wd.data.toList ss.data.toList = false) :
    Calls Tryz.prog 175 #[.agg #[.string nm, .string wd, .slice a n c], .pointer (some ⟨Bn, 0, none⟩), .pointer (some ⟨Bs, 0, none⟩), .pointer (some ⟨Bl, 0, none⟩)] w fun e w' => e = .returned (.tuple #[]) ∧ Below w.heap.size w w' := by
  have hbB : Below w.heap.size w (w.alloc (.cells #[.string nm, .string wd, .slice a n c] 94)) := (Below.refl _ w).alloc (Nat.le_refl _) _
  have HV : Hid (VarN w.heap.size [.string nm, .string wd, .slice a n c] (w.alloc (.cells #[.string nm, .string wd, .slice a n c] 94))) := VarN.new w #[.string nm, .string wd, .slice a n c] 94 (by simp)
  have c0 := (h1.below hbB).cell
  have c1 := (h2.below hbB).cell
  have d0 := HV.out.c3.1
  have d1 := HV.out.c3.2.1
  have l1 := h1.lt
  have l2 := h2.lt
  have HB : Hid _ := hbB
  have HHP : Hid (∀ wx, Calls Tryz.prog 99 #[.string wd, .string ss] wx fun e w' => e = .returned (.bool false) ∧ w' = wx) := fun wx => (hasPrefix_any wd ss wx).mono (fun e w' hh => by
    rw [hpf] at hh
    exact hh)
  clear h1 h2 hbB hpf
  go_enter Tryz.func175, Tryz.ntmps175
  go_wp2_with fail
  refine (show Calls _ _ _ _ _ from HHP.out _).mono ?_
  rintro _ w9 ⟨rfl, h9⟩
  obtain rfl := h9.symm
  clear h9
  go_wp2
  go_end0
  exact ⟨rfl, HB.out⟩
set_option maxRecDepth 100000 in
set_option maxHeartbeats 1000000 in
theorem begin_far {Bn Bs Bl n c : Nat} {nm nc wd : ByteArray} {a : Option Addr} (w : World) (h1 : Own1 Bn (.string nm) w) (hne : ¬ nc = nm) :
    Calls Tryz.prog 175 #[.agg #[.string nc, .string wd, .slice a n c], .pointer (some ⟨Bn, 0, none⟩), .pointer (some ⟨Bs, 0, none⟩), .pointer (some ⟨Bl, 0, none⟩)] w fun e w' => e = .returned (.tuple #[]) ∧ Below w.heap.size w w' := by
  have hbB : Below w.heap.size w (w.alloc (.cells #[.string nc, .string wd, .slice a n c] 94)) := (Below.refl _ w).alloc (Nat.le_refl _) _
  have HV : Hid (VarN w.heap.size [.string nc, .string wd, .slice a n c] (w.alloc (.cells #[.string nc, .string wd, .slice a n c] 94))) := VarN.new w #[.string nc, .string wd, .slice a n c] 94 (by simp)
  have c0 := (h1.below hbB).cell
  have d0 := HV.out.c3.1
  have l1 := h1.lt
  have HB : Hid _ := hbB
  have hq := str_neq hne
  clear h1 hbB
  go_enter Tryz.func175, Tryz.ntmps175
  go_wp2
  go_end0
  exact ⟨rfl, HB.out⟩
section
variable {bf bt bp bd bm N : Nat} {up : Nat → Bool} {V : Pst} {T : Tr} {w : World} {L : List Pc}
theorem beg_pfx {nm s : ByteArray} {c : Pc} (h : isB nm s c = true) : pfx (startF nm s) 0 c.pr.k = true := by
  unfold isB at h
  rw [Bool.and_eq_true, decide_eq_true_eq] at h
  obtain ⟨rfl, h2⟩ := h
  unfold pfx Lib.hasPrefix at *
  obtain ⟨t, ht⟩ := List.isPrefixOf_iff_prefix.1 h2
  refine List.isPrefixOf_iff_prefix.2 ⟨t ++ 0 :: rowB c.r, ?_⟩
  show _ = (keyF c.n c.w c.r).data.toList
  rw [keyF_list, startF_list, ← ht]
  simp
theorem begW_filter (nm s : ByteArray) (L : List Pc) : begW' nm s (L.filter (fun c => pfx (startF nm s) 0 c.pr.k)) = begW' nm s L := by
  unfold begW'
  rw [List.filter_filter]
  congr 1
  refine List.filter_congr (fun c _ => ?_)
  cases h : isB nm s c
  · rfl
  · rw [beg_pfx h]; rfl
theorem sc_compact (ws : List ByteArray) : (Lib.compact (ws.map (fun w => w.data.toList))).map encStr = sc (cmpW ws) := by
  unfold cmpW sc
  rw [List.map_map]
  exact List.map_congr_left fun x _ => rfl
theorem sc_words (ws : List ByteArray) : (ws.map (fun w => w.data.toList)).map encStr = sc ws := by
  unfold sc
  rw [List.map_map]
  exact List.map_congr_left fun x _ => rfl
set_option maxRecDepth 100000 in
set_option maxHeartbeats 1000000 in
theorem begin_any (h : Fs bf bt bp bd bm N up V T w) {m : Int} (hm : w.cell? ⟨2, 0, none⟩ = some (.int .i64 m)) (hL : ∀ c ∈ L, c.Ok) (hps : T.all = L.map Pc.pr) (hLl : L.length ≤ 10000) (nm ss : ByteArray) (hnm : nm.size ≤ 100) (hss : ss.size ≤ 100) :
    Calls Tryz.prog 150 #[.pointer (some ⟨bf, 0, none⟩), .string nm, .string ss] w fun e w' => ∃ v, e = .returned (.tuple #[v, .nilIface]) ∧ w'.ownsRow w.heap.size 9 1 v (cmpW (begW' nm ss L)).length (sc (cmpW (begW' nm ss L))) ∧ Below w.heap.size w w' := by
  obtain ⟨w0, hw0⟩ : ∃ w0, ((w.alloc (.cells #[.string nm] 9)).alloc (.cells #[.string ss] 9)).alloc (.cells #[.slice none 0 0] 22) = w0 := ⟨_, rfl⟩
  have hbB : Below w.heap.size w w0 := by rw [← hw0]; exact (((Below.refl _ w).alloc (Nat.le_refl _) _).alloc (by simp) _).alloc (by simp only [World.size_alloc]; omega) _
  have hsz : w0.heap.size = w.heap.size + 3 := by rw [← hw0]; simp
  have o1 : Own1 w.heap.size (.string nm) w0 := by
    rw [← hw0]
    exact ((Own1.new w (.string nm) 9).below ((Below.refl _ _).alloc (Nat.le_refl _) _)).below ((Below.refl _ _).alloc (Nat.le_refl _) _)
  have o2 : Own1 (w.heap.size + 1) (.string ss) w0 := by
    rw [← hw0]
    have := Own1.new (w.alloc (.cells #[.string nm] 9)) (.string ss) 9
    rw [World.size_alloc] at this
    exact this.below ((Below.refl _ _).alloc (Nat.le_refl _) _)
  have o3 : Own1 (w.heap.size + 2) (.slice none 0 0) w0 := by
    rw [← hw0]
    have := Own1.new ((w.alloc (.cells #[.string nm] 9)).alloc (.cells #[.string ss] 9)) (.slice none 0 0) 22
    rw [World.size_alloc, World.size_alloc] at this
    exact this
  have hmf : ∀ (fn : Fn) (first cap : Array Value) (w : World), (Instr.makeFunc fn first cap).run Tryz.prog w = .ok (.func fn first cap) w := fun _ _ _ _ => rfl
  have hm2 : 2 < w.heap.size := World.block_lt_of_cell? _ _ hm
  have hwk : walkL (pfx (startF nm ss)) (startF nm ss) 0 T.all = (L.filter (fun c => pfx (startF nm ss) 0 c.pr.k)).map Pc.pr := by
    rw [walkP _ T.all 0 h.sorted, hps, List.filter_map]
    rfl
  have hpf := begW_filter nm ss L
  have hLf : ∀ c ∈ L.filter (fun c => pfx (startF nm ss) 0 c.pr.k), c.Ok := fun c hc => hL c ((List.mem_filter.1 hc).1)
  have hLfl : (L.filter (fun c => pfx (startF nm ss) 0 c.pr.k)).length ≤ 10000 := Nat.le_trans (List.length_filter_le _ _) hLl
  generalize L.filter (fun c => pfx (startF nm ss) 0 c.pr.k) = L' at *
  have HLK : Hid (Calls Tryz.prog 34 #[.pointer (some ⟨bf, 0, none⟩), .string (startF nm ss), .func (.func 175) #[] #[.pointer (some ⟨w.heap.size, 0, none⟩), .pointer (some ⟨w.heap.size + 1, 0, none⟩), .pointer (some ⟨w.heap.size + 2, 0, none⟩)]] w0 fun e w' => e = .returned .nilIface ∧ (∃ B, w0.heap.size ≤ B ∧ (Own1 w.heap.size (.string nm) w' ∧ Own1 (w.heap.size + 1) (.string ss) w' ∧ SlV B (w.heap.size + 2) (begW' nm ss (L'.take L'.length)) w')) ∧ Only (fun b => b = w.heap.size + 2) w0 w') := by
    refine look_any (I := fun B k wx => Own1 w.heap.size (.string nm) wx ∧ Own1 (w.heap.size + 1) (.string ss) wx ∧ SlV B (w.heap.size + 2) (begW' nm ss (L'.take k)) wx) (h.below hbB) (keepc hbB hm) (startF nm ss) hLf hwk hLfl (fun b e => ?_) (enters_of Tryz.func175 (by kernel_rfl) rfl) (fun B wx h1 h2 h3 => ⟨o1.below h3, o2.below h3, _, o3.below h3, World.ownsRow_nil _ _ _ _⟩) (fun B k hk v wr wx h1 h2 h3 h4 h5 => ?_)
    · subst e; exact ⟨by omega, by omega⟩
    · obtain ⟨j1, j2, v3, j3, j4⟩ := h3
      have hsb := h4.size
      obtain ⟨a5, c5, rfl⟩ := row_slice h5
      have hlk := begW_len nm ss (L'.take k)
      rw [List.length_take] at hlk
      by_cases hw : isB nm ss L'[k] = true
      · have hw2 := hw
        unfold isB at hw2
        rw [Bool.and_eq_true, decide_eq_true_eq] at hw2
        have := begin_yes (B := B) (Bl := w.heap.size + 2) (n := L'[k].l.length) (c := c5) (a := a5) (xs := begW' nm ss (L'.take k)) wx (j1.below h4) (j2.below h4) hw2.2 ⟨v3, j3.below h4, row_below j4 h4⟩ (by omega) (by omega) (by omega)
        rw [hw2.1]
        refine this.mono ?_
        rintro e w' ⟨rfl, g1, g2⟩
        refine ⟨rfl, ⟨(j1.below h4).only g2 (by omega), (j2.below h4).only g2 (by omega), ?_⟩, g2.mono (fun _ e => e)⟩
        rw [begW_take nm ss hk, if_pos hw]
        exact g1
      · refine (show Calls _ _ _ _ (fun e w' => e = .returned (.tuple #[]) ∧ Below wx.heap.size wx w') from by
          by_cases hn : L'[k].n = nm
          · rw [hn]
            refine begin_no (Bl := w.heap.size + 2) wx (j1.below h4) (j2.below h4) ?_
            cases hq : Lib.hasPrefix L'[k].w.data.toList ss.data.toList
            · rfl
            · exact absurd (by unfold isB; rw [hq, hn, decide_eq_true rfl]; rfl) hw
          · exact begin_far (Bl := w.heap.size + 2) wx (j1.below h4) hn).mono ?_
        rintro e w' ⟨rfl, g1⟩
        refine ⟨rfl, ⟨(j1.below h4).below g1, (j2.below h4).below g1, ?_⟩, below_only g1 _⟩
        rw [begW_take nm ss hk, if_neg hw, List.append_nil]
        exact ⟨v3, (j3.below h4).below g1, row_below (row_below j4 h4) g1⟩
  have HB : Hid _ := hbB
  have HSZ : Hid _ := hsz
  rw [List.take_length, hpf] at HLK
  have c1 := o1.cell
  have c2 := o2.cell
  have HSA : Hid _ := startF_any nm ss (by omega) (by omega)
  clear hbB o1 o2 o3 hm hL hps hwk h hsz hpf hLf hLfl
  go_enter Tryz.func150, Tryz.ntmps150
  go_wp2_with fail
  refine (show Calls _ _ _ _ _ from HSA.out w0).mono ?_
  rintro _ w9 ⟨rfl, h9⟩
  obtain rfl := h9.symm
  clear h9
  go_wp2_with fail
  refine (show Calls _ _ _ _ _ from HLK.out).mono ?_
  rintro _ w2 ⟨rfl, ⟨B, hB0, _, _, v, hO, hR⟩, ho⟩
  have HB2 : Hid (Below w.heap.size w w2) := Only.below HB.out ho HB.out.size (fun b e => by omega)
  have HCP : Hid (Calls Tryz.prog 176 #[v] w2 fun e w' => ∃ v', e = .returned v' ∧ w'.ownsRow w.heap.size 9 1 v' (cmpW (begW' nm ss L)).length (sc (cmpW (begW' nm ss L))) ∧ Below w.heap.size w w') := by
    have hr2 : w2.ownsRow w.heap.size 9 1 v ((begW' nm ss L).map (fun w => w.data.toList)).length (((begW' nm ss L).map (fun w => w.data.toList)).map encStr) := by
      rw [sc_words, List.length_map]
      exact row_base hR (by have := HSZ.out; omega)
    refine (compact_any hr2).mono ?_
    rintro e w' ⟨v', rfl, g1, g2⟩
    refine ⟨v', rfl, ?_, Only.below HB2.out g2 HB2.out.size (fun _ e => e)⟩
    rw [sc_compact] at g1
    unfold cmpW at g1 ⊢
    rw [List.length_map]
    exact g1
  have c0 : w2.cell? ⟨w.heap.size + 1 + 1, 0, none⟩ = some v := hO.cell
  clear hO ho hR
  go_wp2_with fail
  refine (show Calls _ _ _ _ _ from HCP.out).mono ?_
  rintro _ w3 ⟨v', rfl, g1, g2⟩
  have HR : Hid _ := g1
  have HB3 : Hid _ := g2
  clear g1 g2
  go_wp2
  go_ret2
  exact ⟨_, rfl, HR.out, HB3.out⟩
end
end Go.Proofs.YtjgdnainhoipgaaGreatDoor
namespace Go.Proofs.YtjgdnainhoipgaaGreatDoor
open Go.RowKit Go.Maps

theorem keyed9 : Keyed Tryz.prog 9 := string_keyed Tryz.underlying9
def kl (k : ByteArray) : Lit := .string k.data.toList
theorem kl_inj {a b : ByteArray} (h : kl a = kl b) : a = b := by
  unfold kl at h
  injection h with h
  exact ba_ext h
theorem kl_ne {a b : ByteArray} (h : a ≠ b) : kl a ≠ kl b := fun e => h (kl_inj e)
theorem kl_key (k : ByteArray) : WideAt.IsKeyLit (kl k) := trivial
theorem kl_of {k : ByteArray} (h : k.size ≤ 1000) : keyOf Tryz.prog 9 (.string k) = some (kl k) := WideMaps.keyOf_string_mk Tryz.underlying9 (Nat.le_trans h (by decide))
/-- an element as it is -/
def heldE (v : Value) : Option (DataW Value × List MemPlace) := some (.held v, [])
theorem heldE_inv {v : Value} {d : DataW Value} {ps : List MemPlace} (h : heldE v = some (d, ps)) : d = .held v := by
  unfold heldE at h
  exact (congrArg Prod.fst (Option.some.inj h)).symm
structure LfD (D : DataW Value) (F : ByteArray → Option Value) : Prop where
  isMap : IsMap D
  has : ∀ k, Maps.has D (kl k) = (F k).isSome
  elem : ∀ k v, F k = some v → ∀ z, D.atKey (kl k) z = .held v
def LfB (m n : Nat) (F : ByteArray → Option Value) (w : World) : Prop := ∃ D : DataW Value, w.ownsMap Tryz.prog 9 heldE m n D ∧ LfD D F
def setF (F : ByteArray → Option Value) (k : ByteArray) (o : Option Value) : ByteArray → Option Value := fun j => if j = k then o else F j
theorem setF_same (F : ByteArray → Option Value) (k : ByteArray) (o : Option Value) : setF F k o k = o := by simp [setF]
theorem setF_other (F : ByteArray → Option Value) {k j : ByteArray} (o : Option Value) (h : j ≠ k) : setF F k o j = F j := by simp [setF, h]
theorem LfD.put {D : DataW Value} {F : ByteArray → Option Value} (h : LfD D F) (k : ByteArray) (v : Value) : LfD (D.put (kl k) (.held v)) (setF F k (some v)) := by
  refine ⟨h.isMap.put _ _, fun j => ?_, fun j u hu z => ?_⟩
  · by_cases e : j = k
    · subst e
      rw [has_put_same h.isMap (kl_key _), setF_same]; rfl
    · rw [has_put_other (kl_ne e), h.has j, setF_other _ _ e]
  · by_cases e : j = k
    · subst e
      rw [setF_same] at hu
      obtain rfl := Option.some.inj hu
      exact atKey_put_same h.isMap (kl_key _) _ z
    · rw [setF_other _ _ e] at hu
      rw [atKey_put_other (kl_ne e)]; exact h.elem j u hu z
theorem LfD.del {D : DataW Value} {F : ByteArray → Option Value} (h : LfD D F) (k : ByteArray) : LfD (D.del (kl k)) (setF F k none) := by
  refine ⟨h.isMap.del _, fun j => ?_, fun j u hu z => ?_⟩
  · by_cases e : j = k
    · subst e
      rw [has_del_same, setF_same]; rfl
    · rw [has_del_other (kl_ne e), h.has j, setF_other _ _ e]
  · by_cases e : j = k
    · subst e
      rw [setF_same] at hu; cases hu
    · rw [setF_other _ _ e] at hu
      rw [atKey_del_other (kl_ne e)]; exact h.elem j u hu z
section
variable {m n : Nat} {F : ByteArray → Option Value} {w w' : World}
theorem LfB.lt (h : LfB m n F w) : m < w.heap.size := by obtain ⟨D, hD, _⟩ := h; exact hD.lt
theorem LfB.block (h : LfB m n F w) (hb : w'.heap[m]? = w.heap[m]?) : LfB m n F w' := by
  obtain ⟨D, ⟨es, clock, hm, F, hs, hD⟩, hM⟩ := h
  exact ⟨D, ⟨es, clock, hb.trans hm, F, hs, hD⟩, hM⟩
theorem LfB.only {S : Nat → Prop} (h : LfB m n F w) (ho : Only S w w') (hs : ¬ S m) : LfB m n F w' := h.block (ho.block m h.lt hs)
theorem LfB.below (h : LfB m n F w) (hb : Below w.heap.size w w') : LfB m n F w' := h.block (hb.block m h.lt)
theorem LfB.new (w : World) : LfB w.heap.size 0 (fun _ => none) (w.alloc (.map #[] 0)) :=
  ⟨.map [], World.ownsMap_made _ _ _ _, ⟨⟨[], rfl⟩, fun k => by simp [has_eq], fun k v h => (by cases h)⟩⟩
end
theorem zero36 (w : World) : (zeroValue 65).run Tryz.prog w = .ok (.slice none 0 0) w := by kernel_rfl
section
variable {ops : Array Oper} {rest : List Oper} {o : Oper} {a : Act} {Q : Exit → Act → World → Prop} {m n : Nat} {F : ByteArray → Option Value}
theorem LfD.look {D : DataW Value} (hM : LfD D F) {k : ByteArray} {v : Value} {ps : List MemPlace} (hv : heldE v = some (D.atKey (kl k) (.held (.slice none 0 0)), ps)) : v = (F k).getD (.slice none 0 0) := by
  have h1 := heldE_inv hv
  cases e : F k with
  | none =>
    have h2 := hM.has k
    rw [e] at h2
    rw [atKey_of_not_has h2] at h1
    injection h1 with h3
    exact h3.symm
  | some u =>
    rw [hM.elem k u e] at h1
    injection h1 with h3
    exact h3.symm
theorem look_lf (w : World) (hg : o.guard = none) (mo x : Operand) (hop : o.op = Op.lookup 146 mo x false) (hS : LfB m n F w) (k : ByteArray) (hk : k.size ≤ 1000) (hm : a.eval mo = .map (some m)) (hx : a.eval x = .string k)
    (hK : wpList Tryz.prog ops Q rest (a.put o.dst ((F k).getD (.slice none 0 0))) w) : wpList Tryz.prog ops Q (o :: rest) a w := by
  obtain ⟨D, hD, hM⟩ := hS
  refine wpList_plain hg fun K' hK' => ?_
  obtain ⟨v, ps, hrun, hv⟩ := hD.lookup keyed9 Tryz.underlying146 (zero36 w) (zd := .held (.slice none 0 0)) (zp := []) rfl (kl_of hk)
  obtain rfl := hM.look hv
  unfold Oper.wp
  simp [execOp, hop, hm, hx, hrun, Result.andThen]
  exact hK' _ _ hK
theorem look2_lf (w : World) (hg : o.guard = none) (mo x : Operand) (hop : o.op = Op.lookup 146 mo x true) (hS : LfB m n F w) (k : ByteArray) (hk : k.size ≤ 1000) (hm : a.eval mo = .map (some m)) (hx : a.eval x = .string k)
    (hK : wpList Tryz.prog ops Q rest (a.put o.dst (.tuple #[(F k).getD (.slice none 0 0), .bool (F k).isSome])) w) : wpList Tryz.prog ops Q (o :: rest) a w := by
  obtain ⟨D, hD, hM⟩ := hS
  refine wpList_lookup_own_ok w hg mo x 146 hop 9 65 keyed9 Tryz.underlying146 heldE (zero36 w) (.held (.slice none 0 0)) [] rfl m n D hm hD _ _ hx (kl_of hk) ?_
  intro v ps hv
  obtain rfl := hM.look hv
  rw [hM.has]
  exact hK
theorem put_lf (w : World) (hg : o.guard = none) (mo x v : Operand) (hop : o.op = Op.mapUpdate 146 mo x v) (hS : LfB m n F w) (hn : n < 1000000) (k : ByteArray) (hk : k.size ≤ 1000) (u : Value) (hm : a.eval mo = .map (some m)) (hx : a.eval x = .string k) (hv : a.eval v = u)
    (hK : ∀ w', LfB m (n + 1) (setF F k (some u)) w' → Only (fun b => b = m) w w' → wpList Tryz.prog ops Q rest (a.put o.dst undef) w') : wpList Tryz.prog ops Q (o :: rest) a w := by
  obtain ⟨D, hD, hM⟩ := hS
  refine wpList_mapUpdate_own w hg mo x v 146 hop 9 65 keyed9 Tryz.underlying146 heldE m n D hm hD (Nat.lt_trans hn (by decide)) _ _ _ hx hv (kl_of hk) (.held u) [] rfl ?_
  intro w' h1 h2
  exact hK w' ⟨_, h1, hM.put k u⟩ (Only.of_grown h2 rfl)
theorem del_lf (w : World) (hg : o.guard = none) (mo x : Operand) (hop : o.op = Op.call { callee := Callee.builtin Builtin.delete, args := #[mo, x], argTypes := #[146, 9] }) (hS : LfB m n F w) (k : ByteArray) (hk : k.size ≤ 1000) (hm : a.eval mo = .map (some m)) (hx : a.eval x = .string k)
    (hK : ∀ w', LfB m n (setF F k none) w' → Only (fun b => b = m) w w' → wpList Tryz.prog ops Q rest (a.put o.dst (.tuple #[])) w') : wpList Tryz.prog ops Q (o :: rest) a w := by
  obtain ⟨D, hD, hM⟩ := hS
  refine wpList_delete_own w hg mo x 146 9 hop 65 keyed9 Tryz.underlying146 heldE m n D hm hD _ _ hx (kl_of hk) ?_
  intro w' h1 h2
  exact hK w' ⟨_, h1, hM.del k⟩ (Only.of_grown h2.grown rfl)
end
/-- the rows that the map has -/
structure LfR (B : Nat) (A : ByteArray → List Pl) (F : ByteArray → Option Value) (w : World) : Prop where
  none : ∀ k, F k = none → A k = []
  row : ∀ k v, F k = some v → w.ownsRow B 117 2 v (A k).length (plc (A k)) ∧ 0 < (A k).length
  ap : ∀ k v j u, F k = some v → F j = some u → k ≠ j → ∀ b, v.ownBlock = some b → u.ownBlock ≠ some b
section
variable {B : Nat} {A : ByteArray → List Pl} {F : ByteArray → Option Value} {w w' : World}
theorem LfR.only {S : Nat → Prop} (h : LfR B A F w) (ho : Only S w w') (hS : ∀ b, S b → b < B) : LfR B A F w' :=
  ⟨h.none, fun k v hv => ⟨row_only (h.row k v hv).1 ho hS, (h.row k v hv).2⟩, h.ap⟩
theorem LfR.below (h : LfR B A F w) (hb : Below w.heap.size w w') : LfR B A F w' := h.only (below_only hb (fun _ => False)) (fun _ e => e.elim)
theorem LfR.del (h : LfR B A F w) (k : ByteArray) {A' : ByteArray → List Pl} (h0 : A' k = []) (h1 : ∀ j, j ≠ k → A' j = A j) : LfR B A' (setF F k Option.none) w := by
  refine ⟨fun j hj => ?_, fun j v hv => ?_, fun j v i u hv hu hne => ?_⟩
  · by_cases e : j = k
    · rw [e]; exact h0
    · rw [setF_other _ _ e] at hj
      rw [h1 j e]; exact h.none j hj
  · by_cases e : j = k
    · subst e; rw [setF_same] at hv; cases hv
    · rw [setF_other _ _ e] at hv
      rw [h1 j e]; exact h.row j v hv
  · by_cases e : j = k
    · subst e; rw [setF_same] at hv; cases hv
    · by_cases e2 : i = k
      · subst e2; rw [setF_same] at hu; cases hu
      · rw [setF_other _ _ e] at hv
        rw [setF_other _ _ e2] at hu
        exact h.ap j v i u hv hu hne
theorem LfR.at (h : LfR B A F w) (k : ByteArray) : w.ownsRow B 117 2 ((F k).getD (.slice Option.none 0 0)) (A k).length (plc (A k)) := by
  cases e : F k with
  | none => rw [h.none k e]; exact World.ownsRow_nil _ _ _ _
  | some v => exact (h.row k v e).1
theorem LfR.put (h : LfR B A F w) (k : ByteArray) {A' : ByteArray → List Pl} {u : Value} (hG : w.grownBy w' ((F k).getD (.slice Option.none 0 0)).ownBlock) (hu : w'.ownsRow B 117 2 u (A' k).length (plc (A' k))) (hp : 0 < (A' k).length) (h1 : ∀ j, j ≠ k → A' j = A j)
    (hat : ∀ b, u.ownBlock = some b → ((F k).getD (.slice Option.none 0 0)).ownBlock = some b ∨ w.heap.size ≤ b) : LfR B A' (setF F k (some u)) w' := by
  have hap : ∀ j v, j ≠ k → F j = some v → ∀ b, v.ownBlock = some b → ((F k).getD (.slice Option.none 0 0)).ownBlock ≠ some b := by
    intro j v hj hv b hb
    cases e : F k with
    | none => intro hx; cases hx
    | some v0 => exact h.ap j v k v0 hv e hj b hb
  have hap2 : ∀ j v, j ≠ k → F j = some v → ∀ b, v.ownBlock = some b → u.ownBlock ≠ some b := by
    intro j v hj hv b hb hub
    rcases hat b hub with e | e
    · exact hap j v hj hv b hb e
    · have := (World.ownsRow.lt (h.row j v hv).1 b hb).2
      omega
  refine ⟨fun j hj => ?_, fun j v hv => ?_, fun j v i u' hv hu' hne => ?_⟩
  · by_cases e : j = k
    · subst e; rw [setF_same] at hj; cases hj
    · rw [setF_other _ _ e] at hj
      rw [h1 j e]; exact h.none j hj
  · by_cases e : j = k
    · subst e; rw [setF_same] at hv
      obtain rfl := Option.some.inj hv
      exact ⟨hu, hp⟩
    · rw [setF_other _ _ e] at hv
      rw [h1 j e]
      refine ⟨?_, (h.row j v hv).2⟩
      exact row_apart (S := fun b => ((F k).getD (.slice Option.none 0 0)).ownBlock = some b) (h.row j v hv).1 (grown_only hG (fun b e => e)) (fun b hb => hap j v e hv b hb)
  · by_cases e : j = k
    · subst e
      rw [setF_same] at hv
      obtain rfl := Option.some.inj hv
      have e2 : i ≠ j := fun e => hne e.symm
      rw [setF_other _ _ e2] at hu'
      exact fun b hb hb2 => hap2 i u' e2 hu' b hb2 hb
    · rw [setF_other _ _ e] at hv
      by_cases e2 : i = k
      · subst e2
        rw [setF_same] at hu'
        obtain rfl := Option.some.inj hu'
        exact fun b hb => hap2 j v e hv b hb
      · rw [setF_other _ _ e2] at hu'
        exact h.ap j v i u' hv hu' hne
end
end Go.Proofs.YtjgdnainhoipgaaGreatDoor
namespace Go.Proofs.YtjgdnainhoipgaaGreatDoor
open Go.RowKit Go.Maps

theorem plcs_snoc (r : Nat) : ∀ (l : List ByteArray) (j : Nat) (x w : ByteArray), plcsF r j (l ++ [x]) w = plcsF r j l w ++ (if x = w then [⟨(r : Int), ((j + l.length : Nat) : Int)⟩] else [])
  | [], j, x, w => by
    rw [List.nil_append, plcsF, plcsF, plcsF]
    split <;> simp
  | y :: l, j, x, w => by
    rw [List.cons_append, plcsF, plcsF, plcs_snoc r l (j + 1) x w, List.length_cons, show j + 1 + l.length = j + (l.length + 1) by omega]
    split <;> simp
theorem plcs_len (r : Nat) : ∀ (l : List ByteArray) (j : Nat) (w : ByteArray), (plcsF r j l w).length ≤ l.length
  | [], j, w => Nat.le_refl _
  | y :: l, j, w => by
    have := plcs_len r l (j + 1) w
    unfold plcsF
    split <;> simp only [List.length_cons] <;> omega
theorem plcs_pos (r : Nat) : ∀ (l : List ByteArray) (j : Nat) (w : ByteArray), w ∈ l → 0 < (plcsF r j l w).length
  | [], j, w, h => by cases h
  | y :: l, j, w, h => by
    unfold plcsF
    by_cases e : y = w
    · rw [if_pos e]; simp
    · rw [if_neg e]
      refine plcs_pos r l (j + 1) w ?_
      rcases List.mem_cons.1 h with h | h
      · exact absurd h.symm e
      · exact h
theorem elem22 : Tryz.prog.elem 22 = 9 := by kernel_rfl
theorem size9r : (sizeOf 9).run Tryz.prog = fun w => .ok 1 w := by kernel_rfl
theorem index_str (g n cap i : Nat) (hi : i < n) (wx : World) : (Instr.indexAt 22 (.slice (some ⟨g, 0, none⟩) n cap) (.int .i64 (i : Nat))).run Tryz.prog wx = .ok (.pointer (some ⟨g, i, none⟩)) wx := by
  have := index_many Tryz.underlying22 elem22 size9r g n cap i hi wx
  rw [Nat.one_mul] at this
  exact this
/-- a word of a row of words -/
theorem srow_at {w : World} {B : Nat} {v : Value} {ss : List ByteArray} (h : w.ownsRow B 9 1 v ss.length (sc ss)) {i : Nat} (hi : i < ss.length) : ∃ g cap, v = .slice (some ⟨g, 0, none⟩) ss.length cap ∧ w.cell? ⟨g, i, none⟩ = some (.string ss[i]) := by
  obtain ⟨g, cap, rfl, h1, h2⟩ := World.ownsRow.form h (by omega)
  refine ⟨g, cap, rfl, ?_⟩
  have := h.cells (g := g) rfl i (.string ss[i]) (by unfold sc; rw [List.getElem?_map, List.getElem?_eq_getElem hi]; rfl)
  rw [add_pl, Nat.zero_add] at this
  exact this
theorem Only.shed {S : Nat → Prop} {w w' : World} (h : Only (fun b => S b ∨ w.heap.size ≤ b) w w') : Only S w w' :=
  ⟨h.os, h.tape, h.output, h.size, fun k hk hs => h.block k hk (fun e => by rcases e with e | e; exact hs e; exact absurd hk (by omega))⟩
section
variable {w : World} {ws : List ByteArray} {v : Value} {r Bx : Nat} {W : Nat → Prop} {I : Nat → World → Prop} {fw : Nat} {cw : Array Value}
open Classical in
/-- what is left of the places -/
noncomputable def leftA (r : Nat) (ws : List ByteArray) (i : Nat) (k : ByteArray) : List Pl := if k ∈ ws.take i then [] else plcsF r 0 ws k
theorem leftA_congr {i j : Nat} {k : ByteArray} (h : k ∈ ws.take j ↔ k ∈ ws.take i) : leftA r ws j k = leftA r ws i k := by
  unfold leftA
  by_cases e : k ∈ ws.take i
  · rw [if_pos e, if_pos (h.2 e)]
  · rw [if_neg e, if_neg (fun e2 => e (h.1 e2))]
set_option maxRecDepth 100000 in
set_option maxHeartbeats 4000000 in
theorem once_any (hws : ∀ x ∈ ws, x.size ≤ 100) (hl : ws.length ≤ 100000) (hrow : w.ownsRow Bx 9 1 v ws.length (sc ws)) (hW : ∀ b, W b → b < w.heap.size ∧ v.ownBlock ≠ some b)
    (eg : ∀ args w, (callFunc fw args).run Tryz.prog w = .ok (.enter fw args) w) (hI : I 0 w) (hst : ∀ k wx wy, I k wx → Only (fun b => w.heap.size ≤ b) wx wy → I k wy)
    (hc : ∀ i (hi : i < ws.length) a n c wx, ws[i] ∉ ws.take i → I i wx → w.heap.size ≤ wx.heap.size → wx.ownsRow w.heap.size 117 2 (.slice a n c) (plcsF r 0 ws ws[i]).length (plc (plcsF r 0 ws ws[i])) → n = (plcsF r 0 ws ws[i]).length →
      Calls Tryz.prog fw (#[.string ws[i], .slice a n c] ++ cw) wx fun e w' => e = .returned .nilIface ∧ I (i + 1) w' ∧ Only W wx w')
    (hsk : ∀ i (hi : i < ws.length) wx, ws[i] ∈ ws.take i → I i wx → I (i + 1) wx) :
    Calls Tryz.prog 36 #[v, .int .i64 (r : Nat), .func (.func fw) #[] cw] w fun e w' => e = .returned .nilIface ∧ I ws.length w' ∧ Only W w w' := by
  obtain ⟨i0, hi0, hz0, hz1, hz2⟩ := pinfo_parts infoPl
  obtain ⟨a9, c9, hv9⟩ := row_slice hrow
  obtain ⟨n, hn⟩ : ∃ n, ws.length = n := ⟨_, rfl⟩
  have HN : Hid _ := hn
  rw [hn] at hv9 hl
  subst hv9
  have hmm := @run_makeMap Tryz.prog
  have HROW : Hid _ := hrow
  have HW : Hid _ := hW
  have HI : Hid _ := hI
  have HST : Hid _ := hst
  have HC : Hid _ := hc
  have HSK : Hid _ := hsk
  have HWS : Hid _ := hws
  have hbm : Below w.heap.size w (w.alloc (.map #[] 0)) := (Below.refl _ w).alloc (Nat.le_refl _) _
  have HM0 : Hid (LfB w.heap.size 0 (fun _ => none) (w.alloc (.map #[] 0))) := LfB.new w
  have HBM : Hid _ := hbm
  have HR0 : Hid (∀ wx, Only (fun b => W b ∨ w.heap.size ≤ b) w wx → wx.ownsRow Bx 9 1 (.slice a9 n c9) ws.length (sc ws)) := fun wx ho => row_apart HROW.out ho (fun b e => by
    rintro (e2 | e2)
    · exact (HW.out b e2).2 e
    · have := (World.ownsRow.lt HROW.out b e).2; omega)
  clear hrow hW hI hst hc hsk hws hbm hn
  go_enter Tryz.func36, Tryz.ntmps36
  go_wp2_with fail
  go_loopw [18] (fun iv wr => ∃ (i : Nat) (F : ByteArray → Option Value), i ≤ n ∧ iv = .int .i64 (i : Nat) ∧ Hid (LfB w.heap.size i F wr) ∧ Hid (LfR (w.heap.size + 1) (plcsF r 0 (ws.take i)) F wr) ∧ Hid (Below w.heap.size w wr) ∧ Hid (w.heap.size + 1 ≤ wr.heap.size)) (fun iv _ => n + 1 - (intOf iv).toNat)
  case atStart =>
    refine ⟨0, fun _ => none, Nat.zero_le _, rfl, HM0, ⟨fun k _ => rfl, fun k v h => (by cases h), fun k v j u h => (by cases h)⟩, HBM, ?_⟩
    show _ ≤ _
    rw [World.size_alloc]; omega
  case round =>
    clear HM0
    obtain ⟨i, F, hi, rfl, HM, HR, HB, HSZ⟩ := hrel
    by_cases hlt : i < n
    · have h1 : (i : Int) < (n : Int) := by omega
      have hil : i < ws.length := by rw [HN.out]; exact hlt
      obtain ⟨g, cap, hv, hcell⟩ := srow_at (HR0.out wr (below_only HB.out _)) hil
      rw [HN.out] at hv
      cases hv
      have hix := fun wx => index_str g n c9 i hlt wx
      obtain ⟨wd, hwd⟩ : ∃ wd, ws[i] = wd := ⟨_, rfl⟩
      have HWD : Hid _ := hwd
      have hws1 : wd.size ≤ 1000 := by have := HWS.out _ (List.getElem_mem hil); rw [hwd] at this; omega
      rw [hwd] at hcell
      have hbA : Below wr.heap.size wr (wr.alloc (.cells #[.int .i64 (r : Nat), .int .i64 (i : Nat)] 117)) := (Below.refl _ _).alloc (Nat.le_refl _) _
      have HMA : Hid (LfB w.heap.size i F (wr.alloc (.cells #[.int .i64 (r : Nat), .int .i64 (i : Nat)] 117))) := HM.out.below hbA
      have HRA : Hid (LfR (w.heap.size + 1) (plcsF r 0 (ws.take i)) F (wr.alloc (.cells #[.int .i64 (r : Nat), .int .i64 (i : Nat)] 117))) := HR.out.below hbA
      have HBA : Hid (Below w.heap.size w (wr.alloc (.cells #[.int .i64 (r : Nat), .int .i64 (i : Nat)] 117))) := HB.out.trans (hbA.mono HB.out.size)
      obtain ⟨v0, hv0⟩ : ∃ v0, (F wd).getD (.slice none 0 0) = v0 := ⟨_, rfl⟩
      have HV0 : Hid _ := hv0
      have HAT : Hid ((wr.alloc (.cells #[.int .i64 (r : Nat), .int .i64 (i : Nat)] 117)).ownsRow (w.heap.size + 1) 117 2 v0 (plcsF r 0 (ws.take i) wd).length (plc (plcsF r 0 (ws.take i) wd))) := by
        rw [← hv0]; exact HRA.out.at wd
      have hln : (plcsF r 0 (ws.take i) wd).length ≤ 100000 := by
        have := plcs_len r (ws.take i) 0 wd
        rw [List.length_take] at this
        omega
      have HNW : Hid (∀ (j : Nat) (u : Value), [Value.int .i64 (r : Nat), .int .i64 (i : Nat)][j]? = some u → (wr.alloc (.cells #[.int .i64 (r : Nat), .int .i64 (i : Nat)] 117)).cell? ((⟨wr.heap.size, 0, none⟩ : Addr).add j) = some u) := by
        intro j u hu
        have hV := VarN.new wr #[.int .i64 (r : Nat), .int .i64 (i : Nat)] 117 (by simp)
        rw [add_pl]
        exact hV.get hu
      clear hwd hbA hv0
      go_wp2_with (first | (at_lookup; refine look_lf _ rfl _ _ rfl HM.out wd hws1 rfl rfl ?_; rw [HV0.out]) | (at_builtin; refine wpList_append_lies _ rfl _ _ 65 rfl (w.heap.size + 1) 117 i0 (.agg #[.int .i64 0, .int .i64 0]) 2 16 Tryz.underlying65 hi0 hz0 hz1 hz2 rfl (by decide) _ _ _ rfl HAT.out ⟨wr.heap.size, 0, none⟩ 1 1 [.int .i64 (r : Nat), .int .i64 (i : Nat)] rfl rfl HNW.out (by intro u hu; simp at hu; rcases hu with rfl | rfl <;> rfl) (by decide) (by simp only [maxLen]; omega) (by omega) (by have := HSZ.out; rw [World.size_alloc]; omega) _ rfl ?_; intro g' cap' w' hO hG hat hlt'; have HM3 : Hid (LfB w.heap.size i F w') := HMA.out.block (hG.block _ HMA.out.lt (fun e => by have := (World.ownsRow.lt HAT.out _ e.symm).1; omega))) | (at_mapUpdate; refine put_lf _ rfl _ _ _ rfl HM3.out (by omega) wd hws1 _ rfl rfl rfl ?_; intro w8 hM8 hO8))
      refine ⟨⟨i + 1, _, by omega, by go_num, hM8, ?_, ?_, ?_⟩, by simp [intOf]; omega⟩
      · refine LfR.only (S := fun b => b = w.heap.size) (w := w') ?_ hO8 (fun b e => by omega)
        have hsn := plcs_snoc r (ws.take i) 0 ws[i]
        rw [← List.take_succ_eq_append_getElem hil, HWD.out] at hsn
        have hlt2 : (ws.take i).length = i := by rw [List.length_take]; omega
        have hs1 := hsn wd
        rw [if_pos rfl, hlt2, Nat.zero_add] at hs1
        refine HRA.out.put wd (by rw [HV0.out]; exact hG) ?_ ?_ (fun j hj => ?_) (fun b hb => ?_)
        · rw [hs1, List.length_append, plc_append]
          exact hO
        · rw [hs1, List.length_append]
          show 0 < _ + 1
          omega
        · rw [hsn j, if_neg (fun e => hj e.symm), List.append_nil]
        · rw [HV0.out]
          have hb' : some g' = some b := hb
          obtain rfl := Option.some.inj hb'
          rcases hat with e | e
          · exact .inl e
          · exact .inr (Nat.le_of_eq e.symm)
      · have hB2 : Below w.heap.size w w' := Only.below HBA.out (grown_only (S := fun b => w.heap.size ≤ b) hG (fun b e => by have := (World.ownsRow.lt HAT.out _ e).1; omega)) HBA.out.size (fun _ e => e)
        exact Only.below hB2 hO8 hB2.size (fun b e => by omega)
      · show _ ≤ _
        have e1 := hO8.size
        have e2 := hG.size
        have e3 := HSZ.out
        rw [World.size_alloc] at e2
        omega
    · have h1 : ¬ (i : Int) < (n : Int) := by omega
      obtain rfl : n = i := by omega
      have HRL : Hid (LfR (w.heap.size + 1) (leftA r ws 0) F wr) := by
        have := HR.out
        rw [← HN.out, List.take_length] at this
        have e : leftA r ws 0 = plcsF r 0 ws := by
          funext k
          simp [leftA]
        show LfR _ _ _ _
        rw [e]; exact this
      have HI0 : Hid (I 0 wr) := HST.out 0 w wr HI.out (below_only HB.out _)
      have HB1 : Hid (Only (fun b => W b ∨ w.heap.size ≤ b) w wr) := below_only HB.out _
      clear HR HB HI
      go_wp2_with fail
      go_loopw [36] (fun iv wr => ∃ (i : Nat) (F : ByteArray → Option Value), i ≤ n ∧ iv = .int .i64 (i : Nat) ∧ Hid (LfB w.heap.size n F wr) ∧ Hid (LfR (w.heap.size + 1) (leftA r ws i) F wr) ∧ Hid (I i wr) ∧ Hid (Only (fun b => W b ∨ w.heap.size ≤ b) w wr)) (fun iv _ => n + 1 - (intOf iv).toNat)
      case atStart => exact ⟨0, F, Nat.zero_le _, rfl, HM, HRL, HI0, HB1⟩
      case round =>
        clear HM HRL HI0 HB1
        obtain ⟨i, F, hi, rfl, HM, HRL, HII, HB⟩ := hrel
        by_cases hlt : i < n
        · have h1 : (i : Int) < (n : Int) := by omega
          have hil : i < ws.length := by rw [HN.out]; exact hlt
          obtain ⟨g, cap, hv, hcell⟩ := srow_at (HR0.out wr HB.out) hil
          rw [HN.out] at hv
          cases hv
          have hix := fun wx => index_str g n c9 i hlt wx
          obtain ⟨wd, hwd⟩ : ∃ wd, ws[i] = wd := ⟨_, rfl⟩
          have HWD : Hid _ := hwd
          have hws1 : wd.size ≤ 1000 := by have := HWS.out _ (List.getElem_mem hil); rw [hwd] at this; omega
          rw [hwd] at hcell
          have hnx : ∀ k, k ∈ ws.take (i + 1) ↔ k ∈ ws.take i ∨ k = wd := fun k => by
            rw [List.take_succ_eq_append_getElem hil, hwd, List.mem_append, List.mem_singleton]
          by_cases hin : wd ∈ ws.take i
          · have hF : F wd = none := by
              cases e : F wd with
              | none => rfl
              | some v1 =>
                have := (HRL.out.row wd v1 e).2
                rw [leftA, if_pos hin] at this
                simp at this
            have HL2 : Hid (LfR (w.heap.size + 1) (leftA r ws (i + 1)) F wr) := by
              have e : leftA r ws (i + 1) = leftA r ws i := by
                funext k
                exact leftA_congr ⟨fun h => by rcases (hnx k).1 h with h | h; exact h; rw [h]; exact hin, fun h => (hnx k).2 (.inl h)⟩
              show LfR _ _ _ _
              rw [e]; exact HRL.out
            have HI2 : Hid (I (i + 1) wr) := HSK.out i hil wr (by rw [HWD.out]; exact hin) HII.out
            have HFN : Hid ((F wd).getD (.slice none 0 0) = .slice none 0 0 ∧ (F wd).isSome = false) := ⟨by rw [hF]; rfl, by rw [hF]; rfl⟩
            clear hF hin hnx hwd
            go_wp2_with (at_lookup; refine look2_lf _ rfl _ _ rfl HM.out wd hws1 rfl rfl ?_; rw [HFN.out.1, HFN.out.2])
            go_roundw
            case rel => exact ⟨i + 1, F, by omega, by go_num, HM, HL2, HI2, HB⟩
            case measure => simp [intOf]; omega
          · have hmem : wd ∈ ws := by rw [← hwd]; exact List.getElem_mem hil
            obtain ⟨v1, hF⟩ : ∃ v1, F wd = some v1 := by
              cases e : F wd with
              | some v1 => exact ⟨v1, rfl⟩
              | none =>
                have h1 := HRL.out.none wd e
                rw [leftA, if_neg hin] at h1
                have h2 := plcs_pos r ws 0 wd hmem
                rw [h1] at h2
                simp at h2
            have hr1 := (HRL.out.row wd v1 hF).1
            rw [leftA, if_neg hin] at hr1
            obtain ⟨a1, c1, hv1⟩ := row_slice hr1
            obtain ⟨n1, hn1⟩ : ∃ n1, (plcsF r 0 ws wd).length = n1 := ⟨_, rfl⟩
            rw [hn1] at hv1
            subst hv1
            have HR1 : Hid (wr.ownsRow (w.heap.size + 1) 117 2 (.slice a1 n1 c1) (plcsF r 0 ws wd).length (plc (plcsF r 0 ws wd))) := hr1
            have HN1 : Hid _ := hn1
            have HL2 : Hid (LfR (w.heap.size + 1) (leftA r ws (i + 1)) (setF F wd none) wr) := HRL.out.del wd (by unfold leftA; rw [if_pos ((hnx wd).2 (.inr rfl))]) (fun j hj => leftA_congr ⟨fun h => by rcases (hnx j).1 h with h | h; exact h; exact absurd h hj, fun h => (hnx j).2 (.inl h)⟩)
            have HFN : Hid ((F wd).getD (.slice none 0 0) = .slice a1 n1 c1 ∧ (F wd).isSome = true) := ⟨by rw [hF]; rfl, by rw [hF]; rfl⟩
            have HIN : Hid (¬ ws[i] ∈ ws.take i) := by rw [hwd]; exact hin
            clear hF hin hnx hwd hr1 hn1
            go_wp2_with (first | (at_lookup; refine look2_lf _ rfl _ _ rfl HM.out wd hws1 rfl rfl ?_; rw [HFN.out.1, HFN.out.2]) | (at_delete; refine del_lf _ rfl _ _ rfl HM.out wd hws1 rfl rfl ?_; intro w8 hM8 hO8))
            have HM8 : Hid (LfB w.heap.size n (setF F wd none) w8) := hM8
            have HL8 : Hid (LfR (w.heap.size + 1) (leftA r ws (i + 1)) (setF F wd none) w8) := HL2.out.only hO8 (fun b e => by omega)
            have HB8 : Hid (Only (fun b => W b ∨ w.heap.size ≤ b) w w8) := HB.out.trans hO8 (fun b e => .inl (.inr (Nat.le_of_eq e.symm)))
            have HCC : Hid (Calls Tryz.prog fw (#[.string wd, .slice a1 n1 c1] ++ cw) w8 fun e w' => e = .returned .nilIface ∧ I (i + 1) w' ∧ Only W w8 w') := by
              have h8 : w8.ownsRow w.heap.size 117 2 (.slice a1 n1 c1) (plcsF r 0 ws ws[i]).length (plc (plcsF r 0 ws ws[i])) := by
                rw [HWD.out]
                exact row_base (row_only HR1.out hO8 (fun b e => by omega)) (by omega)
              have := HC.out i hil a1 n1 c1 w8 HIN.out (HST.out i wr w8 HII.out (hO8.mono (fun b e => Nat.le_of_eq e.symm))) HB8.out.size h8 (by rw [HWD.out, HN1.out])
              rw [HWD.out] at this
              exact this
            clear hM8 hO8
            go_wp2_with fail
            refine (show Calls _ _ _ _ _ from HCC.out).mono ?_
            rintro _ w9 ⟨rfl, hi9, ho9⟩
            have HI9 : Hid (I (i + 1) w9) := hi9
            have HM9 : Hid (LfB w.heap.size n (setF F wd none) w9) := HM8.out.only ho9 (fun e => by have := (HW.out _ e).1; omega)
            have HL9 : Hid (LfR (w.heap.size + 1) (leftA r ws (i + 1)) (setF F wd none) w9) := HL8.out.only ho9 (fun b e => by have := (HW.out _ e).1; omega)
            have HB9 : Hid (Only (fun b => W b ∨ w.heap.size ≤ b) w w9) := HB8.out.trans ho9 (fun b e => .inl (.inl e))
            clear hi9 ho9
            go_wp2_with fail
            go_roundw
            case rel => exact ⟨i + 1, _, by omega, by go_num, HM9, HL9, HI9, HB9⟩
            case measure => simp [intOf]; omega
        · have h1 : ¬ (i : Int) < (n : Int) := by omega
          obtain rfl : n = i := by omega
          go_wp2
          go_ret
          exact ⟨rfl, by rw [HN.out]; exact HII.out, HB.out.shed⟩
end
end Go.Proofs.YtjgdnainhoipgaaGreatDoor
