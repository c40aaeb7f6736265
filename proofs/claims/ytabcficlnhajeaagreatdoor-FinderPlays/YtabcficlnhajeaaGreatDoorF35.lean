/- Texts of the proof of FinderPlays: Rof, Shs, Rbg, Rbe, Shx. -/
import Derived.Test.YtabcficlnhajeaaGreatDoorF34
import Derived.Shelf.Sort.Plain
import Derived.Shelf.Slices.In.SortNone2
import Derived.Test.YtabcficlnhajeaaGreatDoorProg
import Derived.Maps.RangeWalk
import Derived.Shelf.Small.Strs
namespace Go.Proofs.YtabcficlnhajeaaGreatDoor
open Go.RowKit Go.Maps

def isN (nm wd : ByteArray) (d : Nd) : Bool := decide (d.n = nm) && decide (d.w = wd)
def ofL (nm wd : ByteArray) (D : List Nd) : List Pl := (D.filter (isN nm wd)).map Nd.pl
theorem ofL_take {nm wd : ByteArray} {D : List Nd} {i : Nat} (hi : i < D.length) : ofL nm wd (D.take (i + 1)) = ofL nm wd (D.take i) ++ (if isN nm wd D[i] = true then [D[i].pl] else []) := by
  unfold ofL
  rw [List.take_succ_eq_append_getElem hi, List.filter_append, List.map_append, List.filter_cons]
  cases isN nm wd D[i] <;> rfl
theorem ofL_len (nm wd : ByteArray) (D : List Nd) : (ofL nm wd D).length ≤ D.length := by
  unfold ofL
  rw [List.length_map]
  exact List.length_filter_le _ _
theorem mem_ofL {nm wd : ByteArray} {D : List Nd} {p : Pl} : p ∈ ofL nm wd D ↔ ∃ d ∈ D, d.n = nm ∧ d.w = wd ∧ p = d.pl := by
  unfold ofL isN
  constructor
  · intro h
    obtain ⟨d, hd, rfl⟩ := List.mem_map.1 h
    obtain ⟨h1, h2⟩ := List.mem_filter.1 hd
    rw [Bool.and_eq_true, decide_eq_true_eq, decide_eq_true_eq] at h2
    exact ⟨d, h1, h2.1, h2.2, rfl⟩
  · rintro ⟨d, hd, e1, e2, rfl⟩
    exact List.mem_map.2 ⟨d, List.mem_filter.2 ⟨hd, by rw [Bool.and_eq_true, decide_eq_true_eq, decide_eq_true_eq]; exact ⟨e1, e2⟩⟩, rfl⟩
theorem isWord_any {bs : Nat} {wd : ByteArray} {w : World} (h : Own1 bs (.string wd) w) (y : ByteArray) (g : Bool) (hg : g = decide (y = wd)) : Calls Tryz.prog 29 #[.string y, .pointer (some ⟨bs, 0, none⟩)] w fun e w' => e = .returned (.bool g) ∧ w' = w := by
  have c0 := h.cell
  clear h
  by_cases e : y = wd
  · subst e
    rw [decide_eq_true rfl] at hg
    subst hg
    go_enter Tryz.func29, Tryz.ntmps29
    go_wp2
    go_ret
    exact ⟨rfl, rfl⟩
  · rw [decide_eq_false e] at hg
    subst hg
    have hq := str_neq e
    clear e
    go_enter Tryz.func29, Tryz.ntmps29
    go_wp2
    go_ret
    exact ⟨rfl, rfl⟩
theorem pl_cells (w : World) (r a : Int) : ∀ (j : Nat) (u : Value), [Value.int .i64 r, Value.int .i64 a][j]? = some u → (w.alloc (.cells #[.int .i64 r, .int .i64 a] 66)).cell? ((⟨w.heap.size, 0, none⟩ : Addr).add j) = some u := by
  intro j u hu
  have hV := VarN.new w #[.int .i64 r, .int .i64 a] 66 (by simp)
  rw [add_pl]
  exact hV.get hu
theorem pl_ones (r a : Int) : ∀ u ∈ [Value.int .i64 r, Value.int .i64 a], u.oneCell' = true := by
  intro u hu
  simp at hu
  rcases hu with rfl | rfl <;> rfl
section
variable {B0 b bs : Nat} {D : List Nd} {w : World} {nm wd : ByteArray}
set_option maxRecDepth 100000 in
set_option maxHeartbeats 8000000 in
theorem refOf_any (hDl : D.length ≤ 500) (h : DocF B0 b D w) (hs : Own1 bs (.string wd) w) :
    Calls Tryz.prog 28 #[.pointer (some ⟨b, 0, none⟩), .string nm, .func (.func 29) #[] #[.pointer (some ⟨bs, 0, none⟩)]] w fun e w' => ∃ a c T, e = .returned (.slice a T.length c) ∧ RowP w' a T.length T ∧ (T.Pairwise LtP ∧ ∀ p, p ∈ T ↔ ∃ d ∈ D, d.n = nm ∧ d.w = wd ∧ p = d.pl) ∧ Below w.heap.size w w' := by
  obtain ⟨hle, v, hO, hR⟩ := h
  have HR : Hid (w.ownsRow B0 68 4 v D.length (ndc D)) := hR
  obtain ⟨a9, c9, hv9⟩ := row_slice hR
  have HS : Hid (Own1 bs (.string wd) w) := hs
  have cb := hO.cell
  obtain ⟨m, hm⟩ : ∃ m, D.length = m := ⟨_, rfl⟩
  have HM : Hid (D.length = m) := hm
  rw [hm] at hv9 hDl
  subst hv9
  obtain ⟨i0, hi0, hz0, hz1, hz2⟩ := pinfo_parts infoPl
  have eg := enters_of Tryz.func29 (by kernel_rfl) rfl
  clear hO hR hm hs
  go_enter Tryz.func28, Tryz.ntmps28
  go_wp2_with fail
  clear cb
  go_loopw [7, 15] (fun rv iv wr => ∃ (i : Nat), i ≤ m ∧ iv = .int .i64 (i : Nat) ∧ Hid (wr.ownsRow w.heap.size 66 2 rv (ofL nm wd (D.take i)).length (plc (ofL nm wd (D.take i)))) ∧ Hid (Below w.heap.size w wr)) (fun _ iv _ => m + 1 - (intOf iv).toNat)
  case atStart => exact ⟨0, Nat.zero_le _, rfl, World.ownsRow_nil _ _ _ _, Below.refl _ _⟩
  case round =>
    obtain ⟨i, hi, rfl, HOI, HB⟩ := hrel
    by_cases hlt : i < m
    · have j1 : (i : Int) < (m : Int) := by omega
      have hil : i < D.length := by rw [HM.out]; exact hlt
      obtain ⟨g, cap, hv, hg0, hgl, k0, k1, k2, k3⟩ := nrow_at (row_below HR.out HB.out) hil
      rw [HM.out] at hv
      cases hv
      have hix := fun wx => index_nd g m c9 i hlt wx
      have HTK : Hid _ := ofL_take (nm := nm) (wd := wd) hil
      have hlen : (ofL nm wd (D.take i)).length ≤ i := Nat.le_trans (ofL_len _ _ _) (by rw [List.length_take]; omega)
      obtain ⟨d, hd⟩ : ∃ d, D[i] = d := ⟨_, rfl⟩
      rw [hd] at k0 k1 k2 k3 HTK
      obtain ⟨dn, dw, dr, da⟩ := d
      simp only at k0 k1 k2 k3
      clear hd hil hg0 hgl
      obtain ⟨E, hE⟩ : ∃ E, ofL nm wd (D.take i) = E := ⟨_, rfl⟩
      have HBA : Hid (Below w.heap.size w (wr.alloc (.cells #[.string dn, .string dw, .int .i64 (dr : Nat), .int .i64 (da : Nat)] 68))) := HB.out.alloc HB.out.size _
      have HOA : Hid ((wr.alloc (.cells #[.string dn, .string dw, .int .i64 (dr : Nat), .int .i64 (da : Nat)] 68)).ownsRow w.heap.size 66 2 u7 E.length (plc E)) := by rw [← hE]; exact row_below HOI.out ((Below.refl _ _).alloc (Nat.le_refl _) _)
      have HV : Hid (VarN wr.heap.size [.string dn, .string dw, .int .i64 (dr : Nat), .int .i64 (da : Nat)] (wr.alloc (.cells #[.string dn, .string dw, .int .i64 (dr : Nat), .int .i64 (da : Nat)] 68))) := VarN.new wr #[.string dn, .string dw, .int .i64 (dr : Nat), .int .i64 (da : Nat)] 68 (by simp)
      rw [hE] at HTK hlen
      obtain ⟨wA, hwA⟩ : ∃ z, wr.alloc (.cells #[.string dn, .string dw, .int .i64 (dr : Nat), .int .i64 (da : Nat)] 68) = z := ⟨_, rfl⟩
      rw [hwA] at HBA HOA HV
      have q0 := HV.out.cell 0 (by simp)
      have q1 := HV.out.cell 1 (by simp)
      have q2 := HV.out.cell 2 (by simp)
      have q3 := HV.out.cell 3 (by simp)
      simp only [List.getElem_cons_zero, List.getElem_cons_succ] at q0 q1 q2 q3
      clear HOI hE HV
      by_cases e1 : dn = nm
      · obtain ⟨gb, hgb⟩ : ∃ gb, gb = decide (dw = wd) := ⟨_, rfl⟩
        have HIS : Hid _ := isWord_any (HS.out.below HBA.out) dw gb hgb
        have HIN : Hid (isN nm wd ⟨dn, dw, dr, da⟩ = gb) := by show _ = _; unfold isN; rw [hgb, decide_eq_true e1, Bool.true_and]
        clear hgb
        subst e1
        go_wp2_with fail
        refine (show Calls _ _ _ _ _ from HIS.out).mono ?_
        rintro _ w9 ⟨rfl, h9⟩
        obtain rfl := h9.symm
        clear h9
        cases gb
        · have HNX : Hid (ofL dn wd (D.take (i + 1)) = E) := by show _ = _; rw [HTK.out, HIN.out]; exact List.append_nil _
          go_wp2_with fail
          go_roundw
          case rel =>
            refine ⟨i + 1, by omega, by go_num, ?_, HBA⟩
            show World.ownsRow _ _ _ _ _ _ _
            rw [HNX.out]
            exact HOA.out
          case measure => simp [intOf]; omega
        · have HNX : Hid (ofL dn wd (D.take (i + 1)) = E ++ [⟨(dr : Nat), (da : Nat)⟩]) := by show _ = _; rw [HTK.out, HIN.out]; rfl
          have hbA : Below wA.heap.size wA (wA.alloc (.cells #[.int .i64 (dr : Nat), .int .i64 (da : Nat)] 66)) := (Below.refl _ _).alloc (Nat.le_refl _) _
          have HOB : Hid ((wA.alloc (.cells #[.int .i64 (dr : Nat), .int .i64 (da : Nat)] 66)).ownsRow w.heap.size 66 2 u7 E.length (plc E)) := row_below HOA.out hbA
          have HBB : Hid (Below w.heap.size w (wA.alloc (.cells #[.int .i64 (dr : Nat), .int .i64 (da : Nat)] 66))) := HBA.out.alloc HBA.out.size _
          have HNW : Hid _ := pl_cells wA (dr : Nat) (da : Nat)
          clear hbA
          go_wp2_with (at_builtin; refine wpList_append_lies _ rfl _ _ 72 rfl w.heap.size 66 i0 (.agg #[.int .i64 0, .int .i64 0]) 2 16 Tryz.underlying72 hi0 hz0 hz1 hz2 rfl (by decide) _ _ _ rfl HOB.out ⟨wA.heap.size, 0, none⟩ 1 1 [.int .i64 (dr : Nat), .int .i64 (da : Nat)] rfl rfl HNW.out (pl_ones _ _) (by decide) (by simp only [maxLen]; omega) (by omega) HBB.out.size _ rfl ?_; intro g' cap' w' hO hG hat hlt')
          refine ⟨⟨i + 1, by omega, by go_num, ?_, ?_⟩, by simp [intOf]; omega⟩
          · show World.ownsRow _ _ _ _ _ _ _
            rw [HNX.out, List.length_append, plc_append]
            exact hO
          · exact Only.below HBB.out (grown_only (S := fun q => w.heap.size ≤ q) hG (fun q e => (World.ownsRow.lt HOB.out q e).1)) HBB.out.size (fun _ e => e)
      · have HNX : Hid (ofL nm wd (D.take (i + 1)) = E) := by
          show _ = _
          rw [HTK.out, if_neg (by unfold isN; rw [decide_eq_false e1, Bool.false_and]; decide), List.append_nil]
        have hq := str_neq e1
        clear e1
        go_wp2_with fail
        go_roundw
        case rel =>
          refine ⟨i + 1, by omega, by go_num, ?_, HBA⟩
          show World.ownsRow _ _ _ _ _ _ _
          rw [HNX.out]
          exact HOA.out
        case measure => simp [intOf]; omega
    · have j1 : ¬ (i : Int) < (m : Int) := by omega
      obtain rfl : m = i := by omega
      have hT : D.take m = D := List.take_of_length_le (by rw [HM.out]; exact Nat.le_refl _)
      rw [hT] at HOI
      have hll := ofL_len nm wd D
      rw [HM.out] at hll
      have HSO : Hid _ := sorted_any w.heap.size u7 (ofL nm wd D) wr HOI.out HB.out.size (by omega)
      clear hT
      go_wp2_with fail
      refine (show Calls _ _ _ _ _ from HSO.out).mono ?_
      rintro _ w4 ⟨v4, T, rfl, hr4, ⟨t1, t2, t3⟩, hb4⟩
      obtain ⟨a4, c4, hv4, h4, _⟩ := rowP_of_own hr4 (by omega)
      have HR4 : Hid (RowP w4 a4 T.length T) := h4
      have HT : Hid (T.Pairwise LtP ∧ ∀ p, p ∈ T ↔ ∃ d ∈ D, d.n = nm ∧ d.w = wd ∧ p = d.pl) := ⟨t1, fun p => (t2 p).trans mem_ofL⟩
      have HB4 : Hid (Below w.heap.size w w4) := HB.out.trans hb4
      obtain ⟨tl, htl⟩ : ∃ tl, T.length = tl := ⟨_, rfl⟩
      have HTL : Hid (T.length = tl) := htl
      rw [htl] at hv4
      subst hv4
      clear hr4 t1 t2 t3 hb4 h4 htl HSO
      go_wp2
      go_ret
      exact ⟨a4, c4, T, by rw [HTL.out]; rfl, HR4.out, HT.out, HB4.out⟩
end
end Go.Proofs.YtabcficlnhajeaaGreatDoor
namespace Go.Proofs
open Go.Shelf
def Tryz.lays190_ren : Go.Shelf.Ren := ⟨fun | 190 => 89 | 125 => 123 | 258 => 125 | 128 => 160 | 129 => 161 | 302 => 170 | 303 => 171 | 304 => 172 | 305 => 173 | 306 => 174 | 307 => 175 | 308 => 176 | 309 => 177 | 310 => 178 | 333 => 197 | 329 => 198 | 330 => 199 | 334 => 200 | 335 => 201 | 336 => 202 | 344 => 211 | n => n, fun | 31 => 59 | 9 => 9 | 3 => 3 | 46 => 35 | 0 => 0 | 51 => 232 | 53 => 159 | 4 => 4 | 183 => 244 | 182 => 243 | 131 => 240 | 5 => 5 | 218 => 269 | 222 => 267 | 228 => 279 | 229 => 172 | n => n, fun | n => n⟩
theorem Tryz.lays190 : Go.Proofs.Lays.n190 Tryz.prog Tryz.lays190_ren := {
  mixed := by kernel_rfl
  f125 := Tryz.func123.trans (congrArg some (by kernel_rfl))
  f128 := Tryz.func160.trans (congrArg some (by kernel_rfl))
  f129 := Tryz.func161.trans (congrArg some (by kernel_rfl))
  f190 := Tryz.func89.trans (congrArg some (by kernel_rfl))
  f258 := Tryz.func125.trans (congrArg some (by kernel_rfl))
  f302 := Tryz.func170.trans (congrArg some (by kernel_rfl))
  f303 := Tryz.func171.trans (congrArg some (by kernel_rfl))
  f304 := Tryz.func172.trans (congrArg some (by kernel_rfl))
  f305 := Tryz.func173.trans (congrArg some (by kernel_rfl))
  f306 := Tryz.func174.trans (congrArg some (by kernel_rfl))
  f307 := Tryz.func175.trans (congrArg some (by kernel_rfl))
  f308 := Tryz.func176.trans (congrArg some (by kernel_rfl))
  f309 := Tryz.func177.trans (congrArg some (by kernel_rfl))
  f310 := Tryz.func178.trans (congrArg some (by kernel_rfl))
  f329 := Tryz.func198.trans (congrArg some (by kernel_rfl))
  f330 := Tryz.func199.trans (congrArg some (by kernel_rfl))
  f333 := Tryz.func197.trans (congrArg some (by kernel_rfl))
  f334 := Tryz.func200.trans (congrArg some (by kernel_rfl))
  f335 := Tryz.func201.trans (congrArg some (by kernel_rfl))
  f336 := Tryz.func202.trans (congrArg some (by kernel_rfl))
  f344 := Tryz.func211.trans (congrArg some (by kernel_rfl))
  t0 := Tryz.underlying0
  a0 := Tryz.isAgg0
  z0 := Tryz.sizeOf0
  v0 := Tryz.zeroValue0
  t3 := Tryz.underlying3
  a3 := Tryz.isAgg3
  z3 := Tryz.sizeOf3
  v3 := Tryz.zeroValue3
  t4 := Tryz.underlying4
  a4 := Tryz.isAgg4
  z4 := Tryz.sizeOf4
  v4 := Tryz.zeroValue4
  t5 := Tryz.underlying5
  a5 := Tryz.isAgg5
  z5 := Tryz.sizeOf5
  v5 := Tryz.zeroValue5
  t9 := Tryz.underlying9
  a9 := Tryz.isAgg9
  z9 := Tryz.sizeOf9
  v9 := Tryz.zeroValue9
  t31 := Tryz.underlying59
  a31 := Tryz.isAgg59
  z31 := Tryz.sizeOf59
  v31 := Tryz.zeroValue59
  t46 := Tryz.underlying35
  a46 := Tryz.isAgg35
  z46 := Tryz.sizeOf35
  v46 := Tryz.zeroValue35
  t51 := Tryz.underlying232
  a51 := Tryz.isAgg232
  z51 := Tryz.sizeOf232
  v51 := Tryz.zeroValue232
  t53 := Tryz.underlying159
  a53 := Tryz.isAgg159
  z53 := Tryz.sizeOf159
  v53 := Tryz.zeroValue159
  t131 := Tryz.underlying240
  a131 := Tryz.isAgg240
  z131 := Tryz.sizeOf240
  v131 := Tryz.zeroValue240
  t182 := Tryz.underlying243
  a182 := Tryz.isAgg243
  z182 := Tryz.sizeOf243
  v182 := Tryz.zeroValue243
  t183 := Tryz.underlying244
  a183 := Tryz.isAgg244
  z183 := Tryz.sizeOf244
  v183 := Tryz.zeroValue244
  t218 := Tryz.underlying269
  a218 := Tryz.isAgg269
  z218 := Tryz.sizeOf269
  v218 := Tryz.zeroValue269
  t222 := Tryz.underlying267
  a222 := Tryz.isAgg267
  z222 := Tryz.sizeOf267
  v222 := Tryz.zeroValue267
  t228 := Tryz.underlying279
  a228 := Tryz.isAgg279
  z228 := Tryz.sizeOf279
  v228 := Tryz.zeroValue279
  t229 := Tryz.underlying172
  a229 := Tryz.isAgg172
  z229 := Tryz.sizeOf172
  v229 := Tryz.zeroValue172 }
open Go.Sort Go.RowKit in
theorem Tryz.slices_Sort_string (blk off cap : Nat) (ss : List (List UInt8)) (w : World) (hH : Holds encStr w blk off ss.toArray) (hblk : blk < w.heap.size) (hsz : ss.length < 4611686018427387904) :
    Calls Tryz.prog 89 #[.slice (some ⟨blk, off, none⟩) ss.length cap] w fun e w' =>
      e = .returned (.tuple #[]) ∧ ∃ n os, w' = grow (putRow encStr (Sort.ahead w n) blk off (ss.mergeSort fun x y => decide (x ≤ y)).toArray) os := Any.slices_Sort_string Tryz.lays190 blk off cap ss w hH hblk hsz
def Tryz.lays192_ren : Go.Shelf.Ren := ⟨fun | 192 => 62 | 190 => 89 | 125 => 123 | 258 => 125 | 128 => 160 | 129 => 161 | 302 => 170 | 303 => 171 | 304 => 172 | 305 => 173 | 306 => 174 | 307 => 175 | 308 => 176 | 309 => 177 | 310 => 178 | 333 => 197 | 329 => 198 | 330 => 199 | 334 => 200 | 335 => 201 | 336 => 202 | 344 => 211 | n => n, fun | 31 => 59 | 0 => 0 | 9 => 9 | 3 => 3 | 46 => 35 | 51 => 232 | 53 => 159 | 4 => 4 | 183 => 244 | 182 => 243 | 131 => 240 | 5 => 5 | 218 => 269 | 222 => 267 | 228 => 279 | 229 => 172 | n => n, fun | n => n⟩
theorem Tryz.lays192 : Go.Proofs.Lays.n192 Tryz.prog Tryz.lays192_ren := {
  mixed := by kernel_rfl
  f125 := Tryz.func123.trans (congrArg some (by kernel_rfl))
  f128 := Tryz.func160.trans (congrArg some (by kernel_rfl))
  f129 := Tryz.func161.trans (congrArg some (by kernel_rfl))
  f190 := Tryz.func89.trans (congrArg some (by kernel_rfl))
  f192 := Tryz.func62.trans (congrArg some (by kernel_rfl))
  f258 := Tryz.func125.trans (congrArg some (by kernel_rfl))
  f302 := Tryz.func170.trans (congrArg some (by kernel_rfl))
  f303 := Tryz.func171.trans (congrArg some (by kernel_rfl))
  f304 := Tryz.func172.trans (congrArg some (by kernel_rfl))
  f305 := Tryz.func173.trans (congrArg some (by kernel_rfl))
  f306 := Tryz.func174.trans (congrArg some (by kernel_rfl))
  f307 := Tryz.func175.trans (congrArg some (by kernel_rfl))
  f308 := Tryz.func176.trans (congrArg some (by kernel_rfl))
  f309 := Tryz.func177.trans (congrArg some (by kernel_rfl))
  f310 := Tryz.func178.trans (congrArg some (by kernel_rfl))
  f329 := Tryz.func198.trans (congrArg some (by kernel_rfl))
  f330 := Tryz.func199.trans (congrArg some (by kernel_rfl))
  f333 := Tryz.func197.trans (congrArg some (by kernel_rfl))
  f334 := Tryz.func200.trans (congrArg some (by kernel_rfl))
  f335 := Tryz.func201.trans (congrArg some (by kernel_rfl))
  f336 := Tryz.func202.trans (congrArg some (by kernel_rfl))
  f344 := Tryz.func211.trans (congrArg some (by kernel_rfl))
  t0 := Tryz.underlying0
  a0 := Tryz.isAgg0
  z0 := Tryz.sizeOf0
  v0 := Tryz.zeroValue0
  t3 := Tryz.underlying3
  a3 := Tryz.isAgg3
  z3 := Tryz.sizeOf3
  v3 := Tryz.zeroValue3
  t4 := Tryz.underlying4
  a4 := Tryz.isAgg4
  z4 := Tryz.sizeOf4
  v4 := Tryz.zeroValue4
  t5 := Tryz.underlying5
  a5 := Tryz.isAgg5
  z5 := Tryz.sizeOf5
  v5 := Tryz.zeroValue5
  t9 := Tryz.underlying9
  a9 := Tryz.isAgg9
  z9 := Tryz.sizeOf9
  v9 := Tryz.zeroValue9
  t31 := Tryz.underlying59
  a31 := Tryz.isAgg59
  z31 := Tryz.sizeOf59
  v31 := Tryz.zeroValue59
  t46 := Tryz.underlying35
  a46 := Tryz.isAgg35
  z46 := Tryz.sizeOf35
  v46 := Tryz.zeroValue35
  t51 := Tryz.underlying232
  a51 := Tryz.isAgg232
  z51 := Tryz.sizeOf232
  v51 := Tryz.zeroValue232
  t53 := Tryz.underlying159
  a53 := Tryz.isAgg159
  z53 := Tryz.sizeOf159
  v53 := Tryz.zeroValue159
  t131 := Tryz.underlying240
  a131 := Tryz.isAgg240
  z131 := Tryz.sizeOf240
  v131 := Tryz.zeroValue240
  t182 := Tryz.underlying243
  a182 := Tryz.isAgg243
  z182 := Tryz.sizeOf243
  v182 := Tryz.zeroValue243
  t183 := Tryz.underlying244
  a183 := Tryz.isAgg244
  z183 := Tryz.sizeOf244
  v183 := Tryz.zeroValue244
  t218 := Tryz.underlying269
  a218 := Tryz.isAgg269
  z218 := Tryz.sizeOf269
  v218 := Tryz.zeroValue269
  t222 := Tryz.underlying267
  a222 := Tryz.isAgg267
  z222 := Tryz.sizeOf267
  v222 := Tryz.zeroValue267
  t228 := Tryz.underlying279
  a228 := Tryz.isAgg279
  z228 := Tryz.sizeOf279
  v228 := Tryz.zeroValue279
  t229 := Tryz.underlying172
  a229 := Tryz.isAgg172
  z229 := Tryz.sizeOf172
  v229 := Tryz.zeroValue172 }
open Go.Sort Go.RowKit in
theorem Tryz.sort_Strings (blk off cap : Nat) (ss : List (List UInt8)) (w : World) (hH : Holds encStr w blk off ss.toArray) (hblk : blk < w.heap.size) (hsz : ss.length < 4611686018427387904) :
    Calls Tryz.prog 62 #[.slice (some ⟨blk, off, none⟩) ss.length cap] w fun e w' =>
      e = .returned (.tuple #[]) ∧ ∃ n os, w' = grow (putRow encStr (Sort.ahead w n) blk off (ss.mergeSort fun x y => decide (x ≤ y)).toArray) os := Any.sort_Strings Tryz.lays192 blk off cap ss w hH hblk hsz
open Go.RowKit Go.Sort in
/-- .. and plain. (LAID: no walk: one application.) -/
theorem Tryz.slices_Sort_string_none (p : Option Addr) (cap : Nat) (w : World) :
    Calls Tryz.prog 89 #[.slice p 0 cap] w fun e w' => e = .returned (.tuple #[]) ∧ w' = w := Any.slices_Sort_string_none Tryz.lays190 p cap w
open Go.RowKit Go.Sort in
/-- .. and plain. (LAID: no walk: one application.) -/
theorem Tryz.sort_Strings_none (p : Option Addr) (cap : Nat) (w : World) :
    Calls Tryz.prog 62 #[.slice p 0 cap] w fun e w' => e = .returned (.tuple #[]) ∧ w' = w := Any.sort_Strings_none Tryz.lays192 p cap w
end Go.Proofs
namespace Go.Proofs.YtabcficlnhajeaaGreatDoor
open Go.RowKit Go.Maps

/-- a map's keys, as a set; its numbers are small -/
structure SetR (D : DataW Unit) (S : ByteArray → Prop) (c : Nat) : Prop where
  has : ∀ k : ByteArray, Maps.has D (kl k) = true ↔ S k
  elem : ∀ k : ByteArray, S k → ∃ x : Nat, x ≤ c ∧ ∀ z, D.atKey (kl k) z = .lit (.int .i64 (x : Nat))
theorem SetR.not {D : DataW Unit} {S : ByteArray → Prop} {c : Nat} (h : SetR D S c) {k : ByteArray} (hn : ¬ S k) : Maps.has D (kl k) = false := by
  cases e : Maps.has D (kl k) with
  | false => rfl
  | true => exact absurd ((h.has k).1 e) hn
theorem SetR.put {D : DataW Unit} {S : ByteArray → Prop} {c : Nat} (h : SetR D S c) (ht : Tidy D) (k : ByteArray) (x : Nat) (hx : x ≤ c + 1) : SetR (D.put (kl k) (.lit (.int .i64 (x : Nat)))) (fun j => j = k ∨ S j) (c + 1) := by
  refine ⟨fun j => ?_, fun j hj => ?_⟩
  · by_cases e : j = k
    · subst e
      rw [has_put_same ht.isMap (kl_key _)]
      exact ⟨fun _ => .inl rfl, fun _ => rfl⟩
    · rw [has_put_other (kl_ne e), h.has j]
      exact ⟨.inr, fun hj => by rcases hj with hj | hj; exact absurd hj e; exact hj⟩
  · by_cases e : j = k
    · subst e
      exact ⟨x, hx, fun z => atKey_put_same ht.isMap (kl_key _) _ z⟩
    · rcases hj with hj | hj
      · exact absurd hj e
      · obtain ⟨y, h1, h2⟩ := h.elem j hj
        exact ⟨y, by omega, fun z => by rw [atKey_put_other (kl_ne e)]; exact h2 z⟩
def SetB (m n : Nat) (S : ByteArray → Prop) (w : World) : Prop := ∃ D : DataW Unit, w.ownsMap Tryz.prog 9 (plainElem Tryz.prog 3) m n D ∧ SetR D S n
section
variable {m n : Nat} {S S' : ByteArray → Prop} {w w' : World}
theorem SetB.lt (h : SetB m n S w) : m < w.heap.size := by obtain ⟨D, hD, _⟩ := h; exact hD.lt
theorem SetB.block (h : SetB m n S w) (hb : w'.heap[m]? = w.heap[m]?) : SetB m n S w' := by
  obtain ⟨D, ⟨es, clock, hm, F, hs, hD⟩, hM⟩ := h
  exact ⟨D, ⟨es, clock, hb.trans hm, F, hs, hD⟩, hM⟩
theorem SetB.below (h : SetB m n S w) (hb : Below w.heap.size w w') : SetB m n S w' := h.block (hb.block m h.lt)
theorem SetB.iff (h : SetB m n S w) (hS : ∀ k, S k ↔ S' k) : SetB m n S' w := by
  obtain ⟨D, hD, hM⟩ := h
  exact ⟨D, hD, fun k => (hM.has k).trans (hS k), fun k hk => hM.elem k ((hS k).2 hk)⟩
theorem SetB.new (w : World) : SetB w.heap.size 0 (fun _ => False) (w.alloc (.map #[] 0)) :=
  ⟨.map [], World.ownsMap_made _ _ _ _, ⟨fun k => ⟨fun h => by simp [has_eq] at h, fun h => h.elim⟩, fun x hx => hx.elim⟩⟩
theorem SetB.more (h : SetB m n S w) : SetB m (n + 1) S w := by
  obtain ⟨D, hD, hM⟩ := h
  exact ⟨D, hD.mono (by omega), hM.has, fun k hk => by obtain ⟨x, h1, h2⟩ := hM.elem k hk; exact ⟨x, by omega, h2⟩⟩
end
section
variable {ops : Array Oper} {rest : List Oper} {o : Oper} {a : Act} {Q : Exit → Act → World → Prop} {m n : Nat} {S : ByteArray → Prop}
theorem zero3i (w : World) : (zeroValue 3).run Tryz.prog w = .ok (.int .i64 0) w := by kernel_rfl
theorem look_set (w : World) (hg : o.guard = none) (mo x : Operand) (hop : o.op = Op.lookup 121 mo x false) (hS : SetB m n S w) (k : ByteArray) (hk : k.size ≤ 1000) (hm : a.eval mo = .map (some m)) (hx : a.eval x = .string k)
    (hK : ∀ c : Nat, c ≤ n → wpList Tryz.prog ops Q rest (a.put o.dst (.int .i64 (c : Nat))) w) : wpList Tryz.prog ops Q (o :: rest) a w := by
  obtain ⟨D, hD, hM⟩ := hS
  refine wpList_lookup_own_int w hg mo x 121 hop 9 3 .i64 keyed9 Tryz.underlying121 Tryz.underlying3 (zero3i w) m n D hm hD _ _ hx (kl_of hk) ?_
  intro c hc _
  by_cases hs : S k
  · obtain ⟨y, h1, h2⟩ := hM.elem k hs
    rw [h2] at hc
    injection hc with hc
    injection hc with _ hc
    subst hc
    exact hK y h1
  · rw [atKey_of_not_has (hM.not hs)] at hc
    injection hc with hc
    injection hc with _ hc
    subst hc
    exact hK 0 (Nat.zero_le _)
theorem put_set (w : World) (hg : o.guard = none) (mo x v : Operand) (hop : o.op = Op.mapUpdate 121 mo x v) (hS : SetB m n S w) (hn : n < 1000000) (k : ByteArray) (hk : k.size ≤ 1000) (c : Nat) (hc : c ≤ n + 1) (hm : a.eval mo = .map (some m)) (hx : a.eval x = .string k) (hv : a.eval v = .int .i64 (c : Nat))
    (hK : ∀ w', SetB m (n + 1) (fun j => j = k ∨ S j) w' → Only (fun b => b = m) w w' → wpList Tryz.prog ops Q rest (a.put o.dst undef) w') : wpList Tryz.prog ops Q (o :: rest) a w := by
  obtain ⟨D, hD, hM⟩ := hS
  refine wpList_mapUpdate_own w hg mo x v 121 hop 9 3 keyed9 Tryz.underlying121 (plainElem Tryz.prog 3) m n D hm hD (Nat.lt_trans hn (by decide)) _ _ _ hx hv (kl_of hk) _ [] (plainElem_int Tryz.underlying3 (WalkArith.wf_i64 (by omega))) ?_
  intro w' h1 h2
  exact hK w' ⟨_, h1, hM.put (hD.tidy keyed9) k c hc⟩ (Only.of_grown h2 rfl)
theorem next_set (w : World) (hg : o.guard = none) (it : Operand) (hop : o.op = Op.next it false) (b r n : Nat) (D : DataW Unit) (left : Lit → Bool) (cnt : Nat) (hit : a.eval it = .pointer (some ⟨r, 0, none⟩)) (h : w.ranges Tryz.prog 9 (plainElem Tryz.prog 3) b r n D left cnt)
    (hDone : cnt = 0 → (∀ kl, left kl = false) → wpList Tryz.prog ops Q rest (a.put o.dst (.tuple #[.bool false])) w)
    (hMore : ∀ (x : ByteArray) (c : Int) (w' : World) (cnt' : Nat), left (kl x) = true → w'.ranges Tryz.prog 9 (plainElem Tryz.prog 3) b r n D (fun z => left z && !z.sameKey (kl x)) cnt' → cnt' < cnt →
      w.grownBy w' (some r) → w'.heap.size = w.heap.size → (Instr.entry (.pointer (some ⟨r, 0, none⟩))).run Tryz.prog w' = .ok (.tuple #[.string x, .int .i64 c]) w' → wpList Tryz.prog ops Q rest (a.put o.dst (.tuple #[.bool true, .string x, .int .i64 c])) w') :
    wpList Tryz.prog ops Q (o :: rest) a w :=
  wpList_next_ranges w hg it hop 9 keyed9 (plainElem Tryz.prog 3) Value.string (Value.int .i64) (fun key kl' hkey => by obtain ⟨s, h1, h2, _⟩ := WideMaps.string_of_keyOf Tryz.underlying9 hkey; exact ⟨s, h1⟩) (fun v y hv => by obtain ⟨c, rfl, _⟩ := plainElem_int_inv Tryz.underlying3 hv; exact ⟨c, rfl⟩)
    b r n D left cnt hit h hDone (fun x c kl' y w' cnt' hkey hlk hv hat hrg hlt hgr hsz hen => by
      obtain ⟨s, ex, rfl, _⟩ := WideMaps.string_of_keyOf Tryz.underlying9 hkey
      cases ex
      exact hMore x c w' cnt' hlk hrg hlt hgr hsz hen)
end
/-- what is still to come of a range -/
structure Rng (S : ByteArray → Prop) (Z : List ByteArray) (left : Lit → Bool) : Prop where
  l : ∀ x : ByteArray, left (kl x) = true ↔ (S x ∧ x ∉ Z)
  m : ∀ x ∈ Z, S x
  nd : Z.Nodup
theorem Rng.start {D : DataW Unit} {S : ByteArray → Prop} {c : Nat} (h : SetR D S c) : Rng S [] (Maps.has D) := ⟨fun x => by rw [h.has x]; simp, fun x hx => (by cases hx), List.nodup_nil⟩
theorem Rng.step {S : ByteArray → Prop} {Z : List ByteArray} {left : Lit → Bool} (h : Rng S Z left) {x : ByteArray} (hx : left (kl x) = true) : Rng S (Z ++ [x]) (fun z => left z && !z.sameKey (kl x)) := by
  obtain ⟨h1, h2⟩ := (h.l x).1 hx
  refine ⟨fun y => ?_, fun y hy => ?_, ?_⟩
  · have hk : (kl y).sameKey (kl x) = true ↔ y = x := by
      constructor
      · intro e
        have : y.data.toList = x.data.toList := by simpa [kl, Lit.sameKey] using e
        exact ba_ext this
      · rintro rfl; simp [kl, Lit.sameKey]
    rw [Bool.and_eq_true, h.l y, List.mem_append, List.mem_singleton]
    cases hs : (kl y).sameKey (kl x)
    · have : ¬ y = x := fun e => by rw [hk.2 e] at hs; cases hs
      simp [this]
    · have := hk.1 hs
      simp [this]
  · rcases List.mem_append.1 hy with hy | hy
    · exact h.m y hy
    · obtain rfl := List.mem_singleton.1 hy; exact h1
  · rw [List.nodup_append]
    exact ⟨h.nd, by simp, fun a ha b hb => by obtain rfl := List.mem_singleton.1 hb; rintro rfl; exact h2 ha⟩
theorem Rng.done {S : ByteArray → Prop} {Z : List ByteArray} {left : Lit → Bool} (h : Rng S Z left) (hl : ∀ k, left k = false) : ∀ x, x ∈ Z ↔ S x := fun x => ⟨h.m x, fun hs => by
  by_cases hz : x ∈ Z
  · exact hz
  · have := (h.l x).2 ⟨hs, hz⟩
    rw [hl] at this; cases this⟩
theorem bl_nodup {xs : List ByteArray} (h : xs.Pairwise (fun a b => bl a b = true)) : xs.Nodup := h.imp (fun {a b} e e2 => by rw [e2, bl_irrefl] at e; cases e)
theorem str_encs (ts : List ByteArray) : (ts.map (fun x => x.data.toList)).map encStr = sc ts := by
  unfold sc
  rw [List.map_map]
  exact List.map_congr_left fun x _ => rfl
theorem sorted_keys {ss ts : List ByteArray} (hp : ss.Perm ts) (hs : ts.Pairwise (fun a b => bl a b = true)) :
    (ss.map (fun x => x.data.toList)).mergeSort (fun x y => decide (x ≤ y)) = ts.map (fun x => x.data.toList) := by
  refine List.Perm.eq_of_pairwise (le := fun a b : List UInt8 => a ≤ b) (fun a b _ _ h1 h2 => List.le_antisymm h1 h2) ?_ ?_ ((List.mergeSort_perm _ _).trans (hp.map _))
  · have := List.pairwise_mergeSort (le := fun x y : List UInt8 => decide (x ≤ y)) (fun a b c h1 h2 => by simp at h1 h2 ⊢; exact List.le_trans h1 h2) (fun a b => by simp; exact List.le_total a b) (ss.map (fun x => x.data.toList))
    exact this.imp (fun h => by simpa using h)
  · rw [List.pairwise_map]
    exact hs.imp (fun h => by rw [bl_iff] at h; exact List.le_of_lt h)
theorem sortS_any {ss ts : List ByteArray} {B : Nat} {v : Value} {w : World} (h : w.ownsRow B 9 1 v ss.length (sc ss)) (hp : ss.Perm ts) (hs : ts.Pairwise (fun a b => bl a b = true)) (hl : ss.length ≤ 1000000) :
    Calls Tryz.prog 62 #[v] w fun e w' => e = .returned (.tuple #[]) ∧ w'.ownsRow B 9 1 v ts.length (sc ts) ∧ Only (fun b => B ≤ b) w w' := by
  have hlen := hp.length_eq
  rcases h.2 with ⟨rfl, h0⟩ | ⟨g, cap, cur, rfl, hB, hb, h1, h2, h3, h4⟩
  · refine (Tryz.sort_Strings_none none 0 w).mono ?_
    rintro _ _ ⟨rfl, rfl⟩
    have e0 : ts = [] := List.length_eq_zero_iff.1 (by omega)
    subst e0
    exact ⟨rfl, World.ownsRow_nil _ _ _ _, Only.refl _ _⟩
  · obtain ⟨zs, hz⟩ : ∃ zs, ss.map (fun x => x.data.toList) = zs := ⟨_, rfl⟩
    have hzl : zs.length = ss.length := by rw [← hz, List.length_map]
    have hH : Go.Sort.Holds encStr w g 0 zs.toArray := holds_of_block hb (by rw [hzl, ← hz, str_encs]; simpa using h4)
    have hms := sorted_keys hp hs
    rw [hz] at hms
    have HC0 := Tryz.sort_Strings g 0 cap zs w hH (Array.getElem?_eq_some_iff.1 hb).1 (by omega)
    rw [hms, hzl] at HC0
    refine HC0.mono ?_
    rintro _ w' ⟨rfl, n, os, rfl⟩
    have ho := ownsRow_sorted (w := w) (n := n) (os := os) (ss := zs) (ts := ts.map (fun x => x.data.toList)) (by rw [List.length_map, hzl, hlen]) hB hb (by rw [hzl]; exact h1) h2 h3
    rw [str_encs, hzl] at ho
    have hg := grownBy_sorted (w := w) (g := g) (n := n) (os := os) (ts.map (fun x => x.data.toList)).toArray
    rw [hlen] at ho
    have hgo := grown_only (S := fun b => B ≤ b) hg (fun b e => by cases e; exact hB)
    rw [hlen]
    exact ⟨rfl, ho, hgo⟩
end Go.Proofs.YtabcficlnhajeaaGreatDoor
namespace Go.Proofs.YtabcficlnhajeaaGreatDoor
open Go.RowKit Go.Maps

theorem nodup_le {α : Type} : ∀ (l m : List α), l.Pairwise (fun a b => a ≠ b) → (∀ x ∈ l, x ∈ m) → l.length ≤ m.length
  | [], _, _, _ => Nat.zero_le _
  | x :: l, m, hn, hs => by
    rw [List.pairwise_cons] at hn
    obtain ⟨a, b, rfl⟩ := List.append_of_mem (hs x (by simp))
    have := nodup_le l (a ++ b) hn.2 (fun y hy => by
      have h1 := hs y (by simp [hy])
      simp only [List.mem_append, List.mem_cons] at h1 ⊢
      rcases h1 with h1 | h1 | h1
      · exact .inl h1
      · exact absurd h1.symm (hn.1 y hy)
      · exact .inr h1)
    simp only [List.length_append, List.length_cons] at this ⊢
    omega
def isP (nm s : ByteArray) (d : Nd) : Bool := decide (d.n = nm) && Lib.hasPrefix d.w.data.toList s.data.toList
def wdS (nm s : ByteArray) (D : List Nd) (k : ByteArray) : Prop := ∃ d ∈ D, isP nm s d = true ∧ d.w = k
theorem wdS_take {nm s : ByteArray} {D : List Nd} {i : Nat} (hi : i < D.length) (k : ByteArray) : wdS nm s (D.take (i + 1)) k ↔ ((isP nm s D[i] = true ∧ k = D[i].w) ∨ wdS nm s (D.take i) k) := by
  unfold wdS
  rw [List.take_succ_eq_append_getElem hi]
  constructor
  · rintro ⟨d, hd, h1, h2⟩
    rcases List.mem_append.1 hd with hd | hd
    · exact .inr ⟨d, hd, h1, h2⟩
    · obtain rfl := List.mem_singleton.1 hd
      exact .inl ⟨h1, h2.symm⟩
  · rintro (⟨h1, h2⟩ | ⟨d, hd, h1, h2⟩)
    · exact ⟨D[i], List.mem_append.2 (.inr (List.mem_singleton.2 rfl)), h1, h2.symm⟩
    · exact ⟨d, List.mem_append.2 (.inl hd), h1, h2⟩
theorem wdS_iff {nm s : ByteArray} {D : List Nd} {k : ByteArray} : wdS nm s D k ↔ ∃ d ∈ D, d.n = nm ∧ d.w = k ∧ Lib.hasPrefix k.data.toList s.data.toList = true := by
  unfold wdS isP
  constructor
  · rintro ⟨d, hd, h1, rfl⟩
    rw [Bool.and_eq_true, decide_eq_true_eq] at h1
    exact ⟨d, hd, h1.1, rfl, h1.2⟩
  · rintro ⟨d, hd, h1, rfl, h2⟩
    exact ⟨d, hd, by rw [Bool.and_eq_true, decide_eq_true_eq]; exact ⟨h1, h2⟩, rfl⟩
theorem str_cells (w : World) (x : ByteArray) : ∀ (j : Nat) (u : Value), [Value.string x][j]? = some u → (w.alloc (.cells #[.string x] 9)).cell? ((⟨w.heap.size, 0, none⟩ : Addr).add j) = some u := by
  intro j u hu
  have hV := VarN.new w #[.string x] 9 (by simp)
  rw [add_pl]
  exact hV.get hu
/-- what is known in the second loop -/
structure Lp (m r n : Nat) (Dt : DataW Unit) (S : ByteArray → Prop) (left : Lit → Bool) (cnt : Nat) (Z : List ByteArray) (v : Value) (w0 w : World) : Prop where
  rg : w.ranges Tryz.prog 9 (plainElem Tryz.prog 3) m r n Dt left cnt
  rn : Rng S Z left
  row : w.ownsRow (r + 1) 9 1 v Z.length (sc Z)
  b : Below w0.heap.size w0 w
  ge : r + 1 ≤ w.heap.size
section
variable {B0 b : Nat} {D : List Nd} {w : World} {nm s : ByteArray} {xs : List ByteArray}
set_option maxRecDepth 100000 in
set_option maxHeartbeats 8000000 in
theorem refBegin_any (hDN : ∀ d ∈ D, d.w.size ≤ 100) (hDl : D.length ≤ 500) (h : DocF B0 b D w) (hx : BegOf D nm s xs) :
    Calls Tryz.prog 32 #[.pointer (some ⟨b, 0, none⟩), .string nm, .string s] w fun e w' => ∃ a c, e = .returned (.slice a xs.length c) ∧ RowS w' a xs.length xs ∧ Below w.heap.size w w' := by
  obtain ⟨hle, v, hO, hR⟩ := h
  have HR : Hid (w.ownsRow B0 68 4 v D.length (ndc D)) := hR
  have HO : Hid (Own1 b v w) := hO
  obtain ⟨a9, c9, hv9⟩ := row_slice hR
  obtain ⟨m, hm⟩ : ∃ m, D.length = m := ⟨_, rfl⟩
  have HM : Hid (D.length = m) := hm
  rw [hm] at hv9 hDl
  subst hv9
  have HX : Hid (BegOf D nm s xs) := hx
  have HDN : Hid (∀ d ∈ D, d.w.size ≤ 100) := hDN
  have hbl := hO.lt
  have hmm := @run_makeMap Tryz.prog
  obtain ⟨i0, hi0, hz0, hz1, hz2⟩ := info9
  have HBM : Hid (Below w.heap.size w (w.alloc (.map #[] 0))) := (Below.refl _ _).alloc (Nat.le_refl _) _
  have HSM : Hid (SetB w.heap.size 0 (wdS nm s (D.take 0)) (w.alloc (.map #[] 0))) := (SetB.new w).iff (fun k => ⟨fun e => e.elim, fun e => by obtain ⟨d, hd, _⟩ := e; rw [List.take_zero] at hd; cases hd⟩)
  have cb := (hO.below HBM.out).cell
  clear hO hR hm hx hDN
  go_enter Tryz.func32, Tryz.ntmps32
  go_wp2_with fail
  clear cb hmm
  go_loopw [18] (fun iv wr => ∃ (i : Nat), i ≤ m ∧ iv = .int .i64 (i : Nat) ∧ Hid (SetB w.heap.size i (wdS nm s (D.take i)) wr) ∧ Hid (Below w.heap.size w wr)) (fun iv _ => m + 1 - (intOf iv).toNat)
  case atStart => exact ⟨0, Nat.zero_le _, rfl, HSM, HBM⟩
  case round =>
    clear HSM HBM
    obtain ⟨i, hi, rfl, HSB, HB⟩ := hrel
    by_cases hlt : i < m
    · have j1 : (i : Int) < (m : Int) := by omega
      have hil : i < D.length := by rw [HM.out]; exact hlt
      obtain ⟨g, cap, hv, hg0, hgl, k0, k1, k2, k3⟩ := nrow_at (row_below HR.out HB.out) hil
      rw [HM.out] at hv
      cases hv
      have hix := fun wx => index_nd g m c9 i hlt wx
      have HTK : Hid _ := fun k => wdS_take (nm := nm) (s := s) hil k
      have hws := HDN.out _ (List.getElem_mem hil)
      obtain ⟨d, hd⟩ : ∃ d, D[i] = d := ⟨_, rfl⟩
      simp only [hd] at k0 k1 k2 k3 HTK hws
      obtain ⟨dn, dw, dr, da⟩ := d
      simp only at k0 k1 k2 k3 hws
      clear hd hil hg0 hgl
      have HBA : Hid (Below w.heap.size w (wr.alloc (.cells #[.string dn, .string dw, .int .i64 (dr : Nat), .int .i64 (da : Nat)] 68))) := HB.out.alloc HB.out.size _
      have HSA : Hid (SetB w.heap.size i (wdS nm s (D.take i)) (wr.alloc (.cells #[.string dn, .string dw, .int .i64 (dr : Nat), .int .i64 (da : Nat)] 68))) := HSB.out.below ((Below.refl _ _).alloc (Nat.le_refl _) _)
      have HV : Hid (VarN wr.heap.size [.string dn, .string dw, .int .i64 (dr : Nat), .int .i64 (da : Nat)] (wr.alloc (.cells #[.string dn, .string dw, .int .i64 (dr : Nat), .int .i64 (da : Nat)] 68))) := VarN.new wr #[.string dn, .string dw, .int .i64 (dr : Nat), .int .i64 (da : Nat)] 68 (by simp)
      obtain ⟨wA, hwA⟩ : ∃ z, wr.alloc (.cells #[.string dn, .string dw, .int .i64 (dr : Nat), .int .i64 (da : Nat)] 68) = z := ⟨_, rfl⟩
      rw [hwA] at HBA HSA HV
      have q0 := HV.out.cell 0 (by simp)
      have q1 := HV.out.cell 1 (by simp)
      simp only [List.getElem_cons_zero, List.getElem_cons_succ] at q0 q1
      clear HSB HV
      by_cases e1 : dn = nm
      · obtain ⟨gb, hgb⟩ : ∃ gb, Lib.hasPrefix dw.data.toList s.data.toList = gb := ⟨_, rfl⟩
        have HHP : Hid (Calls Tryz.prog 60 #[.string dw, .string s] wA fun e w' => e = .returned (.bool gb) ∧ w' = wA) := by
          have := hasPrefix_any dw s wA
          rw [hgb] at this
          exact this
        have HIN : Hid (isP nm s ⟨dn, dw, dr, da⟩ = gb) := by show _ = _; unfold isP; rw [hgb, decide_eq_true e1, Bool.true_and]
        clear hgb
        subst e1
        go_wp2_with fail
        refine (show Calls _ _ _ _ _ from HHP.out).mono ?_
        rintro _ w9 ⟨rfl, h9⟩
        obtain rfl := h9.symm
        clear h9
        cases gb
        · have HNX : Hid (SetB w.heap.size (i + 1) (wdS dn s (D.take (i + 1))) wA) := HSA.out.more.iff (fun k => by
            rw [HTK.out k, HIN.out]
            exact ⟨.inr, fun e => by rcases e with e | e; exact absurd e.1 (by decide); exact e⟩)
          go_wp2_with fail
          go_roundw
          case rel => exact ⟨i + 1, by omega, by go_num, HNX, HBA⟩
          case measure => simp [intOf]; omega
        · have HST : Hid (∀ wx, SetB w.heap.size (i + 1) (fun j => j = dw ∨ wdS dn s (D.take i) j) wx → SetB w.heap.size (i + 1) (wdS dn s (D.take (i + 1))) wx) := fun wx hq => hq.iff (fun k => by
            rw [HTK.out k, HIN.out]
            exact ⟨fun e => by rcases e with e | e; exact .inl ⟨rfl, e⟩; exact .inr e, fun e => by rcases e with e | e; exact .inl e.2; exact .inr e⟩)
          go_wp2_with (first | (at_lookup; refine look_set _ rfl _ _ rfl HSA.out dw (by omega) rfl rfl ?_; intro cc hcc; have hwc : IntKind.i64.wrap ((cc : Int) + 1) = ((cc + 1 : Nat) : Int) := (by rw [wraps_i64 _ (by omega) (by omega)]; omega)) | (at_mapUpdate; refine put_set _ rfl _ _ _ rfl HSA.out (by omega) dw (by omega) (cc + 1) (by omega) rfl rfl rfl ?_; intro w8 hS8 hO8))
          have HS8 : Hid (SetB w.heap.size (i + 1) (wdS dn s (D.take (i + 1))) w8) := HST.out w8 hS8
          have HB8 : Hid (Below w.heap.size w w8) := Only.below HBA.out hO8 HBA.out.size (fun k e => by have e' : k = w.heap.size := e; omega)
          clear hS8 hO8
          first
            | (refine ⟨⟨i + 1, by omega, by go_num, HS8, HB8⟩, by simp [intOf]; omega⟩)
            | (go_roundw
               case rel => exact ⟨i + 1, by omega, by go_num, HS8, HB8⟩
               case measure => simp [intOf]; omega)
      · have HNX : Hid (SetB w.heap.size (i + 1) (wdS nm s (D.take (i + 1))) wA) := HSA.out.more.iff (fun k => by
          rw [HTK.out k]
          unfold isP
          rw [decide_eq_false e1, Bool.false_and]
          exact ⟨.inr, fun e => by rcases e with e | e; exact absurd e.1 (by decide); exact e⟩)
        have hq := str_neq e1
        clear e1
        go_wp2_with fail
        go_roundw
        case rel => exact ⟨i + 1, by omega, by go_num, HNX, HBA⟩
        case measure => simp [intOf]; omega
    · have j1 : ¬ (i : Int) < (m : Int) := by omega
      obtain rfl : m = i := by omega
      obtain ⟨Dt, hD, hDR⟩ := HSB.out
      have HDT : Hid (wr.ownsMap Tryz.prog 9 (plainElem Tryz.prog 3) w.heap.size m Dt) := hD
      have HRS : Hid (Rng (wdS nm s D) [] (Maps.has Dt)) := by
        have := Rng.start hDR
        rw [List.take_of_length_le (by rw [HM.out]; exact Nat.le_refl _)] at this
        exact this
      clear hD hDR HSB
      go_wp2_with (refine wpList_range_own _ rfl _ 121 rfl 9 3 keyed9 Tryz.underlying121 (plainElem Tryz.prog 3) w.heap.size m Dt rfl HDT.out ?_; intro w8 hrg hg8 hs8)
      try go_frame
      obtain ⟨r, hr⟩ : ∃ r, wr.heap.size = r := ⟨_, rfl⟩
      have hb8 : Below wr.heap.size wr w8 := ⟨hg8.os, hg8.tape, hg8.output, hg8.size, fun k hk => hg8.block k hk (by simp)⟩
      have hwr : w.heap.size ≤ r := by rw [← hr]; exact HB.out.size
      have hwl := HDT.out.lt
      rw [hr] at hrg hs8 hwl
      have HL8 : Hid (Lp w.heap.size r m Dt (wdS nm s D) (Maps.has Dt) (Maps.size Dt) [] (.slice none 0 0) w w8) := ⟨hrg, HRS.out, World.ownsRow_nil _ _ _ _, HB.out.trans (hb8.mono HB.out.size), by omega⟩
      clear hrg hg8 hs8 hb8 HDT HRS HB
      rw [hr]
      clear hr
      go_loopw [10] (fun rv wq => ∃ (left : Lit → Bool) (cnt : Nat) (Z : List ByteArray), Hid (Lp w.heap.size r m Dt (wdS nm s D) left cnt Z rv w wq)) (fun _ wq => wq.rangeLeft w.heap.size r)
      case atStart => exact ⟨_, _, _, HL8⟩
      case round =>
        clear HL8
        obtain ⟨left, cnt, Z, HQ⟩ := hrel
        have hrg := HQ.out.rg
        have hZl : Z.length ≤ 500 := by
          have h1 : Z.length ≤ xs.length := nodup_le Z xs HQ.out.rn.nd (fun x hx => (HX.out.mem x).2 (wdS_iff.1 (HQ.out.rn.m x hx)))
          have h2 := HX.out.len
          have h3 := HM.out
          omega
        go_wp2_with (at_next; refine next_set _ rfl _ rfl w.heap.size _ m Dt left cnt rfl hrg ?_ ?_)
        · intro _ hl
          have hmem := HQ.out.rn.done hl
          have hperm : Z.Perm xs := (List.perm_ext_iff_of_nodup HQ.out.rn.nd (bl_nodup HX.out.ord)).2 (fun x => (hmem x).trans (wdS_iff.trans (HX.out.mem x).symm))
          have HSO : Hid _ := sortS_any HQ.out.row hperm HX.out.ord (by omega)
          have HBQ : Hid (Below w.heap.size w wr) := HQ.out.b
          have hxl := hperm.length_eq
          clear hl hmem hperm hrg HQ
          go_wp2_with fail
          refine (show Calls _ _ _ _ _ from HSO.out).mono ?_
          rintro _ w9 ⟨rfl, hr9, ho9⟩
          obtain ⟨a5, c5, hv5, hS5, _⟩ := row_of_own hr9 (by omega)
          have HR5 : Hid (RowS w9 a5 xs.length xs) := hS5
          have HB5 : Hid (Below w.heap.size w w9) := Only.below HBQ.out ho9 HBQ.out.size (fun k e => by have e' : r + 1 ≤ k := e; omega)
          obtain ⟨xl, hxl2⟩ : ∃ xl, xs.length = xl := ⟨_, rfl⟩
          have HXL : Hid (xs.length = xl) := hxl2
          rw [hxl2] at hv5
          subst hv5
          clear hr9 ho9 hS5 HSO hxl hxl2
          go_wp2
          go_ret
          exact ⟨a5, c5, by rw [HXL.out]; rfl, HR5.out, HB5.out⟩
        · intro x c w7 cnt7 hlx hrg7 hlt7 hg7 hs7 hen
          have ho7 : Only (fun k => k = r) wr w7 := Only.of_grown hg7 rfl
          have HRN : Hid (Rng (wdS nm s D) (Z ++ [x]) (fun z => left z && !z.sameKey (kl x))) := HQ.out.rn.step hlx
          have HRW : Hid (w7.ownsRow (r + 1) 9 1 u10 Z.length (sc Z)) := row_only HQ.out.row ho7 (fun k e => by have e' : k = r := e; omega)
          have HB7 : Hid (Below w.heap.size w w7) := Only.below HQ.out.b ho7 HQ.out.b.size (fun k e => by have e' : k = r := e; omega)
          have HG7 : Hid (r + 1 ≤ w7.heap.size) := by rw [hs7]; exact HQ.out.ge
          have HRG : Hid (w7.ranges Tryz.prog 9 (plainElem Tryz.prog 3) w.heap.size r m Dt (fun z => left z && !z.sameKey (kl x)) cnt7) := hrg7
          have HLT : Hid (cnt7 < cnt) := hlt7
          have HLE : Hid (wr.rangeLeft w.heap.size r = cnt) := hrg.left_eq
          have HRA : Hid ((w7.alloc (.cells #[.string x] 9)).ownsRow (r + 1) 9 1 u10 Z.length (sc Z)) := row_below HRW.out ((Below.refl _ _).alloc (Nat.le_refl _) _)
          have HBA : Hid (Below w.heap.size w (w7.alloc (.cells #[.string x] 9))) := HB7.out.alloc HB7.out.size _
          have HGA : Hid (r + 1 ≤ (w7.alloc (.cells #[.string x] 9)).heap.size) := by
            show _ ≤ _
            rw [World.size_alloc]
            have := HG7.out
            omega
          have HNW : Hid _ := str_cells w7 x
          clear hlx hrg7 hlt7 hg7 hs7 ho7 hrg
          go_wp2_with (at_builtin; refine wpList_append_lies _ rfl _ _ 59 rfl (r + 1) 9 i0 (.string ⟨#[]⟩) 1 16 Tryz.underlying59 hi0 hz0 hz1 hz2 rfl (by decide) _ _ _ rfl HRA.out ⟨w7.heap.size, 0, none⟩ 1 1 [.string x] rfl rfl HNW.out (by intro u hu; simp at hu; subst hu; rfl) (by decide) (by simp only [maxLen]; omega) (by omega) HGA.out _ rfl ?_; intro g' cap' w' hO hG hat hlt')
          have hk1 : some w.heap.size ≠ u10.ownBlock := fun e => by have := (World.ownsRow.lt HRA.out _ e.symm).1; omega
          have hk2 : some r ≠ u10.ownBlock := fun e => by have := (World.ownsRow.lt HRA.out _ e.symm).1; omega
          have hrgk := World.ranges.kept (World.ranges.alloc HRG.out (.cells #[.string x] 9)) hG hk1 hk2
          refine ⟨⟨_, _, Z ++ [x], ⟨hrgk, HRN.out, ?_, Only.below HBA.out (grown_only (S := fun q => r + 1 ≤ q) hG (fun q e => (World.ownsRow.lt HRA.out q e).1)) HBA.out.size (fun q e => by have e' : r + 1 ≤ q := e; omega), Nat.le_trans HGA.out hG.size⟩⟩, ?_⟩
          · rw [List.length_append, sc_append]
            exact hO
          · rw [World.ranges.left_eq hrgk, HLE.out]
            exact HLT.out
end
end Go.Proofs.YtabcficlnhajeaaGreatDoor
namespace Go.Proofs
open Go.Shelf
def Tryz.lays137_ren : Go.Shelf.Ren := ⟨fun | 137 => 25 | 217 => 55 | 266 => 84 | n => n, fun | 9 => 9 | 5 => 5 | 3 => 3 | n => n, fun | n => n⟩
theorem Tryz.lays137 : Go.Proofs.Lays.n137 Tryz.prog Tryz.lays137_ren := {
  mixed := by kernel_rfl
  f137 := Tryz.func25.trans (congrArg some (by kernel_rfl))
  f217 := Tryz.func55.trans (congrArg some (by kernel_rfl))
  f266 := Tryz.func84.trans (congrArg some (by kernel_rfl))
  t3 := Tryz.underlying3
  a3 := Tryz.isAgg3
  z3 := Tryz.sizeOf3
  v3 := Tryz.zeroValue3
  t5 := Tryz.underlying5
  a5 := Tryz.isAgg5
  z5 := Tryz.sizeOf5
  v5 := Tryz.zeroValue5
  t9 := Tryz.underlying9
  a9 := Tryz.isAgg9
  z9 := Tryz.sizeOf9
  v9 := Tryz.zeroValue9 }
open Go.RowKit in
/-- strings.IndexByte: "IndexByte returns the index of the first instance of c in s, or -1 if c is not present in s.": IT RETURNS 'Lib.indexByte s c'; the world is as it was. (LAID: no walk: one application.) -/
theorem Tryz.strings_IndexByte (s : ByteArray) (c : Int) (w : World) :
    Calls Tryz.prog 25 #[.string s, .int .u8 c] w fun e w' => e = .returned (.int .i64 (Lib.indexByte s.data.toList c.toNat.toUInt8)) ∧ w' = w := Any.strings_IndexByte Tryz.lays137 s c w
end Go.Proofs
