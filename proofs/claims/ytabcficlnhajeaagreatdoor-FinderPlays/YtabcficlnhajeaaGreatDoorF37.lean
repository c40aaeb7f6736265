/- Texts of the proof of FinderPlays: Lpl. -/
import Derived.Test.YtabcficlnhajeaaGreatDoorF36
namespace Go.Proofs.YtabcficlnhajeaaGreatDoor
open Go.RowKit Go.Maps

/-- where all lies -/
structure Bks (bf bt bp bd bm B0 s0 : Nat) : Prop where
  lo : 3 ≤ s0
  ge : s0 ≤ bf ∧ s0 ≤ bt ∧ s0 ≤ bp ∧ s0 ≤ bd ∧ s0 ≤ bm
  lt : bf < B0 ∧ bt < B0 ∧ bp < B0 ∧ bm < B0 ∧ bd < B0
/-- both finders -/
structure Bt (bf bt bp bd bm N B0 b : Nat) (D : List Nd) (w0 w : World) : Prop where
  f : PrS bf bt bp bd bm N 21000 (InD D) w
  x : DocF B0 b D w
  n : Nts D
  g : Gl w
  b : Below w0.heap.size w0 w
section
variable {bf bt bp bd bm N B0 b : Nat} {D : List Nd} {w0 w w' : World}
theorem Bt.below (h : Bt bf bt bp bd bm N B0 b D w0 w) (hb : Below w.heap.size w w') : Bt bf bt bp bd bm N B0 b D w0 w' :=
  ⟨h.f.below hb, h.x.below hb, h.n, h.g.below hb, h.b.trans (hb.mono h.b.size)⟩
theorem Bt.mono {N' : Nat} (h : Bt bf bt bp bd bm N B0 b D w0 w) (hN : N ≤ N') : Bt bf bt bp bd bm N' B0 b D w0 w := ⟨h.f.mono hN (Nat.le_refl _), h.x, h.n, h.g, h.b⟩
theorem Nts.small (h : Nts D) : ∀ d ∈ D, d.w.size ≤ 100 := fun d hd => by have := (h.ok.ok d hd).w.le; omega
theorem doc_len (h : DocF B0 b D w) : ∃ a c, w.cell? ⟨b, 0, none⟩ = some (.slice a D.length c) := by
  obtain ⟨_, v, h1, h2⟩ := h
  obtain ⟨a, c, rfl⟩ := row_slice h2
  exact ⟨a, c, h1.cell⟩
theorem lt_cmp {T : List Pl} (h : T.Pairwise LtP) : T.Pairwise (fun x y => cmpP x y < 0) := h.imp (fun h => cmp_neg.2 h)
theorem ix_no {s : ByteArray} (h : (0 : UInt8) ∉ s.data.toList) : ¬ 0 ≤ Lib.indexByte s.data.toList (0 : Int).toNat.toUInt8 := fun e => h ((indexByte_none _ _).1.1 e)
theorem ix_yes {s : ByteArray} (h : (0 : UInt8) ∈ s.data.toList) : 0 ≤ Lib.indexByte s.data.toList (0 : Int).toNat.toUInt8 := (indexByte_none _ _).1.2 h
set_option maxRecDepth 100000 in
set_option maxHeartbeats 8000000 in
theorem places_law (h : Bt bf bt bp bd bm N B0 b D w0 w) (nm wd : ByteArray) (hnm : nm.size ≤ 1000) (hwd : wd.size ≤ 1000) :
    Calls Tryz.prog 11 #[.pointer (some ⟨bf, 0, none⟩), .pointer (some ⟨b, 0, none⟩), .string nm, .string wd] w fun e w' => e = .returned (.bool true) ∧ Below w.heap.size w w' := by
  have HT : Hid (Bt bf bt bp bd bm N B0 b D w0 w) := h
  have HI1 : Hid _ := fun wx => Tryz.strings_IndexByte nm 0 wx
  have HI2 : Hid _ := fun wx => Tryz.strings_IndexByte wd 0 wx
  obtain ⟨z1, hz1⟩ : ∃ z, Lib.indexByte nm.data.toList (0 : Int).toNat.toUInt8 = z := ⟨_, rfl⟩
  obtain ⟨z2, hz2⟩ : ∃ z, Lib.indexByte wd.data.toList (0 : Int).toNat.toUInt8 = z := ⟨_, rfl⟩
  simp only [hz1] at HI1
  simp only [hz2] at HI2
  clear h hz1 hz2
  by_cases c1 : 0 ≤ z1
  · go_enter Tryz.func11, Tryz.ntmps11
    go_wp2_with fail
    refine (show Calls _ _ _ _ _ from HI1.out _).mono ?_
    rintro _ w9 ⟨rfl, h9⟩
    obtain rfl := h9.symm
    clear h9
    go_wp2
    go_ret
    exact ⟨rfl, Below.refl _ _⟩
  · by_cases c2 : 0 ≤ z2
    · go_enter Tryz.func11, Tryz.ntmps11
      go_wp2_with fail
      refine (show Calls _ _ _ _ _ from HI1.out _).mono ?_
      rintro _ w9 ⟨rfl, h9⟩
      obtain rfl := h9.symm
      clear h9
      go_wp2_with fail
      refine (show Calls _ _ _ _ _ from HI2.out _).mono ?_
      rintro _ w9 ⟨rfl, h9⟩
      obtain rfl := h9.symm
      clear h9
      go_wp2
      go_ret
      exact ⟨rfl, Below.refl _ _⟩
    · by_cases c3 : 16 < nm.size
      · have i3 : (16 : Int) < (nm.size : Int) := by omega
        clear c3
        go_enter Tryz.func11, Tryz.ntmps11
        go_wp2_with fail
        refine (show Calls _ _ _ _ _ from HI1.out _).mono ?_
        rintro _ w9 ⟨rfl, h9⟩
        obtain rfl := h9.symm
        clear h9
        go_wp2_with fail
        refine (show Calls _ _ _ _ _ from HI2.out _).mono ?_
        rintro _ w9 ⟨rfl, h9⟩
        obtain rfl := h9.symm
        clear h9
        go_wp2
        go_ret
        exact ⟨rfl, Below.refl _ _⟩
      · have i3 : ¬ (16 : Int) < (nm.size : Int) := by omega
        have HNS : Hid (nm.size ≤ 16) := by show _ ≤ _; omega
        obtain ⟨i0, hi0, hy0, hy1, hy2⟩ := info9
        obtain ⟨m, hm⟩ : ∃ m, D.length = m := ⟨_, rfl⟩
        have HMY : Hid (Calls Tryz.prog 19 #[.pointer (some ⟨bf, 0, none⟩)] w fun e w' => e = .returned (.tuple #[.int .i64 (m : Nat), .nilIface]) ∧ Below w.heap.size w w') := by
          have := manyD HT.out.n HT.out.f HT.out.g
          rw [hm] at this
          exact this
        have HDL : Hid (∀ wx, Below w.heap.size w wx → ∃ a c, wx.cell? ⟨b, 0, none⟩ = some (.slice a m c)) := fun wx hb => by
          have := doc_len (HT.out.x.below hb)
          rw [hm] at this
          exact this
        have HW : Hid _ := fun wx => words_any wd wx (by omega)
        have hwl := words_count wd
        obtain ⟨ws, hws⟩ : ∃ ws, wordsL wd.data.toList = ws := ⟨_, rfl⟩
        simp only [hws] at HW
        rw [hws] at hwl
        obtain ⟨n, hn⟩ : ∃ n, ws.length = n := ⟨_, rfl⟩
        have HN : Hid (ws.length = n) := hn
        rw [hn] at hwl
        have hmf : ∀ (fn : Fn) (first cap : Array Value) (w : World), (Instr.makeFunc fn first cap).run Tryz.prog w = .ok (.func fn first cap) w := fun _ _ _ _ => rfl
        clear c3 hm hws hn
        go_enter Tryz.func11, Tryz.ntmps11
        go_wp2_with fail
        refine (show Calls _ _ _ _ _ from HI1.out _).mono ?_
        rintro _ w9 ⟨rfl, h9⟩
        obtain rfl := h9.symm
        clear h9
        go_wp2_with fail
        refine (show Calls _ _ _ _ _ from HI2.out _).mono ?_
        rintro _ w9 ⟨rfl, h9⟩
        obtain rfl := h9.symm
        clear h9
        go_wp2_with fail
        refine (show Calls _ _ _ _ _ from HMY.out).mono ?_
        rintro _ w1 ⟨rfl, hb1⟩
        have HB1 : Hid (Below w.heap.size w w1) := hb1
        obtain ⟨al, cl, cb⟩ := HDL.out w1 hb1
        clear hb1
        go_wp2_with fail
        refine (show Calls _ _ _ _ _ from HW.out w1).mono ?_
        rintro _ w2 ⟨v2, rfl, hr2, hb2⟩
        have HB2 : Hid (Below w.heap.size w w2) := HB1.out.trans (hb2.mono HB1.out.size)
        have HR2 : Hid ((w2.alloc (.cells #[.string wd] 9)).ownsRow w.heap.size 9 1 v2 ws.length (sc ws)) := row_below (row_base hr2 HB1.out.size) ((Below.refl _ _).alloc (Nat.le_refl _) _)
        have HBA : Hid (Below w.heap.size w (w2.alloc (.cells #[.string wd] 9))) := HB2.out.alloc HB2.out.size _
        have HNW : Hid _ := str_cells w2 wd
        clear hr2 hb2 cb
        go_wp2_with (at_builtin; refine wpList_append_lies _ rfl _ _ 59 rfl w.heap.size 9 i0 (.string ⟨#[]⟩) 1 16 Tryz.underlying59 hi0 hy0 hy1 hy2 rfl (by decide) _ _ _ rfl HR2.out ⟨w2.heap.size, 0, none⟩ 1 1 [.string wd] rfl rfl HNW.out (by intro u hu; simp at hu; subst hu; rfl) (by decide) (by simp only [maxLen]; rw [HN.out]; omega) (by rw [HN.out]; omega) HBA.out.size _ rfl ?_; intro g3 cap3 w3 hO3 hG3 hat hlt3)
        have HALL : Hid (w3.ownsRow w.heap.size 9 1 (.slice (some ⟨g3, 0, none⟩) (n + 1) cap3) (ws ++ [wd]).length (sc (ws ++ [wd]))) := by
          show World.ownsRow _ _ _ _ _ _ _
          rw [HN.out] at hO3
          rw [List.length_append, HN.out, sc_append]
          exact hO3
        have HB3 : Hid (Below w.heap.size w w3) := Only.below HBA.out (grown_only (S := fun q => w.heap.size ≤ q) hG3 (fun q e => (World.ownsRow.lt HR2.out q e).1)) HBA.out.size (fun _ e => e)
        have HBT : Hid (Bt bf bt bp bd bm N B0 b D w0 w3) := HT.out.below HB3.out
        rw [HN.out]
        obtain ⟨all, hall⟩ : ∃ all, ws ++ [wd] = all := ⟨_, rfl⟩
        have HAL : Hid (all.length = n + 1) := by show _ = _; rw [← hall, List.length_append, HN.out]; rfl
        rw [hall] at HALL
        clear hO3 hG3 hat hlt3 hall HR2 HBA HNW HW HMY HDL HI1 HI2
        go_loopw [12] (fun iv wr => ∃ (i : Nat), i ≤ n + 1 ∧ iv = .int .i64 (i : Nat) ∧ Hid (Below w3.heap.size w3 wr)) (fun iv _ => n + 2 - (intOf iv).toNat)
        case atStart => exact ⟨0, Nat.zero_le _, rfl, Below.refl _ _⟩
        case round =>
          obtain ⟨i, hi, rfl, HB⟩ := hrel
          by_cases hlt : i < n + 1
          · have j1 : (i : Int) < (n : Int) + 1 := by omega
            have hil : i < all.length := by rw [HAL.out]; exact hlt
            obtain ⟨g, cap, hv, hcell⟩ := srow_at (row_below HALL.out HB.out) hil
            rw [HAL.out] at hv
            cases hv
            have hix := fun wx => index_str g3 (n + 1) cap3 i hlt wx
            obtain ⟨x, hx⟩ : ∃ x, all[i] = x := ⟨_, rfl⟩
            rw [hx] at hcell
            clear hx hil
            have HA : Hid (Below w3.heap.size w3 (wr.alloc (.cells #[.string x] 9))) := HB.out.alloc HB.out.size _
            have HOX : Hid (Own1 wr.heap.size (.string x) (wr.alloc (.cells #[.string x] 9))) := Own1.new wr _ _
            obtain ⟨wA, hwA⟩ : ∃ z, wr.alloc (.cells #[.string x] 9) = z := ⟨_, rfl⟩
            rw [hwA] at HA HOX
            have c13 := HOX.out.cell
            by_cases hbig : 12 < x.size
            · have i4 : (12 : Int) < (x.size : Int) := by omega
              clear hbig
              go_wp2_with fail
              go_roundw
              case rel => exact ⟨i + 1, by omega, by go_num, HA⟩
              case measure => simp [intOf]; omega
            · have i4 : ¬ (12 : Int) < (x.size : Int) := by omega
              have HXS : Hid (x.size ≤ 12) := by show _ ≤ _; omega
              have HTA : Hid (Bt bf bt bp bd bm N B0 b D w0 wA) := HBT.out.below HA.out
              have HPL : Hid _ := placesD HTA.out.n HTA.out.f HTA.out.g nm x (by have := HNS.out; omega) (by omega)
              clear hbig
              go_wp2_with fail
              refine (show Calls _ _ _ _ _ from HPL.out).mono ?_
              rintro _ w5 ⟨a5, c5, ps, rfl, hps, hr5, hb5⟩
              obtain ⟨p5, hp5⟩ : ∃ p5, ps.length = p5 := ⟨_, rfl⟩
              have HR5 : Hid (RowP w5 a5 p5 ps) := by rw [← hp5]; exact hr5
              have HPS : Hid (PlsOf D nm x ps) := hps
              have HB5 : Hid (Below wA.heap.size wA w5) := hb5
              have HT5 : Hid (Bt bf bt bp bd bm N B0 b D w0 w5) := HTA.out.below hb5
              have HOF : Hid _ := refOf_any (nm := nm) HT5.out.n.len HT5.out.x (HOX.out.below hb5)
              rw [hp5]
              clear hps hr5 hb5 HPL hp5 c13
              go_wp2_with fail
              refine (show Calls _ _ _ _ _ from HOF.out).mono ?_
              rintro _ w6 ⟨a6, c6, T, rfl, hr6, ⟨t1, t2⟩, hb6⟩
              have hTp : ps = T := HPS.out.same (lt_cmp t1) t2
              subst hTp
              obtain ⟨p6, hp6⟩ : ∃ p6, ps.length = p6 := ⟨_, rfl⟩
              have HSK : Hid (Calls Tryz.prog 27 #[.slice a5 p5 c5, .slice a6 p6 c6] w6 fun e w' => e = .returned (.bool true) ∧ Below w6.heap.size w6 w') := by
                rw [← hp6]
                exact same_keep a5 a6 _ _ c5 c6 ps w6 (HR5.out.below hb6) hr6
              have HB6 : Hid (Below wA.heap.size wA w6) := HB5.out.trans (hb6.mono HB5.out.size)
              rw [hp6]
              clear t1 t2 hr6 hb6 hp6 HOF
              go_wp2_with fail
              refine (show Calls _ _ _ _ _ from HSK.out).mono ?_
              rintro _ w7 ⟨rfl, hb7⟩
              have HB7 : Hid (Below wA.heap.size wA w7) := HB6.out.trans (hb7.mono HB6.out.size)
              have HT7 : Hid (Bt bf bt bp bd bm N B0 b D w0 w7) := HTA.out.below HB7.out
              have c13 := (HOX.out.below HB7.out).cell
              clear hb7 HSK
              have HXE : Hid ((x.extract 0 (x.size / 2)).size ≤ 100) := by
                show _ ≤ _
                rw [ByteArray.size_extract]
                omega
              have HBG : Hid _ := beginD HT7.out.n HT7.out.f HT7.out.g nm (x.extract 0 (x.size / 2)) (by have := HNS.out; omega) HXE.out
              go_wp2_with fail
              refine (show Calls _ _ _ _ _ from HBG.out).mono ?_
              rintro _ w8 ⟨a8, c8, ys, rfl, hys, hr8, hb8⟩
              obtain ⟨p8, hp8⟩ : ∃ p8, ys.length = p8 := ⟨_, rfl⟩
              have HR8 : Hid (RowS w8 a8 p8 ys) := by rw [← hp8]; exact hr8
              have HB8 : Hid (Below wA.heap.size wA w8) := HB7.out.trans (hb8.mono HB7.out.size)
              have HT8 : Hid (Bt bf bt bp bd bm N B0 b D w0 w8) := HTA.out.below HB8.out
              have c14 := (HOX.out.below HB8.out).cell
              have HRB : Hid _ := refBegin_any HT8.out.n.small HT8.out.n.len HT8.out.x hys
              rw [hp8]
              clear hys hr8 hb8 hp8 c13 HBG
              go_wp2_with fail
              refine (show Calls _ _ _ _ _ from HRB.out).mono ?_
              rintro _ w9 ⟨a9, c9, rfl, hr9, hb9⟩
              obtain ⟨p9, hp9⟩ : ∃ p9, ys.length = p9 := ⟨_, rfl⟩
              have HST : Hid (Calls Tryz.prog 31 #[.slice a8 p8 c8, .slice a9 p9 c9] w9 fun e w' => e = .returned (.bool true) ∧ ∃ m, w' = w9.drewN m) := by
                rw [← hp9]
                exact sameTexts_any a8 a9 _ _ c8 c9 ys w9 (HR8.out.below hb9) hr9
              have HB9 : Hid (Below wA.heap.size wA w9) := HB8.out.trans (hb9.mono HB8.out.size)
              rw [hp9]
              clear hr9 hb9 hp9 HRB c14
              go_wp2_with fail
              refine (show Calls _ _ _ _ _ from HST.out).mono ?_
              rintro _ wz ⟨rfl, mz, hwz⟩
              have HBZ : Hid (Below w3.heap.size w3 wz) := by
                rw [hwz]
                exact below_drewN' (HA.out.trans (HB9.out.mono HA.out.size)) _
              clear hwz HST
              go_wp2_with fail
              go_roundw
              case rel => exact ⟨i + 1, by omega, by go_num, HBZ⟩
              case measure => simp [intOf]; omega
          · have j1 : ¬ (i : Int) < (n : Int) + 1 := by omega
            go_wp2
            go_ret
            exact ⟨rfl, HB3.out.trans (HB.out.mono HB3.out.size)⟩
end
end Go.Proofs.YtabcficlnhajeaaGreatDoor
