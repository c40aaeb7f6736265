/- Texts of the proof of TreePlays: Dlw. -/
import Derived.Test.YtndoigopjlkimaaGreatDoorP17
import Derived.Deep.DeepCutAuto
import Derived.Deep.CutBlock
import Derived.BigQuiet
namespace Go.Proofs.YtndoigopjlkimaaGreatDoor
open Go.RowKit Go.Maps

set_option maxRecDepth 100000 in
set_option maxHeartbeats 40000000 in
theorem plays_walk (a0 : Option Addr) (l0 c0 : Nat) (xs : List Wp) (root fill : Int) (w : World) (hr0 : RowP w a0 l0 xs) (hg : HG w) :
    Calls Tryz.prog 3 #[.slice a0 l0 c0, .int .i64 root, .int .i64 fill] w fun e w' => e = .returned (.bool true) ∧ Below w.heap.size w w' := by
  have HR0 : Hid (RowP w a0 l0 xs) := hr0
  have HG0 : Hid (HG w) := hg
  obtain ⟨e0, hm0, _⟩ := hr0
  unfold maxLen at hm0
  by_cases h30 : 80 < l0
  · have hd : (80 : Int) < (l0 : Int) := by omega
    clear hg
    go_enter Tryz.func3, Tryz.ntmps3
    go_wp2
    go_ret
    exact ⟨rfl, Below.refl _ _⟩
  have hd : ¬ (80 : Int) < (l0 : Int) := by omega
  have L0 : l0 ≤ 80 := by omega
  have hz := Tryz.zeroValue31
  have HO : Hid _ := open_new w
  clear e0 hm0 h30 hg
  go_enter Tryz.func3, Tryz.ntmps3
  go_wp2_with fail
  refine (show Calls _ _ _ _ _ from HO.out).mono ?_
  rintro _ w2 ⟨bp, bm, up, V, rfl, h1, h2, h3, hW, hU, hE, hb2⟩
  have HW : Hid _ := hW
  have HU : Hid _ := hU
  have HE0 : Hid (∀ i, i < 8 → TrAt V i Tr.none) := hE
  have HB2 : Hid (Below w.heap.size w w2) := hb2
  obtain ⟨bd, hbd⟩ : ∃ bd, w.heap.size = bd := ⟨_, rfl⟩
  rw [hbd] at h1 h2 HW
  try rw [hbd]
  have HBD : Hid (w.heap.size = bd) := hbd
  clear hW hU hE hb2 HO hbd hz
  by_cases hroot : 0 ≤ root ∧ root < 8
  · obtain ⟨r, rfl⟩ : ∃ r : Nat, root = (r : Int) := ⟨root.toNat, by omega⟩
    have hr8 : r < 8 := by omega
    have i1 : ¬ (r : Int) < 0 := by omega
    have i2 : ¬ (8 : Int) ≤ (r : Int) := by omega
    clear hroot
    go_wp2_with fail
    refine (at_any (r := r) HW.out hr8).mono ?_
    rintro _ w3 ⟨bt, rfl, hT3, hlt3, hb3⟩
    have hwl := HW.out.lt
    have hne : bt ≠ bp ∧ bt ≠ bm := ⟨by omega, by omega⟩
    have hl1 : w.heap.size ≤ bp := by rw [HBD.out]; omega
    have hl2 : w.heap.size ≤ bm := by rw [HBD.out]; omega
    have HS3 : Hid (Pt bt bp bd bm 0 r up V Tr.none w w3) := ⟨hT3, HW.out.below hb3, HE0.out r hr8, Sole.none HU.out, HB2.out.trans (hb3.mono HB2.out.size), hl1, hl2, hne⟩
    clear hT3 hb3 HB2 HW hlt3 HE0 HU hwl h1 h2 h3 hl1 hl2 HBD
    go_wp2_with fail
    refine (at_nil 0 w3).mono ?_
    rintro _ w9 ⟨rfl, h9⟩
    obtain rfl := h9.symm
    clear h9
    go_wp2_with fail
    refine (bare_any _ 7 w3 (HG0.out.below HS3.out.b0 HG0.out.lt) (.inr (.inr ⟨rfl, rfl⟩))).mono ?_
    rintro _ w4 ⟨rfl, hb4⟩
    have HS4 : Hid (Pt bt bp bd bm 0 r up V Tr.none w w4) := HS3.out.below hb4
    clear hb4 HS3
    go_wp2_with fail
    refine (new_doc w4).mono ?_
    rintro _ w5 ⟨bw, m, rfl, hD5, hlw, hlm, hb5⟩
    have hwl := HS4.out.tw.lt
    have hwt := HS4.out.t.lt
    have hws := HS4.out.b0.size
    have HB5 : Hid (Bo bt bp bd bm 0 r up V Tr.none bw m 0 w w5) := ⟨HS4.out.below hb5, hD5, ⟨by omega, by omega, by omega, by omega, by omega, by omega, by omega⟩, HG0.out⟩
    clear hD5 hlw hlm hb5 HS4 hwl hwt hws
    go_wp2_with fail
    refine (rep_any 105 100 (by omega) w5).mono ?_
    rintro _ w6 ⟨rfl, hb6⟩
    have HB6 : Hid (Bo bt bp bd bm 0 r up V Tr.none bw m 0 w w6) := HB5.out.below hb6
    clear hb6 HB5
    obtain ⟨mn, hmn⟩ : ∃ mn, pk fill 300 = mn := ⟨_, rfl⟩
    have hmnl : mn < 300 := by rw [← hmn]; exact pk_lt _ _ (by omega)
    have hpm : wrap64 ((IntKind.u64.wrap fill).tmod 300) = (mn : Int) := by rw [← hmn]; exact pick_mod fill 300 (by omega) (by omega)
    clear hmn
    go_wp2_with fail
    go_loopw [14] (fun i wr => ∃ (k N1 n1 : Nat) (V1 : Pst) (T1 : Tr), k ≤ 300 ∧ i = .int .i64 (k : Nat) ∧ N1 ≤ 40 * k ∧ n1 ≤ 3 * k ∧ Hid (Bo bt bp bd bm N1 r up V1 T1 bw m n1 w wr)) (fun i _ => 301 - (intOf i).toNat)
    case atStart => exact ⟨0, 0, 0, V, Tr.none, by omega, rfl, by omega, by omega, HB6⟩
    case round =>
      clear HB6
      obtain ⟨k, N1, n1, V1, T1, hk, rfl, hN1, hn1, HB⟩ := hrel
      by_cases hlt : k < mn
      · have h1 : (k : Int) < (mn : Int) := by omega
        have hw54 : IntKind.i64.wrap ((k : Int) * 7) = (k : Int) * 7 := by rw [IntKind.wrap_i64]; omega
        obtain ⟨k0, hk0⟩ : ∃ k0 : Nat, k * 7 % 256 = k0 := ⟨_, rfl⟩
        obtain ⟨k1, hk1⟩ : ∃ k1 : Nat, k % 256 = k1 := ⟨_, rfl⟩
        have hw55 : IntKind.u8.wrap ((k : Int) * 7) = (k0 : Nat) := by rw [wrap_u8]; omega
        have hw57 : IntKind.u8.wrap (k : Int) = (k1 : Nat) := by rw [wrap_u8]; omega
        have hk0b : k0 < 256 := by omega
        have hk1b : k1 < 256 := by omega
        obtain ⟨KB, hKB⟩ : ∃ KB : ByteArray, ⟨#[byteI 102, byteI (k0 : Int), byteI (k1 : Int)]⟩ = KB := ⟨_, rfl⟩
        have n0 := cells_new3 wr (.int .u8 102) (.int .u8 (k0 : Nat)) (.int .u8 (k1 : Nat)) 5
        have hcv : (convert 41 9 (.slice (some ⟨wr.heap.size, 0, none⟩) 3 3)).run Tryz.prog (wr.alloc (.cells #[.int .u8 102, .int .u8 (k0 : Nat), .int .u8 (k1 : Nat)] 5)) = .ok (.string KB) (wr.alloc (.cells #[.int .u8 102, .int .u8 (k0 : Nat), .int .u8 (k1 : Nat)] 5)) := by
          rw [← hKB]
          exact three_bytes 102 k0 k1 (by omega) (by omega) (by omega) (by omega) (by omega) (by omega) _ _ n0.1 n0.2.1 n0.2.2
        have HB1 : Hid (Bo bt bp bd bm N1 r up V1 T1 bw m n1 w (wr.alloc (.cells #[.int .u8 102, .int .u8 (k0 : Nat), .int .u8 (k1 : Nat)] 5))) := HB.out.below ((Below.refl _ wr).alloc (Nat.le_refl _) _)
        clear hKB hk0 hk1 n0 HB
        go_wp2_with fail
        refine (bo_put HB1.out KB (rep 105 100) (by omega)).mono ?_
        rintro _ w7 ⟨E, kk, V7, N7, T7, rfl, he7, hp7, hn7, ht7, hd7, _⟩
        have HEK : Hid (EK E kk) := he7
        have HPN : Hid (Pend T1 T7 KB (rep 105 100) kk) := hp7
        have HT7 : Hid (Pt bt bp bd bm N7 r up V7 T7 w w7) := ht7
        have HD7 : Hid (Doc bw m n1 T1.all w7) := hd7
        clear he7 hp7 ht7 hd7 hcv
        go_wp2_with fail
        refine (doc_put HPN.out HB1.out.pt.sorted HB1.out.pt.oks HB1.out.pt.sum HD7.out (by omega)).mono ?_
        rintro _ w8 ⟨rfl, hd8, ho8⟩
        have HB8 : Hid (Bo bt bp bd bm N7 r up V7 T7 bw m (n1 + 3) w w8) := bo_both HB1.out HT7.out hd8 ho8
        clear hd8 ho8 HD7 HT7 HPN HB1
        go_wp2_with fail
        refine (bare_bo HB8.out HEK.out).mono ?_
        rintro _ w9 ⟨rfl, hb9⟩
        have HB9 : Hid (Bo bt bp bd bm N7 r up V7 T7 bw m (n1 + 3) w w9) := HB8.out.below hb9
        clear hb9 HB8
        go_wp2_with fail
        go_roundw
        case rel => exact ⟨k + 1, N7, n1 + 3, V7, T7, by omega, by go_num, by omega, by omega, HB9⟩
        case measure => simp [intOf]; omega
      · have h1 : ¬ (k : Int) < (mn : Int) := by omega
        have hNk : N1 ≤ 12000 := by omega
        have hnk : n1 ≤ 900 := by omega
        clear hN1 hn1 hk hlt hmnl
        go_wp2_with fail
        clear h1 hpm
        have HB0 : Hid (∃ (V1 : Pst) (T1 : Tr), Bo bt bp bd bm N1 r up V1 T1 bw m n1 w wr) := ⟨V1, T1, HB.out⟩
        clear HB
        go_loopw [12, 16] (fun pw i wr => ∃ (k bw m N1 n1 : Nat) (V1 : Pst) (T1 : Tr), k ≤ l0 ∧ i = .int .i64 (k : Nat) ∧ pw = .pointer (some ⟨bw, 0, none⟩) ∧ N1 ≤ 12000 + 40 * k ∧ n1 ≤ 900 + 3 * k ∧ Hid (Bo bt bp bd bm N1 r up V1 T1 bw m n1 w wr)) (fun _ i _ => l0 - (intOf i).toNat)
        case atStart =>
          obtain ⟨V1, T1, h⟩ := HB0.out
          exact ⟨0, bw, m, N1, n1, V1, T1, by omega, rfl, rfl, by omega, by omega, h⟩
        case round =>
          clear HB0 hNk hnk
          obtain ⟨k, bw, m, N1, n1, V1, T1, hk, rfl, rfl, hN1, hn1, HB⟩ := hrel
          by_cases hlt : k < l0
          · have i1 : (k : Int) < (l0 : Int) := by omega
            obtain ⟨e0, _, hx⟩ := HR0.out
            rcases hx with hx | ⟨b, off, ha0, hb, hrow⟩
            · exact absurd hlt (by rw [e0, hx]; simp)
            obtain ⟨e1, e2, e3, e4, hfit⟩ := hrow k (by omega)
            subst ha0
            have g1 := (HB.out.pt.b0.cell (p := ⟨b, off + k * 4, none⟩) hb).trans e1
            have g2 := (HB.out.pt.b0.cell (p := ⟨b, off + k * 4 + 1, none⟩) hb).trans e2
            have g3 := (HB.out.pt.b0.cell (p := ⟨b, off + k * 4 + 2, none⟩) hb).trans e3
            have g4 := (HB.out.pt.b0.cell (p := ⟨b, off + k * 4 + 3, none⟩) hb).trans e4
            have hix := index_four Tryz.underlying22 elem22 size45 b off l0 c0 k hlt
            clear e1 e2 e3 e4 hrow
            generalize xs[k].q = q at *
            generalize xs[k].n = nn at *
            generalize xs[k].k = key at *
            generalize xs[k].i = item at *
            clear e0
            have HX1 : Hid (Xr wr.heap.size q nn key item (wr.alloc (.cells #[.int .i64 q, .int .i64 nn, .string key, .string item] 45))) := Xr.new wr q nn key item
            have HB1 : Hid (Bo bt bp bd bm N1 r up V1 T1 bw m n1 w (wr.alloc (.cells #[.int .i64 q, .int .i64 nn, .string key, .string item] 45))) := HB.out.below ((Below.refl _ wr).alloc (Nat.le_refl _) _)
            have hz4 := Tryz.zeroValue45
            have HFIT : Hid (nn ≤ 9223372036854775807) := hfit
            clear hfit
            by_cases hks : key.size ≤ 100 ∧ item.size ≤ 150
            · have hk1 : ¬ (100 : Int) < (key.size : Int) := by omega
              have hk2 : ¬ (150 : Int) < (item.size : Int) := by omega
              go_upto_block 4 with fail
              obtain ⟨bx, hbx⟩ : ∃ bx, wr.heap.size = bx := ⟨_, rfl⟩
              obtain ⟨wx, hwx⟩ : ∃ wx, wr.alloc (.cells #[.int .i64 q, .int .i64 nn, .string key, .string item] 45) = wx := ⟨_, rfl⟩
              have hl1 := HB.out.pt.tw.lt
              have hl2 := HB.out.doc.lt
              have hl3 := HB.out.pt.b0.size
              rw [hwx] at HX1 HB1
              rw [hbx] at HX1 hl1 hl2 hl3
              rw [hwx, hbx]
              clear hwx hbx HB g1 g2 g3 g4 hix hz4
              go_cut [12] (fun pw wz => ∃ (bw1 m1 N2 n2 : Nat) (V2 : Pst) (T2 : Tr), pw = .pointer (some ⟨bw1, 0, none⟩) ∧ N2 ≤ N1 + 40 ∧ n2 ≤ n1 + 3 ∧ Hid (Bo bt bp bd bm N2 r up V2 T2 bw1 m1 n2 w wz) ∧ Hid (Xr bx q nn key item wz))
              case first =>
                by_cases q0 : q = 0
                · subst q0
                  as_aux_lemma =>
                    have hx1 : bx ≠ bp := by omega
                    have hx2 : bx ≠ bm := by omega
                    have hx3 : bx ≠ m := by omega
                    have C0 : Hid (wx.drew.cell? ⟨bx, 2, none⟩ = some (.string key) ∧ wx.drew.cell? ⟨bx, 3, none⟩ = some (.string item)) := ⟨HX1.out.drew.k, HX1.out.drew.i⟩
                    have c0 := HX1.out.q
                    go_wp2_with fail
                    go_region_held3 (fun wy => wy.cell? ⟨bx, 2, none⟩ = some (.string key) ∧ wy.cell? ⟨bx, 3, none⟩ = some (.string item)) (first | exact C0.out | exact C1.out | exact C2.out | exact C3.out) (first | (go_at_call 9; refine (bo_put HB1.out.drew key item (by omega)).mono ?_; rintro _ w7 ⟨E, kk, V7, N7, T7, rfl, he7, hp7, hn7, ht7, hd7, ho7⟩; have HEK : Hid (EK E kk) := he7; have HPN : Hid (Pend T1 T7 key item kk) := hp7; have HT7 : Hid (Pt bt bp bd bm N7 r up V7 T7 w w7) := ht7; have HD7 : Hid (Doc bw m n1 T1.all w7) := hd7; have HX7 : Hid (Xr bx 0 nn key item w7) := HX1.out.drew.only ho7 (fun e => by rcases e with e | e; exact hx1 e; exact hx2 e); have C1 : Hid (w7.cell? ⟨bx, 2, none⟩ = some (.string key) ∧ w7.cell? ⟨bx, 3, none⟩ = some (.string item)) := ⟨HX7.out.k, HX7.out.i⟩; clear he7 hp7 ht7 hd7 ho7) | (go_at_call 10; refine (doc_put HPN.out HB1.out.pt.sorted HB1.out.pt.oks HB1.out.pt.sum HD7.out (by omega)).mono ?_; rintro _ w8 ⟨rfl, hd8, ho8⟩; have HB8 : Hid (Bo bt bp bd bm N7 r up V7 T7 bw m (n1 + 3) w w8) := bo_both HB1.out HT7.out hd8 ho8; have HX8 : Hid (Xr bx 0 nn key item w8) := HX7.out.only ho8 hx3; have C2 : Hid (w8.cell? ⟨bx, 2, none⟩ = some (.string key) ∧ w8.cell? ⟨bx, 3, none⟩ = some (.string item)) := ⟨HX8.out.k, HX8.out.i⟩; clear hd8 ho8) | (go_at_call 6; refine (bare_bo HB8.out HEK.out).mono ?_; rintro _ w9 ⟨rfl, hb9⟩; have HB9 : Hid (Bo bt bp bd bm N7 r up V7 T7 bw m (n1 + 3) w w9) := HB8.out.below hb9; have HX9 : Hid (Xr bx 0 nn key item w9) := HX8.out.below hb9; have C3 : Hid (w9.cell? ⟨bx, 2, none⟩ = some (.string key) ∧ w9.cell? ⟨bx, 3, none⟩ = some (.string item)) := ⟨HX9.out.k, HX9.out.i⟩; clear hb9))
                    go_wp2_with fail
                    go_meet
                    exact ⟨bw, m, N7, n1 + 3, V7, T7, rfl, by omega, by omega, HB9, HX9⟩
                by_cases q1 : q = 1
                · subst q1
                  as_aux_lemma =>
                    have hx1 : bx ≠ bp := by omega
                    have hx2 : bx ≠ bm := by omega
                    have hx3 : bx ≠ m := by omega
                    have c0 := HX1.out.q
                    have hbwm := HB1.out.doc.ne
                    obtain ⟨v, bb, hf, hlk⟩ := book_ok HB1.out.drew.doc.book key (by omega)
                    have C0 : Hid (wx.drew.cell? ⟨bw, 0, none⟩ = some (.map (some m)) ∧ wx.drew.cell? ⟨bx, 2, none⟩ = some (.string key) ∧ (Instr.lookup 47 (.map (some m)) (.string key) true).run Tryz.prog wx.drew = .ok (.tuple #[.string v, .bool bb]) wx.drew) := ⟨HB1.out.drew.doc.cell, HX1.out.drew.k, hlk⟩
                    clear hlk
                    go_wp2_with fail
                    go_region_held3 (fun wy => wy.cell? ⟨bw, 0, none⟩ = some (.map (some m)) ∧ wy.cell? ⟨bx, 2, none⟩ = some (.string key) ∧ (Instr.lookup 47 (.map (some m)) (.string key) true).run Tryz.prog wy = .ok (.tuple #[.string v, .bool bb]) wy) (exact C0.out) (fail)
                    clear C0
                    rcases hf with ⟨rfl, y, hy, hyk, hyi⟩ | ⟨rfl, rfl, hn⟩
                    · obtain ⟨D, hD, hBk⟩ := HB1.out.drew.drew.doc.book
                      obtain ⟨w3, hrun3, hD3, hturn3⟩ := hD.drop keyed9 Tryz.underlying47 (kl_of (by omega : key.size ≤ 1000)) 0
                      have hO3 : Only (fun b => b = m) wx.drew.drew w3 := Only.of_grown hturn3.grown rfl
                      have HK3 : Hid (Book m n1 (gone T1 key) w3) := ⟨_, hD3, hBk.del key (fun z => by unfold gone; rw [List.mem_filter]; simp)⟩
                      have HP3 : Hid (Pt bt bp bd bm N1 r up V1 T1 w w3) := HB1.out.drew.drew.pt.far hO3 HB1.out.sp.m1 HB1.out.sp.m2 HB1.out.sp.m3 HB1.out.sp.m4 HB1.out.sp.low
                      have HX3 : Hid (Xr bx 1 nn key item w3) := HX1.out.drew.drew.only hO3 hx3
                      have HC3 : Hid (w3.cell? ⟨bw, 0, none⟩ = some (.map (some m))) := (World.cell?_of_block (a := ⟨bw, 0, none⟩) (hO3.block bw HB1.out.drew.drew.doc.lt.1 (fun e => hbwm e.symm))).trans HB1.out.drew.drew.doc.cell
                      have D0 : Hid (wx.drew.drew.cell? ⟨bw, 0, none⟩ = some (.map (some m)) ∧ wx.drew.drew.cell? ⟨bx, 2, none⟩ = some (.string key)) := ⟨HB1.out.drew.drew.doc.cell, HX1.out.drew.drew.k⟩
                      have D1 : Hid (w3.cell? ⟨bw, 0, none⟩ = some (.map (some m)) ∧ w3.cell? ⟨bx, 2, none⟩ = some (.string key)) := ⟨HC3.out, HX3.out.k⟩
                      have HFD : Hid (∃ x ∈ T1.all, x.k = key) := ⟨y, hy, hyk⟩
                      clear hD hBk hD3 hturn3 hO3 hy hyk hyi
                      go_wp2_with fail
                      go_region_held3 (fun wy => wy.cell? ⟨bw, 0, none⟩ = some (.map (some m)) ∧ wy.cell? ⟨bx, 2, none⟩ = some (.string key)) (first | exact D0.out | exact D1.out) (fail)
                      clear D0 D1 hrun3
                      have c3 := HX3.out.k
                      go_wp2_with fail
                      refine (pt_drop HP3.out key (by omega)).mono ?_
                      rintro _ w7 ⟨E, V7, N7, T7, rfl, he7, hn7, ht7, hm7, ho7⟩
                      rw [if_pos HFD.out] at he7
                      have HEK : Hid (EK E 0) := he7
                      have HD7 : Hid (Doc bw m n1 T7.all w7) := ((⟨HC3.out, HK3.out⟩ : Doc bw m n1 (gone T1 key) w3).same (fun z => by unfold gone; rw [List.mem_filter, hm7 z]; simp)).only ho7 (fun e => by rcases e with e | e; exact HB1.out.sp.w1 e; exact HB1.out.sp.w2 e) (fun e => by rcases e with e | e; exact HB1.out.sp.m2 e.symm; exact HB1.out.sp.m3 e.symm)
                      have HB7 : Hid (Bo bt bp bd bm N7 r up V7 T7 bw m n1 w w7) := ⟨ht7, HD7.out, HB1.out.sp, HB1.out.hg⟩
                      have HX7 : Hid (Xr bx 1 nn key item w7) := HX3.out.only ho7 (fun e => by rcases e with e | e; exact hx1 e; exact hx2 e)
                      clear he7 ht7 hm7 ho7 HD7 c3
                      go_wp2_with fail
                      refine (bare_bo HB7.out HEK.out).mono ?_
                      rintro _ w9 ⟨rfl, hb9⟩
                      have HB9 : Hid (Bo bt bp bd bm N7 r up V7 T7 bw m n1 w w9) := HB7.out.below hb9
                      have HX9 : Hid (Xr bx 1 nn key item w9) := HX7.out.below hb9
                      clear hb9
                      go_wp2_with fail
                      go_meet
                      exact ⟨bw, m, N7, n1, V7, T7, rfl, by omega, by omega, HB9, HX9⟩
                    · have HB2 : Hid (Bo bt bp bd bm N1 r up V1 T1 bw m n1 w wx.drew) := HB1.out.drew
                      have HX2 : Hid (Xr bx 1 nn key item wx.drew) := HX1.out.drew
                      have c3 := HX2.out.k
                      have HFN : Hid (¬ ∃ x ∈ T1.all, x.k = key) := fun ⟨x, hx, e⟩ => hn x hx e
                      clear hn
                      go_wp2_with fail
                      refine (pt_drop HB2.out.pt key (by omega)).mono ?_
                      rintro _ w7 ⟨E, V7, N7, T7, rfl, he7, hn7, ht7, hm7, ho7⟩
                      rw [if_neg HFN.out] at he7
                      have HEK : Hid (EK E 7) := he7
                      have HD7 : Hid (Doc bw m n1 T7.all w7) := (HB2.out.doc.same (fun z => by rw [hm7 z]; exact ⟨fun h => ⟨h, fun e => HFN.out ⟨z, h, e⟩⟩, fun h => h.1⟩)).only ho7 (fun e => by rcases e with e | e; exact HB1.out.sp.w1 e; exact HB1.out.sp.w2 e) (fun e => by rcases e with e | e; exact HB1.out.sp.m2 e.symm; exact HB1.out.sp.m3 e.symm)
                      have HB7 : Hid (Bo bt bp bd bm N7 r up V7 T7 bw m n1 w w7) := ⟨ht7, HD7.out, HB1.out.sp, HB1.out.hg⟩
                      have HX7 : Hid (Xr bx 1 nn key item w7) := HX2.out.only ho7 (fun e => by rcases e with e | e; exact hx1 e; exact hx2 e)
                      clear he7 ht7 hm7 ho7 HD7 c3
                      go_wp2_with fail
                      refine (bare_bo HB7.out HEK.out).mono ?_
                      rintro _ w9 ⟨rfl, hb9⟩
                      have HB9 : Hid (Bo bt bp bd bm N7 r up V7 T7 bw m n1 w w9) := HB7.out.below hb9
                      have HX9 : Hid (Xr bx 1 nn key item w9) := HX7.out.below hb9
                      clear hb9
                      go_wp2_with fail
                      go_meet
                      exact ⟨bw, m, N7, n1, V7, T7, rfl, by omega, by omega, HB9, HX9⟩
                by_cases q2 : q = 2
                · subst q2
                  as_aux_lemma =>
                    have hx1 : bx ≠ bp := by omega
                    have hx2 : bx ≠ bm := by omega
                    have c0 := HX1.out.q
                    go_wp2_with fail
                    refine (pt_clear HB1.out.pt (by omega)).mono ?_
                    rintro _ w7 ⟨V7, N7, T7, rfl, hn7, ht7, ha7, ho7⟩
                    have HX7 : Hid (Xr bx 2 nn key item w7) := HX1.out.only ho7 (fun e => by rcases e with e | e; exact hx1 e; exact hx2 e)
                    have HT7 : Hid (Pt bt bp bd bm N7 r up V7 T7 w w7) := ht7
                    have HA7 : Hid (T7.all = []) := ha7
                    clear ht7 ha7 ho7
                    go_wp2_with fail
                    refine (new_doc w7).mono ?_
                    rintro _ w8 ⟨bw8, m8, rfl, hD8, hlw, hlm, hb8⟩
                    have hwl := HT7.out.tw.lt
                    have hwt := HT7.out.t.lt
                    have hws := HT7.out.b0.size
                    have HB8 : Hid (Bo bt bp bd bm N7 r up V7 T7 bw8 m8 0 w w8) := ⟨HT7.out.below hb8, by rw [HA7.out]; exact hD8, ⟨by omega, by omega, by omega, by omega, by omega, by omega, by omega⟩, HG0.out⟩
                    have HX8 : Hid (Xr bx 2 nn key item w8) := HX7.out.below hb8
                    clear hD8 hb8
                    go_wp2_with fail
                    go_meet
                    exact ⟨bw8, m8, N7, 0, V7, T7, rfl, by omega, by omega, HB8, HX8⟩
                by_cases q3 : q = 3
                · subst q3
                  as_aux_lemma =>
                    have c0 := HX1.out.q
                    have c1 := HX1.out.k
                    go_wp2_with fail
                    refine (keys_doc HB1.out.doc HB1.out.pt.sorted (by have := HB1.out.pt.len; omega) key).mono ?_
                    rintro _ w7 ⟨v7, rfl, hr7, hb7⟩
                    have HB7 : Hid (Bo bt bp bd bm N1 r up V1 T1 bw m n1 w w7) := HB1.out.below hb7
                    have HX7 : Hid (Xr bx 3 nn key item w7) := HX1.out.below hb7
                    have HV7 : Hid (View (wx.heap.size + 1) v7 ((keysF key T1.all).map Value.string) w7) := SRow.view hr7
                    have hl7 := HV7.out.len Tryz.underlying52
                    rw [List.length_map] at hl7
                    obtain ⟨L, hL⟩ : ∃ L, (keysF key T1.all).length = L := ⟨_, rfl⟩
                    rw [hL] at hl7
                    have HL : Hid ((keysF key T1.all).length = L) := hL
                    have c2 := HX7.out.n
                    have c3 := HX7.out.k
                    clear hr7 hb7 hL c0 c1
                    by_cases hcut : 0 ≤ nn ∧ nn < (L : Int)
                    · obtain ⟨N0, hN0⟩ : ∃ N0 : Nat, nn = (N0 : Int) := ⟨nn.toNat, by omega⟩
                      subst hN0
                      have j1 : (0 : Int) ≤ (N0 : Int) := by omega
                      have j2 : (N0 : Int) < (L : Int) := hcut.2
                      obtain ⟨v8, hv8, hcu⟩ := HV7.out.cut 0 N0 (Nat.zero_le _) (by rw [List.length_map, HL.out]; omega)
                      have hcu8 : ∀ wy, (Instr.slice 52 v7 none (some (.int .i64 (N0 : Int))) none).run Tryz.prog wy = .ok v8 wy := fun wy => (hcu Tryz.underlying52 elem137 size9 0 N0 rfl rfl wy).2.1 rfl
                      have HV8 : Hid (View (wx.heap.size + 1) v8 (((keysF key T1.all).take N0).map Value.string) w7) := by
                        rw [List.drop_zero, Nat.sub_zero, ← List.map_take] at hv8
                        exact hv8
                      have HKS : Hid ((keysF key T1.all).take N0 = (walkL (wntN (N0 : Int)) key 0 T1.all).map (·.k)) := by rw [Hid, walkN_pos, Nat.sub_zero, List.map_take, keysF_eq]
                      clear hv8 hcu hcut
                      go_wp2_with fail
                      refine (walk_every w7 HB7.out.pt.t HB7.out.pt.tw HB7.out.pt.a key _ HFIT.out).mono ?_
                      rintro _ w8 ⟨v9, rfl, hr9, hb9⟩
                      have HP9 : Hid (PRow w7.heap.size v9 (walkL (wntN (N0 : Int)) key 0 T1.all) w8) := hr9
                      have HV9 : Hid (View (wx.heap.size + 1) v8 (((keysF key T1.all).take N0).map Value.string) w8) := HV8.out.below hb9
                      have HB8 : Hid (Bo bt bp bd bm N1 r up V1 T1 bw m n1 w w8) := HB7.out.below hb9
                      have HX8 : Hid (Xr bx 3 (N0 : Int) key item w8) := HX7.out.below hb9
                      clear hr9 hb9 c2 c3
                      go_wp2_with fail
                      refine (pairsL_any HP9.out HV9.out HB8.out.doc HKS.out (fun p hp => walk_sub hp) (fun p hp => by have := (HB8.out.pt.oks p hp).2.1; omega) (apart_sorted HB8.out.pt.sorted) (by have := walkL_len (wnt := wntN (N0 : Int)) (from_ := key) T1.all 0; have := HB8.out.pt.len; omega)).mono ?_
                      rintro _ w9 ⟨rfl, hb9⟩
                      have HB9 : Hid (Bo bt bp bd bm N1 r up V1 T1 bw m n1 w w9) := HB8.out.below hb9
                      have HX9 : Hid (Xr bx 3 (N0 : Int) key item w9) := HX8.out.below hb9
                      clear hb9
                      go_wp2_with fail
                      go_meet
                      exact ⟨bw, m, N1, n1, V1, T1, rfl, by omega, by omega, HB9, HX9⟩
                    · have HKS : Hid (keysF key T1.all = (walkL (wntN nn) key 0 T1.all).map (·.k)) := by
                        by_cases hneg : nn < 0
                        · rw [Hid, walkN_neg hneg, keysF_eq]
                        · obtain ⟨N0, hN0⟩ : ∃ N0 : Nat, nn = (N0 : Int) := ⟨nn.toNat, by omega⟩
                          subst hN0
                          have hll : (fromL key T1.all).length = L := by have := HL.out; rw [keysF_eq, List.length_map] at this; exact this
                          rw [Hid, walkN_pos, List.take_of_length_le (by rw [hll]; omega), keysF_eq]
                      by_cases hneg : nn < 0
                      · have j1 : ¬ (0 : Int) ≤ nn := by omega
                        clear hcut
                        go_wp2_with fail
                        refine (walk_every w7 HB7.out.pt.t HB7.out.pt.tw HB7.out.pt.a key _ HFIT.out).mono ?_
                        rintro _ w8 ⟨v9, rfl, hr9, hb9⟩
                        have HP9 : Hid (PRow w7.heap.size v9 (walkL (wntN nn) key 0 T1.all) w8) := hr9
                        have HV9 : Hid (View (wx.heap.size + 1) v7 ((keysF key T1.all).map Value.string) w8) := HV7.out.below hb9
                        have HB8 : Hid (Bo bt bp bd bm N1 r up V1 T1 bw m n1 w w8) := HB7.out.below hb9
                        have HX8 : Hid (Xr bx 3 nn key item w8) := HX7.out.below hb9
                        clear hr9 hb9 c2 c3
                        go_wp2_with fail
                        refine (pairsL_any HP9.out HV9.out HB8.out.doc HKS.out (fun p hp => walk_sub hp) (fun p hp => by have := (HB8.out.pt.oks p hp).2.1; omega) (apart_sorted HB8.out.pt.sorted) (by have := walkL_len (wnt := wntN nn) (from_ := key) T1.all 0; have := HB8.out.pt.len; omega)).mono ?_
                        rintro _ w9 ⟨rfl, hb9⟩
                        have HB9 : Hid (Bo bt bp bd bm N1 r up V1 T1 bw m n1 w w9) := HB8.out.below hb9
                        have HX9 : Hid (Xr bx 3 nn key item w9) := HX8.out.below hb9
                        clear hb9
                        go_wp2_with fail
                        go_meet
                        exact ⟨bw, m, N1, n1, V1, T1, rfl, by omega, by omega, HB9, HX9⟩
                      · have j1 : (0 : Int) ≤ nn := by omega
                        have j2 : ¬ nn < (L : Int) := by omega
                        clear hcut
                        go_wp2_with fail
                        refine (walk_every w7 HB7.out.pt.t HB7.out.pt.tw HB7.out.pt.a key _ HFIT.out).mono ?_
                        rintro _ w8 ⟨v9, rfl, hr9, hb9⟩
                        have HP9 : Hid (PRow w7.heap.size v9 (walkL (wntN nn) key 0 T1.all) w8) := hr9
                        have HV9 : Hid (View (wx.heap.size + 1) v7 ((keysF key T1.all).map Value.string) w8) := HV7.out.below hb9
                        have HB8 : Hid (Bo bt bp bd bm N1 r up V1 T1 bw m n1 w w8) := HB7.out.below hb9
                        have HX8 : Hid (Xr bx 3 nn key item w8) := HX7.out.below hb9
                        clear hr9 hb9 c2 c3
                        go_wp2_with fail
                        refine (pairsL_any HP9.out HV9.out HB8.out.doc HKS.out (fun p hp => walk_sub hp) (fun p hp => by have := (HB8.out.pt.oks p hp).2.1; omega) (apart_sorted HB8.out.pt.sorted) (by have := walkL_len (wnt := wntN nn) (from_ := key) T1.all 0; have := HB8.out.pt.len; omega)).mono ?_
                        rintro _ w9 ⟨rfl, hb9⟩
                        have HB9 : Hid (Bo bt bp bd bm N1 r up V1 T1 bw m n1 w w9) := HB8.out.below hb9
                        have HX9 : Hid (Xr bx 3 nn key item w9) := HX8.out.below hb9
                        clear hb9
                        go_wp2_with fail
                        go_meet
                        exact ⟨bw, m, N1, n1, V1, T1, rfl, by omega, by omega, HB9, HX9⟩
                by_cases q4 : q = 4
                · subst q4
                  as_aux_lemma =>
                    have c0 := HX1.out.q
                    have c1 := HX1.out.k
                    go_wp2_with fail
                    refine (keys_doc HB1.out.doc HB1.out.pt.sorted (by have := HB1.out.pt.len; omega) key).mono ?_
                    rintro _ w7 ⟨v7, rfl, hr7, hb7⟩
                    have HB7 : Hid (Bo bt bp bd bm N1 r up V1 T1 bw m n1 w w7) := HB1.out.below hb7
                    have HX7 : Hid (Xr bx 4 nn key item w7) := HX1.out.below hb7
                    have HV7 : Hid (View (wx.heap.size + 1) v7 ((keysF key T1.all).map Value.string) w7) := SRow.view hr7
                    have hl7 := HV7.out.len Tryz.underlying52
                    rw [List.length_map] at hl7
                    obtain ⟨L, hL⟩ : ∃ L, (keysF key T1.all).length = L := ⟨_, rfl⟩
                    have hL30 : L ≤ 30000 := by
                      have h5 := keysF_len key T1.all
                      have h6 := HB7.out.pt.len
                      omega
                    rw [hL] at hl7
                    have HL : Hid ((keysF key T1.all).length = L) := hL
                    clear hr7 hb7 hL c0 c1
                    go_wp2_with fail
                    go_loopw [24, 225] (fun kv i wy => ∃ j : Nat, j ≤ L ∧ i = .int .i64 (j : Nat) ∧ Hid (SRow w7.heap.size kv (((keysF key T1.all).take j).filter (pfx key 0)) wy) ∧ Hid (Below w7.heap.size w7 wy)) (fun _ i _ => L - (intOf i).toNat)
                    case atStart => exact ⟨0, Nat.zero_le _, rfl, ⟨rfl, .inl ⟨rfl, rfl⟩⟩, Below.refl _ _⟩
                    case round =>
                      obtain ⟨j, hj, rfl, HR, HBy⟩ := hrel
                      by_cases hjl : j < L
                      · have i5 : (j : Int) < (L : Int) := by omega
                        have hjk : j < (keysF key T1.all).length := by rw [HL.out]; exact hjl
                        obtain ⟨b9, o9, _, _, k3, k4⟩ := (HV7.out.below HBy.out).at (i := j) (by rw [List.length_map]; exact hjk)
                        have k5 := k4 Tryz.underlying52 elem137 size9 (j : Int) rfl
                        rw [List.getElem_map] at k3
                        have htk : ((keysF key T1.all).take (j + 1)).filter (pfx key 0) = ((keysF key T1.all).take j).filter (pfx key 0) ++ [(keysF key T1.all)[j]].filter (pfx key 0) := by
                          rw [List.take_succ_eq_append_getElem hjk, List.filter_append]
                        have hfl : (((keysF key T1.all).take j).filter (pfx key 0)).length ≤ j := Nat.le_trans (List.length_filter_le _ _) (by rw [List.length_take]; omega)
                        generalize (keysF key T1.all)[j] = y at k3 htk
                        obtain ⟨fs, hfs⟩ : ∃ fs, ((keysF key T1.all).take j).filter (pfx key 0) = fs := ⟨_, rfl⟩
                        rw [hfs] at HR htk hfl
                        have HTK : Hid (((keysF key T1.all).take (j + 1)).filter (pfx key 0) = fs ++ [y].filter (pfx key 0)) := htk
                        have c4 := (HX7.out.below HBy.out).k
                        have hwl := HBy.out.size
                        clear k4 htk hfs hjk
                        go_wp2_with fail
                        refine (hasPrefix_any y key _).mono ?_
                        rintro _ w9 ⟨rfl, h9⟩
                        obtain rfl := h9.symm
                        clear h9
                        cases hp : Lib.hasPrefix y.data.toList key.data.toList
                        · have HT2 : Hid (((keysF key T1.all).take (j + 1)).filter (pfx key 0) = fs) := by
                            have h5 : pfx key 0 y = false := hp
                            rw [Hid, HTK.out, List.filter_cons, h5]
                            simp
                          go_wp2_with fail
                          go_roundw
                          case rel => exact ⟨j + 1, by omega, by go_num, by rw [HT2.out]; exact HR.out, HBy⟩
                          case measure => simp [intOf]; omega
                        · have HT2 : Hid (((keysF key T1.all).take (j + 1)).filter (pfx key 0) = fs ++ [y]) := by
                            have h5 : pfx key 0 y = true := hp
                            rw [Hid, HTK.out, List.filter_cons, h5]
                            simp
                          obtain ⟨i0, hi, hz0, hz1, hz2⟩ := info9
                          have HO2 : Hid _ := HR.out.alloc (.cells #[.string y] 9)
                          have HBA : Hid _ := HBy.out.alloc HBy.out.size (.cells #[.string y] 9)
                          go_wp2_with (at_builtin; refine wpList_append_own _ rfl _ _ 52 rfl w7.heap.size 9 i0 (.string ⟨#[]⟩) 1 16 Tryz.underlying52 hi hz0 hz1 hz2 rfl (by decide) _ _ _ rfl HO2.out ⟨wr.heap.size, 0, none⟩ 1 1 [.string y] rfl rfl (news_str wr y 9) (by intro u hu; simp at hu; subst hu; rfl) (by simp only [maxLen]; omega) (by omega) (by simp; omega) ?_; intro v' w' hO hG hN)
                          have HR2 : Hid (SRow w7.heap.size v' (((keysF key T1.all).take (j + 1)).filter (pfx key 0)) w') := by
                            show World.ownsRow _ _ _ _ _ _ _
                            rw [HT2.out, List.map_append, List.length_append]
                            exact hO
                          have HB2 : Hid (Below w7.heap.size w7 w') := Below.grown HBA.out hG (by simp; omega) (fun k e => (World.ownsRow.lt HO2.out k e).1)
                          clear hO hG hN
                          go_roundw
                          case rel => exact ⟨j + 1, by omega, by go_num, HR2, HB2⟩
                          case measure => simp [intOf]; omega
                      · have i5 : ¬ (j : Int) < (L : Int) := by omega
                        obtain rfl : j = L := by omega
                        have HB8 : Hid (Bo bt bp bd bm N1 r up V1 T1 bw m n1 w wr) := HB7.out.below HBy.out
                        have HX8 : Hid (Xr bx 4 nn key item wr) := HX7.out.below HBy.out
                        have HV8 : Hid (View w7.heap.size u24 (((keysF key T1.all).filter (pfx key 0)).map Value.string) wr) := by
                          have h5 := SRow.view HR.out
                          rw [← HL.out, List.take_length] at h5
                          exact h5
                        have HKS : Hid ((keysF key T1.all).filter (pfx key 0) = (walkL (pfx key) key 0 T1.all).map (·.k)) := by
                          rw [Hid, walkP key T1.all 0 HB8.out.pt.sorted, keysF_eq, List.filter_map]
                          rfl
                        have c4 := HX8.out.k
                        clear HR HBy HB7 HX7
                        go_wp2_with fail
                        refine (prefix_any wr HB8.out.pt.t HB8.out.pt.tw HB8.out.pt.a key).mono ?_
                        rintro _ w8 ⟨v9, rfl, hr9, hb9⟩
                        have HP9 : Hid (PRow wr.heap.size v9 (walkL (pfx key) key 0 T1.all) w8) := hr9
                        have HV9 : Hid (View w7.heap.size u24 (((keysF key T1.all).filter (pfx key 0)).map Value.string) w8) := HV8.out.below hb9
                        have HB9 : Hid (Bo bt bp bd bm N1 r up V1 T1 bw m n1 w w8) := HB8.out.below hb9
                        have HX9 : Hid (Xr bx 4 nn key item w8) := HX8.out.below hb9
                        clear hr9 hb9 c4
                        go_wp2_with fail
                        refine (pairsL_any HP9.out HV9.out HB9.out.doc HKS.out (fun p hp => walk_sub hp) (fun p hp => by have := (HB9.out.pt.oks p hp).2.1; omega) (apart_sorted HB9.out.pt.sorted) (by have := walkL_len (wnt := pfx key) (from_ := key) T1.all 0; have := HB9.out.pt.len; omega)).mono ?_
                        rintro _ w9 ⟨rfl, hb9⟩
                        have HBZ : Hid (Bo bt bp bd bm N1 r up V1 T1 bw m n1 w w9) := HB9.out.below hb9
                        have HXZ : Hid (Xr bx 4 nn key item w9) := HX9.out.below hb9
                        clear hb9
                        go_wp2_with fail
                        go_meet
                        exact ⟨bw, m, N1, n1, V1, T1, rfl, by omega, by omega, HBZ, HXZ⟩
                ·
                  as_aux_lemma =>
                    have c0 := HX1.out.q
                    have e0 : (q == 0) = false := by simpa using q0
                    have e1 : (q == 1) = false := by simpa using q1
                    have e2 : (q == 2) = false := by simpa using q2
                    have e3 : (q == 3) = false := by simpa using q3
                    have e4 : (q == 4) = false := by simpa using q4
                    go_wp2_with fail
                    go_meet
                    exact ⟨bw, m, N1, n1, V1, T1, rfl, by omega, by omega, HB1, HX1⟩
              case rest =>
                as_aux_lemma =>
                  clear HB1 HX1
                  obtain ⟨bw2, m2, N2, n2, V2, T2, rfl, hN2, hn2, HB2, HX2⟩ := hcut
                  apply_assumption
                  obtain ⟨v, bb, hf, hlk⟩ := book_ok HB2.out.drew.doc.book key (by omega)
                  have C0 : Hid (wc.drew.cell? ⟨bw2, 0, none⟩ = some (.map (some m2)) ∧ wc.drew.cell? ⟨bx, 2, none⟩ = some (.string key) ∧ (Instr.lookup 47 (.map (some m2)) (.string key) true).run Tryz.prog wc.drew = .ok (.tuple #[.string v, .bool bb]) wc.drew) := ⟨HB2.out.drew.doc.cell, HX2.out.drew.k, hlk⟩
                  have HF : Hid (found T2.all key v bb) := hf
                  clear hlk hf
                  go_wp2_with fail
                  go_region_held3 (fun wy => wy.cell? ⟨bw2, 0, none⟩ = some (.map (some m2)) ∧ wy.cell? ⟨bx, 2, none⟩ = some (.string key) ∧ (Instr.lookup 47 (.map (some m2)) (.string key) true).run Tryz.prog wy = .ok (.tuple #[.string v, .bool bb]) wy) (exact C0.out) (fail)
                  have HB3 : Hid (Bo bt bp bd bm N2 r up V2 T2 bw2 m2 n2 w wc.drew) := HB2.out.drew
                  have c3 := HX2.out.drew.k
                  clear C0 HB2 HX2
                  go_wp2_with fail
                  refine (get_any HB3.out.pt.t HB3.out.pt.tw HB3.out.pt.a key).mono ?_
                  rintro e4 w4 ⟨hg4, hb4⟩
                  have HB4 : Hid (Bo bt bp bd bm N2 r up V2 T2 bw2 m2 n2 w w4) := HB3.out.below hb4
                  clear hb4 HB3 c3
                  rcases hg4 with ⟨x, hx, hxk, rfl⟩ | ⟨hno, rfl⟩
                  · have hxf : v = x.i ∧ bb = true := found_mem hx (apart_sorted HB4.out.pt.sorted) (by rw [hxk]; exact HF.out)
                    obtain ⟨rfl, rfl⟩ := hxf
                    generalize x.i = xi at *
                    clear hx hxk HF
                    go_wp2_with fail
                    refine (sum_any HB4.out.pt.t HB4.out.pt.tw).mono ?_
                    rintro _ w5 ⟨rfl, hb5⟩
                    rw [HB4.out.pt.a.rn]
                    have HB5 : Hid (Bo bt bp bd bm N2 r up V2 T2 bw2 m2 n2 w w5) := HB4.out.below hb5
                    clear hb5
                    go_wp2_with fail
                    refine (sum_doc HB5.out.doc (apart_sorted HB5.out.pt.sorted) (by have := HB5.out.pt.sum; omega)).mono ?_
                    rintro _ w6 ⟨rfl, hb6⟩
                    have HB6 : Hid (Bo bt bp bd bm N2 r up V2 T2 bw2 m2 n2 w w6) := HB5.out.below hb6
                    clear hb6 HB5 HB4
                    go_wp2_with fail
                    go_roundw
                    case rel => exact ⟨k + 1, bw2, m2, N2, n2, V2, T2, by omega, by go_num, rfl, by omega, by omega, HB6⟩
                    case measure => simp [intOf]; omega
                  · have hxf : v = ⟨#[]⟩ ∧ bb = false := by
                      rcases HF.out with ⟨_, y, hy, hyk, _⟩ | ⟨h1, h2, _⟩
                      · exact absurd hyk (hno y hy)
                      · exact ⟨h2, h1⟩
                    obtain ⟨rfl, rfl⟩ := hxf
                    clear hno HF
                    go_wp2_with fail
                    refine (sum_any HB4.out.pt.t HB4.out.pt.tw).mono ?_
                    rintro _ w5 ⟨rfl, hb5⟩
                    rw [HB4.out.pt.a.rn]
                    have HB5 : Hid (Bo bt bp bd bm N2 r up V2 T2 bw2 m2 n2 w w5) := HB4.out.below hb5
                    clear hb5
                    go_wp2_with fail
                    refine (sum_doc HB5.out.doc (apart_sorted HB5.out.pt.sorted) (by have := HB5.out.pt.sum; omega)).mono ?_
                    rintro _ w6 ⟨rfl, hb6⟩
                    have HB6 : Hid (Bo bt bp bd bm N2 r up V2 T2 bw2 m2 n2 w w6) := HB5.out.below hb6
                    clear hb6 HB5 HB4
                    go_wp2_with fail
                    refine (bare_bo HB6.out (.inr rfl : EK _ 7)).mono ?_
                    rintro _ w7 ⟨rfl, hb7⟩
                    have HB7 : Hid (Bo bt bp bd bm N2 r up V2 T2 bw2 m2 n2 w w7) := HB6.out.below hb7
                    clear hb7 HB6
                    go_wp2_with fail
                    go_roundw
                    case rel => exact ⟨k + 1, bw2, m2, N2, n2, V2, T2, by omega, by go_num, rfl, by omega, by omega, HB7⟩
                    case measure => simp [intOf]; omega
            ·
              as_aux_lemma =>
                clear HB
                by_cases hk1 : (100 : Int) < (key.size : Int)
                · go_wp2_with fail
                  go_roundw
                  case rel => exact ⟨k + 1, bw, m, N1, n1, V1, T1, by omega, by go_num, rfl, by omega, by omega, HB1⟩
                  case measure => simp [intOf]; omega
                · have hk2 : (150 : Int) < (item.size : Int) := by omega
                  go_wp2_with fail
                  go_roundw
                  case rel => exact ⟨k + 1, bw, m, N1, n1, V1, T1, by omega, by go_num, rfl, by omega, by omega, HB1⟩
                  case measure => simp [intOf]; omega
          · have i1 : ¬ (k : Int) < (l0 : Int) := by omega
            have HF : Hid (Below w.heap.size w wr) := HB.out.pt.b0
            go_wp2
            go_ret
            exact ⟨rfl, HF.out⟩
  · have HI : Hid (¬ (0 ≤ root ∧ root < 8)) := hroot
    have hor : root < 0 ∨ 8 ≤ root := by omega
    clear hroot
    go_wp2_with fail
    refine (at_no bp root HI.out w2).mono ?_
    rintro _ w9 ⟨rfl, h9⟩
    obtain rfl := h9.symm
    clear h9
    go_wp2_with fail
    refine (at_nil 0 w2).mono ?_
    rintro _ w9 ⟨rfl, h9⟩
    obtain rfl := h9.symm
    clear h9
    go_wp2_with fail
    refine (bare_any _ 7 w2 (HG0.out.below HB2.out HG0.out.lt) (.inr (.inr ⟨rfl, rfl⟩))).mono ?_
    rintro _ w4 ⟨rfl, hb4⟩
    have HB4 : Hid (Below w.heap.size w w4) := HB2.out.trans (hb4.mono HB2.out.size)
    clear hb4
    rcases hor with h0 | h8
    · go_wp2_with fail
      refine (bare_any _ 2 w4 (HG0.out.below HB4.out HG0.out.lt) (.inr (.inr ⟨rfl, rfl⟩))).mono ?_
      rintro _ w5 ⟨rfl, hb5⟩
      have HB5 : Hid (Below w.heap.size w w5) := HB4.out.trans (hb5.mono HB4.out.size)
      clear hb5
      go_wp2
      go_ret
      exact ⟨rfl, HB5.out⟩
    · have h0 : ¬ root < 0 := by omega
      go_wp2_with fail
      refine (bare_any _ 2 w4 (HG0.out.below HB4.out HG0.out.lt) (.inr (.inr ⟨rfl, rfl⟩))).mono ?_
      rintro _ w5 ⟨rfl, hb5⟩
      have HB5 : Hid (Below w.heap.size w w5) := HB4.out.trans (hb5.mono HB4.out.size)
      clear hb5
      go_wp2
      go_ret
      exact ⟨rfl, HB5.out⟩
end Go.Proofs.YtndoigopjlkimaaGreatDoor
