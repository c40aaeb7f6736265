/- Texts of the proof of PagerBacks: Cal, Cbk0, Cbk. -/
import Derived.Test.YtjcddeoihjppaaaR04
import Derived.Deep.DeepCutAuto
import Derived.Deep.CutBlock
import Derived.BigQuiet
namespace Go.Proofs.Ytjcddeoihjppaaa
open Go.RowKit Go.Maps

theorem one_byteI (x : Int) (W : World) (B : Nat) (h : W.cell? ⟨B, 0, none⟩ = some (.int .u8 (IntKind.u8.wrap x))) :
    (convert 54 9 (.slice (some ⟨B, 0, none⟩) 1 1)).run Try.prog W = .ok (.string ⟨#[byteI x]⟩) W := one_byte x W B h
theorem wrap_u8 (x : Int) : IntKind.u8.wrap x = x % 256 := by
  simp [IntKind.wrap, IntKind.signed, IntKind.bits]
theorem one_byteM (x : Int) (W : World) (B : Nat) (h : W.cell? ⟨B, 0, none⟩ = some (.int .u8 (x % 256))) :
    (convert 54 9 (.slice (some ⟨B, 0, none⟩) 1 1)).run Try.prog W = .ok (.string ⟨#[byteI x]⟩) W := one_byte x W B (by rw [h, wrap_u8])
theorem one_byteN (x : Int) (h0 : 0 ≤ x) (h1 : x < 256) (W : World) (B : Nat) (h : W.cell? ⟨B, 0, none⟩ = some (.int .u8 x)) :
    (convert 54 9 (.slice (some ⟨B, 0, none⟩) 1 1)).run Try.prog W = .ok (.string ⟨#[byteI x]⟩) W := one_byteM x W B (by rw [h, Int.emod_eq_of_lt h0 h1])
theorem byteI_toNat (x : Int) : IntKind.u8.wrap x = ((byteI x).toNat : Int) := by
  have h1 : (x % 256).toNat < 256 := by omega
  unfold byteI
  rw [UInt8.toNat_ofNat']
  simp [IntKind.wrap, IntKind.signed, IntKind.bits]
  omega
theorem four_bytes (x0 x1 x2 x3 : Int) (W : World) (B : Nat) (h0 : W.cell? ⟨B, 0, none⟩ = some (.int .u8 (IntKind.u8.wrap x0))) (h1 : W.cell? ⟨B, 1, none⟩ = some (.int .u8 (IntKind.u8.wrap x1)))
    (h2 : W.cell? ⟨B, 2, none⟩ = some (.int .u8 (IntKind.u8.wrap x2))) (h3 : W.cell? ⟨B, 3, none⟩ = some (.int .u8 (IntKind.u8.wrap x3))) :
    (convert 54 9 (.slice (some ⟨B, 0, none⟩) 4 4)).run Try.prog W = .ok (.string ⟨#[byteI x0, byteI x1, byteI x2, byteI x3]⟩) W := by
  have := run_convert_bytes_back (P := Try.prog) W 54 9 5 ⟨B, 0, none⟩ 4 [byteI x0, byteI x1, byteI x2, byteI x3] Try.underlying54 Try.underlying5 Try.underlying9 (fun j hj => by
    have : j < 4 := by simpa using hj
    have e : j = 0 ∨ j = 1 ∨ j = 2 ∨ j = 3 := by omega
    rcases e with rfl | rfl | rfl | rfl
    · rw [Addr.add_zero', h0, byteI_toNat]; rfl
    · rw [show (⟨B, 0, none⟩ : Addr).add 1 = ⟨B, 1, none⟩ from rfl, h1, byteI_toNat]; rfl
    · rw [show (⟨B, 0, none⟩ : Addr).add 2 = ⟨B, 2, none⟩ from rfl, h2, byteI_toNat]; rfl
    · rw [show (⟨B, 0, none⟩ : Addr).add 3 = ⟨B, 3, none⟩ from rfl, h3, byteI_toNat]; rfl)
  exact this

theorem four_bytesM (x0 x1 x2 x3 : Int) (W : World) (B : Nat) (h0 : W.cell? ⟨B, 0, none⟩ = some (.int .u8 (x0 % 256))) (h1 : W.cell? ⟨B, 1, none⟩ = some (.int .u8 (x1 % 256)))
    (h2 : W.cell? ⟨B, 2, none⟩ = some (.int .u8 (x2 % 256))) (h3 : W.cell? ⟨B, 3, none⟩ = some (.int .u8 (x3 % 256))) :
    (convert 54 9 (.slice (some ⟨B, 0, none⟩) 4 4)).run Try.prog W = .ok (.string ⟨#[byteI x0, byteI x1, byteI x2, byteI x3]⟩) W :=
  four_bytes x0 x1 x2 x3 W B (by rw [h0, wrap_u8]) (by rw [h1, wrap_u8]) (by rw [h2, wrap_u8]) (by rw [h3, wrap_u8])

section
variable {bp bd bm n : Nat} {p : Pg} {s : St} {w : World}
theorem view_size (hD : Prg bd s w) (hp : p.Ok) : ∀ k t, p.view s.pg k = some t → t.size = 1024 := fun k t h => by
  unfold Pg.view at h
  split at h
  · rename_i e
    obtain rfl := Option.some.inj h
    unfold Pg.text
    cases hc : p.chg k with
    | some t => exact (hp.chg k t hc).2.2
    | none => exact page_of_sizes hD _ (placeF_lt k e.1 _)
  · cases h

set_option maxRecDepth 100000 in
set_option maxHeartbeats 4000000 in
theorem all_any (h : PagerIs bp bd bm n p w) (hD : Prg bd s w) (hp : p.Ok) (hd : p.down = false) :
    Calls Try.prog 10 #[.pointer (some ⟨bp, 0, none⟩)] w fun e w' => e = .returned (.string (p.all s.pg)) ∧ Below w.heap.size w w' := by
  have hvs := view_size hD hp
  have hps := pagesT_size hvs
  have hrs := rootsT_size hvs p.rp p.rn
  obtain ⟨V, hV⟩ : ∃ V, p.view s.pg = V := ⟨_, rfl⟩
  have HP : Hid (∀ wx, Below w.heap.size w wx → PagerIs bp bd bm n p wx ∧ Prg bd s wx) := fun wx hb => ⟨h.below hb, Prg.below hD hb⟩
  have hcount : countU (fun k => (V k).isSome) 2000 = countU p.used 2000 := by rw [← hV]; exact p.count s.pg
  have hyes : ∀ k, k < 2000 → p.used k = true → V k = some (p.text s.pg k) := fun k hk hu => by rw [← hV]; exact Pg.view_yes hk hu
  have hno : ∀ k, p.used k = false → V k = none := fun k hu => by rw [← hV]; exact Pg.view_no hu
  have hvt : ∀ k t, V k = some t → t.size = 1024 := by rw [← hV]; exact hvs
  rw [hV] at hps hrs
  have hall : Hid (p.all s.pg = rootsT V p.rp p.rn 8 ++ ⟨#[byteI ((1 + countU p.used 2000 : Nat) : Int)]⟩) := by
    show allT _ _ _ = _
    unfold allT
    rw [hV, hcount]
  have h01 : pagesT V 1 = ⟨#[]⟩ := pagesT_none (hno 0 hp.zero)
  rw [hall.out]
  have HYES : Hid _ := hyes
  have HNO : Hid _ := hno
  have HVT : Hid _ := hvt
  have HPS : Hid _ := hps
  have HRS : Hid _ := hrs
  clear hV hvs hcount h hD hyes hno hvt hps hrs hall
  go_enter Try.func10, Try.ntmps10
  go_wp2_with fail
  go_loopw [3, 4] (fun t i wr => ∃ k : Nat, 1 ≤ k ∧ k ≤ 60 ∧ i = .int .i64 k ∧ t = .string (pagesT V k) ∧ Hid (Below w.heap.size w wr)) (fun _ i _ => 60 - (intOf i).toNat)
  case atStart => exact ⟨1, by omega, by omega, rfl, by rw [h01], Below.refl _ _⟩
  case round =>
    obtain ⟨k, hk1, hk, rfl, rfl, HB⟩ := hrel
    by_cases hlt : k < 60
    · have h1 : (k : Int) < 60 := by omega
      cases hu : p.used k
      · go_wp2_with fail
        refine (readp_no (HP.out _ HB.out).1.cells k (Pg.code_no (fun e => by rw [Int.toNat_natCast, hu] at e; cases e.2.2))).mono ?_
        rintro _ wa ⟨rfl, hwa⟩
        subst wa
        go_wp2_with fail
        go_roundw
        case rel => exact ⟨k + 1, by omega, by omega, by go_num, by rw [pagesT_none (HNO.out k hu)], HB⟩
        case measure => simp [intOf]; omega
      · have hv := HYES.out k (by omega) hu
        have ht := HVT.out k _ hv
        have hT : pagesT V (k + 1) = _ := pagesT_some hv
        have hs1 := HPS.out k
        have hs2 := HPS.out (k + 1)
        clear hv
        go_wp2_with fail
        refine (readp_yes (HP.out _ HB.out).1 (HP.out _ HB.out).2 hd k (by omega) hu).mono ?_
        rintro _ wa ⟨rfl, hba⟩
        have HB : Hid (Below w.heap.size w wa) := HB.out.trans (hba.mono HB.out.size)
        clear hba
        obtain ⟨t, hte⟩ : ∃ t, p.text s.pg k = t := ⟨_, rfl⟩
        rw [hte] at hT ht
        rw [hte]
        clear hte
        have hcA := one_byteN (k : Int) (by omega) (by omega)
        obtain ⟨T, hTe⟩ : ∃ T, pagesT V k = T := ⟨_, rfl⟩
        rw [hTe] at hT hs1
        rw [hTe]
        have hs3 : T.size ≤ 61500 := by omega
        have hs4 : (⟨#[byteI (k : Int)]⟩ : ByteArray).size = 1 := rfl
        go_wp2_with fail
        go_roundw
        case rel => exact ⟨k + 1, by omega, by omega, by go_num, by rw [hT], (show Below _ _ _ from HB.out.alloc HB.out.size _)⟩
        case measure => simp [intOf]; omega
    · have h1 : ¬ (k : Int) < 60 := by omega
      obtain rfl : k = 60 := by omega
      go_wp2_with fail
      go_loopw [3, 7] (fun t i wr => ∃ k : Nat, k ≤ 8 ∧ i = .int .i64 k ∧ t = .string (rootsT V p.rp p.rn k) ∧ Hid (Below w.heap.size w wr)) (fun _ i _ => 8 - (intOf i).toNat)
      case atStart => exact ⟨0, by omega, rfl, rfl, HB⟩
      case round =>
        clear HB
        obtain ⟨k, hk, rfl, rfl, HB⟩ := hrel
        by_cases hlt : k < 8
        · have h2 : (k : Int) < 8 := by omega
          have hT : rootsT V p.rp p.rn (k + 1) = _ := rfl
          have hs1 := HRS.out k
          go_wp2_with fail
          refine (root_yes (HP.out _ HB.out).1.cells k hlt).mono ?_
          rintro _ wa ⟨rfl, hba⟩
          have HB : Hid (Below w.heap.size w wa) := HB.out.trans (hba.mono HB.out.size)
          clear hba
          obtain ⟨a, ha⟩ : ∃ a, p.rp k = a := ⟨_, rfl⟩
          obtain ⟨b, hb⟩ : ∃ b, p.rn k = b := ⟨_, rfl⟩
          obtain ⟨T, hTe⟩ : ∃ T, rootsT V p.rp p.rn k = T := ⟨_, rfl⟩
          have hT2 : rootsT V p.rp p.rn (k + 1) = T ++ ⟨#[byteI (a / 256), byteI a, byteI (b / 256), byteI b]⟩ := by rw [rootsT, hTe, ha, hb]
          rw [hTe] at hs1
          rw [ha, hb, hTe]
          clear ha hb hTe hT
          have hcA := four_bytesM (a / 256) a (b / 256) b
          have hs3 : T.size ≤ 62000 := by omega
          have hs4 : (⟨#[byteI (a / 256), byteI a, byteI (b / 256), byteI b]⟩ : ByteArray).size = 4 := rfl
          go_wp2_with fail
          go_roundw
          case rel => exact ⟨k + 1, by omega, by go_num, by rw [hT2], (show Below _ _ _ from HB.out.alloc HB.out.size _)⟩
          case measure => simp [intOf]; omega
        · have h2 : ¬ (k : Int) < 8 := by omega
          obtain rfl : k = 8 := by omega
          have hs1 := HRS.out 8
          have hcA := one_byteM ((1 + countU p.used 2000 : Nat) : Int)
          obtain ⟨T, hTe⟩ : ∃ T, rootsT V p.rp p.rn 8 = T := ⟨_, rfl⟩
          rw [hTe] at hs1
          rw [hTe]
          have HTE : Hid _ := hTe
          clear hTe
          have hcast : Hid (((1 + countU p.used 2000 : Nat) : Int) = 1 + (countU p.used 2000 : Int)) := Int.natCast_add _ _
          have hs3 : T.size ≤ 62000 := by omega
          have hs4 : (⟨#[byteI ((1 + countU p.used 2000 : Nat) : Int)]⟩ : ByteArray).size = 1 := rfl
          go_wp2_with fail
          refine (used_any (HP.out _ HB.out).1.cells).mono ?_
          rintro _ wa ⟨rfl, hwa⟩
          subst wa
          go_wp2
          go_ret
          exact ⟨by rw [HTE.out, hcast.out]; rfl, HB.out.alloc HB.out.size _⟩
end
end Go.Proofs.Ytjcddeoihjppaaa
namespace Go.Proofs.Ytjcddeoihjppaaa
open Go.RowKit Go.Maps

/-- what was noted: its map, and the cells of the variable that holds it -/
structure Nts (q : Pg) (mk bv Nq : Nat) (L : List Value) (w : World) : Prop where
  own : Sheets mk Nq q.chg w
  row : w.rangeAt bv 0 L
  lt : bv < w.heap.size
theorem Nts.block {q : Pg} {mk bv Nq : Nat} {L : List Value} {w w' : World} (h : Nts q mk bv Nq L w) (hs : w.heap.size ≤ w'.heap.size) (h1 : w'.heap[mk]? = w.heap[mk]?) (h2 : w'.heap[bv]? = w.heap[bv]?) : Nts q mk bv Nq L w' :=
  ⟨h.own.block h1, fun j v hj => by have := h.row j v hj; simp only [World.cell?] at this ⊢; rw [h2]; exact this, by have := h.lt; omega⟩
theorem Nts.below {q : Pg} {mk bv Nq : Nat} {L : List Value} {w w' : World} (h : Nts q mk bv Nq L w) (hb : Below w.heap.size w w') : Nts q mk bv Nq L w' :=
  h.block hb.size (hb.block _ h.own.lt) (hb.block _ h.lt)
theorem there_new (w : World) (Z : Array Value) (t n : Nat) (hn : n ≤ Z.size) : (w.alloc (.cells Z t)).there w.heap.size 0 n := fun j hj => by
  have hw : (w.alloc (.cells Z t)).heap[w.heap.size]? = some (.cells Z t) := heap_alloc_new w _
  refine ⟨?_, by simp only [World.frozen?, hw]; simp⟩
  rw [Nat.zero_add, cell_of_row _ _ _ _ _ _ hw]
  simp
  omega
section
variable {bp bd bm K N : Nat} {s : St} {c : Int} {w0 w1 w wx : World} {b1 : Nat} {p q : Pg}
theorem all_dst (h : Dst bp bd s c K N w0 w1 b1 p bm w) :
    Calls Try.prog 10 #[.pointer (some ⟨bp, 0, none⟩)] w fun e w' => e = .returned (.string (p.all s.pg)) ∧ Dst bp bd s c K N w0 w1 b1 p bm w' ∧ Below w.heap.size w w' := by
  refine (all_any h.pgr h.prg h.ok h.down).mono ?_
  rintro _ w1 ⟨rfl, hb⟩
  exact ⟨rfl, h.step hb, hb⟩
/-- what is noted stays, whatever is done -/
theorem Nts.done {mk bv Nq : Nat} {L : List Value} (h : Nts q mk bv Nq L w1) (hd : Dst bp bd s c K N w0 w1 b1 p bm w) (n1 : mk ≠ bp) (n2 : mk ≠ b1) (n3 : bv ≠ bp) (n4 : bv ≠ b1) : Nts q mk bv Nq L w :=
  h.block hd.size (hd.old mk h.own.lt n1 n2) (hd.old bv h.lt n3 n4)
/-- back -/
theorem Dst.back (h : Dst bp bd s c K N w0 w1 b1 p bm w) {bm' N' : Nat} (hq : q.Ok) (hqf : ∀ j, K < j → j < 2000 → q.used j = false) (hb : w.heap.size ≤ bm') (hP : PagerIs bp bd bm' N' (p.back q) wx) (ho : Only (fun b => b = bp) w wx) (hN : N' ≤ N) : Dst bp bd s c K N w0 w1 b1 (p.back q) bm' wx :=
  { lp := h.lp, ld := h.ld, lm := Nat.le_trans h.below.size hb, pgr := hP.mono hN, prg := Prg.only h.prg ho (fun e => h.pgr.nd h.prg e.symm), ok := hq.back, lies := ⟨h.lies.upper, h.lies.turn⟩, down := h.down, com := h.com
    few := hqf
    lfew := h.lfew
    below := h.bel ho (fun i e => by subst e; exact h.lp)
    new := .inr (Nat.le_trans h.size hb)
    size := (h.keep ho (fun _ e => .inl e)).1
    old := (h.keep ho (fun _ e => .inl e)).2 }
theorem view_back_all (hu : ∀ k, k < 2000 → p.upper k = q.upper k) (pg : Nat → ByteArray) : (p.back q).all pg = q.all pg := by
  refine allT_congr (fun k => ?_) (fun _ _ => rfl) (fun _ _ => rfl)
  refine Pg.view_congr (p := p.back q) (q := q) (fun _ _ => rfl) (fun j hj _ => ?_) k
  show ((q.chg j).getD (pg (placeF j (p.upper j)))) = (q.chg j).getD (pg (placeF j (q.upper j)))
  rw [hu j hj]
theorem Dst.upper_eq {p' : Pg} {K' N' : Nat} {w2 w3 : World} {b2 bm2 : Nat} (h : Dst bp bd s c K N w0 w1 b1 p bm w) (h' : Dst bp bd s c K' N' w0 w2 b2 p' bm2 w3) : ∀ k, k < 2000 → p.upper k = p'.upper k := fun k hk => by
  rw [h.lies.upper k hk, h'.lies.upper k hk]
/-- Back, and all of it is as it was noted -/
theorem back_dst {mk bv Nq Kq : Nat} {L : List Value} (h : Dst bp bd s c K N w0 w1 b1 p bm w) (hN : Nts q mk bv Nq L w) (hL : markL q.used q.rp q.rn mk c = L) (hq : q.Ok) (hqf : ∀ j, Kq < j → j < 2000 → q.used j = false) (hK : Kq ≤ K) (hNq : Nq ≤ N) (hmb : mk ≠ bp) :
    Calls Try.prog 12 #[.pointer (some ⟨bp, 0, none⟩), .agg L.toArray] w fun e w' => e = .returned .nilIface ∧ ∃ bm', Dst bp bd s c K N w0 w1 b1 (p.back q) bm' w' := by
  have hb := back_yes h.pgr h.down q mk Nq hN.own hmb
  rw [h.com, hL] at hb
  refine hb.mono ?_
  rintro _ w2 ⟨rfl, ⟨bm', h1, h2⟩, h3, h4⟩
  exact ⟨rfl, bm', h.back hq (fun j hj => hqf j (by omega)) h1 h2 h4 hNq⟩
theorem loaded_all_c (pg : Nat → ByteArray) (c c' : Int) (d d' : Bool) : (loaded pg c d).all pg = (loaded pg c' d').all pg := rfl
end
end Go.Proofs.Ytjcddeoihjppaaa
namespace Go.Proofs.Ytjcddeoihjppaaa
open Go.RowKit Go.Maps

set_option maxRecDepth 100000 in
set_option maxHeartbeats 40000000 in
theorem backs_walk (a0 : Option Addr) (l0 c0 : Nat) (xs : List Ac) (a1 : Option Addr) (l1 c1 : Nat) (ys : List Ac) (a2 : Option Addr) (l2 c2 : Nat) (zs : List Ac) (w : World) (hr0 : Row3 w a0 l0 xs) (hr1 : Row3 w a1 l1 ys) (hr2 : Row3 w a2 l2 zs) :
    Calls Try.prog 3 #[.slice a0 l0 c0, .slice a1 l1 c1, .slice a2 l2 c2] w fun e w' => e = .returned (.bool true) ∧ Below w.heap.size w w' := by
  have HR0 : Hid (Row3 w a0 l0 xs) := hr0
  have HR1 : Hid (Row3 w a1 l1 ys) := hr1
  have HR2 : Hid (Row3 w a2 l2 zs) := hr2
  obtain ⟨e0, hm0, _⟩ := hr0
  obtain ⟨e1, hm1, _⟩ := hr1
  obtain ⟨e2, hm2, _⟩ := hr2
  unfold maxLen at hm0 hm1 hm2
  by_cases h30 : 30 < l0
  · have hd : (30 : Int) < (l0 : Int) := by omega
    go_enter Try.func3, Try.ntmps3
    go_wp2
    go_ret
    exact ⟨rfl, Below.refl _ _⟩
  by_cases h31 : 30 < l1
  · have hd : (30 : Int) < (l1 : Int) := by omega
    have hd2 : ¬ (30 : Int) < (l0 : Int) := by omega
    go_enter Try.func3, Try.ntmps3
    go_wp2
    go_ret
    exact ⟨rfl, Below.refl _ _⟩
  by_cases h32 : 30 < l2
  · have hd : (30 : Int) < (l2 : Int) := by omega
    have hd2 : ¬ (30 : Int) < (l0 : Int) := by omega
    have hd3 : ¬ (30 : Int) < (l1 : Int) := by omega
    go_enter Try.func3, Try.ntmps3
    go_wp2
    go_ret
    exact ⟨rfl, Below.refl _ _⟩
  have hd : ¬ (30 : Int) < (l0 : Int) := by omega
  have hd2 : ¬ (30 : Int) < (l1 : Int) := by omega
  have hd3 : ¬ (30 : Int) < (l2 : Int) := by omega
  have L0 : Hid (xs.length ≤ 30) := by show _ ≤ _; omega
  have L1 : Hid (ys.length ≤ 30) := by show _ ≤ _; omega
  have L2 : Hid (zs.length ≤ 30) := by show _ ≤ _; omega
  have hz := Try.zeroValue32
  clear e0 e1 e2 hm0 hm1 hm2 h30 h31 h32
  go_enter Try.func3, Try.ntmps3
  go_wp2_with fail
  refine (paged_any w).mono ?_
  rintro _ w1 ⟨rfl, hb1⟩
  have hs1 := hb1.size
  have HD1 : Hid (Prg w1.heap.size st1 (w1.alloc (.cells Try.zeroCells32 32))) := disk_new w1
  have HB1 : Hid (Below w.heap.size w (w1.alloc (.cells Try.zeroCells32 32))) := hb1.alloc hs1 _
  clear hb1
  go_wp2_with fail
  refine (open_dst (K := 0) HD1.out hs1 HB1.out st1_good (fun j _ _ => st1_used 1 false j)).mono ?_
  rintro _ w2 ⟨bp, bm, rfl, hE2⟩
  obtain ⟨bd, hbd⟩ : ∃ n, w1.heap.size = n := ⟨_, rfl⟩
  rw [hbd] at hE2
  have HE2 : Hid _ := hE2
  try rw [hbd]
  clear hE2 HD1 HB1 hs1 hz hbd
  go_wp2_with fail
  refine (does_any HE2.out (by omega) (by omega) a0 l0 c0 xs HR0.out L0.out).mono ?_
  rintro _ w3 ⟨rfl, p1, bm1, hE3⟩
  have HE3 : Hid _ := hE3
  clear hE3 HE2
  go_wp2_with fail
  refine (commit_on HE3.out st1_ok rfl (by omega)).mono ?_
  rintro _ w4 ⟨rfl, s1, hE4, ho4, he4, hDn4⟩
  have HE4 : Hid _ := hE4
  have HOLD : Hid (∀ c d, (loaded s1.pg c d).all s1.pg = p1.done.all s1.pg) := fun c d => (hDn4.loaded_all HE3.out.ok c d).trans (hDn4.all HE3.out.ok).symm
  clear hE4 HE3 ho4 he4 hDn4
  go_wp2_with fail
  refine (all_dst HE4.out).mono ?_
  rintro _ w5 ⟨rfl, hE5, _⟩
  have HE5 : Hid _ := hE5
  clear hE5 HE4
  obtain ⟨old, hold⟩ : ∃ old, p1.done.all s1.pg = old := ⟨_, rfl⟩
  rw [hold] at HOLD
  rw [hold]
  clear hold
  go_wp2_with fail
  refine (does_any HE5.out (by have := L0.out; omega) (by have := L0.out; omega) a1 l1 c1 ys HR1.out L1.out).mono ?_
  rintro _ w6 ⟨rfl, p2, bm2, hE6⟩
  have HE6 : Hid _ := hE6
  clear hE6 HE5
  go_wp2_with fail
  refine (all_dst HE6.out).mono ?_
  rintro _ w7 ⟨rfl, hE7, _⟩
  have HE7 : Hid _ := hE7
  clear hE7 HE6
  obtain ⟨mid, hmid⟩ : ∃ mid, p2.all s1.pg = mid := ⟨_, rfl⟩
  rw [hmid]
  have HMID : Hid (p2.all s1.pg = mid) := hmid
  clear hmid
  go_wp2_with fail
  refine (mark_any HE7.out.pgr).mono ?_
  rintro _ w8 ⟨mk, rfl, hmk, hS8, hb8⟩
  have HE8 : Hid _ := (HE7.out.step hb8).rebase
  have lb1 := HE7.out.pgr.lt
  have lb2 := HE7.out.pgr.mlt
  have lb3 := hS8.lt
  have lb4 := hb8.size
  obtain ⟨M, hM⟩ : ∃ M, markL p2.used p2.rp p2.rn mk p2.commits = M := ⟨_, rfl⟩
  have lM : M.length = 2018 := by rw [← hM, markL_len]
  have sM : (Try.prog.info? 44).map (·.size) = some M.length := by rw [lM]; exact size48
  have sM2 : (Try.prog.info? 44).map (·.size) = some M.toArray.size := by rw [List.size_toArray]; exact sM
  have oM := all_oneCell_toArray (show ∀ v ∈ M, v.oneCell' = true by rw [← hM]; exact markL_one _ _ _ _ _)
  rw [hM]
  have HML : Hid (markL p2.used p2.rp p2.rn mk 2 = M) := by
    show markL p2.used p2.rp p2.rn mk 2 = M
    rw [← hM, HE8.out.com]; rfl
  have HT : Hid ((w8.alloc (.cells Try.zeroCells44 44)).there w8.heap.size 0 M.toArray.size) := there_new w8 _ 44 _ (by rw [List.size_toArray, lM, zsize48]; omega)
  have hb9 : Below w8.heap.size w8 ((w8.alloc (.cells Try.zeroCells44 44)).setCells w8.heap.size 0 M) := Below.setCells' (Nat.le_refl _) _ _ _ ((Below.refl _ w8).alloc (Nat.le_refl _) _)
  have HN9 : Hid (Nts p2 mk w8.heap.size _ M ((w8.alloc (.cells Try.zeroCells44 44)).setCells w8.heap.size 0 M)) := ⟨hS8.block (hb9.block _ lb3), World.rangeAt_setCells_same _ _ _ _ (by have := HT.out; rw [List.size_toArray] at this; exact this), by rw [size_setC, World.size_alloc]; omega⟩
  have HE9 : Hid _ := (HE8.out.step hb9).rebase
  have hz := Try.zeroValue44
  have hne : mk ≠ bp ∧ mk ≠ bm2 ∧ w8.heap.size ≠ bp ∧ w8.heap.size ≠ bm2 := by omega
  have HNE : Hid _ := hne
  clear hS8 hb8 hb9 lb1 lb2 lb3 lb4 hM lM hne HE7 HE8 hmk
  go_wp2_with (refine wpList_store_mid rfl 44 _ _ rfl w8.heap.size 0 M.toArray rfl rfl HT.out sM2 oM ?_)
  obtain ⟨w9, hw9⟩ : ∃ w9, (w8.alloc (.cells Try.zeroCells44 44)).setCells w8.heap.size 0 M = w9 := ⟨_, rfl⟩
  obtain ⟨bv, hbv⟩ : ∃ bv, w8.heap.size = bv := ⟨_, rfl⟩
  rw [hw9] at HN9 HE9
  rw [hbv] at HN9 HNE
  try rw [hw9]
  try rw [hbv]
  clear hw9 hbv HT hz sM2 oM
  refine (does_any HE9.out (by have := L0.out; have := L1.out; omega) (by have := L0.out; have := L1.out; omega) a2 l2 c2 zs HR2.out L2.out).mono ?_
  rintro _ w10 ⟨rfl, p3, bm3, hE10⟩
  have HE10 : Hid _ := hE10
  have HN10 : Hid _ := HN9.out.done hE10 HNE.out.1 HNE.out.2.1 HNE.out.2.2.1 HNE.out.2.2.2
  clear hE10
  go_wp2_with (refine wpList_load_mid rfl 44 _ rfl bv 0 rfl M _ HN10.out.row Try.underlying44 rfl sM ?_)
  refine (back_dst HE10.out HN10.out HML.out HE9.out.ok HE9.out.few (by omega) (by omega) HNE.out.1).mono ?_
  rintro _ w11 ⟨rfl, bm4, hE11⟩
  have HE11 : Hid _ := hE11
  have HA11 : Hid ((p3.back p2).all s1.pg = mid) := (view_back_all (HE10.out.upper_eq HE9.out) _).trans HMID.out
  clear hE11 HN10
  go_wp2_with fail
  refine (all_dst HE11.out).mono ?_
  rintro _ w12 ⟨rfl, hE12, _⟩
  have HE12 : Hid _ := hE12
  clear hE12 HE11 HE10
  rw [HA11.out]
  clear HA11
  go_wp2_with fail
  refine (does_any HE12.out (by have := L0.out; have := L1.out; have := L2.out; omega) (by have := L0.out; have := L1.out; have := L2.out; omega) a0 l0 c0 xs HR0.out L0.out).mono ?_
  rintro _ w13 ⟨rfl, p4, bm5, hE13⟩
  have HE13 : Hid _ := hE13
  have HN13 : Hid _ := HN9.out.done hE13 HNE.out.1 HNE.out.2.1 HNE.out.2.2.1 HNE.out.2.2.2
  clear hE13 HE12
  go_wp2_with (refine wpList_load_mid rfl 44 _ rfl bv 0 rfl M _ HN13.out.row Try.underlying44 rfl sM ?_)
  refine (back_dst HE13.out HN13.out HML.out HE9.out.ok HE9.out.few (by omega) (by omega) HNE.out.1).mono ?_
  rintro _ w14 ⟨rfl, bm6, hE14⟩
  have HE14 : Hid _ := hE14
  have HA14 : Hid ((p4.back p2).all s1.pg = mid) := (view_back_all (HE13.out.upper_eq HE9.out) _).trans HMID.out
  clear hE14 HN13
  go_wp2_with fail
  refine (all_dst HE14.out).mono ?_
  rintro _ w15 ⟨rfl, hE15, _⟩
  have HE15 : Hid _ := hE15
  clear hE15 HE14 HE13
  rw [HA14.out]
  clear HA14
  go_wp2_with fail
  refine (rollback_any HE15.out.pgr HE15.out.prg HE15.out.down).mono ?_
  rintro _ w16 ⟨rfl, ⟨bm7, hl16, hP16⟩, hD16, hO16⟩
  have HE16 : Hid _ := HE15.out.rollback hl16 hP16 hD16 hO16
  clear hl16 hP16 hD16 hO16 HE15
  go_wp2_with fail
  refine (all_dst HE16.out).mono ?_
  rintro _ w17 ⟨rfl, hE17, _⟩
  have HE17 : Hid _ := hE17
  clear hE17 HE16
  rw [HOLD.out]
  go_wp2_with fail
  refine (rollback_any HE17.out.pgr HE17.out.prg HE17.out.down).mono ?_
  rintro _ w18 ⟨rfl, ⟨bm8, hl18, hP18⟩, hD18, hO18⟩
  have HE18 : Hid _ := HE17.out.rollback hl18 hP18 hD18 hO18
  clear hl18 hP18 hD18 hO18 HE17
  go_wp2_with fail
  refine (all_dst HE18.out).mono ?_
  rintro _ w19 ⟨rfl, hE19, _⟩
  have HE19 : Hid _ := hE19
  clear hE19 HE18
  rw [HOLD.out]
  go_wp2
  go_ret
  exact ⟨rfl, HE19.out.below⟩
end Go.Proofs.Ytjcddeoihjppaaa
