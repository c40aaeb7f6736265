/- Texts of the proof of FinderEven: PRead3, PBackM, Fma, Flk, Fmy, Fpl, Fbg. -/
import Derived.Test.YtdphlkljenbkcaaGreatDoorF17
import Derived.Sort.OwnSorted
namespace Go.Proofs.YtdphlkljenbkcaaGreatDoor
open Go.RowKit

def rdF : Nat → Pl → List UInt8 → Option (List Pl)
  | _, _, [] => some []
  | 0, _, _ :: _ => none
  | f + 1, p, c :: l => match rpL (c :: l) p with
    | none => none
    | some (q, n) => (rdF f q ((c :: l).drop n)).map (q :: ·)
/-- the places that bytes are -/
def readL (l : List UInt8) : Option (List Pl) := rdF l.length ⟨0, 0⟩ l

theorem rpL_pos {l : List UInt8} {p q : Pl} {n : Nat} (h : rpL l p = some (q, n)) : 1 ≤ n ∧ n ≤ l.length ∧ follB p q = true := by
  have hb := rnL_bound l
  have hb2 := rnL_bound (l.drop (rnL l).2)
  rw [List.length_drop] at hb2
  unfold rpL at h
  split at h
  · cases h
  · split at h
    · split at h
      · cases h
      · split at h
        · rename_i hf
          cases h
          exact ⟨by omega, by omega, hf⟩
        · cases h
    · split at h
      · rename_i hf
        cases h
        exact ⟨by omega, by omega, hf⟩
      · cases h

theorem rdF_step (f : Nat) (p : Pl) (l : List UInt8) (hl : 0 < l.length) (hf : l.length ≤ f) (R : Option (List Pl)) (ps : List Pl) (h : (rdF f p l).map (ps ++ ·) = R) :
    (rpL l p = none → R = none) ∧ ∀ q n, rpL l p = some (q, n) → (rdF (f - 1) q (l.drop n)).map ((ps ++ [q]) ++ ·) = R := by
  cases l with
  | nil => simp at hl
  | cons c l =>
    cases f with
    | zero => simp at hf
    | succ f =>
      rw [rdF] at h
      refine ⟨fun e => ?_, fun q n e => ?_⟩
      · rw [e] at h; exact h.symm
      · rw [e] at h
        rw [← h]
        simp only [Nat.add_sub_cancel]
        cases rdF f q ((c :: l).drop n) <;> simp

theorem readPlace_none (s : ByteArray) (p : Pl) (hp : Ahead p) (h : rpL s.data.toList p = none) (w : World) (hs : s.size ≤ 1000000) :
    Calls Tryz.prog 73 #[.string s, .agg #[.int .i64 p.r, .int .i64 p.a]] w fun e w' => e = .returned (.tuple #[.agg #[.int .i64 0, .int .i64 0], .int .i64 0]) ∧ Below w.heap.size w w' := by
  have := readPlace_any s p hp w hs
  rw [h] at this
  exact this
theorem readPlace_some (s : ByteArray) (p q : Pl) (n : Nat) (hp : Ahead p) (h : rpL s.data.toList p = some (q, n)) (w : World) (hs : s.size ≤ 1000000) :
    Calls Tryz.prog 73 #[.string s, .agg #[.int .i64 p.r, .int .i64 p.a]] w fun e w' => e = .returned (.tuple #[.agg #[.int .i64 q.r, .int .i64 q.a], .int .i64 n]) ∧ Below w.heap.size w w' := by
  have := readPlace_any s p hp w hs
  rw [h] at this
  exact this

theorem one_pl (p : Pl) : ∀ u ∈ plc [p], u.oneCell' = true := plc_one [p]
theorem news_pl (w : World) (q : Pl) (t : TypeId) : ∀ j u, (plc [q])[j]? = some u → (w.alloc (.cells #[.int .i64 q.r, .int .i64 q.a] t)).cell? ((⟨w.heap.size, 0, none⟩ : Addr).add j) = some u := by
  intro j u hj
  rw [Go.WideShapes.add_plain]
  have hj2 : j = 0 ∨ j = 1 := by
    have := (List.getElem?_eq_some_iff.1 hj).1
    simp [plc] at this
    omega
  rcases hj2 with rfl | rfl <;> simp [plc] at hj ⊢ <;> exact hj

theorem own_monoP {w : World} {B B' : Nat} {t : TypeId} {z : Nat} {v : Value} {n : Nat} {xs : List Value} (h : w.ownsRow B t z v n xs) (hb : B' ≤ B) : w.ownsRow B' t z v n xs := by
  refine ⟨h.1, ?_⟩
  rcases h.2 with h2 | ⟨g, cap, cur, h1, h2, h3⟩
  · exact .inl h2
  · exact .inr ⟨g, cap, cur, h1, Nat.le_trans hb h2, h3⟩

def strLenP : Value → Nat
  | .string t => t.size
  | _ => 0

set_option maxRecDepth 100000 in
set_option maxHeartbeats 4000000 in
theorem readP_any (s : ByteArray) (w : World) (hs : s.size ≤ 900000) :
    Calls Tryz.prog 50 #[.string s] w fun e w' => ((∃ ps v, readL s.data.toList = some ps ∧ e = .returned (.tuple #[v, .nilIface]) ∧ ps.length ≤ 900000 ∧ w'.ownsRow w.heap.size 43 2 v ps.length (plc ps)) ∨
      (readL s.data.toList = none ∧ e = .returned (.tuple #[.slice none 0 0, .iface 57 (.int .i64 3)]))) ∧ Below w.heap.size w w' := by
  obtain ⟨i0, hi, hz0, hz1, hz2⟩ := pinfo_parts infoPl
  obtain ⟨R, hR⟩ : ∃ R, readL s.data.toList = R := ⟨_, rfl⟩
  have HR : Hid ((rdF s.size ⟨0, 0⟩ s.data.toList).map ([] ++ ·) = R) := by
    show _ = _
    rw [← hR, readL, show s.data.toList.length = s.size by simp]
    cases rdF s.size ⟨0, 0⟩ s.data.toList <;> simp
  rw [hR]
  clear hR
  go_enter Tryz.func50, Tryz.ntmps50
  go_wp2
  go_loopw [0, 4] (fun x v wr => ∃ (t : ByteArray) (p : Pl) (ps : List Pl) (f : Nat), t.size ≤ f ∧ ps.length + t.size ≤ s.size ∧ x = .string t ∧ Hid (VarP w.heap.size p wr ∧ Below w.heap.size w wr ∧ (rdF f p t.data.toList).map (ps ++ ·) = R) ∧ Hid (wr.ownsRow (w.heap.size + 1) 43 2 v ps.length (plc ps)) ∧ Hid (Ahead p)) (fun x _ _ => strLenP x)
  case atStart => exact ⟨s, ⟨0, 0⟩, [], s.size, Nat.le_refl _, by simp, rfl, ⟨VarP.new w, (Below.refl _ _).alloc (Nat.le_refl _) _, HR.out⟩, World.ownsRow_nil _ _ _ _, ⟨by decide, by decide, by decide, by decide⟩⟩
  case round =>
    clear HR
    obtain ⟨t, p, ps, f, hf, hps, rfl, hz, hown, hah⟩ := hrel
    by_cases h0 : 0 < t.size
    · have hst := rdF_step f p t.data.toList (by simpa using h0) (by simpa using hf) R ps hz.out.2.2
      have HV : Hid (VarP w.heap.size p wr) := hz.out.1
      have HB : Hid (Below w.heap.size w wr) := hz.out.2.1
      obtain ⟨c1, c2, f1, f2, hlt1⟩ := HV.out
      clear hz
      cases hrp : rpL t.data.toList p with
      | none =>
        have e := hst.1 hrp
        subst e
        clear hst
        go_wp2_with fail
        refine (readPlace_none t p hah.out hrp _ (by omega)).mono ?_
        rintro _ w2 ⟨rfl, hb2⟩
        go_wp2
        go_ret2
        exact ⟨rfl, (HB.out.trans (hb2.mono HB.out.size)).alloc (by have := HB.out.size; have := hb2.size; omega) _⟩
      | some y =>
        obtain ⟨q, n⟩ := y
        have HST : Hid _ := hst.2 q n hrp
        obtain ⟨n1, n2, n3⟩ := rpL_pos hrp
        rw [show t.data.toList.length = t.size by simp] at n2
        clear hst
        go_wp2_with fail
        refine (readPlace_some t p q n hah.out hrp _ (by omega)).mono ?_
        rintro _ w2 ⟨rfl, hb2⟩
        have HV2 : Hid (VarP w.heap.size p w2) := HV.out.below hb2
        have HB2 : Hid (Below w.heap.size w w2) := HB.out.trans (hb2.mono HB.out.size)
        have HO2 : Hid (w2.ownsRow (w.heap.size + 1) 43 2 u4 ps.length (plc ps)) := own_belowP hown.out hb2
        have hs2 : w.heap.size + 1 ≤ w2.heap.size := by have := hb2.size; omega
        clear hb2 HV HB hown c1 c2 f1 f2 hlt1 hrp
        obtain ⟨⟨k1, k2⟩, ⟨k3, k4⟩, _⟩ := foll_facts n3
        have j0 : ((n : Int) == 0) = false := by simp; omega
        -- the box of the place
        have HBX : Hid (VarP w2.heap.size q (w2.alloc (.cells #[.int .i64 q.r, .int .i64 q.a] 43))) := VarP.box w2 q
        have HA : Hid (Below w2.heap.size w2 (w2.alloc (.cells #[.int .i64 q.r, .int .i64 q.a] 43))) := (Below.refl _ _).alloc (Nat.le_refl _) _
        have HO3 : Hid ((w2.alloc (.cells #[.int .i64 q.r, .int .i64 q.a] 43)).ownsRow (w.heap.size + 1) 43 2 u4 ps.length (plc ps)) := own_belowP HO2.out HA.out
        have hsz3 : (w2.alloc (.cells #[.int .i64 q.r, .int .i64 q.a] 43)).heap.size = w2.heap.size + 1 := by simp
        have HN : Hid (u4.ownBlock ≠ some w2.heap.size) := own_ne HO2.out _ (.inr (Nat.le_refl _))
        go_wp2_with (at_builtin; refine wpList_append_lies _ rfl _ _ 36 rfl (w.heap.size + 1) 43 i0 (.agg #[.int .i64 0, .int .i64 0]) 2 16 Tryz.underlying36 hi hz0 hz1 hz2 rfl (by decide) _ _ _ rfl (HO3.out.alloc _) ⟨w2.heap.size + 1, 0, none⟩ 1 1 (plc [q]) rfl rfl (by have := news_pl (w2.alloc (.cells #[.int .i64 q.r, .int .i64 q.a] 43)) q 43; rw [hsz3] at this; exact this) (one_pl q) (by decide) (by simp [maxLen]; omega) (by omega) (by simp; omega) _ rfl ?_)
        intro g cap w3 hown' hgrow hg _
        have HG : Hid (Gr (w2.alloc (.cells #[.int .i64 q.r, .int .i64 q.a] 43)) w3 u4 (.slice (some ⟨g, 0, none⟩) (ps.length + 1) cap)) := Gr.alloc _ ⟨hgrow, fun k hk => by
          have e : g = k := by simpa [own_slice] using hk
          subst e
          rcases hg with h | h
          · exact .inl h
          · exact .inr (by rw [h]; simp)⟩
        have HV3 : Hid (VarP w.heap.size p w3) := VarP.gr (HV2.out.below HA.out) HG.out (own_ne HO3.out _ (.inl (by omega)))
        have HX3 : Hid (VarP w2.heap.size q w3) := VarP.gr HBX.out HG.out HN.out
        have HB3 : Hid (Below w.heap.size w w3) := (HB2.out.trans (HA.out.mono HB2.out.size)).trans (HG.out.below (fun k hk => by have := (HO3.out.lt k hk).1; omega) (by omega))
        have HO4 : Hid (w3.ownsRow (w.heap.size + 1) 43 2 (.slice (some ⟨g, 0, none⟩) (ps.length + 1) cap) (ps ++ [q]).length (plc (ps ++ [q]))) := own_eqP hown' (by simp) (by rw [plc_append])
        clear hown' hgrow hg HG HBX HA HO3 HN HO2 HV2 HB2 hsz3
        obtain ⟨c1, c2, f1, f2, hlt1⟩ := HV3.out
        obtain ⟨c3, c4, _, _, _⟩ := HX3.out
        go_wp2
        go_roundw
        case rel =>
          refine ⟨t.extract n t.size, q, ps ++ [q], f - 1, by simp; omega, by simp; omega, by simp, ⟨HV3.out.set q, (HB3.out.setCell (p := ⟨_, 0, none⟩) (Nat.le_refl _) _).setCell (p := ⟨_, 1, none⟩) (Nat.le_refl _) _, ?_⟩, own_set (own_set HO4.out _ _ (by omega) _) _ _ (by omega) _, ⟨by omega, by omega, by omega, by omega⟩⟩
          rw [ba_drop]
          exact HST.out
        case measure => simp [strLenP]; omega
    · obtain rfl : t = ⟨#[]⟩ := by
        cases t with
        | mk d =>
          have : d.size = 0 := Nat.eq_zero_of_not_pos h0
          simp [Array.size_eq_zero_iff.1 this]
      have e : R = some ps := by
        have := hz.out.2.2
        cases f <;> simpa [rdF] using this.symm
      subst e
      go_wp2
      go_ret2
      exact ⟨⟨_, rfl, by omega, own_monoP hown.out (by omega)⟩, hz.out.2.1⟩
end Go.Proofs.YtdphlkljenbkcaaGreatDoor
namespace Go.Proofs.YtdphlkljenbkcaaGreatDoor
open Go.RowKit

theorem ofNat_toNat {n : Nat} (h : n < 256) : (UInt8.ofNat n).toNat = n := by simp; omega

theorem rn_num (n : Nat) : ∀ (f i acc : Nat) (rest : List UInt8), (numL n).length ≤ f → (n ≠ 0 ∨ i = 0) → rnF f i acc (numL n ++ rest) = (acc + n * 128 ^ i, i + (numL n).length) := by
  induction n using Nat.strongRecOn with
  | ind n ih =>
    intro f i acc rest hf h0
    by_cases hn : n < 128
    · rw [numL_small hn] at hf ⊢
      cases f with
      | zero => simp at hf
      | succ f =>
        simp only [List.singleton_append, rnF, ofNat_toNat (show n < 256 by omega), if_pos hn, List.length_singleton]
        rw [if_neg (by omega)]
    · rw [numL_big hn] at hf ⊢
      cases f with
      | zero => simp at hf
      | succ f =>
        simp only [List.length_cons] at hf
        simp only [List.cons_append, rnF, ofNat_toNat (show n % 128 + 128 < 256 by omega), List.length_cons]
        rw [if_neg (by omega), show (n % 128 + 128) % 128 = n % 128 by omega]
        rw [ih (n / 128) (by omega) f (i + 1) _ rest (by omega) (.inl (by omega))]
        have e : n = n % 128 + 128 * (n / 128) := by omega
        have e2 : n * 128 ^ i = n % 128 * 128 ^ i + n / 128 * 128 ^ (i + 1) := by
          conv => lhs; rw [e]
          rw [Nat.add_mul, Nat.pow_succ, Nat.mul_comm 128 (n / 128), Nat.mul_assoc, Nat.mul_comm 128 (128 ^ i)]
        rw [e2, Nat.add_assoc]
        congr 1
        omega
theorem rnL_num (n : Nat) (hn : n < 34359738368) (rest : List UInt8) : rnL (numL n ++ rest) = (n, (numL n).length) := by
  have := rn_num n 5 0 0 rest (numL_len 4 n (by omega)) (.inr rfl)
  simpa [rnL] using this

theorem rp_enc {p q : Pl} (hp : Ahead p) (h : follB p q = true) (rest : List UInt8) : rpL (encP p q ++ rest) p = some (q, (encP p q).length) := by
  obtain ⟨⟨a1, a2⟩, ⟨a3, a4⟩, h5⟩ := foll_facts h
  obtain ⟨b1, b2, b3, b4⟩ := hp
  unfold encP
  by_cases e : q.r = p.r
  · have hlt : p.a < q.a := by rcases h5 with ⟨_, h⟩ | ⟨h, _⟩; exact h; exact absurd e h
    obtain ⟨N, hN⟩ : ∃ N, (2 * (q.a - p.a)).toNat = N := ⟨_, rfl⟩
    rw [if_pos e, hN]
    have hr := rnL_num N (by omega) rest
    have hl := numL_pos N
    have hq : (⟨p.r, p.a + ((N / 2 : Nat) : Int)⟩ : Pl) = q := by
      obtain ⟨qr, qa⟩ := q
      simp only [Pl.mk.injEq] at *
      omega
    unfold rpL
    rw [hr]
    simp only
    rw [if_neg (by omega), if_neg (by omega), hq, if_pos h]
  · have hlt : p.r < q.r := by rcases h5 with ⟨h, _⟩ | ⟨_, h⟩; exact absurd h e; exact h
    obtain ⟨N, hN⟩ : ∃ N, (2 * (q.r - p.r) + 1).toNat = N := ⟨_, rfl⟩
    obtain ⟨M, hM⟩ : ∃ M, q.a.toNat = M := ⟨_, rfl⟩
    rw [if_neg e, hN, hM, List.append_assoc]
    have hr := rnL_num N (by omega) (numL M ++ rest)
    have hr2 := rnL_num M (by omega) rest
    have hl := numL_pos N
    have hl2 := numL_pos M
    have hq : (⟨p.r + ((N / 2 : Nat) : Int), (M : Int)⟩ : Pl) = q := by
      obtain ⟨qr, qa⟩ := q
      simp only [Pl.mk.injEq] at *
      omega
    unfold rpL
    rw [hr]
    simp only [List.drop_left]
    rw [hr2]
    simp only
    rw [if_neg (by omega), if_pos (by omega), if_neg (by omega), hq, if_pos h, List.length_append]

theorem rd_enc (l : List Pl) : ∀ (p : Pl) (f : Nat), Ahead p → rightFrom p l = true → (encFrom p l).length ≤ f → rdF f p (encFrom p l) = some l := by
  induction l with
  | nil => intro p f _ _ _; cases f <;> rfl
  | cons q l ih =>
    intro p f hp h hf
    simp only [rightFrom, Bool.and_eq_true] at h
    obtain ⟨⟨a1, a2⟩, ⟨a3, a4⟩, _⟩ := foll_facts h.1
    have hr := rp_enc hp h.1 (encFrom q l)
    have hpos := (rpL_pos hr).1
    simp only [encFrom] at hf ⊢
    rw [List.length_append] at hf
    cases f with
    | zero => omega
    | succ f =>
      cases hc : encP p q ++ encFrom q l with
      | nil =>
        have := congrArg List.length hc
        rw [List.length_append] at this
        simp at this
        rw [this.1] at hpos
        simp at hpos
      | cons c t =>
        rw [rdF, ← hc, hr]
        simp only [List.drop_left]
        rw [ih q f ⟨by omega, by omega, by omega, by omega⟩ h.2 (by omega)]
        rfl
theorem read_enc (l : List Pl) (h : rightL l = true) : readL (encPl l) = some l := rd_enc l ⟨0, 0⟩ _ ⟨by decide, by decide, by decide, by decide⟩ h (Nat.le_refl _)

theorem fact_right : rightL [⟨1, 0⟩, ⟨1, 2⟩, ⟨3, 1⟩] = true := by decide
theorem fact_enc : encPl [⟨1, 0⟩, ⟨1, 2⟩, ⟨3, 1⟩] = [3, 0, 4, 5, 1] := by
  simp only [encPl, encFrom, encP]
  simp [numL_small]
end Go.Proofs.YtdphlkljenbkcaaGreatDoor
namespace Go.Proofs.YtdphlkljenbkcaaGreatDoor
open Go.RowKit Go.Maps

/-- a word of a text -/
structure WOk (w : ByteArray) : Prop where
  nz : (0 : UInt8) ∉ w.data.toList
  pos : 1 ≤ w.size
  le : w.size ≤ 12
theorem isL_ne {c : UInt8} (h : isL c = true) : c ≠ 0 := fun e => by rw [e] at h; revert h; decide
theorem low_ne {c : UInt8} (h : c ≠ 0) : low c ≠ 0 := fun e => by
  have h1 := low_nat c
  rw [e] at h1
  have h2 : c.toNat ≠ 0 := fun e2 => h (UInt8.toNat_inj.1 (by rw [e2]; rfl))
  unfold lown at h1
  have h0 : (0 : UInt8).toNat = 0 := rfl
  rw [h0] at h1
  split at h1 <;> omega
theorem runs_ok : ∀ (l cur : List UInt8), (∀ c ∈ cur, isL c = true) → ∀ r ∈ runs cur l, r ≠ [] ∧ ∀ c ∈ r, isL c = true
  | [], cur, hc, r, hr => by
    unfold runs at hr
    cases cur with
    | nil => simp at hr
    | cons a b => simp at hr; subst hr; exact ⟨by simp, hc⟩
  | c :: l, cur, hc, r, hr => by
    unfold runs at hr
    cases h : isL c
    · rw [h] at hr
      simp only [Bool.false_eq_true, if_false] at hr
      rcases List.mem_append.1 hr with hr | hr
      · cases cur with
        | nil => simp at hr
        | cons a b => simp at hr; subst hr; exact ⟨by simp, hc⟩
      · exact runs_ok l [] (by simp) r hr
    · rw [h, if_pos rfl] at hr
      refine runs_ok l (cur ++ [c]) (fun x hx => ?_) r hr
      rcases List.mem_append.1 hx with hx | hx
      · exact hc x hx
      · obtain rfl := List.mem_singleton.1 hx; exact h
theorem runs_count : ∀ (l cur : List UInt8), 2 * (runs cur l).length ≤ l.length + (if cur = [] then 1 else 2)
  | [], cur => by
    unfold runs
    cases cur <;> simp
  | c :: l, cur => by
    unfold runs
    cases h : isL c
    · have ih := runs_count l []
      rw [if_pos rfl] at ih
      simp only [Bool.false_eq_true, if_false, List.length_append, List.length_cons]
      cases cur with
      | nil => simp; omega
      | cons a b => simp; omega
    · have ih := runs_count l (cur ++ [c])
      rw [if_neg (by simp)] at ih
      rw [if_pos rfl, List.length_cons]
      split <;> omega
theorem words_count (s : ByteArray) : 2 * (wordsL s.data.toList).length ≤ s.size + 1 := by
  have := runs_count s.data.toList []
  rw [if_pos rfl, Array.length_toList] at this
  unfold wordsL
  rw [List.length_map]
  exact this
theorem stem_ok : ∀ (t : List (ByteArray × ByteArray)) (s : ByteArray), (∀ x ∈ t, (0 : UInt8) ∉ x.2.data.toList) → (0 : UInt8) ∉ s.data.toList → 1 ≤ s.size → (0 : UInt8) ∉ (stemFrom t s).data.toList ∧ 1 ≤ (stemFrom t s).size
  | [], s, _, h0, h1 => ⟨h0, h1⟩
  | (e, r) :: t, s, ht, h0, h1 => by
    unfold stemFrom
    split
    · split
      · rename_i h3
        constructor
        · rw [ByteArray.data_append, Array.toList_append]
          intro hm
          rcases List.mem_append.1 hm with hm | hm
          · rw [ByteArray.data_extract, Array.toList_extract, List.extract_eq_take_drop] at hm
            exact h0 (List.mem_of_mem_drop (List.mem_of_mem_take hm))
          · exact ht (e, r) (by simp) hm
        · rw [ByteArray.size_append, ByteArray.size_extract]; omega
      · exact ⟨h0, h1⟩
    · exact stem_ok t s (fun x hx => ht x (by simp [hx])) h0 h1
theorem word_ok {l : List UInt8} {w : ByteArray} (h : w ∈ wordsL l) : WOk w := by
  unfold wordsL at h
  obtain ⟨r, hr, rfl⟩ := List.mem_map.1 h
  obtain ⟨hne, hl⟩ := runs_ok l [] (by simp) r hr
  have h0 : (0 : UInt8) ∉ ((smallL r).take 12) := fun hm => by
    obtain ⟨c, hc, e⟩ := List.mem_map.1 (List.mem_of_mem_take hm)
    exact low_ne (isL_ne (hl c hc)) e
  have h1 : 1 ≤ (⟨((smallL r).take 12).toArray⟩ : ByteArray).size := by
    show 1 ≤ ((smallL r).take 12).toArray.size
    rw [List.size_toArray, List.length_take]
    unfold smallL
    rw [List.length_map]
    have : 0 < r.length := List.length_pos_iff.2 hne
    omega
  obtain ⟨g1, g2⟩ := stem_ok endsT ⟨((smallL r).take 12).toArray⟩ (by decide) (by simpa using h0) h1
  exact ⟨g1, g2, wordOf_le r⟩
/-- a noted row -/
structure Nt where
  r : Nat
  ws : List ByteArray
structure Nt.Ok (t : Nt) : Prop where
  lo : 1 ≤ t.r
  hi : t.r ≤ 2000
  ws : ∀ w ∈ t.ws, WOk w
  len : t.ws.length ≤ 20
/-- where a word stands in it -/
def plcsF (r : Nat) : Nat → List ByteArray → ByteArray → List Pl
  | _, [], _ => []
  | i, x :: t, w => if x = w then ⟨(r : Int), (i : Int)⟩ :: plcsF r (i + 1) t w else plcsF r (i + 1) t w
def Nt.piece (t : Nt) (w : ByteArray) : Pr := ⟨keyF nN w t.r, ⟨(encPl (plcsF t.r 0 t.ws w)).toArray⟩⟩
def InF (R : List Nt) (x : Pr) : Prop := ∃ t ∈ R, ∃ w ∈ t.ws, x = t.piece w
/-- four bytes in order -/
theorem rowB_nat {r : Nat} (h : r < 4294967296) : (byteI ((r : Int) / 16777216)).toNat = r / 16777216 ∧ (byteI ((r : Int) / 65536)).toNat = r / 65536 % 256 ∧ (byteI ((r : Int) / 256)).toNat = r / 256 % 256 ∧ (byteI (r : Int)).toNat = r % 256 := by
  have a := byteI_toNat ((r : Int) / 16777216)
  have b := byteI_toNat ((r : Int) / 65536)
  have c := byteI_toNat ((r : Int) / 256)
  have d := byteI_toNat (r : Int)
  rw [wrap_u8] at a b c d
  omega
theorem rowB_lt {r s : Nat} (h : r < s) (hs : s < 4294967296) : rowB r < rowB s := by
  obtain ⟨a0, a1, a2, a3⟩ := rowB_nat (show r < 4294967296 by omega)
  obtain ⟨b0, b1, b2, b3⟩ := rowB_nat hs
  unfold rowB
  rw [List.cons_lt_cons_iff, List.cons_lt_cons_iff, List.cons_lt_cons_iff, List.cons_lt_cons_iff]
  simp only [UInt8.lt_iff_toNat_lt, ← UInt8.toNat_inj, a0, a1, a2, a3, b0, b1, b2, b3]
  omega
theorem key_lt {w w' : ByteArray} {r r' : Nat} (hw' : WOk w') (hr' : r' < 4294967296) (h : bl w w' = true ∨ (w = w' ∧ r < r')) : bl (keyF nN w r) (keyF nN w' r') = true := by
  rw [bl_iff, keyF_list, keyF_list, show nN.data.toList ++ 0 :: (w.data.toList ++ 0 :: rowB r) = (nN.data.toList ++ [0]) ++ (w.data.toList ++ 0 :: rowB r) by simp, show nN.data.toList ++ 0 :: (w'.data.toList ++ 0 :: rowB r') = (nN.data.toList ++ [0]) ++ (w'.data.toList ++ 0 :: rowB r') by simp]
  refine append_lt _ _ _ ?_
  rcases h with h | ⟨rfl, h⟩
  · exact lt_zero _ _ ((bl_iff _ _).1 h) hw'.nz _ _
  · refine append_lt _ _ _ ?_
    rw [List.cons_lt_cons_iff]
    exact .inr ⟨rfl, rowB_lt h hr'⟩
theorem key_tri {w w' : ByteArray} {r r' : Nat} (hw : WOk w) (hw' : WOk w') (hr : r < 4294967296) (hr' : r' < 4294967296) (h : keyF nN w r = keyF nN w' r') : w = w' ∧ r = r' := by
  have no : ∀ {a b : ByteArray}, bl a b = true → a = b → False := fun h1 h2 => by rw [h2, bl_irrefl] at h1; cases h1
  rcases bl_tri w w' with h1 | h1 | h1
  · exact (no (key_lt hw' (r := r) hr' (.inl h1)) h).elim
  · refine ⟨h1, ?_⟩
    rcases Nat.lt_trichotomy r r' with h2 | h2 | h2
    · exact (no (key_lt hw' hr' (.inr ⟨h1, h2⟩)) h).elim
    · exact h2
    · exact (no (key_lt hw hr (.inr ⟨h1.symm, h2⟩)) h.symm).elim
  · exact (no (key_lt hw (r := r') hr (.inl h1)) h.symm).elim
/-- the places of a row are right -/
theorem plcs_from (r : Nat) (hr : 1 ≤ r) (hr2 : r ≤ 2000) : ∀ (ws : List ByteArray) (i : Nat) (w : ByteArray), i + ws.length ≤ 1000 → ∀ p : Pl, ((p.r = (r : Int) ∧ p.a < (i : Int)) ∨ (0 ≤ p.r ∧ p.r < (r : Int))) → rightFrom p (plcsF r i ws w) = true
  | [], _, _, _, _, _ => rfl
  | x :: t, i, w, hi, p, hp => by
    simp only [List.length_cons] at hi
    unfold plcsF
    split
    · rw [rightFrom, Bool.and_eq_true]
      refine ⟨?_, plcs_from r hr hr2 t (i + 1) w (by omega) ⟨(r : Int), (i : Int)⟩ (.inl ⟨rfl, by show (i : Int) < ((i + 1 : Nat) : Int); omega⟩)⟩
      unfold follB okB cmpP cmpI
      simp only [Bool.and_eq_true, decide_eq_true_eq]
      refine ⟨⟨⟨⟨by omega, by omega⟩, by omega⟩, by omega⟩, ?_⟩
      rcases hp with ⟨h1, h2⟩ | ⟨h1, h2⟩
      · rw [if_pos h1, if_pos h2]; decide
      · rw [if_neg (by omega), if_pos h2]; decide
    · refine plcs_from r hr hr2 t (i + 1) w (by omega) p ?_
      rcases hp with hp | hp
      · exact .inl ⟨hp.1, by omega⟩
      · exact .inr hp
end Go.Proofs.YtdphlkljenbkcaaGreatDoor
namespace Go.Proofs.YtdphlkljenbkcaaGreatDoor
open Go.RowKit Go.Maps

/-- a piece, read -/
structure Pc where
  w : ByteArray
  r : Nat
  l : List Pl
def Pc.pr (c : Pc) : Pr := ⟨keyF nN c.w c.r, ⟨(encPl c.l).toArray⟩⟩
structure Pc.Ok (c : Pc) : Prop where
  w : WOk c.w
  r : c.r < 4294967296
  l : rightL c.l = true
  pos : 0 < c.l.length
  len : c.l.length ≤ 20
  sz : (encPl c.l).length ≤ 100
def midF (s : ByteArray) (r : Nat) : ByteArray := s ++ ⟨#[0]⟩ ++ ⟨(rowB r).toArray⟩
theorem midF_list (s : ByteArray) (r : Nat) : (midF s r).data.toList = s.data.toList ++ 0 :: rowB r := by simp [midF]
theorem midF_size (s : ByteArray) (r : Nat) : (midF s r).size = s.size + 5 := by
  unfold midF
  rw [ByteArray.size_append, ByteArray.size_append]
  rfl
theorem row_apart {w w' : World} {base size n : Nat} {e : TypeId} {v : Value} {xs : List Value} {S : Nat → Prop} (h : w.ownsRow base e size v n xs) (ho : Only S w w') (hS : ∀ b, v.ownBlock = some b → ¬ S b) : w'.ownsRow base e size v n xs := by
  refine ⟨h.1, ?_⟩
  rcases h.2 with h2 | ⟨g, cap, cur, h1, h2, h3, h4⟩
  · exact .inl h2
  · exact .inr ⟨g, cap, cur, h1, h2, by rw [ho.block g (Array.getElem?_eq_some_iff.1 h3).1 (hS g (by rw [h1]; rfl))]; exact h3, h4⟩
theorem cut_key {m : Int} (s : ByteArray) (r : Nat) (hs : s.size ≤ 1000) (w : World) (hm : w.cell? ⟨2, 0, none⟩ = some (.int .i64 m)) :
    Calls Tryz.prog 49 #[.string (keyF nN s r), .string ⟨#[0]⟩] w fun e w' => e = .returned (.tuple #[.string nN, .string (midF s r), .bool true]) ∧ Below w.heap.size w w' := by
  refine (Tryz.strings_Cut (keyF nN s r) ⟨#[0]⟩ m w (by rw [keyF_size]; show 1 + s.size + 6 < _; omega) hm).mono ?_
  rintro e w' ⟨he, n, rfl⟩
  have hc : Lib.cut (keyF nN s r).data.toList (⟨#[0]⟩ : ByteArray).data.toList = (nN.data.toList, (midF s r).data.toList, true) := by
    rw [keyF_list, midF_list]; exact cut_zero _ _ (by decide)
  rw [hc] at he
  exact ⟨he, below_drewN' (Below.refl _ _) n⟩
theorem cut_mid {m : Int} (s : ByteArray) (r : Nat) (h0 : (0 : UInt8) ∉ s.data.toList) (hs : s.size ≤ 1000) (w : World) (hm : w.cell? ⟨2, 0, none⟩ = some (.int .i64 m)) :
    Calls Tryz.prog 49 #[.string (midF s r), .string ⟨#[0]⟩] w fun e w' => e = .returned (.tuple #[.string s, .string ⟨(rowB r).toArray⟩, .bool true]) ∧ Below w.heap.size w w' := by
  refine (Tryz.strings_Cut (midF s r) ⟨#[0]⟩ m w (by rw [midF_size]; omega) hm).mono ?_
  rintro e w' ⟨he, n, rfl⟩
  have hc : Lib.cut (midF s r).data.toList (⟨#[0]⟩ : ByteArray).data.toList = (s.data.toList, rowB r, true) := by
    rw [midF_list]; exact cut_zero _ _ h0
  rw [hc] at he
  exact ⟨he, below_drewN' (Below.refl _ _) n⟩
theorem read_item {l : List Pl} (hr : rightL l = true) (hs : (encPl l).length ≤ 1000) (s : ByteArray) (e : (⟨(encPl l).toArray⟩ : ByteArray) = s) (w : World) :
    Calls Tryz.prog 50 #[.string s] w fun e w' => ∃ v, e = .returned (.tuple #[v, .nilIface]) ∧ w'.ownsRow w.heap.size 43 2 v l.length (plc l) ∧ Below w.heap.size w w' := by
  subst e
  refine (readP_any ⟨(encPl l).toArray⟩ w (by show (encPl l).toArray.size ≤ _; rw [List.size_toArray]; omega)).mono ?_
  have hb : readL (⟨(encPl l).toArray⟩ : ByteArray).data.toList = some l := read_enc l hr
  rintro e w' ⟨h | h, hbl⟩
  · obtain ⟨ps, v, h1, rfl, _, h2⟩ := h
    rw [hb] at h1
    obtain rfl := Option.some.inj h1
    exact ⟨v, rfl, h2, hbl⟩
  · rw [hb] at h
    cases h.1
section
variable {bf bt bp bd bm N : Nat} {up : Nat → Bool} {V : Pst} {T : Tr} {w : World} {I : Nat → Nat → World → Prop} {W : Nat → Prop} {fw : Nat} {cw : Array Value} {L : List Pc}
set_option maxRecDepth 100000 in
set_option maxHeartbeats 4000000 in
theorem look_any (h : Fs bf bt bp bd bm N up V T w) {m : Int} (hm : w.cell? ⟨2, 0, none⟩ = some (.int .i64 m)) (beg : ByteArray) (hL : ∀ c ∈ L, c.Ok) (hps : walkL (pfx beg) beg 0 T.all = L.map Pc.pr) (hLl : L.length ≤ 10000)
    (hW : ∀ b, W b → b < w.heap.size ∧ b ≠ 2) (eg : ∀ args w, (callFunc fw args).run Tryz.prog w = .ok (.enter fw args) w)
    (hI : ∀ B wx, w.heap.size ≤ B → B ≤ wx.heap.size → Below w.heap.size w wx → I B 0 wx)
    (hc : ∀ B k (hk : k < L.length) v wr wx, w.heap.size ≤ B → B ≤ wr.heap.size → I B k wr → Below wr.heap.size wr wx → wx.ownsRow wr.heap.size 43 2 v L[k].l.length (plc L[k].l) →
      Calls Tryz.prog fw (#[.agg #[.string nN, .string L[k].w, v]] ++ cw) wx fun e w' => e = .returned (.tuple #[]) ∧ I B (k + 1) w' ∧ Only (fun b => W b ∨ B ≤ b) wx w') :
    Calls Tryz.prog 24 #[.pointer (some ⟨bf, 0, none⟩), .string beg, .func (.func fw) #[] cw] w fun e w' => e = .returned .nilIface ∧ (∃ B, w.heap.size ≤ B ∧ I B L.length w') ∧ Only W w w' := by
  have HC : Hid (Fs bf bt bp bd bm N up V T w) := h
  have HPS : Hid _ := hps
  have HL : Hid _ := hL
  have HM : Hid _ := hm
  have HW : Hid _ := hW
  have HI : Hid _ := hI
  have HCC : Hid _ := hc
  have q0 := h.c.cell
  clear h hps hL hm hW hI hc
  go_enter Tryz.func24, Tryz.ntmps24
  go_wp2_with fail
  refine (prefix_any _ HC.out.t HC.out.tw HC.out.a beg).mono ?_
  rintro _ w2 ⟨v2, rfl, hr2, hb2⟩
  rw [HPS.out] at hr2
  obtain ⟨a9, c9, hv9⟩ := row_slice hr2
  obtain ⟨n, hn⟩ : ∃ n, L.length = n := ⟨_, rfl⟩
  have HN : Hid _ := hn
  rw [List.length_map, hn] at hv9
  rw [hn] at hLl
  subst hv9
  have HR : Hid (PRow w.heap.size (.slice a9 n c9) (L.map Pc.pr) w2) := hr2
  have HB : Hid (Below w.heap.size w w2) := hb2
  have HM2 : Hid (w2.cell? ⟨2, 0, none⟩ = some (.int .i64 m)) := keepc hb2 HM.out
  have HI0 : Hid (I w2.heap.size 0 w2) := HI.out w2.heap.size w2 hb2.size (Nat.le_refl _) hb2
  have HO : Hid (∀ wx, Only (fun b => W b ∨ w2.heap.size ≤ b) w2 wx → wx.cell? ⟨2, 0, none⟩ = some (.int .i64 m) ∧ PRow w.heap.size (.slice a9 n c9) (L.map Pc.pr) wx) := fun wx ho => ⟨by
      have hlt := World.block_lt_of_cell? _ _ HM2.out
      rw [ho.cell hlt (fun e => by rcases e with e | e; exact (HW.out _ e).2 rfl; exact absurd hlt (by simp only; omega)) 0]; exact HM2.out, row_apart HR.out ho (fun b e => by
        have := World.ownsRow.lt HR.out b e
        rintro (e | e)
        · have := (HW.out _ e).1; omega
        · omega)⟩
  clear hr2 hb2 q0 HC HPS hn HM HI
  go_wp2_with fail
  go_loopw [33] (fun i wr => ∃ (k : Nat), k ≤ n ∧ i = .int .i64 (k : Nat) ∧ Hid (I w2.heap.size k wr) ∧ Hid (Only (fun b => W b ∨ w2.heap.size ≤ b) w2 wr)) (fun i _ => n + 1 - (intOf i).toNat)
  case atStart => exact ⟨0, Nat.zero_le _, rfl, HI0, Only.refl _ _⟩
  case round =>
    obtain ⟨k, hk, rfl, HIK, HBW⟩ := hrel
    by_cases hlt : k < n
    · have h1 : (k : Int) < (n : Int) := by omega
      have hkl : k < L.length := by rw [HN.out]; exact hlt
      obtain ⟨hmw, hRw⟩ := HO.out wr HBW.out
      obtain ⟨g, hg, k1, k2, hix⟩ := hRw.at (i := k) (by rw [List.length_map]; exact hkl)
      rw [List.getElem_map] at k1 k2
      have hok := HL.out L[k] (List.getElem_mem hkl)
      have hws := hok.w.le
      have hwz := hok.w.nz
      obtain ⟨c, hcc⟩ : ∃ c, L[k] = c := ⟨_, rfl⟩
      have HCK : Hid (∀ v wx, Below wr.heap.size wr wx → wx.ownsRow wr.heap.size 43 2 v c.l.length (plc c.l) →
        Calls Tryz.prog fw (#[.agg #[.string nN, .string c.w, v]] ++ cw) wx fun e w' => e = .returned (.tuple #[]) ∧ I w2.heap.size (k + 1) w' ∧ Only (fun b => W b ∨ w2.heap.size ≤ b) wx w') := by
        intro v wx hb ho
        have := HCC.out w2.heap.size k hkl v wr wx HB.out.size HBW.out.size HIK.out hb (by rw [hcc]; exact ho)
        rw [hcc] at this
        exact this
      rw [hcc] at k1 k2 hok hws hwz
      unfold Pc.pr at k1 k2
      simp only at k1 k2
      have HRI : Hid _ := fun s e wx => read_item hok.l (by have := hok.sz; omega) s e wx
      obtain ⟨kk, hkk⟩ : ∃ kk, keyF nN c.w c.r = kk := ⟨_, rfl⟩
      obtain ⟨ii, hii⟩ : ∃ ii, (⟨(encPl c.l).toArray⟩ : ByteArray) = ii := ⟨_, rfl⟩
      obtain ⟨mm, hmm⟩ : ∃ mm, midF c.w c.r = mm := ⟨_, rfl⟩
      have HMW : Hid (∀ x y : ByteArray, (wr.alloc (.cells #[.string x, .string y] 104)).cell? ⟨2, 0, none⟩ = some (.int .i64 m)) := fun x y => keepc ((Below.refl _ wr).alloc (Nat.le_refl _) _) hmw
      have HCH : Hid _ := cut_key c.w c.r (by omega) _ (HMW.out kk ii)
      have HCM : Hid (∀ wx, wx.cell? ⟨2, 0, none⟩ = some (.int .i64 m) → Calls Tryz.prog 49 #[.string mm, .string ⟨#[0]⟩] wx fun e w' => e = .returned (.tuple #[.string c.w, .string ⟨(rowB c.r).toArray⟩, .bool true]) ∧ Below wx.heap.size wx w') := by
        intro wx hx
        rw [← hmm]
        exact cut_mid c.w c.r hwz (by omega) wx hx
      have HII : Hid _ := hii
      rw [hkk, hmm] at HCH
      rw [hkk] at k1
      rw [hii] at k2
      clear hRw hmw hkk hii hmm hcc hok hwz
      go_wp2_with fail
      refine (show Calls _ _ _ _ _ from HCH.out).mono ?_
      rintro _ w3 ⟨rfl, hb3⟩
      have HBA : Hid (Below wr.heap.size wr (wr.alloc (.cells #[.string kk, .string ii] 104))) := (Below.refl _ wr).alloc (Nat.le_refl _) _
      have HV3 : Hid (VarN wr.heap.size [.string kk, .string ii] w3) := (VarN.new wr #[.string kk, .string ii] 104 (by simp)).below hb3
      have HB3 : Hid (Below wr.heap.size wr w3) := HBA.out.trans (hb3.mono HBA.out.size)
      have HM3 : Hid (w3.cell? ⟨2, 0, none⟩ = some (.int .i64 m)) := keepc hb3 (HMW.out kk ii)
      clear hb3 HBA k1 k2 HCH
      go_wp2_with fail
      refine (show Calls _ _ _ _ _ from HCM.out w3 HM3.out).mono ?_
      rintro _ w4 ⟨rfl, hb4⟩
      have HV4 : Hid (VarN wr.heap.size [.string kk, .string ii] w4) := HV3.out.below hb4
      have HB4 : Hid (Below wr.heap.size wr w4) := HB3.out.trans (hb4.mono HB3.out.size)
      have d1 := HV4.out.cell 1 (by simp)
      simp only [List.getElem_cons_zero, List.getElem_cons_succ] at d1
      clear hb4
      go_wp2_with fail
      refine (show Calls _ _ _ _ _ from HRI.out ii HII.out w4).mono ?_
      rintro _ w5 ⟨v5, rfl, hr5, hb5⟩
      obtain ⟨a5, c5, hv5⟩ := row_slice hr5
      obtain ⟨n5, hn5⟩ : ∃ n5, c.l.length = n5 := ⟨_, rfl⟩
      rw [hn5] at hv5
      subst hv5
      have HB5 : Hid (Below wr.heap.size wr w5) := HB4.out.trans (hb5.mono HB4.out.size)
      have HR5 : Hid (w5.ownsRow wr.heap.size 43 2 (.slice a5 n5 c5) c.l.length (plc c.l)) := row_base hr5 HB4.out.size
      clear hr5 hb5 d1 hn5
      go_wp2_with fail
      refine (show Calls _ _ _ _ _ from HCK.out (.slice a5 n5 c5) w5 HB5.out HR5.out).mono ?_
      rintro _ w6 ⟨rfl, hi6, ho6⟩
      have HI6 : Hid (I w2.heap.size (k + 1) w6) := hi6
      have HO6 : Hid (Only (fun b => W b ∨ w2.heap.size ≤ b) w2 w6) := (HBW.out.trans (below_only HB5.out _) (fun _ e => .inl e)).trans ho6 (fun _ e => .inl e)
      clear hi6 ho6
      go_wp2_with fail
      go_roundw
      case rel => exact ⟨k + 1, by omega, by go_num, HI6, HO6⟩
      case measure => simp [intOf]; omega
    · have h1 : ¬ (k : Int) < (n : Int) := by omega
      obtain rfl : n = k := by omega
      go_wp2
      go_ret
      refine ⟨rfl, ⟨w2.heap.size, HB.out.size, by rw [HN.out]; exact HIK.out⟩, ?_⟩
      exact (below_only HB.out W).trans HBW.out (fun i e => by rcases e with e | e; exact .inl e; exact .inr (Nat.le_trans HB.out.size e))
end
end Go.Proofs.YtdphlkljenbkcaaGreatDoor
namespace Go.Proofs.YtdphlkljenbkcaaGreatDoor
open Go.RowKit Go.Maps

/-- how many places -/
def cntL : List Pc → Nat
  | [] => 0
  | c :: l => c.l.length + cntL l
theorem cntL_append : ∀ (a b : List Pc), cntL (a ++ b) = cntL a + cntL b
  | [], b => by simp [cntL]
  | c :: a, b => by rw [List.cons_append, cntL, cntL, cntL_append a b]; omega
theorem cntL_take {L : List Pc} {k : Nat} (hk : k < L.length) : cntL (L.take (k + 1)) = cntL (L.take k) + L[k].l.length := by
  rw [List.take_succ_eq_append_getElem hk, cntL_append]
  simp [cntL]
theorem cntL_le {L : List Pc} (hL : ∀ c ∈ L, c.Ok) : cntL L ≤ 20 * L.length := by
  induction L with
  | nil => simp [cntL]
  | cons c l ih =>
    have h1 := ih (fun x hx => hL x (by simp [hx]))
    have h2 := (hL c (by simp)).len
    rw [cntL, List.length_cons]
    omega
set_option maxRecDepth 100000 in
set_option maxHeartbeats 1000000 in
theorem many_cl {B : Nat} {s n c : Nat} {nm wd : ByteArray} {a : Option Addr} (w : World) (h : Own1 B (.int .i64 (s : Nat)) w) (hs : s ≤ 1000000) (hn : n ≤ 1000000) :
    Calls Tryz.prog 29 #[.agg #[.string nm, .string wd, .slice a n c], .pointer (some ⟨B, 0, none⟩)] w fun e w' => e = .returned (.tuple #[]) ∧ Own1 B (.int .i64 ((s + n : Nat) : Int)) w' ∧ Only (fun b => b = B) w w' := by
  have hlt := h.lt
  have hbB : Below w.heap.size w (w.alloc (.cells #[.string nm, .string wd, .slice a n c] 68)) := (Below.refl _ w).alloc (Nat.le_refl _) _
  have HV : Hid (VarN w.heap.size [.string nm, .string wd, .slice a n c] (w.alloc (.cells #[.string nm, .string wd, .slice a n c] 68))) := VarN.new w #[.string nm, .string wd, .slice a n c] 68 (by simp)
  have HO : Hid (Own1 B (.int .i64 (s : Nat)) (w.alloc (.cells #[.string nm, .string wd, .slice a n c] 68))) := h.below hbB
  have HO0 : Hid (Own1 B (.int .i64 (s : Nat)) w) := h
  have c0 := HO.out.cell
  have c1 := HV.out.c3.2.2
  have hwp : IntKind.i64.wrap ((s : Int) + (n : Int)) = ((s + n : Nat) : Int) := by rw [wraps_i64 _ (by omega) (by omega)]; omega
  have hf0 := HO.out.free
  clear h hbB
  go_enter Tryz.func29, Tryz.ntmps29
  go_wp2
  go_end0
  refine ⟨rfl, ?_, ?_⟩
  · rw [Int.natCast_add]
    exact (HO0.out.set _).below ((Below.refl _ _).alloc (Nat.le_refl _) _)
  · exact (Only.set B 0 _ _).trans (below_only ((Below.refl _ _).alloc (Nat.le_refl _) _) (fun _ => False)) (fun _ e => e.elim)
section
variable {bf bt bp bd bm N : Nat} {up : Nat → Bool} {V : Pst} {T : Tr} {w : World} {L : List Pc}
theorem pfx_nil (k : Nat) (x : ByteArray) : pfx ⟨#[]⟩ k x = true := by
  unfold pfx Lib.hasPrefix
  rfl
set_option maxRecDepth 100000 in
set_option maxHeartbeats 1000000 in
theorem many_any (h : Fs bf bt bp bd bm N up V T w) {m : Int} (hm : w.cell? ⟨2, 0, none⟩ = some (.int .i64 m)) (hL : ∀ c ∈ L, c.Ok) (hps : T.all = L.map Pc.pr) (hLl : L.length ≤ 10000) :
    Calls Tryz.prog 10 #[.pointer (some ⟨bf, 0, none⟩)] w fun e w' => e = .returned (.tuple #[.int .i64 (cntL L : Nat), .nilIface]) ∧ Below w.heap.size w w' := by
  have hbB : Below w.heap.size w (w.alloc (.cells #[.int .i64 0] 3)) := (Below.refl _ w).alloc (Nat.le_refl _) _
  have hO0 : Own1 w.heap.size (.int .i64 ((0 : Nat) : Int)) (w.alloc (.cells #[.int .i64 0] 3)) := Own1.new w _ _
  have hmf : ∀ (fn : Fn) (first cap : Array Value) (w : World), (Instr.makeFunc fn first cap).run Tryz.prog w = .ok (.func fn first cap) w := fun _ _ _ _ => rfl
  have hcnt := cntL_le hL
  have hwk : walkL (pfx ⟨#[]⟩) ⟨#[]⟩ 0 T.all = L.map Pc.pr := by
    rw [walkP ⟨#[]⟩ T.all 0 h.sorted, ← hps]
    exact List.filter_eq_self.2 (fun x _ => pfx_nil 0 x.k)
  have hm2 : 2 < w.heap.size := World.block_lt_of_cell? _ _ hm
  have HLK : Hid (Calls Tryz.prog 24 #[.pointer (some ⟨bf, 0, none⟩), .string ⟨#[]⟩, .func (.func 29) #[] #[.pointer (some ⟨w.heap.size, 0, none⟩)]] (w.alloc (.cells #[.int .i64 0] 3)) fun e w' => e = .returned .nilIface ∧ (∃ B, (w.alloc (.cells #[.int .i64 0] 3)).heap.size ≤ B ∧ Own1 w.heap.size (.int .i64 (cntL (L.take L.length) : Nat)) w') ∧ Only (fun b => b = w.heap.size) (w.alloc (.cells #[.int .i64 0] 3)) w') := by
    refine look_any (I := fun _ k wx => Own1 w.heap.size (.int .i64 (cntL (L.take k) : Nat)) wx) (h.below hbB) (keepc hbB hm) ⟨#[]⟩ hL hwk hLl (fun b e => ?_) (enters_of Tryz.func29 (by kernel_rfl) rfl) (fun B wx h1 h2 h3 => hO0.below h3) (fun B k hk v wr wx h1 h2 h3 h4 h5 => ?_)
    · subst e; rw [World.size_alloc]; exact ⟨by omega, by omega⟩
    · obtain ⟨a5, c5, rfl⟩ := row_slice h5
      have hc2 := cntL_le (L := L.take k) (fun c hc => hL c (List.mem_of_mem_take hc))
      rw [List.length_take] at hc2
      have hl5 := (hL L[k] (List.getElem_mem hk)).len
      refine (many_cl wx (h3.below h4) (by omega) (by omega)).mono ?_
      rintro e w' ⟨rfl, g1, g2⟩
      refine ⟨rfl, ?_, g2.mono (fun _ e => .inl e)⟩
      show Own1 _ _ _
      rw [cntL_take hk]; exact g1
  have HB : Hid _ := hbB
  clear hbB hO0 hm hL hps hwk h
  rw [List.take_length] at HLK
  go_enter Tryz.func10, Tryz.ntmps10
  go_wp2_with fail
  refine (show Calls _ _ _ _ _ from HLK.out).mono ?_
  rintro _ w2 ⟨rfl, ⟨B, _, hO⟩, ho⟩
  have HB2 : Hid (Below w.heap.size w w2) := Only.below HB.out ho (by rw [World.size_alloc]; omega) (fun b e => by omega)
  have c0 := hO.cell
  clear hO ho
  go_wp2
  go_ret2
  exact ⟨rfl, HB2.out⟩
end
end Go.Proofs.YtdphlkljenbkcaaGreatDoor
namespace Go.Proofs.YtdphlkljenbkcaaGreatDoor
open Go.RowKit Go.Maps

/-- where a word stands -/
def plsW (wd : ByteArray) : List Pc → List Pl
  | [] => []
  | c :: l => if c.w = wd then c.l ++ plsW wd l else plsW wd l
theorem plsW_append (wd : ByteArray) : ∀ (a b : List Pc), plsW wd (a ++ b) = plsW wd a ++ plsW wd b
  | [], b => by simp [plsW]
  | c :: a, b => by
    rw [List.cons_append, plsW, plsW, plsW_append wd a b]
    split
    · rw [List.append_assoc]
    · rfl
theorem plsW_take (wd : ByteArray) {L : List Pc} {k : Nat} (hk : k < L.length) : plsW wd (L.take (k + 1)) = plsW wd (L.take k) ++ (if L[k].w = wd then L[k].l else []) := by
  rw [List.take_succ_eq_append_getElem hk, plsW_append]
  congr 1
  simp only [plsW]
  split <;> simp
theorem plsW_len (wd : ByteArray) : ∀ (L : List Pc), (plsW wd L).length ≤ cntL L
  | [] => by simp [plsW]
  | c :: l => by
    have := plsW_len wd l
    unfold plsW cntL
    split
    · rw [List.length_append]; omega
    · omega
theorem str_neq {a b : ByteArray} (h : ¬ a = b) : (a.toList == b.toList) = false := by
  rw [beq_eq_false_iff_ne, ByteArray.toList_eq, ByteArray.toList_eq]
  exact fun e => h (ba_ext e)
/-- a slice of places in a variable -/
def PlV (B C : Nat) (xs : List Pl) (w : World) : Prop := ∃ v, Own1 C v w ∧ w.ownsRow B 43 2 v xs.length (plc xs)
set_option maxRecDepth 100000 in
set_option maxHeartbeats 1000000 in
theorem places_no {Bn Bw Bl : Nat} {n c : Nat} {wd wc : ByteArray} {a : Option Addr} (w : World) (h1 : Own1 Bn (.string nN) w) (h2 : Own1 Bw (.string wd) w) (hne : ¬ wc = wd) :
    Calls Tryz.prog 30 #[.agg #[.string nN, .string wc, .slice a n c], .pointer (some ⟨Bn, 0, none⟩), .pointer (some ⟨Bw, 0, none⟩), .pointer (some ⟨Bl, 0, none⟩)] w fun e w' => e = .returned (.tuple #[]) ∧ Below w.heap.size w w' := by
  have hbB : Below w.heap.size w (w.alloc (.cells #[.string nN, .string wc, .slice a n c] 68)) := (Below.refl _ w).alloc (Nat.le_refl _) _
  have HV : Hid (VarN w.heap.size [.string nN, .string wc, .slice a n c] (w.alloc (.cells #[.string nN, .string wc, .slice a n c] 68))) := VarN.new w #[.string nN, .string wc, .slice a n c] 68 (by simp)
  have c0 := (h1.below hbB).cell
  have c1 := (h2.below hbB).cell
  have d0 := HV.out.c3.1
  have d1 := HV.out.c3.2.1
  have l1 := h1.lt
  have l2 := h2.lt
  have HB : Hid _ := hbB
  have hq := str_neq hne
  clear h1 h2 hbB
  go_enter Tryz.func30, Tryz.ntmps30
  go_wp2
  go_end0
  exact ⟨rfl, HB.out⟩
set_option maxRecDepth 100000 in
set_option maxHeartbeats 1000000 in
theorem places_yes {B Bn Bw Bl B5 : Nat} {wd : ByteArray} {v : Value} {xs ys : List Pl} (w : World) (h1 : Own1 Bn (.string nN) w) (h2 : Own1 Bw (.string wd) w) (h3 : PlV B Bl xs w) (hlB : Bl < B) (hv : w.ownsRow B5 43 2 v ys.length (plc ys)) (hpos : 0 < ys.length) (hl : xs.length + ys.length ≤ 1000000) (hB2 : B ≤ w.heap.size) :
    Calls Tryz.prog 30 #[.agg #[.string nN, .string wd, v], .pointer (some ⟨Bn, 0, none⟩), .pointer (some ⟨Bw, 0, none⟩), .pointer (some ⟨Bl, 0, none⟩)] w fun e w' => e = .returned (.tuple #[]) ∧ PlV B Bl (xs ++ ys) w' ∧ Only (fun b => b = Bl ∨ B ≤ b) w w' := by
  obtain ⟨u, u1, u2⟩ := h3
  obtain ⟨i0, hi0, hz0, hz1, hz2⟩ := pinfo_parts infoPl
  obtain ⟨n, hn⟩ : ∃ n, ys.length = n := ⟨_, rfl⟩
  have HN : Hid _ := hn
  rw [hn] at hv hpos hl
  obtain ⟨g5, cap5, rfl, k1, k2⟩ := World.ownsRow.form hv hpos
  have hbB : Below w.heap.size w (w.alloc (.cells #[.string nN, .string wd, .slice (some ⟨g5, 0, none⟩) n cap5] 68)) := (Below.refl _ w).alloc (Nat.le_refl _) _
  have HV : Hid (VarN w.heap.size [.string nN, .string wd, .slice (some ⟨g5, 0, none⟩) n cap5] (w.alloc (.cells #[.string nN, .string wd, .slice (some ⟨g5, 0, none⟩) n cap5] 68))) := VarN.new w #[.string nN, .string wd, .slice (some ⟨g5, 0, none⟩) n cap5] 68 (by simp)
  have HU1 : Hid (Own1 Bl u (w.alloc (.cells #[.string nN, .string wd, .slice (some ⟨g5, 0, none⟩) n cap5] 68))) := u1.below hbB
  have HU2 : Hid ((w.alloc (.cells #[.string nN, .string wd, .slice (some ⟨g5, 0, none⟩) n cap5] 68)).ownsRow B 43 2 u xs.length (plc xs)) := row_below u2 hbB
  have HS : Hid ((w.alloc (.cells #[.string nN, .string wd, .slice (some ⟨g5, 0, none⟩) n cap5] 68)).ownsRow B5 43 2 (.slice (some ⟨g5, 0, none⟩) n cap5) n (plc ys)) := row_below hv hbB
  have c0 := (h1.below hbB).cell
  have c1 := (h2.below hbB).cell
  have c2 := HU1.out.cell
  have d0 := HV.out.c3.1
  have d1 := HV.out.c3.2.1
  have d2 := HV.out.c3.2.2
  have l1 := h1.lt
  have l2 := h2.lt
  have l3 := u1.lt
  have HB : Hid _ := hbB
  clear h1 h2 hbB u1 u2 hv hn
  go_enter Tryz.func30, Tryz.ntmps30
  go_wp2_with (at_builtin; refine wpList_append_lies _ rfl _ _ 36 rfl B 43 i0 (.agg #[.int .i64 0, .int .i64 0]) 2 16 Tryz.underlying36 hi0 hz0 hz1 hz2 rfl (by decide) _ _ _ rfl HU2.out ⟨g5, 0, none⟩ n cap5 (plc ys) rfl (by rw [plc_length, HN.out]) (fun j u hu => HS.out.cells rfl j u hu) (plc_one ys) hpos (by simp only [maxLen]; omega) (by omega) (by rw [World.size_alloc]; omega) _ rfl ?_; intro g' cap' w' hO hG hat hlt'; have hU9 : Own1 Bl u w' := HU1.out.block (hG.block Bl HU1.out.lt (fun e => by have := (World.ownsRow.lt HU2.out Bl e.symm).1; omega)); have f9 := hU9.free; have c9 := hU9.cell)
  go_end0
  refine ⟨rfl, ⟨_, hU9.set _, ?_⟩, ?_⟩
  · rw [List.length_append, HN.out, plc_append]
    exact row_far hO (by omega)
  · have e1 : Only (fun b => b = Bl ∨ B ≤ b) w w' := (below_only HB.out _).trans (grown_only (S := fun b => b = Bl ∨ B ≤ b) hG (fun k e => .inr (World.ownsRow.lt HU2.out k e).1)) (fun _ e => .inl e)
    exact e1.trans (Only.set Bl 0 _ _) (fun _ e => .inl (.inl e))
/-- what its keys begin with -/
def begW (wd : ByteArray) : ByteArray := startF nN wd ++ ⟨#[0]⟩
theorem begW_pfx (c : Pc) : pfx (begW c.w) 0 c.pr.k = true := by
  unfold pfx Lib.hasPrefix
  refine List.isPrefixOf_iff_prefix.2 ⟨rowB c.r, ?_⟩
  show (begW c.w).data.toList ++ rowB c.r = (keyF nN c.w c.r).data.toList
  rw [keyF_list]
  simp [begW, startF]
theorem plsW_filter (wd : ByteArray) : ∀ (L : List Pc), plsW wd (L.filter (fun c => pfx (begW wd) 0 c.pr.k)) = plsW wd L
  | [] => rfl
  | c :: l => by
    rw [List.filter_cons]
    by_cases h : c.w = wd
    · have hb : pfx (begW wd) 0 c.pr.k = true := by rw [← h]; exact begW_pfx c
      rw [hb, if_pos rfl, plsW, plsW, if_pos h, if_pos h, plsW_filter wd l]
    · rw [plsW, if_neg h]
      split
      · rw [plsW, if_neg h, plsW_filter wd l]
      · exact plsW_filter wd l
section
variable {bf bt bp bd bm N : Nat} {up : Nat → Bool} {V : Pst} {T : Tr} {w : World} {L : List Pc}
set_option maxRecDepth 100000 in
set_option maxHeartbeats 1000000 in
theorem places_any (h : Fs bf bt bp bd bm N up V T w) {m : Int} (hm : w.cell? ⟨2, 0, none⟩ = some (.int .i64 m)) (hL : ∀ c ∈ L, c.Ok) (hps : T.all = L.map Pc.pr) (hLl : L.length ≤ 10000) (wd : ByteArray) (hwd : wd.size ≤ 100) :
    Calls Tryz.prog 12 #[.pointer (some ⟨bf, 0, none⟩), .string nN, .string wd] w fun e w' => ∃ v, e = .returned (.tuple #[v, .nilIface]) ∧ w'.ownsRow w.heap.size 43 2 v (plsW wd L).length (plc (plsW wd L)) ∧ Below w.heap.size w w' := by
  obtain ⟨w0, hw0⟩ : ∃ w0, ((w.alloc (.cells #[.string nN] 9)).alloc (.cells #[.string wd] 9)).alloc (.cells #[.slice none 0 0] 36) = w0 := ⟨_, rfl⟩
  have hbB : Below w.heap.size w w0 := by rw [← hw0]; exact (((Below.refl _ w).alloc (Nat.le_refl _) _).alloc (by simp) _).alloc (by simp only [World.size_alloc]; omega) _
  have hsz : w0.heap.size = w.heap.size + 3 := by rw [← hw0]; simp
  have o1 : Own1 w.heap.size (.string nN) w0 := by
    rw [← hw0]
    exact ((Own1.new w (.string nN) 9).below ((Below.refl _ _).alloc (Nat.le_refl _) _)).below ((Below.refl _ _).alloc (Nat.le_refl _) _)
  have o2 : Own1 (w.heap.size + 1) (.string wd) w0 := by
    rw [← hw0]
    have := Own1.new (w.alloc (.cells #[.string nN] 9)) (.string wd) 9
    rw [World.size_alloc] at this
    exact this.below ((Below.refl _ _).alloc (Nat.le_refl _) _)
  have o3 : Own1 (w.heap.size + 2) (.slice none 0 0) w0 := by
    rw [← hw0]
    have := Own1.new ((w.alloc (.cells #[.string nN] 9)).alloc (.cells #[.string wd] 9)) (.slice none 0 0) 36
    rw [World.size_alloc, World.size_alloc] at this
    exact this
  have hmf : ∀ (fn : Fn) (first cap : Array Value) (w : World), (Instr.makeFunc fn first cap).run Tryz.prog w = .ok (.func fn first cap) w := fun _ _ _ _ => rfl
  have hm2 : 2 < w.heap.size := World.block_lt_of_cell? _ _ hm
  have hwk : walkL (pfx (begW wd)) (begW wd) 0 T.all = (L.filter (fun c => pfx (begW wd) 0 c.pr.k)).map Pc.pr := by
    rw [walkP (begW wd) T.all 0 h.sorted, hps, List.filter_map]
    rfl
  have hpf := plsW_filter wd L
  have hcnt := cntL_le hL
  have hlen := plsW_len wd L
  have hLf : ∀ c ∈ L.filter (fun c => pfx (begW wd) 0 c.pr.k), c.Ok := fun c hc => hL c ((List.mem_filter.1 hc).1)
  have hLfl : (L.filter (fun c => pfx (begW wd) 0 c.pr.k)).length ≤ 10000 := Nat.le_trans (List.length_filter_le _ _) hLl
  generalize L.filter (fun c => pfx (begW wd) 0 c.pr.k) = L' at *
  have HLK : Hid (Calls Tryz.prog 24 #[.pointer (some ⟨bf, 0, none⟩), .string (begW wd), .func (.func 30) #[] #[.pointer (some ⟨w.heap.size, 0, none⟩), .pointer (some ⟨w.heap.size + 1, 0, none⟩), .pointer (some ⟨w.heap.size + 2, 0, none⟩)]] w0 fun e w' => e = .returned .nilIface ∧ (∃ B, w0.heap.size ≤ B ∧ (Own1 w.heap.size (.string nN) w' ∧ Own1 (w.heap.size + 1) (.string wd) w' ∧ PlV B (w.heap.size + 2) (plsW wd (L'.take L'.length)) w')) ∧ Only (fun b => b = w.heap.size + 2) w0 w') := by
    refine look_any (I := fun B k wx => Own1 w.heap.size (.string nN) wx ∧ Own1 (w.heap.size + 1) (.string wd) wx ∧ PlV B (w.heap.size + 2) (plsW wd (L'.take k)) wx) (h.below hbB) (keepc hbB hm) (begW wd) hLf hwk hLfl (fun b e => ?_) (enters_of Tryz.func30 (by kernel_rfl) rfl) (fun B wx h1 h2 h3 => ⟨o1.below h3, o2.below h3, _, o3.below h3, World.ownsRow_nil _ _ _ _⟩) (fun B k hk v wr wx h1 h2 h3 h4 h5 => ?_)
    · subst e; exact ⟨by omega, by omega⟩
    · obtain ⟨j1, j2, v3, j3, j4⟩ := h3
      have hok := hLf L'[k] (List.getElem_mem hk)
      have hsb := h4.size
      have hlk : (plsW wd (L'.take k)).length ≤ 200000 := by
        have a1 := plsW_len wd (L'.take k)
        have a2 := cntL_le (L := L'.take k) (fun c hc => hLf c (List.mem_of_mem_take hc))
        rw [List.length_take] at a2
        omega
      by_cases hw : L'[k].w = wd
      · refine (show Calls _ _ _ _ _ from ?_).mono (fun e w' hh => hh)
        have hl20 := hok.len
        have := places_yes (Bl := w.heap.size + 2) wx (j1.below h4) (j2.below h4) ⟨v3, j3.below h4, row_below j4 h4⟩ (by omega) h5 hok.pos (by omega) (by omega)
        rw [hw]
        refine this.mono ?_
        rintro e w' ⟨rfl, g1, g2⟩
        refine ⟨rfl, ⟨(j1.below h4).only g2 (by omega), (j2.below h4).only g2 (by omega), ?_⟩, g2.mono (fun _ e => e)⟩
        rw [plsW_take wd hk, if_pos hw]
        exact g1
      · obtain ⟨a5, c5, rfl⟩ := row_slice h5
        refine (places_no (Bl := w.heap.size + 2) wx (j1.below h4) (j2.below h4) hw).mono ?_
        rintro e w' ⟨rfl, g1⟩
        refine ⟨rfl, ⟨(j1.below h4).below g1, (j2.below h4).below g1, ?_⟩, below_only g1 _⟩
        rw [plsW_take wd hk, if_neg hw, List.append_nil]
        exact ⟨v3, (j3.below h4).below g1, row_below (row_below j4 h4) g1⟩
  have HB : Hid _ := hbB
  have HSZ : Hid _ := hsz
  rw [List.take_length, hpf] at HLK
  have c1 := o1.cell
  have c2 := o2.cell
  have hadd := str_long (startF nN wd) ⟨#[0]⟩ (by rw [startF_size]; show 1 + 1 + wd.size + 1 ≤ _; omega)
  have HSA : Hid _ := startF_any nN wd (by decide) (by omega)
  rw [show startF nN wd ++ ⟨#[0]⟩ = begW wd from rfl] at hadd
  clear hbB o1 o2 o3 hm hL hps hwk h hpf hcnt hlen hLf hLfl hsz
  go_enter Tryz.func12, Tryz.ntmps12
  go_wp2_with fail
  refine (show Calls _ _ _ _ _ from HSA.out w0).mono ?_
  rintro _ w9 ⟨rfl, h9⟩
  obtain rfl := h9.symm
  clear h9
  go_wp2_with fail
  refine (show Calls _ _ _ _ _ from HLK.out).mono ?_
  rintro _ w2 ⟨rfl, ⟨B, hB0, _, _, v, hO, hR⟩, ho⟩
  have HB2 : Hid (Below w.heap.size w w2) := Only.below HB.out ho HB.out.size (fun b e => by omega)
  have HR : Hid (w2.ownsRow w.heap.size 43 2 v (plsW wd L).length (plc (plsW wd L))) := row_base hR (by have := HSZ.out; omega)
  have c0 : w2.cell? ⟨w.heap.size + 1 + 1, 0, none⟩ = some v := hO.cell
  clear hO ho hR
  go_wp2
  go_ret2
  exact ⟨_, rfl, HR.out, HB2.out⟩
end
end Go.Proofs.YtdphlkljenbkcaaGreatDoor
namespace Go.Proofs.YtdphlkljenbkcaaGreatDoor
open Go.RowKit Go.Maps

theorem row_cut {w : World} {B g n k cap : Nat} {e : TypeId} {xs : List Value} (h : w.ownsRow B e 1 (.slice (some ⟨g, 0, none⟩) n cap) n xs) (hk : k ≤ n) : w.ownsRow B e 1 (.slice (some ⟨g, 0, none⟩) k cap) k (xs.take k) := by
  refine ⟨by rw [List.length_take, h.1]; omega, .inr ?_⟩
  rcases h.2 with ⟨e1, _⟩ | ⟨g', cap', cur, e1, h1, h2, h3, h4, h5, h6⟩
  · cases e1
  · cases e1
    refine ⟨g, cap, cur, rfl, h1, h2, by omega, h4, h5, ?_⟩
    rw [← h6, List.take_take]
    congr 1
    omega
theorem compact_le {α : Type} [Inhabited α] [DecidableEq α] (zs : List α) : (Lib.compact zs).length ≤ zs.length := by
  unfold Lib.compact Lib.compactUpTo
  rw [List.length_map]
  exact Nat.le_trans (List.length_filter_le _ _) (by rw [List.length_range]; exact Nat.le_refl _)
theorem compact_any {B : Nat} {v : Value} {w : World} {zs : List (List UInt8)} (h : w.ownsRow B 9 1 v zs.length (zs.map encStr)) :
    Calls Tryz.prog 28 #[v] w fun e w' => ∃ v', e = .returned v' ∧ w'.ownsRow B 9 1 v' (Lib.compact zs).length ((Lib.compact zs).map encStr) ∧ Only (fun b => B ≤ b) w w' := by
  rcases h.2 with ⟨rfl, h0⟩ | ⟨g, cap, cur, rfl, h1, h2, h3, h4, h5, h6⟩
  · have : zs = [] := List.length_eq_zero_iff.1 h0
    subst this
    refine (Tryz.slices_Compact_string_empty none 0 w).mono ?_
    rintro _ _ ⟨rfl, rfl⟩
    exact ⟨_, rfl, World.ownsRow_nil _ _ _ _, Only.refl _ _⟩
  · rw [Nat.mul_one] at h6
    refine (Tryz.slices_Compact_string g 0 cap zs w (holds_of_block h2 h6) (row_max h) h3).mono ?_
    have hcl := compact_le zs
    rintro _ _ ⟨rfl, q, rfl⟩
    have hg : ∀ x : World, x = Go.Sort.grow x #[] := fun x => by simp [Go.Sort.grow]
    rw [hg (Go.Sort.putRow _ _ _ _ _)]
    refine ⟨_, rfl, ?_, ?_⟩
    · have ho := ownsRow_sorted (w := w) (base := B) (g := g) (cap := cap) (n := q) (os := #[]) (ss := zs) (ts := Lib.compact zs ++ List.replicate (zs.length - (Lib.compact zs).length) []) (by rw [List.length_append, List.length_replicate]; omega) h1 h2 h3 h4 h5
      have := row_cut ho hcl
      rw [List.map_append, List.take_left' (by rw [List.length_map])] at this
      exact this
    · exact grown_only (grownBy_sorted _) (fun b e => by cases e; exact h1)
/-- the words of pieces, each once -/
def begL (L : List Pc) : List ByteArray := (Lib.compact (L.map (fun c => c.w.data.toList))).map (fun l => ⟨l.toArray⟩)
def SlV (B C : Nat) (xs : List ByteArray) (w : World) : Prop := ∃ v, Own1 C v w ∧ w.ownsRow B 9 1 v xs.length (sc xs)
set_option maxRecDepth 100000 in
set_option maxHeartbeats 1000000 in
theorem begin_cl {B Bn Bs Bl n c : Nat} {wd : ByteArray} {a : Option Addr} {xs : List ByteArray} (w : World) (h1 : Own1 Bn (.string nN) w) (h2 : Own1 Bs (.string ⟨#[]⟩) w) (h3 : SlV B Bl xs w) (hlB : Bl < B) (hl : xs.length ≤ 1000000) (hB2 : B ≤ w.heap.size) :
    Calls Tryz.prog 26 #[.agg #[.string nN, .string wd, .slice a n c], .pointer (some ⟨Bn, 0, none⟩), .pointer (some ⟨Bs, 0, none⟩), .pointer (some ⟨Bl, 0, none⟩)] w fun e w' => e = .returned (.tuple #[]) ∧ SlV B Bl (xs ++ [wd]) w' ∧ Only (fun b => b = Bl ∨ B ≤ b) w w' := by
  obtain ⟨u, u1, u2⟩ := h3
  obtain ⟨i0, hi0, hz0, hz1, hz2⟩ := info9
  have hbB : Below w.heap.size w (w.alloc (.cells #[.string nN, .string wd, .slice a n c] 68)) := (Below.refl _ w).alloc (Nat.le_refl _) _
  have HV : Hid (VarN w.heap.size [.string nN, .string wd, .slice a n c] (w.alloc (.cells #[.string nN, .string wd, .slice a n c] 68))) := VarN.new w #[.string nN, .string wd, .slice a n c] 68 (by simp)
  have HU1 : Hid (Own1 Bl u (w.alloc (.cells #[.string nN, .string wd, .slice a n c] 68))) := u1.below hbB
  have HU2 : Hid ((w.alloc (.cells #[.string nN, .string wd, .slice a n c] 68)).ownsRow B 9 1 u xs.length (sc xs)) := row_below u2 hbB
  have c0 := (h1.below hbB).cell
  have c1 := (h2.below hbB).cell
  have c2 := HU1.out.cell
  have d0 := HV.out.c3.1
  have d1 := HV.out.c3.2.1
  have l1 := h1.lt
  have l2 := h2.lt
  have l3 := u1.lt
  have HB : Hid _ := hbB
  have HHP : Hid (∀ wx, Calls Tryz.prog 27 #[.string wd, .string ⟨#[]⟩] wx fun e w' => e = .returned (.bool true) ∧ w' = wx) := fun wx => (hasPrefix_any wd ⟨#[]⟩ wx).mono (fun e w' hh => by
    have : Lib.hasPrefix wd.data.toList (⟨#[]⟩ : ByteArray).data.toList = true := rfl
    rw [this] at hh
    exact hh)
  clear h1 h2 hbB u1 u2
  go_enter Tryz.func26, Tryz.ntmps26
  go_wp2_with fail
  refine (show Calls _ _ _ _ _ from HHP.out _).mono ?_
  rintro _ w9 ⟨rfl, h9⟩
  obtain rfl := h9.symm
  clear h9
  have hbC : Below (w.alloc (.cells #[.string nN, .string wd, .slice a n c] 68)).heap.size (w.alloc (.cells #[.string nN, .string wd, .slice a n c] 68)) ((w.alloc (.cells #[.string nN, .string wd, .slice a n c] 68)).alloc (.cells #[.string wd] 9)) := (Below.refl _ _).alloc (Nat.le_refl _) _
  have HR3 : Hid (((w.alloc (.cells #[.string nN, .string wd, .slice a n c] 68)).alloc (.cells #[.string wd] 9)).ownsRow B 9 1 u xs.length (sc xs)) := row_below HU2.out hbC
  have HU3 : Hid (Own1 Bl u ((w.alloc (.cells #[.string nN, .string wd, .slice a n c] 68)).alloc (.cells #[.string wd] 9))) := HU1.out.below hbC
  have HNW : Hid (∀ (j : Nat) (u : Value), [Value.string wd][j]? = some u → ((w.alloc (.cells #[.string nN, .string wd, .slice a n c] 68)).alloc (.cells #[.string wd] 9)).cell? ((⟨w.heap.size + 1, 0, none⟩ : Addr).add j) = some u) := by
    intro j u hu
    cases j with
    | succ j => simp at hu
    | zero =>
      simp at hu
      subst hu
      have := (Own1.new (w.alloc (.cells #[.string nN, .string wd, .slice a n c] 68)) (.string wd) 9).cell
      rw [World.size_alloc] at this
      rw [add_pl]
      exact this
  have HBC : Hid (Below w.heap.size w ((w.alloc (.cells #[.string nN, .string wd, .slice a n c] 68)).alloc (.cells #[.string wd] 9))) := HB.out.trans (hbC.mono HB.out.size)
  clear hbC
  go_wp2_with (at_builtin; refine wpList_append_lies _ rfl _ _ 22 rfl B 9 i0 (.string ⟨#[]⟩) 1 16 Tryz.underlying22 hi0 hz0 hz1 hz2 rfl (by decide) _ _ _ rfl HR3.out ⟨w.heap.size + 1, 0, none⟩ 1 1 [.string wd] rfl rfl HNW.out (by intro u hu; simp at hu; subst hu; rfl) (by decide) (by simp only [maxLen]; omega) (by omega) (by simp only [World.size_alloc]; omega) _ rfl ?_; intro g' cap' w' hO hG hat hlt'; have hU9 : Own1 Bl u w' := HU3.out.block (hG.block Bl HU3.out.lt (fun e => by have := (World.ownsRow.lt HR3.out Bl e.symm).1; omega)); have f9 := hU9.free; have c9 := hU9.cell)
  go_end0
  refine ⟨rfl, ⟨_, hU9.set _, ?_⟩, ?_⟩
  · rw [List.length_append, sc_append]
    exact row_far hO (by omega)
  · have e1 : Only (fun b => b = Bl ∨ B ≤ b) w w' := (below_only HBC.out _).trans (grown_only (S := fun b => b = Bl ∨ B ≤ b) hG (fun k e => .inr (World.ownsRow.lt HR3.out k e).1)) (fun _ e => .inl e)
    exact e1.trans (Only.set Bl 0 _ _) (fun _ e => .inl (.inl e))
section
variable {bf bt bp bd bm N : Nat} {up : Nat → Bool} {V : Pst} {T : Tr} {w : World} {L : List Pc}
theorem beg_all {c : Pc} : pfx (startF nN ⟨#[]⟩) 0 c.pr.k = true := by
  unfold pfx Lib.hasPrefix
  refine List.isPrefixOf_iff_prefix.2 ⟨c.w.data.toList ++ 0 :: rowB c.r, ?_⟩
  show _ = (keyF nN c.w c.r).data.toList
  rw [keyF_list, startF_list]
  simp
theorem sc_compact (L : List Pc) : (Lib.compact (L.map (fun c => c.w.data.toList))).map encStr = sc (begL L) := by
  unfold begL sc
  rw [List.map_map]
  exact List.map_congr_left fun x _ => rfl
theorem sc_words (L : List Pc) : (L.map (fun c => c.w.data.toList)).map encStr = sc (L.map Pc.w) := by
  unfold sc
  rw [List.map_map, List.map_map]
  exact List.map_congr_left fun x _ => rfl
set_option maxRecDepth 100000 in
set_option maxHeartbeats 1000000 in
theorem begin_any (h : Fs bf bt bp bd bm N up V T w) {m : Int} (hm : w.cell? ⟨2, 0, none⟩ = some (.int .i64 m)) (hL : ∀ c ∈ L, c.Ok) (hps : T.all = L.map Pc.pr) (hLl : L.length ≤ 10000) :
    Calls Tryz.prog 9 #[.pointer (some ⟨bf, 0, none⟩), .string nN, .string ⟨#[]⟩] w fun e w' => ∃ v, e = .returned (.tuple #[v, .nilIface]) ∧ w'.ownsRow w.heap.size 9 1 v (begL L).length (sc (begL L)) ∧ Below w.heap.size w w' := by
  obtain ⟨w0, hw0⟩ : ∃ w0, ((w.alloc (.cells #[.string nN] 9)).alloc (.cells #[.string ⟨#[]⟩] 9)).alloc (.cells #[.slice none 0 0] 22) = w0 := ⟨_, rfl⟩
  have hbB : Below w.heap.size w w0 := by rw [← hw0]; exact (((Below.refl _ w).alloc (Nat.le_refl _) _).alloc (by simp) _).alloc (by simp only [World.size_alloc]; omega) _
  have hsz : w0.heap.size = w.heap.size + 3 := by rw [← hw0]; simp
  have o1 : Own1 w.heap.size (.string nN) w0 := by
    rw [← hw0]
    exact ((Own1.new w (.string nN) 9).below ((Below.refl _ _).alloc (Nat.le_refl _) _)).below ((Below.refl _ _).alloc (Nat.le_refl _) _)
  have o2 : Own1 (w.heap.size + 1) (.string ⟨#[]⟩) w0 := by
    rw [← hw0]
    have := Own1.new (w.alloc (.cells #[.string nN] 9)) (.string ⟨#[]⟩) 9
    rw [World.size_alloc] at this
    exact this.below ((Below.refl _ _).alloc (Nat.le_refl _) _)
  have o3 : Own1 (w.heap.size + 2) (.slice none 0 0) w0 := by
    rw [← hw0]
    have := Own1.new ((w.alloc (.cells #[.string nN] 9)).alloc (.cells #[.string ⟨#[]⟩] 9)) (.slice none 0 0) 22
    rw [World.size_alloc, World.size_alloc] at this
    exact this
  have hmf : ∀ (fn : Fn) (first cap : Array Value) (w : World), (Instr.makeFunc fn first cap).run Tryz.prog w = .ok (.func fn first cap) w := fun _ _ _ _ => rfl
  have hm2 : 2 < w.heap.size := World.block_lt_of_cell? _ _ hm
  have hwk : walkL (pfx (startF nN ⟨#[]⟩)) (startF nN ⟨#[]⟩) 0 T.all = L.map Pc.pr := by
    rw [walkP _ T.all 0 h.sorted, hps]
    refine List.filter_eq_self.2 (fun x hx => ?_)
    obtain ⟨c, _, rfl⟩ := List.mem_map.1 hx
    exact beg_all
  have HLK : Hid (Calls Tryz.prog 24 #[.pointer (some ⟨bf, 0, none⟩), .string (startF nN ⟨#[]⟩), .func (.func 26) #[] #[.pointer (some ⟨w.heap.size, 0, none⟩), .pointer (some ⟨w.heap.size + 1, 0, none⟩), .pointer (some ⟨w.heap.size + 2, 0, none⟩)]] w0 fun e w' => e = .returned .nilIface ∧ (∃ B, w0.heap.size ≤ B ∧ (Own1 w.heap.size (.string nN) w' ∧ Own1 (w.heap.size + 1) (.string ⟨#[]⟩) w' ∧ SlV B (w.heap.size + 2) ((L.take L.length).map Pc.w) w')) ∧ Only (fun b => b = w.heap.size + 2) w0 w') := by
    refine look_any (I := fun B k wx => Own1 w.heap.size (.string nN) wx ∧ Own1 (w.heap.size + 1) (.string ⟨#[]⟩) wx ∧ SlV B (w.heap.size + 2) ((L.take k).map Pc.w) wx) (h.below hbB) (keepc hbB hm) (startF nN ⟨#[]⟩) hL hwk hLl (fun b e => ?_) (enters_of Tryz.func26 (by kernel_rfl) rfl) (fun B wx h1 h2 h3 => ⟨o1.below h3, o2.below h3, _, o3.below h3, World.ownsRow_nil _ _ _ _⟩) (fun B k hk v wr wx h1 h2 h3 h4 h5 => ?_)
    · subst e; exact ⟨by omega, by omega⟩
    · obtain ⟨j1, j2, v3, j3, j4⟩ := h3
      have hsb := h4.size
      obtain ⟨a5, c5, rfl⟩ := row_slice h5
      refine (begin_cl (B := B) (Bl := w.heap.size + 2) (xs := (L.take k).map Pc.w) wx (j1.below h4) (j2.below h4) ⟨v3, j3.below h4, row_below j4 h4⟩ (by omega) (by rw [List.length_map, List.length_take]; omega) (by omega)).mono ?_
      rintro e w' ⟨rfl, g1, g2⟩
      refine ⟨rfl, ⟨(j1.below h4).only g2 (by omega), (j2.below h4).only g2 (by omega), ?_⟩, g2.mono (fun _ e => e)⟩
      rw [List.take_succ_eq_append_getElem hk, List.map_append]
      exact g1
  have HB : Hid _ := hbB
  have HSZ : Hid _ := hsz
  rw [List.take_length] at HLK
  have c1 := o1.cell
  have c2 := o2.cell
  have HSA : Hid _ := startF_any nN ⟨#[]⟩ (by decide) (by decide)
  clear hbB o1 o2 o3 hm hL hps hwk h hsz
  go_enter Tryz.func9, Tryz.ntmps9
  go_wp2_with fail
  refine (show Calls _ _ _ _ _ from HSA.out w0).mono ?_
  rintro _ w9 ⟨rfl, h9⟩
  obtain rfl := h9.symm
  clear h9
  go_wp2_with fail
  refine (show Calls _ _ _ _ _ from HLK.out).mono ?_
  rintro _ w2 ⟨rfl, ⟨B, hB0, _, _, v, hO, hR⟩, ho⟩
  have HB2 : Hid (Below w.heap.size w w2) := Only.below HB.out ho HB.out.size (fun b e => by omega)
  have HCP : Hid (Calls Tryz.prog 28 #[v] w2 fun e w' => ∃ v', e = .returned v' ∧ w'.ownsRow w.heap.size 9 1 v' (begL L).length (sc (begL L)) ∧ Below w.heap.size w w') := by
    have hr2 : w2.ownsRow w.heap.size 9 1 v (L.map (fun c => c.w.data.toList)).length ((L.map (fun c => c.w.data.toList)).map encStr) := by
      rw [sc_words, List.length_map]
      rw [List.length_map] at hR
      exact row_base hR (by have := HSZ.out; omega)
    refine (compact_any hr2).mono ?_
    rintro e w' ⟨v', rfl, g1, g2⟩
    refine ⟨v', rfl, ?_, Only.below HB2.out g2 HB2.out.size (fun _ e => e)⟩
    rw [sc_compact] at g1
    unfold begL at g1 ⊢
    rw [List.length_map]
    exact g1
  have c0 : w2.cell? ⟨w.heap.size + 1 + 1, 0, none⟩ = some v := hO.cell
  clear hO ho hR
  go_wp2_with fail
  refine (show Calls _ _ _ _ _ from HCP.out).mono ?_
  rintro _ w3 ⟨v', rfl, g1, g2⟩
  have HR : Hid _ := g1
  have HB3 : Hid _ := g2
  clear g1 g2
  go_wp2
  go_ret2
  exact ⟨_, rfl, HR.out, HB3.out⟩
end
end Go.Proofs.YtdphlkljenbkcaaGreatDoor
