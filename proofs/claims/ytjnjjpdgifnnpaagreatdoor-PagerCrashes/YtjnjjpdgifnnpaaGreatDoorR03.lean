/- Texts of the proof of PagerCrashes: Sav0, Pge, As, Set, As2, As3, Place, Cal0, Pge2, Cal, Srk, Sav1. -/
import Derived.Test.YtjnjjpdgifnnpaaGreatDoorR02
import Derived.Laws.IdiomStrings
import Derived.Handy
import Derived.LaidEql
import Derived.Stop.Asserts
import Derived.RowKitTokens
namespace Go.Proofs.YtjnjjpdgifnnpaaGreatDoor
open Go.RowKit Go.Maps

/-- with one place turned -/
def flip1 (up : Nat → Bool) (k : Nat) : Nat → Bool := fun i => if i = k then !up k else up i

/-- these pages are written -/
structure SavI (p : Pg) (pg pg' : Nat → ByteArray) (up : Nat → Bool) (done : List Nat) : Prop where
  up : ∀ k, up k = if k ∈ done then !p.upper k else p.upper k
  page : ∀ k t, k ∈ done → p.chg k = some t → pg' (placeF k (!p.upper k)) = t
  rest : ∀ j, (∀ k ∈ done, j ≠ placeF k (!p.upper k)) → pg' j = pg j
  low : ∀ k ∈ done, k < 2000
section
variable {p : Pg} {pg pg' : Nat → ByteArray} {up : Nat → Bool} {done : List Nat} {k : Nat} {t : ByteArray}
theorem SavI.start : SavI p pg pg p.upper [] := ⟨fun k => by simp, fun _ _ h => (by cases h), fun _ _ => rfl, fun _ h => (by cases h)⟩
theorem SavI.not (h : SavI p pg pg' up done) (hk : k ∉ done) : up k = p.upper k := by rw [h.up k, if_neg hk]
theorem SavI.step (h : SavI p pg pg' up done) (hk : k ∉ done) (hl : k < 2000) (ht : p.chg k = some t) : SavI p pg (upd pg' (placeF k (!p.upper k)) t) (flip1 up k) (done ++ [k]) := by
  refine ⟨fun i => ?_, fun i s hi hs => ?_, fun j hj => ?_, fun i hi => ?_⟩
  · unfold flip1
    by_cases e : i = k
    · subst e
      rw [if_pos rfl, if_pos (by simp), h.not hk]
    · rw [if_neg e, h.up i]
      by_cases m : i ∈ done
      · rw [if_pos m, if_pos (by simp [m])]
      · rw [if_neg m, if_neg (by simp [m, e])]
  · unfold upd
    by_cases e : i = k
    · subst e
      rw [if_pos rfl]
      rw [ht] at hs; cases hs; rfl
    · have hi' : i ∈ done := by
        rcases List.mem_append.1 hi with m | m
        · exact m
        · exact absurd (List.mem_singleton.1 m) e
      rw [if_neg (fun e' => e (placeF_inj (h.low i hi') hl e').1)]
      exact h.page i s hi' hs
  · unfold upd
    rw [if_neg (hj k (by simp))]
    exact h.rest j (fun i hi => hj i (by simp [hi]))
  · rcases List.mem_append.1 hi with m | m
    · exact h.low i m
    · rw [List.mem_singleton.1 m]; exact hl
theorem SavI.away (h : SavI p pg pg' up done) (hl : k < 2000) : pg' (placeF k (p.upper k)) = pg (placeF k (p.upper k)) :=
  h.rest _ (fun i hi e => by
    obtain ⟨e1, e2⟩ := placeF_inj hl (h.low i hi) e
    subst e1
    cases hu : p.upper k <;> rw [hu] at e2 <;> cases e2)
theorem SavI.turn (h : SavI p pg pg' up done) : pg' 4000 = pg 4000 := h.rest _ (fun i hi e => placeF_turn (h.low i hi) _ e.symm)
theorem SavI.kept (h : SavI p pg pg' up done) (hl : k < 2000) (X : ByteArray) : Kept p pg (upd pg' (placeF k (!p.upper k)) X) := by
  refine ⟨?_, fun i hi => ?_⟩
  · unfold tb upd
    rw [if_neg (fun e => placeF_turn hl _ e.symm), h.turn]
  · unfold upd
    rw [if_neg (fun e => by
      obtain ⟨e1, e2⟩ := placeF_inj hi hl e
      subst e1
      cases hu : p.upper i <;> rw [hu] at e2 <;> cases e2)]
    exact h.away hi
theorem SavI.all (h : SavI p pg pg' up done) (hk : KeysOf p.chg done) (ho : p.Ok) : flip1 up 0 = p.up := by
  funext i
  have h0 : 0 ∉ done := fun m => by
    have := (hk.2 0).1 m
    rw [ho.none0] at this; cases this
  unfold flip1 Pg.up
  by_cases e : i = 0
  · subst e
    rw [if_pos rfl, if_pos (.inl rfl), h.not h0]
  · rw [if_neg e, h.up i]
    by_cases m : i ∈ done
    · rw [if_pos m, if_pos (.inr ((hk.2 i).1 m))]
    · rw [if_neg m, if_neg (fun x => by
        rcases x with x | x
        · exact e x
        · exact m ((hk.2 i).2 x))]
theorem SavI.whole (h : SavI p pg pg' up done) (hk : KeysOf p.chg done) (ho : p.Ok) (g : Nat → Nat) (hH : IsHead p.used p.up p.rp p.rn g) (hg : ∀ j, g j < 256) (T : ByteArray) (hT : (T.data.toList.getD 0 0 != 0) = !p.upper 0) :
    Done p pg (upd (upd pg' (placeF 0 (!p.upper 0)) ⟨(bytesOf g).toArray⟩) 4000 T) := by
  refine ⟨?_, ⟨g, ?_, hH, hg⟩, fun i s hs => ?_, fun i h0 hi hn => ?_⟩
  · unfold tb
    show ((if 4000 = 4000 then T else _ : ByteArray).data.toList.getD 0 0 != 0) = _
    rw [if_pos rfl]; exact hT
  · show (if placeF 0 (!p.upper 0) = 4000 then T else if placeF 0 (!p.upper 0) = placeF 0 (!p.upper 0) then _ else _) = _
    rw [if_neg (placeF_turn (by omega) _), if_pos rfl]
  · have hl := (ho.chg i s hs).2.1
    have hn0 : i ≠ 0 := fun e => by rw [e, ho.none0] at hs; cases hs
    show (if placeF i (!p.upper i) = 4000 then T else if placeF i (!p.upper i) = placeF 0 (!p.upper 0) then _ else pg' _) = _
    rw [if_neg (placeF_turn hl _), if_neg (fun e => hn0 (placeF_inj hl (by omega) e).1)]
    exact h.page i s ((hk.2 i).2 (by rw [hs]; rfl)) hs
  · show (if placeF i (p.upper i) = 4000 then T else if placeF i (p.upper i) = placeF 0 (!p.upper 0) then _ else pg' _) = _
    rw [if_neg (placeF_turn hi _), if_neg (fun e => by have := (placeF_inj hi (by omega) e).1; omega)]
    exact h.away hi
theorem SavI.kept_turn (h : SavI p pg pg' up done) (X T : ByteArray) (hT : (T.data.toList.getD 0 0 != 0) = tb pg) : Kept p pg (upd (upd pg' (placeF 0 (!p.upper 0)) X) 4000 T) := by
  refine ⟨?_, fun i hi => ?_⟩
  · unfold tb
    show ((if 4000 = 4000 then T else _ : ByteArray).data.toList.getD 0 0 != 0) = _
    rw [if_pos rfl]; exact hT
  · show (if placeF i (p.upper i) = 4000 then T else upd pg' (placeF 0 (!p.upper 0)) X _) = _
    rw [if_neg (placeF_turn hi _)]
    exact (h.kept (k := 0) (by omega) X).page i hi
end
/-- the first byte of a page that is torn -/
theorem torn_first (T old : ByteArray) (t : Nat) (hT : T.size = 1024) : (tornPage T old t).data.toList.getD 0 0 = if t = 0 then old.data.toList.getD 0 0 else T.data.toList.getD 0 0 := by
  have hl : T.data.toList.length = 1024 := by simpa using hT
  show ((T.data.toList.take t ++ old.data.toList.drop t).toArray.toList).getD 0 0 = _
  rw [List.toList_toArray]
  cases t with
  | zero => simp
  | succ t =>
    rw [if_neg (by omega)]
    match hb : T.data.toList with
    | [] => rw [hb] at hl; cases hl
    | a :: r => simp
/-- the first byte of a turn -/
theorem turn_first {g : Nat → Nat} {up : Bool} (h : g 0 = if up then 1 else 0) : ((⟨(bytesOf g).toArray⟩ : ByteArray).data.toList.getD 0 0 != 0) = up := by
  simp only []
  rw [bytesOf_getD g (by omega), h]
  cases up <;> rfl
theorem text_size (g : Nat → Nat) : (⟨(bytesOf g).toArray⟩ : ByteArray).size = 1024 := by
  simp only [ByteArray.size]
  rw [List.size_toArray, bytesOf_len]

/-- a write: it is done, or the power went off in it -/
theorem write_sure {b : Nat} {s : St} {w : World} (h : Prg b s w) (ho : s.Ok) (k : Nat) (hk : k < 4001) (p : ByteArray) (hp : p.size = 1024) :
    Calls Tryz.prog 54 #[.pointer (some ⟨b, 0, none⟩), .int .i64 k, .string p] w fun e w' => ∃ (E : Value) (s' : St), e = .returned E ∧ Prg b s' w' ∧ s'.Ok ∧ s'.ends = s.ends ∧ w.grownBy w' (some b) ∧
      ((E = .nilIface ∧ s'.pg = upd s.pg k p) ∨ (E = .iface 33 (.int .i64 14) ∧ s.ends = true ∧ ∃ t, s'.pg = upd s.pg k (tornPage p (s.pg k) t))) := by
  have hok := ho.wr k p
  obtain ⟨pg, ends, left, torn⟩ := s
  have hin : inside (k : Int) = true := by simp [inside]; omega
  have o1 := ho.torn
  have o2 := ho.low
  have o3 := ho.high
  simp only at o1 o2 o3
  cases ends
  · refine (write_still h k hk p hp).mono ?_
    rintro _ w' ⟨rfl, hd, hg⟩
    have e : (⟨pg, false, left, torn⟩ : St).wr k p = ⟨upd pg k p, false, left, torn⟩ := by simp [St.wr, hin, St.pow]
    rw [e] at hok
    exact ⟨_, ⟨upd pg k p, false, left, torn⟩, rfl, hd, hok, rfl, hg, .inl ⟨rfl, rfl⟩⟩
  · by_cases hl : 0 < left
    · refine (write_less h hl o3 k hk p hp).mono ?_
      rintro _ w' ⟨rfl, hd, hg⟩
      have e : (⟨pg, true, left, torn⟩ : St).wr k p = ⟨upd pg k p, true, left - 1, torn⟩ := by simp [St.wr, hin, St.pow, hl]
      rw [e] at hok
      exact ⟨_, ⟨upd pg k p, true, left - 1, torn⟩, rfl, hd, hok, rfl, hg, .inl ⟨rfl, rfl⟩⟩
    · have h0 : left = 0 := by have := o2 rfl; omega
      subst h0
      refine (write_off torn h o1 k hk p hp).mono ?_
      rintro _ w' ⟨rfl, hd, hg⟩
      have e : (⟨pg, true, 0, torn⟩ : St).wr k p = ⟨upd pg k (tornPage p (pg k) torn), true, 0, 0⟩ := by simp [St.wr, hin, St.pow]
      rw [e] at hok
      exact ⟨_, ⟨upd pg k (tornPage p (pg k) torn), true, 0, 0⟩, rfl, hd, hok, rfl, hg, .inr ⟨rfl, rfl, torn, rfl⟩⟩

set_option maxRecDepth 100000 in
/-- a changed page, looked up -/
theorem look1_sheet {bm n : Nat} {f : Nat → Option ByteArray} {w : World} (hS : Sheets bm n f w) (k : Nat) {t : ByteArray} (ht : f k = some t) :
    (Instr.lookup 44 (.map (some bm)) (.int .i64 k) false).run Tryz.prog w = .ok (.agg #[.string t]) w := by
  obtain ⟨D, hD, hM⟩ := hS
  have hk := (hM.small k t ht).1
  obtain ⟨v, ps, hr, hv⟩ := hD.lookup keyed3 Tryz.underlying44 (zero86 w) (zd := .lit (.string [])) (zp := []) rfl (key_of k hk)
  obtain ⟨s, rfl, hz⟩ := sheetElem_inv hv
  have h1 := congrArg Prod.fst hz
  simp only at h1
  rw [hM.elem k t hk ht] at h1
  injection h1 with h2
  injection h2 with h3
  rw [hr, bytes_inj h3]
theorem field86 (t : ByteArray) (w : World) : (Instr.field 86 (.agg #[.string t]) 0).run Tryz.prog w = .ok (.string t) w := by kernel_rfl
theorem results_ct {P : Program} {fn : Func} {p : Tmp} {ty : TypeId} {q : Tmp} {v : Value} (h : fn.results = #[.cell p ty, .tmp q]) (tmps : Array Value) (w : World) (a : Addr) (hp : tmps.getD p undef = .pointer (some a)) (hl : (loadVar ty a).run P w = .ok v w) (E : Value) (hE : tmps.getD q undef = E) :
    (results fn tmps).run P w = .ok (.tuple #[v, E]) w := by
  have hp' : tmps[p]?.getD undef = .pointer (some a) := by simpa [Array.getD_eq_getD_getElem?] using hp
  have hE' : tmps[q]?.getD undef = E := by simpa [Array.getD_eq_getD_getElem?] using hE
  simp [results, h, hp', hE', asAddr, hl]
end Go.Proofs.YtjnjjpdgifnnpaaGreatDoor
namespace Go.Proofs.YtjnjjpdgifnnpaaGreatDoor
open Go.RowKit

/-- so many of one letter -/
def rep (c : UInt8) (k : Nat) : ByteArray := ⟨(List.replicate k c).toArray⟩
theorem rep_size (c : UInt8) (k : Nat) : (rep c k).size = k := by
  show (List.replicate k c).toArray.size = k
  rw [List.size_toArray, List.length_replicate]

theorem rep_any (c : UInt8) (k : Nat) (hk : k ≤ 1024) (w : World) : Calls Tryz.prog 33 #[.string ⟨#[c]⟩, .int .i64 k] w fun e w' => e = .returned (.string (rep c k)) ∧ Below w.heap.size w w' := by
  have h := lib_repeat ⟨#[c]⟩ k w (by omega) (by show 1 * k ≤ _; omega)
  have e : Lib.repeatL (ByteArray.mk #[c]).data.toList k = List.replicate k c := by
    show Lib.repeatL [c] k = _
    have h1 : ([c] : List UInt8) = List.replicate 1 c := rfl
    rw [h1, Lib.repeatL_replicate, Nat.mul_one]
  rw [e] at h
  exact h

/-- the page of a number -/
def pageOf (n : Int) : ByteArray := rep (UInt8.ofNat ((n / 256) % 256).toNat) (n % 1024).toNat ++ rep (UInt8.ofNat (n % 256).toNat) (1024 - (n % 1024).toNat)

theorem below_step {w W w1 : World} (h : Below w.heap.size w W) (hb : Below W.heap.size W w1) : Below w.heap.size w w1 := h.trans (hb.mono h.size)

theorem one_byte (x : Int) (W : World) (B : Nat) (h : W.cell? ⟨B, 0, none⟩ = some (.int .u8 (IntKind.u8.wrap x))) :
    (convert 89 9 (.slice (some ⟨B, 0, none⟩) 1 1)).run Tryz.prog W = .ok (.string ⟨#[UInt8.ofNat (x % 256).toNat]⟩) W := by
  have e : IntKind.u8.wrap x = ((UInt8.ofNat (x % 256).toNat).toNat : Int) := by
    have h1 : (x % 256).toNat < 256 := by omega
    rw [UInt8.toNat_ofNat']
    simp [IntKind.wrap, IntKind.signed, IntKind.bits]
    omega
  have := run_convert_bytes_back (P := Tryz.prog) W 89 9 5 ⟨B, 0, none⟩ 1 [UInt8.ofNat (x % 256).toNat] Tryz.underlying89 Tryz.underlying5 Tryz.underlying9 (fun j hj => by
    have : j = 0 := by simpa using hj
    subst this
    rw [Addr.add_zero', h, e]
    rfl)
  exact this

theorem page_mod (n : Int) : wrap64 ((IntKind.u64.wrap n).tmod 1024) = (((n % 1024).toNat : Nat) : Int) := by
  simp [IntKind.wrap, IntKind.signed, IntKind.bits]
  have h1 : 0 ≤ n % 18446744073709551616 := by omega
  rw [Int.tmod_eq_emod_of_nonneg h1]
  unfold wrap64
  omega

set_option maxRecDepth 100000 in
set_option maxHeartbeats 1000000 in
theorem page_any (n : Int) (w : World) :
    Calls Tryz.prog 12 #[.int .i64 n] w fun e w' => e = .returned (.string (pageOf n)) ∧ Below w.heap.size w w' := by
  have hk := page_mod n
  have hcA := one_byte (n / 256)
  have hcB := one_byte n
  obtain ⟨k, hkk⟩ : ∃ k, k = (n % 1024).toNat := ⟨_, rfl⟩
  have hp : pageOf n = rep (UInt8.ofNat ((n / 256) % 256).toNat) k ++ rep (UInt8.ofNat (n % 256).toNat) (1024 - k) := by rw [hkk]; rfl
  rw [← hkk] at hk
  have hk2 : IntKind.i64.wrap (1024 - (k : Int)) = ((1024 - k : Nat) : Int) := by
    simp [IntKind.wrap, IntKind.signed, IntKind.bits]
    omega
  have hle : k ≤ 1024 := by omega
  rw [hp]
  clear hp hkk
  generalize UInt8.ofNat (n / 256 % 256).toNat = ca at *
  generalize UInt8.ofNat (n % 256).toNat = cb at *
  have hr1 := rep_size ca k
  have hr2 := rep_size cb (1024 - k)
  have hlt2 : w.heap.size < w.heap.size + 1 + 1 := by omega
  go_enter Tryz.func12, Tryz.ntmps12
  go_wp2_with fail
  simp only [hk]
  clear hk
  go_region_with (go_at_call 33; refine (rep_any _ _ ?_ _).mono ?_; (first | exact hle | omega); rintro _ w1 ⟨rfl, hb1⟩; have hq0 := hb1.cell (p := ⟨w.heap.size, 0, none⟩); have hq1 := hb1.cell (p := ⟨w.heap.size + 1, 0, none⟩); (try simp [hlt2] at hq0); (try simp at hq1); have hbw := below_step (w := w) (by go_grown) hb1; have hbz := hbw.size)
  all_goals (go_wp2; go_ret; exact ⟨rfl, hbw⟩)
theorem pageOf_size (n : Int) : (pageOf n).size = 1024 := by
  unfold pageOf
  rw [ByteArray.size_append, rep_size, rep_size]
  omega
end Go.Proofs.YtjnjjpdgifnnpaaGreatDoor
namespace Go.Proofs.YtjnjjpdgifnnpaaGreatDoor
open Go.RowKit Go.Extern.Stop Go.Stop Go.Extern

theorem Tryz.valueOf68 (t : Addr) (w : World) : (ReflectliteValue.unpack (.iface 99 (.pointer (some t)))).run Tryz.prog w
    = .ok (.agg #[.pointer (some ⟨2, 99, none⟩), .pointer (some ⟨w.heap.size, 0, none⟩), .int .u64 150]) (w.alloc (.cells #[.pointer (some t)] 99)) := by kernel_rfl
theorem Tryz.type68 (a : Addr) (w : World) : (ReflectliteValue.methodAny (ReflectliteValue.valueError "reflectlite.Value.Type" 0) (fun t _ _ _ => ReflectliteType.toType t) #[.agg #[.pointer (some ⟨2, 99, none⟩), .pointer (some a), .int .u64 150]]).run Tryz.prog w
    = .ok (.iface 155 (.agg #[.pointer (some ⟨2, 99, none⟩)])) w := by kernel_rfl
theorem Tryz.methodKind (h : Value) (w : World) : (Go.method 316 155 (.agg #[h]) "Kind").run Tryz.prog w = .ok (119, h) w := by kernel_rfl
theorem Tryz.kind68 (w : World) : ((ReflectliteType.abiMethod fun t => (fun a : Nat => Value.int IntKind.u8 (a : Int)) <$> Rtype.kind t) #[.pointer (some ⟨2, 99, none⟩)]).run Tryz.prog w = .ok (.int .u8 22) w := by kernel_rfl
theorem Tryz.kind24 (w : World) : ((ReflectliteType.abiMethod fun t => (fun a : Nat => Value.int IntKind.u8 (a : Int)) <$> Rtype.kind t) #[.pointer (some ⟨2, 33, none⟩)]).run Tryz.prog w = .ok (.int .u8 2) w := by kernel_rfl
theorem Tryz.parts68 (a : Addr) (w : World) : (ReflectliteValue.parts (.agg #[.pointer (some ⟨2, 99, none⟩), .pointer (some a), .int .u64 150])).run Tryz.prog w = .ok (some (99, a, 150)) w := by kernel_rfl
theorem Tryz.isNil68 (a p : Addr) (W : World) (ha : W.cell? a = some (.pointer (some p))) :
    (ReflectliteValue.method (ReflectliteValue.valueError "reflectlite.Value.IsNil" 0) ReflectliteValue.isNil #[.agg #[.pointer (some ⟨2, 99, none⟩), .pointer (some a), .int .u64 150]]).run Tryz.prog W = .ok (.bool false) W := by
  change Sem.run Tryz.prog (ReflectliteValue.parts (.agg #[.pointer (some ⟨2, 99, none⟩), .pointer (some a), .int .u64 150]) >>= _) W = _
  simp only [Sem.run_bind, Tryz.parts68, Result.andThen]
  simp [ReflectliteValue.isNil, loadVar, isAgg, underlying, Tryz.underlying99, ha, Result.andThen]
theorem Tryz.methodElem (h : Value) (w : World) : (Go.method 316 155 (.agg #[h]) "Elem").run Tryz.prog w = .ok (132, .agg #[h]) w := by kernel_rfl
theorem Tryz.methodImplements (h : Value) (w : World) : (Go.method 316 155 (.agg #[h]) "Implements").run Tryz.prog w = .ok (133, .agg #[h]) w := by kernel_rfl
theorem Tryz.methodAssignableTo (h : Value) (w : World) : (Go.method 316 155 (.agg #[h]) "AssignableTo").run Tryz.prog w = .ok (130, .agg #[h]) w := by kernel_rfl
theorem Tryz.elem68 (w : World) : (ReflectliteType.method ReflectliteType.elem #[.agg #[.pointer (some ⟨2, 99, none⟩)]]).run Tryz.prog w = .ok (.iface 155 (.agg #[.pointer (some ⟨2, 33, none⟩)])) w := by kernel_rfl
theorem Tryz.implements24 (w : World) : (ReflectliteType.relation "Implements" ReflectliteType.implements_ #[.agg #[.pointer (some ⟨2, 33, none⟩)], .iface 155 (.agg #[.pointer (some ⟨2, 29, none⟩)])]).run Tryz.prog w = .ok (.bool true) w := by kernel_rfl
theorem Tryz.typeOf24 (v : Value) (w : World) : (ReflectliteType.typeOf #[.iface 33 v]).run Tryz.prog w = .ok (.iface 155 (.agg #[.pointer (some ⟨2, 33, none⟩)])) w := by kernel_rfl
theorem Tryz.typeOf46 (v : Value) (w : World) : (ReflectliteType.typeOf #[.iface 137 v]).run Tryz.prog w = .ok (.iface 155 (.agg #[.pointer (some ⟨2, 137, none⟩)])) w := by kernel_rfl
theorem Tryz.assignable24 (w : World) : (ReflectliteType.relation "AssignableTo" ReflectliteType.assignableTo #[.agg #[.pointer (some ⟨2, 33, none⟩)], .iface 155 (.agg #[.pointer (some ⟨2, 33, none⟩)])]).run Tryz.prog w = .ok (.bool true) w := by kernel_rfl
theorem Tryz.assignable46 (w : World) : (ReflectliteType.relation "AssignableTo" ReflectliteType.assignableTo #[.agg #[.pointer (some ⟨2, 137, none⟩)], .iface 155 (.agg #[.pointer (some ⟨2, 33, none⟩)])]).run Tryz.prog w = .ok (.bool false) w := by kernel_rfl
theorem Tryz.valueOf24 (n : Int) (w : World) : (ReflectliteValue.unpack (.iface 33 (.int .i64 n))).run Tryz.prog w
    = .ok (.agg #[.pointer (some ⟨2, 33, none⟩), .pointer (some ⟨w.heap.size, 0, none⟩), .int .u64 130]) (w.alloc (.cells #[.int .i64 n] 33)) := by kernel_rfl
theorem Tryz.elemOf68 (w : World) : (Rtype.elem? 99).run Tryz.prog w = .ok (some 33) w := by kernel_rfl
theorem Tryz.mk24 (p : Addr) (w : World) : (ReflectliteValue.mk 33 p ReflectliteValue.flagAddr).run Tryz.prog w = .ok (.agg #[.pointer (some ⟨2, 33, none⟩), .pointer (some p), .int .u64 386]) w := by kernel_rfl
theorem Tryz.elemV68 (a p : Addr) (W : World) (ha : W.cell? a = some (.pointer (some p))) :
    (ReflectliteValue.method (ReflectliteValue.valueError "reflectlite.Value.Elem" 0) ReflectliteValue.elem #[.agg #[.pointer (some ⟨2, 99, none⟩), .pointer (some a), .int .u64 150]]).run Tryz.prog W
      = .ok (.agg #[.pointer (some ⟨2, 33, none⟩), .pointer (some p), .int .u64 386]) W := by
  change Sem.run Tryz.prog (ReflectliteValue.parts (.agg #[.pointer (some ⟨2, 99, none⟩), .pointer (some a), .int .u64 150]) >>= _) W = _
  simp only [Sem.run_bind, Tryz.parts68, Result.andThen]
  simp [ReflectliteValue.elem, loadVar, isAgg, underlying, Tryz.underlying99, ha, Result.andThen, Tryz.elemOf68, Tryz.mk24]
end Go.Proofs.YtjnjjpdgifnnpaaGreatDoor
namespace Go.Proofs.YtjnjjpdgifnnpaaGreatDoor
open Go.RowKit Go.Extern.Stop Go.Stop Go.Extern

theorem Tryz.parts24a (a : Addr) (w : World) : (ReflectliteValue.parts (.agg #[.pointer (some ⟨2, 33, none⟩), .pointer (some a), .int .u64 386])).run Tryz.prog w = .ok (some (33, a, 386)) w := by kernel_rfl
theorem Tryz.parts24 (a : Addr) (w : World) : (ReflectliteValue.parts (.agg #[.pointer (some ⟨2, 33, none⟩), .pointer (some a), .int .u64 130])).run Tryz.prog w = .ok (some (33, a, 130)) w := by kernel_rfl
theorem Tryz.direct24 (w : World) : (Rtype.directlyAssignable 33 33).run Tryz.prog w = .ok true w := by kernel_rfl
theorem Tryz.set24 (ta b : Addr) (n : Int) (old : Value) (W : World) (hb : W.cell? b = some (.int .i64 n)) (ht : W.cell? ta = some old) (hf : W.frozen? ta = false) :
    (ReflectliteValue.set #[.agg #[.pointer (some ⟨2, 33, none⟩), .pointer (some ta), .int .u64 386], .agg #[.pointer (some ⟨2, 33, none⟩), .pointer (some b), .int .u64 130]]).run Tryz.prog W
      = .ok (.tuple #[]) (W.setCell ta (.int .i64 n)) := by
  change Sem.run Tryz.prog (ReflectliteValue.parts (.agg #[.pointer (some ⟨2, 33, none⟩), .pointer (some ta), .int .u64 386]) >>= fun p => ReflectliteValue.parts (.agg #[.pointer (some ⟨2, 33, none⟩), .pointer (some b), .int .u64 130]) >>= _) W = _
  simp only [Sem.run_bind, Tryz.parts24a, Tryz.parts24, Result.andThen]
  simp [ReflectliteValue.flagAddr, loadVar, isAgg, underlying, Tryz.underlying33, hb, Result.andThen, Tryz.direct24, storeVar, Value.cells, storeCells, Addr.add]
  rw [run_store Tryz.prog W ta _ _ (by rfl)]
  simp [ht, hf]
end Go.Proofs.YtjnjjpdgifnnpaaGreatDoor
namespace Go.Proofs.YtjnjjpdgifnnpaaGreatDoor
open Go.RowKit Go.Extern.Stop Go.Stop Go.Extern

set_option maxRecDepth 100000 in
set_option maxHeartbeats 2000000 in
theorem as37_hit (n : Int) (t a : Addr) (old : Value) (w : World) (ha : w.cell? a = some (.pointer (some t))) (ht0 : w.cell? t = some old) (hf0 : w.frozen? t = false) :
    Calls Tryz.prog 62 #[.iface 33 (.int .i64 n), .iface 99 (.pointer (some t)), .agg #[.pointer (some ⟨2, 99, none⟩), .pointer (some a), .int .u64 150], .iface 155 (.agg #[.pointer (some ⟨2, 33, none⟩)])] w
      fun ev w' => ev = .returned (.bool true) ∧ w'.cell? t = some (.int .i64 n) ∧ Below t.block w w' := by
  have h34 := @run_callFunc_extern Tryz.prog 59 _ (fun args => ReflectliteValue.unpack (args.getD 0 (.tuple #[]))) Tryz.func59 (by kernel_rfl) (by kernel_rfl) (by kernel_rfl) (by kernel_rfl)
  have h38 := @run_callFunc_extern Tryz.prog 79 _ ReflectliteType.typeOf Tryz.func79 (by kernel_rfl) (by kernel_rfl) (by kernel_rfl) (by kernel_rfl)
  have h65 := @run_callFunc_extern Tryz.prog 130 _ (ReflectliteType.relation "AssignableTo" ReflectliteType.assignableTo) Tryz.func130 (by kernel_rfl) (by kernel_rfl) (by kernel_rfl) (by kernel_rfl)
  have h39 := @run_callFunc_extern Tryz.prog 80 _ (ReflectliteValue.method (ReflectliteValue.valueError "reflectlite.Value.Elem" 0) ReflectliteValue.elem) Tryz.func80 (by kernel_rfl) (by kernel_rfl) (by kernel_rfl) (by kernel_rfl)
  have h40 := @run_callFunc_extern Tryz.prog 81 _ ReflectliteValue.set Tryz.func81 (by kernel_rfl) (by kernel_rfl) (by kernel_rfl) (by kernel_rfl)
  have tO := Tryz.typeOf24
  have mA := Tryz.methodAssignableTo
  have a24 := Tryz.assignable24
  have v24 := Tryz.valueOf24
  have htl : t.block < w.heap.size := World.block_lt_of_cell? w _ ht0
  have hal : a.block < w.heap.size := World.block_lt_of_cell? w _ ha
  have el := Tryz.elemV68 a t (w.alloc (.cells #[.pointer (some ⟨2, 99, none⟩), .pointer (some a), .int .u64 150] 125)) (by rw [World.cell?_alloc_lt _ _ a hal]; exact ha)
  have st := Tryz.set24 t ⟨w.heap.size + 1, 0, none⟩ n old ((w.alloc (.cells #[.pointer (some ⟨2, 99, none⟩), .pointer (some a), .int .u64 150] 125)).alloc (.cells #[.int .i64 n] 33))
    (by rw [World.cell?_alloc_at _ _ _ _ (by simp)]; rfl)
    (by rw [World.cell?_alloc_lt _ _ t (by simp; omega), World.cell?_alloc_lt _ _ t htl]; exact ht0)
    (by rw [World.frozen?_alloc_old _ _ t (by simp; omega), World.frozen?_alloc_old _ _ t (Nat.ne_of_lt htl)]; exact hf0)
  go_enter Tryz.func62, Tryz.ntmps62
  go_wp2
  refine wp_loop_rounds 1 ?_
  rw [rounds_succ]
  go_wp2
  go_ret
  refine ⟨rfl, World.cell?_setCell_same _ _ _ (u := old) (by rw [World.cell?_alloc_lt _ _ t (by simp; omega), World.cell?_alloc_lt _ _ t htl]; exact ht0), ?_⟩
  exact (((Below.refl t.block w).alloc (Nat.le_of_lt htl) _).alloc (by simp; omega) _).setCell (Nat.le_refl _) _

theorem Tryz.ta91 (b : Nat) (w : World) : (Instr.typeAssert (.iface 137 (.pointer (some ⟨b, 0, none⟩))) 29 160 true).run Tryz.prog w = .ok (.tuple #[.nilIface, .bool false]) w := run_typeAssert_lacksB Tryz.underlying160 (by kernel_rfl) (by kernel_rfl) _ _ w
theorem Tryz.ta60 (b : Nat) (w : World) : (Instr.typeAssert (.iface 137 (.pointer (some ⟨b, 0, none⟩))) 29 140 true).run Tryz.prog w = .ok (.tuple #[.iface 137 (.pointer (some ⟨b, 0, none⟩)), .bool true]) w := by kernel_rfl
theorem Tryz.methodUnwrap (p : Addr) (w : World) : (Go.method 316 137 (.pointer (some p)) "Unwrap").run Tryz.prog w = .ok (128, .pointer (some p)) w := by kernel_rfl

set_option maxHeartbeats 400000 in
theorem unwrap_any (b : Nat) (n : Int) (w : World) (h : w.cell? ⟨b, 0, none⟩ = some (.int .i64 n)) : Calls Tryz.prog 128 #[.pointer (some ⟨b, 0, none⟩)] w fun e w' => e = .returned (.iface 33 (.int .i64 n)) ∧ w' = w := by
  go_enter Tryz.func128, Tryz.ntmps128
  go_wp2
  go_ret
  exact ⟨rfl, rfl⟩

set_option maxRecDepth 100000 in
set_option maxHeartbeats 2000000 in
theorem as37_at (b : Nat) (n : Int) (t a : Addr) (old : Value) (w : World) (ha : w.cell? a = some (.pointer (some t))) (ht0 : w.cell? t = some old) (hf0 : w.frozen? t = false) (hb : w.cell? ⟨b, 0, none⟩ = some (.int .i64 n)) :
    Calls Tryz.prog 62 #[.iface 137 (.pointer (some ⟨b, 0, none⟩)), .iface 99 (.pointer (some t)), .agg #[.pointer (some ⟨2, 99, none⟩), .pointer (some a), .int .u64 150], .iface 155 (.agg #[.pointer (some ⟨2, 33, none⟩)])] w
      fun ev w' => ev = .returned (.bool true) ∧ w'.cell? t = some (.int .i64 n) ∧ Below t.block w w' := by
  have h34 := @run_callFunc_extern Tryz.prog 59 _ (fun args => ReflectliteValue.unpack (args.getD 0 (.tuple #[]))) Tryz.func59 (by kernel_rfl) (by kernel_rfl) (by kernel_rfl) (by kernel_rfl)
  have h38 := @run_callFunc_extern Tryz.prog 79 _ ReflectliteType.typeOf Tryz.func79 (by kernel_rfl) (by kernel_rfl) (by kernel_rfl) (by kernel_rfl)
  have h65 := @run_callFunc_extern Tryz.prog 130 _ (ReflectliteType.relation "AssignableTo" ReflectliteType.assignableTo) Tryz.func130 (by kernel_rfl) (by kernel_rfl) (by kernel_rfl) (by kernel_rfl)
  have h39 := @run_callFunc_extern Tryz.prog 80 _ (ReflectliteValue.method (ReflectliteValue.valueError "reflectlite.Value.Elem" 0) ReflectliteValue.elem) Tryz.func80 (by kernel_rfl) (by kernel_rfl) (by kernel_rfl) (by kernel_rfl)
  have h40 := @run_callFunc_extern Tryz.prog 81 _ ReflectliteValue.set Tryz.func81 (by kernel_rfl) (by kernel_rfl) (by kernel_rfl) (by kernel_rfl)
  have tO := Tryz.typeOf24
  have tO6 := Tryz.typeOf46
  have mA := Tryz.methodAssignableTo
  have mU := Tryz.methodUnwrap
  have a24 := Tryz.assignable24
  have a46 := Tryz.assignable46
  have v24 := Tryz.valueOf24
  have htl : t.block < w.heap.size := World.block_lt_of_cell? w _ ht0
  have hal : a.block < w.heap.size := World.block_lt_of_cell? w _ ha
  have hbl : b < w.heap.size := World.block_lt_of_cell? w _ hb
  have el := Tryz.elemV68 a t (w.alloc (.cells #[.pointer (some ⟨2, 99, none⟩), .pointer (some a), .int .u64 150] 125)) (by rw [World.cell?_alloc_lt _ _ a hal]; exact ha)
  have st := Tryz.set24 t ⟨w.heap.size + 1, 0, none⟩ n old ((w.alloc (.cells #[.pointer (some ⟨2, 99, none⟩), .pointer (some a), .int .u64 150] 125)).alloc (.cells #[.int .i64 n] 33))
    (by rw [World.cell?_alloc_at _ _ _ _ (by simp)]; rfl)
    (by rw [World.cell?_alloc_lt _ _ t (by simp; omega), World.cell?_alloc_lt _ _ t htl]; exact ht0)
    (by rw [World.frozen?_alloc_old _ _ t (by simp; omega), World.frozen?_alloc_old _ _ t (Nat.ne_of_lt htl)]; exact hf0)
  go_enter Tryz.func62, Tryz.ntmps62
  go_wp2
  refine wp_loop_rounds 2 ?_
  rw [rounds_succ]
  have ta1 := Tryz.ta91
  have ta2 := Tryz.ta60
  go_wp2_with fail
  refine (unwrap_any b n _ (by rw [World.cell?_alloc_lt _ _ ⟨b, 0, none⟩ hbl]; exact hb)).mono ?_
  rintro _ _ ⟨rfl, rfl⟩
  go_wp2
  rw [rounds_succ]
  go_wp2
  go_ret
  refine ⟨rfl, World.cell?_setCell_same _ _ _ (u := old) (by rw [World.cell?_alloc_lt _ _ t (by simp; omega), World.cell?_alloc_lt _ _ t htl]; exact ht0), ?_⟩
  exact (((Below.refl t.block w).alloc (Nat.le_of_lt htl) _).alloc (by simp; omega) _).setCell (Nat.le_refl _) _
end Go.Proofs.YtjnjjpdgifnnpaaGreatDoor
namespace Go.Proofs.YtjnjjpdgifnnpaaGreatDoor
open Go.RowKit Go.Extern.Stop Go.Stop Go.Extern

set_option maxRecDepth 100000 in
set_option maxHeartbeats 2000000 in
theorem as31_hit  (n : Int) (t : Addr) (old : Value) (w : World) (hg : w.cell? ⟨0, 0, none⟩ = some (.iface 155 (.agg #[.pointer (some ⟨2, 29, none⟩)]))) (ht0 : w.cell? t = some old) (hf0 : w.frozen? t = false) :
    Calls Tryz.prog 41 #[.iface 33 (.int .i64 n), .iface 99 (.pointer (some t))] w fun ev w' => ev = .returned (.bool true) ∧ w'.cell? t = some (.int .i64 n) ∧ Below t.block w w' := by
  have h34 := @run_callFunc_extern Tryz.prog 59 _ (fun args => ReflectliteValue.unpack (args.getD 0 (.tuple #[]))) Tryz.func59 (by kernel_rfl) (by kernel_rfl) (by kernel_rfl) (by kernel_rfl)
  have h35 := @run_callFunc_extern Tryz.prog 60 _ (ReflectliteValue.methodAny (ReflectliteValue.valueError "reflectlite.Value.Type" 0) (fun t _ _ _ => ReflectliteType.toType t)) Tryz.func60 (by kernel_rfl) (by kernel_rfl) (by kernel_rfl) (by kernel_rfl)
  have h36 := @run_callFunc_extern Tryz.prog 61 _ (ReflectliteValue.method (ReflectliteValue.valueError "reflectlite.Value.IsNil" 0) ReflectliteValue.isNil) Tryz.func61 (by kernel_rfl) (by kernel_rfl) (by kernel_rfl) (by kernel_rfl)
  have h55 := @run_callFunc_extern Tryz.prog 119 _ (ReflectliteType.abiMethod fun t => do pure (.int .u8 (← Rtype.kind t))) Tryz.func119 (by kernel_rfl) (by kernel_rfl) (by kernel_rfl) (by kernel_rfl)
  have h67 := @run_callFunc_extern Tryz.prog 132 _ (ReflectliteType.method ReflectliteType.elem) Tryz.func132 (by kernel_rfl) (by kernel_rfl) (by kernel_rfl) (by kernel_rfl)
  have h68 := @run_callFunc_extern Tryz.prog 133 _ (ReflectliteType.relation "Implements" ReflectliteType.implements_) Tryz.func133 (by kernel_rfl) (by kernel_rfl) (by kernel_rfl) (by kernel_rfl)
  have f34 := Tryz.valueOf68
  have f35 := Tryz.type68
  have mK := Tryz.methodKind
  have mE := Tryz.methodElem
  have mI := Tryz.methodImplements
  have k68 := Tryz.kind68
  have k24 := Tryz.kind24
  have e68 := Tryz.elem68
  have i24 := Tryz.implements24
  have htl : t.block < w.heap.size := World.block_lt_of_cell? w _ ht0
  have hlt : 0 < w.heap.size := World.block_lt_of_cell? w _ hg
  have n36 := Tryz.isNil68 ⟨w.heap.size, 0, none⟩ t ((w.alloc (.cells #[.pointer (some t)] 99)).alloc (.cells #[.pointer (some ⟨2, 99, none⟩), .pointer (some ⟨w.heap.size, 0, none⟩), .int .u64 150] 125)) (by simp)
  have hg2 : ((w.alloc (.cells #[.pointer (some t)] 99)).alloc (.cells #[.pointer (some ⟨2, 99, none⟩), .pointer (some ⟨w.heap.size, 0, none⟩), .int .u64 150] 125)).cell? ⟨0, 0, none⟩ = some (.iface 155 (.agg #[.pointer (some ⟨2, 29, none⟩)])) := by
    rw [World.cell?_alloc_lt _ _ ⟨0, 0, none⟩ (by simp), World.cell?_alloc_lt _ _ ⟨0, 0, none⟩ hlt]; exact hg
  go_enter Tryz.func41, Tryz.ntmps41
  go_wp2_with fail
  refine (as37_hit n t ⟨w.heap.size, 0, none⟩ old _
    (by rw [World.cell?_alloc_lt _ _ ⟨w.heap.size, 0, none⟩ (by simp)]; simp)
    (by rw [World.cell?_alloc_lt _ _ t (by simp; omega), World.cell?_alloc_lt _ _ t htl]; exact ht0)
    (by rw [World.frozen?_alloc_old _ _ t (by simp; omega), World.frozen?_alloc_old _ _ t (Nat.ne_of_lt htl)]; exact hf0)).mono ?_
  rintro _ w1 ⟨rfl, hc, hb1⟩
  go_wp2
  go_ret
  exact ⟨rfl, hc, (((Below.refl t.block w).alloc (Nat.le_of_lt htl) _).alloc (by simp; omega) _).trans hb1⟩

set_option maxRecDepth 100000 in
set_option maxHeartbeats 2000000 in
theorem as31_at (b : Nat) (n : Int) (t : Addr) (old : Value) (w : World) (hg : w.cell? ⟨0, 0, none⟩ = some (.iface 155 (.agg #[.pointer (some ⟨2, 29, none⟩)]))) (ht0 : w.cell? t = some old) (hf0 : w.frozen? t = false) (hb : w.cell? ⟨b, 0, none⟩ = some (.int .i64 n)) :
    Calls Tryz.prog 41 #[.iface 137 (.pointer (some ⟨b, 0, none⟩)), .iface 99 (.pointer (some t))] w fun ev w' => ev = .returned (.bool true) ∧ w'.cell? t = some (.int .i64 n) ∧ Below t.block w w' := by
  have h34 := @run_callFunc_extern Tryz.prog 59 _ (fun args => ReflectliteValue.unpack (args.getD 0 (.tuple #[]))) Tryz.func59 (by kernel_rfl) (by kernel_rfl) (by kernel_rfl) (by kernel_rfl)
  have h35 := @run_callFunc_extern Tryz.prog 60 _ (ReflectliteValue.methodAny (ReflectliteValue.valueError "reflectlite.Value.Type" 0) (fun t _ _ _ => ReflectliteType.toType t)) Tryz.func60 (by kernel_rfl) (by kernel_rfl) (by kernel_rfl) (by kernel_rfl)
  have h36 := @run_callFunc_extern Tryz.prog 61 _ (ReflectliteValue.method (ReflectliteValue.valueError "reflectlite.Value.IsNil" 0) ReflectliteValue.isNil) Tryz.func61 (by kernel_rfl) (by kernel_rfl) (by kernel_rfl) (by kernel_rfl)
  have h55 := @run_callFunc_extern Tryz.prog 119 _ (ReflectliteType.abiMethod fun t => do pure (.int .u8 (← Rtype.kind t))) Tryz.func119 (by kernel_rfl) (by kernel_rfl) (by kernel_rfl) (by kernel_rfl)
  have h67 := @run_callFunc_extern Tryz.prog 132 _ (ReflectliteType.method ReflectliteType.elem) Tryz.func132 (by kernel_rfl) (by kernel_rfl) (by kernel_rfl) (by kernel_rfl)
  have h68 := @run_callFunc_extern Tryz.prog 133 _ (ReflectliteType.relation "Implements" ReflectliteType.implements_) Tryz.func133 (by kernel_rfl) (by kernel_rfl) (by kernel_rfl) (by kernel_rfl)
  have f34 := Tryz.valueOf68
  have f35 := Tryz.type68
  have mK := Tryz.methodKind
  have mE := Tryz.methodElem
  have mI := Tryz.methodImplements
  have k68 := Tryz.kind68
  have k24 := Tryz.kind24
  have e68 := Tryz.elem68
  have i24 := Tryz.implements24
  have htl : t.block < w.heap.size := World.block_lt_of_cell? w _ ht0
  have hlt : 0 < w.heap.size := World.block_lt_of_cell? w _ hg
  have hbl : b < w.heap.size := World.block_lt_of_cell? w _ hb
  have n36 := Tryz.isNil68 ⟨w.heap.size, 0, none⟩ t ((w.alloc (.cells #[.pointer (some t)] 99)).alloc (.cells #[.pointer (some ⟨2, 99, none⟩), .pointer (some ⟨w.heap.size, 0, none⟩), .int .u64 150] 125)) (by simp)
  have hg2 : ((w.alloc (.cells #[.pointer (some t)] 99)).alloc (.cells #[.pointer (some ⟨2, 99, none⟩), .pointer (some ⟨w.heap.size, 0, none⟩), .int .u64 150] 125)).cell? ⟨0, 0, none⟩ = some (.iface 155 (.agg #[.pointer (some ⟨2, 29, none⟩)])) := by
    rw [World.cell?_alloc_lt _ _ ⟨0, 0, none⟩ (by simp), World.cell?_alloc_lt _ _ ⟨0, 0, none⟩ hlt]; exact hg
  go_enter Tryz.func41, Tryz.ntmps41
  go_wp2_with fail
  refine (as37_at b n t ⟨w.heap.size, 0, none⟩ old _
    (by rw [World.cell?_alloc_lt _ _ ⟨w.heap.size, 0, none⟩ (by simp)]; simp)
    (by rw [World.cell?_alloc_lt _ _ t (by simp; omega), World.cell?_alloc_lt _ _ t htl]; exact ht0)
    (by rw [World.frozen?_alloc_old _ _ t (by simp; omega), World.frozen?_alloc_old _ _ t (Nat.ne_of_lt htl)]; exact hf0)
    (by rw [World.cell?_alloc_lt _ _ ⟨b, 0, none⟩ (by simp; omega), World.cell?_alloc_lt _ _ ⟨b, 0, none⟩ hbl]; exact hb)).mono ?_
  rintro _ w1 ⟨rfl, hc, hb1⟩
  go_wp2
  go_ret
  exact ⟨rfl, hc, (((Below.refl t.block w).alloc (Nat.le_of_lt htl) _).alloc (by simp; omega) _).trans hb1⟩
end Go.Proofs.YtjnjjpdgifnnpaaGreatDoor
namespace Go.Proofs.YtjnjjpdgifnnpaaGreatDoor
open Go.RowKit Go.Extern.Stop Go.Stop Go.Extern

def HG (w : World) : Prop := w.cell? ⟨0, 0, none⟩ = some (.iface 155 (.agg #[.pointer (some ⟨2, 29, none⟩)]))
theorem HG.lt {w : World} (h : HG w) : 0 < w.heap.size := World.block_lt_of_cell? w _ h
theorem HG.below {w w' : World} {B : Nat} (h : HG w) (hb : Below B w w') (hB : 0 < B) : HG w' := (hb.cell (p := ⟨0, 0, none⟩) hB).trans h

theorem tell_nil (w : World) : Calls Tryz.prog 27 #[.nilIface] w fun e w' => e = .returned (.int .i64 0) ∧ w' = w := by
  go_enter Tryz.func27, Tryz.ntmps27
  go_wp2
  go_ret
  exact ⟨rfl, rfl⟩

set_option maxRecDepth 100000 in
set_option maxHeartbeats 1000000 in
theorem tell_hit (n : Int) (w : World) (hg : HG w) : Calls Tryz.prog 27 #[.iface 33 (.int .i64 n)] w fun e w' => e = .returned (.int .i64 n) ∧ Below w.heap.size w w' := by
  have hg2 : (w.alloc (.cells #[.int .i64 0] 33)).cell? ⟨0, 0, none⟩ = some (.iface 155 (.agg #[.pointer (some ⟨2, 29, none⟩)])) := by
    rw [World.cell?_alloc_lt _ _ ⟨0, 0, none⟩ hg.lt]; exact hg
  have HGH : Hid _ := hg2
  clear hg2 hg
  go_enter Tryz.func27, Tryz.ntmps27
  go_wp2_with fail
  refine (as31_hit n ⟨w.heap.size, 0, none⟩ (.int .i64 0) _ HGH.out (by simp) (by simp)).mono ?_
  rintro _ w1 ⟨rfl, hc, hb1⟩
  have hb : Below w.heap.size w w1 := ((Below.refl _ w).alloc (Nat.le_refl _) _).trans hb1
  clear hb1
  go_wp2
  go_ret
  exact ⟨rfl, hb⟩

set_option maxRecDepth 100000 in
set_option maxHeartbeats 1000000 in
theorem tell_at (b : Nat) (n : Int) (w : World) (hg : HG w) (hb : w.cell? ⟨b, 0, none⟩ = some (.int .i64 n)) : Calls Tryz.prog 27 #[.iface 137 (.pointer (some ⟨b, 0, none⟩))] w fun e w' => e = .returned (.int .i64 n) ∧ Below w.heap.size w w' := by
  have hg2 : (w.alloc (.cells #[.int .i64 0] 33)).cell? ⟨0, 0, none⟩ = some (.iface 155 (.agg #[.pointer (some ⟨2, 29, none⟩)])) := by
    rw [World.cell?_alloc_lt _ _ ⟨0, 0, none⟩ hg.lt]; exact hg
  have hb2 : (w.alloc (.cells #[.int .i64 0] 33)).cell? ⟨b, 0, none⟩ = some (.int .i64 n) := by
    rw [World.cell?_alloc_lt _ _ ⟨b, 0, none⟩ (World.block_lt_of_cell? w _ hb)]; exact hb
  have HGH : Hid _ := hg2
  have HB : Hid _ := hb2
  clear hg2 hg hb2 hb
  go_enter Tryz.func27, Tryz.ntmps27
  go_wp2_with fail
  refine (as31_at b n ⟨w.heap.size, 0, none⟩ (.int .i64 0) _ HGH.out (by simp) (by simp) HB.out).mono ?_
  rintro _ w1 ⟨rfl, hc, hb1⟩
  have hb : Below w.heap.size w w1 := ((Below.refl _ w).alloc (Nat.le_refl _) _).trans hb1
  clear hb1
  go_wp2
  go_ret
  exact ⟨rfl, hb⟩

theorem Tryz.ta46n (n : Int) (w : World) : (Instr.typeAssert (.iface 33 (.int .i64 n)) 29 137 true).run Tryz.prog w = .ok (.tuple #[.pointer none, .bool false]) w := by kernel_rfl
theorem Tryz.ta60n (n : Int) (w : World) : (Instr.typeAssert (.iface 33 (.int .i64 n)) 29 140 true).run Tryz.prog w = .ok (.tuple #[.nilIface, .bool false]) w := run_typeAssert_lacksB Tryz.underlying140 (by kernel_rfl) (by kernel_rfl) _ _ w
theorem Tryz.ta46y (b : Nat) (w : World) : (Instr.typeAssert (.iface 137 (.pointer (some ⟨b, 0, none⟩))) 29 137 true).run Tryz.prog w = .ok (.tuple #[.pointer (some ⟨b, 0, none⟩), .bool true]) w := by kernel_rfl

set_option maxHeartbeats 1000000 in
theorem place_nil (w : World) : Calls Tryz.prog 43 #[.nilIface] w fun e w' => e = .returned (.tuple #[.int .i64 0, .int .i64 (-1)]) ∧ Below w.heap.size w w' := by
  go_enter Tryz.func43, Tryz.ntmps43
  go_wp2_with (go_at_call 27; refine (tell_nil _).mono ?_; rintro _ _ ⟨rfl, rfl⟩)
  refine wp_loop_rounds 1 ?_
  rw [rounds_succ]
  go_wp2
  go_ret2
  exact ⟨rfl, Below.refl _ _⟩

set_option maxRecDepth 100000 in
set_option maxHeartbeats 1000000 in
theorem place_errno (n : Int) (w : World) (hg : HG w) : Calls Tryz.prog 43 #[.iface 33 (.int .i64 n)] w fun e w' => e = .returned (.tuple #[.int .i64 n, .int .i64 (-1)]) ∧ Below w.heap.size w w' := by
  have t1 := Tryz.ta46n
  have t2 := Tryz.ta60n
  go_enter Tryz.func43, Tryz.ntmps43
  go_wp2_with fail
  refine (tell_hit n _ hg).mono ?_
  rintro _ w1 ⟨rfl, hb⟩
  go_wp2
  refine wp_loop_rounds 1 ?_
  rw [rounds_succ]
  go_wp2
  go_ret2
  exact ⟨rfl, hb⟩

set_option maxRecDepth 100000 in
set_option maxHeartbeats 1000000 in
theorem place_at (b : Nat) (n j : Int) (w : World) (hg : HG w) (h0 : w.cell? ⟨b, 0, none⟩ = some (.int .i64 n)) (h1 : w.cell? ⟨b, 1, none⟩ = some (.int .i64 j)) :
    Calls Tryz.prog 43 #[.iface 137 (.pointer (some ⟨b, 0, none⟩))] w fun e w' => e = .returned (.tuple #[.int .i64 n, .int .i64 j]) ∧ Below w.heap.size w w' := by
  have t1 := Tryz.ta46y
  have hbl : b < w.heap.size := World.block_lt_of_cell? w _ h0
  go_enter Tryz.func43, Tryz.ntmps43
  go_wp2_with fail
  refine (tell_at b n _ hg h0).mono ?_
  rintro _ w1 ⟨rfl, hb⟩
  have k1 : w1.cell? ⟨b, 1, none⟩ = some (.int .i64 j) := (hb.cell (p := ⟨b, 1, none⟩) hbl).trans h1
  go_wp2
  refine wp_loop_rounds 1 ?_
  rw [rounds_succ]
  go_wp2_with fail
  go_region
  go_wp2
  go_ret2
  exact ⟨rfl, hb.drew⟩
end Go.Proofs.YtjnjjpdgifnnpaaGreatDoor
namespace Go.Proofs.YtjnjjpdgifnnpaaGreatDoor
open Go.RowKit Go.Maps

/-- a number's last byte -/
def byteI (x : Int) : UInt8 := UInt8.ofNat (x % 256).toNat
/-- the pages below one -/
def pagesT (v : Nat → Option ByteArray) : Nat → ByteArray
  | 0 => ⟨#[]⟩
  | k + 1 => match v k with
    | none => pagesT v k
    | some t => pagesT v k ++ (⟨#[byteI (k : Int)]⟩ ++ t)
/-- the roots below one, behind the pages -/
def rootsT (v : Nat → Option ByteArray) (a b : Nat → Int) : Nat → ByteArray
  | 0 => pagesT v 60
  | i + 1 => rootsT v a b i ++ ⟨#[byteI (a i / 256), byteI (a i), byteI (b i / 256), byteI (b i)]⟩
/-- all of it -/
def allT (v : Nat → Option ByteArray) (a b : Nat → Int) : ByteArray := rootsT v a b 8 ++ ⟨#[byteI ((1 + countU (fun k => (v k).isSome) 2000 : Nat) : Int)]⟩
/-- of a pager -/
def Pg.all (p : Pg) (pg : Nat → ByteArray) : ByteArray := allT (p.view pg) p.rp p.rn

theorem pagesT_none {v : Nat → Option ByteArray} {k : Nat} (h : v k = none) : pagesT v (k + 1) = pagesT v k := by rw [pagesT, h]
theorem pagesT_some {v : Nat → Option ByteArray} {k : Nat} {t : ByteArray} (h : v k = some t) : pagesT v (k + 1) = pagesT v k ++ (⟨#[byteI (k : Int)]⟩ ++ t) := by rw [pagesT, h]
theorem pagesT_size {v : Nat → Option ByteArray} (hv : ∀ k t, v k = some t → t.size = 1024) : ∀ k, (pagesT v k).size ≤ 1025 * k
  | 0 => by show 0 ≤ _; omega
  | k + 1 => by
    have ih := pagesT_size hv k
    cases e : v k with
    | none => rw [pagesT_none e]; omega
    | some t =>
      have ht := hv k t e
      rw [pagesT_some e, ByteArray.size_append, ByteArray.size_append, ht]
      show _ + (1 + 1024) ≤ _
      omega
theorem rootsT_size {v : Nat → Option ByteArray} (hv : ∀ k t, v k = some t → t.size = 1024) (a b : Nat → Int) : ∀ i, (rootsT v a b i).size ≤ 1025 * 60 + 4 * i
  | 0 => pagesT_size hv 60
  | i + 1 => by
    have ih := rootsT_size hv a b i
    rw [rootsT, ByteArray.size_append]
    show _ + 4 ≤ _
    omega
theorem pagesT_congr {v v' : Nat → Option ByteArray} (h : ∀ k, v k = v' k) (k : Nat) : pagesT v k = pagesT v' k := by
  have : v = v' := funext h
  rw [this]
theorem rootsT_congr {v : Nat → Option ByteArray} {a b a' b' : Nat → Int} (ha : ∀ i, i < 8 → a i = a' i) (hb : ∀ i, i < 8 → b i = b' i) : ∀ i, i ≤ 8 → rootsT v a b i = rootsT v a' b' i
  | 0, _ => rfl
  | i + 1, hi => by rw [rootsT, rootsT, rootsT_congr ha hb i (by omega), ha i (by omega), hb i (by omega)]
theorem allT_congr {v v' : Nat → Option ByteArray} {a b a' b' : Nat → Int} (h : ∀ k, v k = v' k) (ha : ∀ i, i < 8 → a i = a' i) (hb : ∀ i, i < 8 → b i = b' i) : allT v a b = allT v' a' b' := by
  obtain rfl : v = v' := funext h
  unfold allT
  rw [rootsT_congr ha hb 8 (Nat.le_refl _)]
theorem countU_like {f g : Nat → Bool} : ∀ n, (∀ k, k < n → f k = g k) → countU f n = countU g n
  | 0, _ => rfl
  | n + 1, h => by rw [countU, countU, countU_like n (fun k hk => h k (by omega)), h n (by omega)]

section
variable {p : Pg} {pg pg' : Nat → ByteArray}
theorem Pg.view_is {k : Nat} (hk : k < 2000) : (p.view pg k).isSome = p.used k := by
  unfold Pg.view
  by_cases e : p.used k = true
  · rw [if_pos ⟨hk, e⟩, e]; rfl
  · rw [if_neg (fun h => e h.2)]
    cases h : p.used k
    · rfl
    · exact absurd h e
theorem Pg.count (p : Pg) (pg : Nat → ByteArray) : countU (fun k => (p.view pg k).isSome) 2000 = countU p.used 2000 := countU_like 2000 (fun _ hk => Pg.view_is hk)

/-- behind a commit all is as it was ahead of it -/
theorem Done.all (h : Done p pg pg') (ho : p.Ok) : p.done.all pg' = p.all pg := allT_congr (fun k => h.view ho k) (fun _ _ => rfl) (fun _ _ => rfl)
theorem Done.loaded_all (h : Done p pg pg') (ho : p.Ok) (c : Int) (d : Bool) : (loaded pg' c d).all pg' = p.all pg :=
  allT_congr (fun k => h.loaded_view ho c d k) (fun _ hi => h.loaded_rp c d hi) (fun _ hi => h.loaded_rn c d hi)
theorem Kept.loaded_all (h : Kept p pg pg') (hl : Lies p pg) (c : Int) (d : Bool) : (Go.Proofs.YtjnjjpdgifnnpaaGreatDoor.loaded pg' c d).all pg' = (Go.Proofs.YtjnjjpdgifnnpaaGreatDoor.loaded pg c d).all pg := by
  refine allT_congr (fun k => h.loaded_view hl c d k) (fun i _ => ?_) (fun i _ => ?_)
  · rw [h.loaded hl]
  · rw [h.loaded hl]
end
end Go.Proofs.YtjnjjpdgifnnpaaGreatDoor
namespace Go.Proofs.YtjnjjpdgifnnpaaGreatDoor
open Go.RowKit

/-- which page a number picks -/
def pk (a : Int) (n : Nat) : Nat := (a % 18446744073709551616 % (n : Int)).toNat
theorem pk_lt (a : Int) (n : Nat) (hn : 0 < n) : pk a n < n := by
  unfold pk
  have h1 := Int.emod_nonneg (a % 18446744073709551616) (show (n : Int) ≠ 0 by omega)
  have h2 := Int.emod_lt_of_pos (a % 18446744073709551616) (show (0 : Int) < n by omega)
  omega

theorem pick_mod (a : Int) (n : Nat) (hn : 0 < n) (hn2 : n ≤ 1000000) : wrap64 ((IntKind.u64.wrap a).tmod (n : Int)) = (pk a n : Int) := by
  have e2 : IntKind.u64.wrap a = a % 18446744073709551616 := by
    simp [IntKind.wrap, IntKind.signed, IntKind.bits]
  have h1 : 0 ≤ a % 18446744073709551616 := by omega
  rw [e2, Int.tmod_eq_emod_of_nonneg h1]
  have h2 := Int.emod_nonneg (a % 18446744073709551616) (show (n : Int) ≠ 0 by omega)
  have h3 := Int.emod_lt_of_pos (a % 18446744073709551616) (show (0 : Int) < n by omega)
  unfold pk wrap64
  omega

theorem pick_any (a : Int) (n : Nat) (hn : 0 < n) (hn2 : n ≤ 1000000) (w : World) : Calls Tryz.prog 26 #[.int .i64 a, .int .i64 (n : Int)] w fun e w' => e = .returned (.int .i64 (pk a n : Int)) ∧ w' = w := by
  have hm := pick_mod a n hn hn2
  have hz : (IntKind.u64.wrap (n : Int) == 0) = false := by
    simp [IntKind.wrap, IntKind.signed, IntKind.bits]
    omega
  go_enter Tryz.func26, Tryz.ntmps26
  go_wp2
  go_ret
  exact ⟨ret_int hm, rfl⟩

theorem pk_1024 (n : Int) : pk n 1024 = (n % 1024).toNat := by
  unfold pk
  congr 1
  omega

set_option maxRecDepth 100000 in
set_option maxHeartbeats 1000000 in
theorem page2_any (n : Int) (w : World) :
    Calls Tryz.prog 40 #[.int .i64 n] w fun e w' => e = .returned (.string (pageOf n)) ∧ Below w.heap.size w w' := by
  have hcA := one_byte (n / 256)
  have hcB := one_byte n
  obtain ⟨k, hkk⟩ : ∃ k, k = (n % 1024).toNat := ⟨_, rfl⟩
  have hp : pageOf n = rep (UInt8.ofNat ((n / 256) % 256).toNat) k ++ rep (UInt8.ofNat (n % 256).toNat) (1024 - k) := by rw [hkk]; rfl
  have HK : Hid (pk n 1024 = k) := (pk_1024 n).trans hkk.symm
  have hk2 : IntKind.i64.wrap (1024 - (k : Int)) = ((1024 - k : Nat) : Int) := by
    simp [IntKind.wrap, IntKind.signed, IntKind.bits]
    omega
  have hle : k ≤ 1024 := by omega
  rw [hp]
  clear hp hkk
  generalize UInt8.ofNat (n / 256 % 256).toNat = ca at *
  generalize UInt8.ofNat (n % 256).toNat = cb at *
  have hr1 := rep_size ca k
  have hr2 := rep_size cb (1024 - k)
  have hlt2 : w.heap.size < w.heap.size + 1 + 1 := by omega
  go_enter Tryz.func40, Tryz.ntmps40
  go_wp2_with fail
  refine (pick_any n 1024 (by omega) (by omega) w).mono ?_
  rintro _ w ⟨rfl, rfl⟩
  rw [HK.out]
  go_wp2_with fail
  go_region_with (go_at_call 33; refine (rep_any _ _ ?_ _).mono ?_; (first | exact hle | omega); rintro _ w1 ⟨rfl, hb1⟩; have hq0 := hb1.cell (p := ⟨w.heap.size, 0, none⟩); have hq1 := hb1.cell (p := ⟨w.heap.size + 1, 0, none⟩); (try simp [hlt2] at hq0); (try simp at hq1); have hbw := below_step (w := w) (by go_grown) hb1; have hbz := hbw.size)
  all_goals (go_wp2; go_ret; exact ⟨rfl, hbw⟩)
end Go.Proofs.YtjnjjpdgifnnpaaGreatDoor
namespace Go.Proofs.YtjnjjpdgifnnpaaGreatDoor
open Go.RowKit Go.Maps

theorem one_byteI (x : Int) (W : World) (B : Nat) (h : W.cell? ⟨B, 0, none⟩ = some (.int .u8 (IntKind.u8.wrap x))) :
    (convert 89 9 (.slice (some ⟨B, 0, none⟩) 1 1)).run Tryz.prog W = .ok (.string ⟨#[byteI x]⟩) W := one_byte x W B h
theorem wrap_u8 (x : Int) : IntKind.u8.wrap x = x % 256 := by
  simp [IntKind.wrap, IntKind.signed, IntKind.bits]
theorem one_byteM (x : Int) (W : World) (B : Nat) (h : W.cell? ⟨B, 0, none⟩ = some (.int .u8 (x % 256))) :
    (convert 89 9 (.slice (some ⟨B, 0, none⟩) 1 1)).run Tryz.prog W = .ok (.string ⟨#[byteI x]⟩) W := one_byte x W B (by rw [h, wrap_u8])
theorem one_byteN (x : Int) (h0 : 0 ≤ x) (h1 : x < 256) (W : World) (B : Nat) (h : W.cell? ⟨B, 0, none⟩ = some (.int .u8 x)) :
    (convert 89 9 (.slice (some ⟨B, 0, none⟩) 1 1)).run Tryz.prog W = .ok (.string ⟨#[byteI x]⟩) W := one_byteM x W B (by rw [h, Int.emod_eq_of_lt h0 h1])
theorem byteI_toNat (x : Int) : IntKind.u8.wrap x = ((byteI x).toNat : Int) := by
  have h1 : (x % 256).toNat < 256 := by omega
  unfold byteI
  rw [UInt8.toNat_ofNat']
  simp [IntKind.wrap, IntKind.signed, IntKind.bits]
  omega
theorem four_bytes (x0 x1 x2 x3 : Int) (W : World) (B : Nat) (h0 : W.cell? ⟨B, 0, none⟩ = some (.int .u8 (IntKind.u8.wrap x0))) (h1 : W.cell? ⟨B, 1, none⟩ = some (.int .u8 (IntKind.u8.wrap x1)))
    (h2 : W.cell? ⟨B, 2, none⟩ = some (.int .u8 (IntKind.u8.wrap x2))) (h3 : W.cell? ⟨B, 3, none⟩ = some (.int .u8 (IntKind.u8.wrap x3))) :
    (convert 89 9 (.slice (some ⟨B, 0, none⟩) 4 4)).run Tryz.prog W = .ok (.string ⟨#[byteI x0, byteI x1, byteI x2, byteI x3]⟩) W := by
  have := run_convert_bytes_back (P := Tryz.prog) W 89 9 5 ⟨B, 0, none⟩ 4 [byteI x0, byteI x1, byteI x2, byteI x3] Tryz.underlying89 Tryz.underlying5 Tryz.underlying9 (fun j hj => by
    have : j < 4 := by simpa using hj
    have e : j = 0 ∨ j = 1 ∨ j = 2 ∨ j = 3 := by omega
    rcases e with rfl | rfl | rfl | rfl
    · rw [Addr.add_zero', h0, byteI_toNat]; rfl
    · rw [show (⟨B, 0, none⟩ : Addr).add 1 = ⟨B, 1, none⟩ from rfl, h1, byteI_toNat]; rfl
    · rw [show (⟨B, 0, none⟩ : Addr).add 2 = ⟨B, 2, none⟩ from rfl, h2, byteI_toNat]; rfl
    · rw [show (⟨B, 0, none⟩ : Addr).add 3 = ⟨B, 3, none⟩ from rfl, h3, byteI_toNat]; rfl)
  exact this

theorem four_bytesM (x0 x1 x2 x3 : Int) (W : World) (B : Nat) (h0 : W.cell? ⟨B, 0, none⟩ = some (.int .u8 (x0 % 256))) (h1 : W.cell? ⟨B, 1, none⟩ = some (.int .u8 (x1 % 256)))
    (h2 : W.cell? ⟨B, 2, none⟩ = some (.int .u8 (x2 % 256))) (h3 : W.cell? ⟨B, 3, none⟩ = some (.int .u8 (x3 % 256))) :
    (convert 89 9 (.slice (some ⟨B, 0, none⟩) 4 4)).run Tryz.prog W = .ok (.string ⟨#[byteI x0, byteI x1, byteI x2, byteI x3]⟩) W :=
  four_bytes x0 x1 x2 x3 W B (by rw [h0, wrap_u8]) (by rw [h1, wrap_u8]) (by rw [h2, wrap_u8]) (by rw [h3, wrap_u8])

section
variable {bp bd bm n : Nat} {p : Pg} {s : St} {w : World}
theorem view_size (hD : Prg bd s w) (hp : p.Ok) : ∀ k t, p.view s.pg k = some t → t.size = 1024 := fun k t h => by
  unfold Pg.view at h
  split at h
  · rename_i e
    obtain rfl := Option.some.inj h
    unfold Pg.text
    cases hc : p.chg k with
    | some t => exact (hp.chg k t hc).2.2
    | none => exact page_of_sizes hD _ (placeF_lt k e.1 _)
  · cases h

set_option maxRecDepth 100000 in
set_option maxHeartbeats 4000000 in
theorem all_any (h : PagerIs bp bd bm n p w) (hD : Prg bd s w) (hp : p.Ok) (hd : p.down = false) :
    Calls Tryz.prog 24 #[.pointer (some ⟨bp, 0, none⟩)] w fun e w' => e = .returned (.string (p.all s.pg)) ∧ Below w.heap.size w w' := by
  have hvs := view_size hD hp
  have hps := pagesT_size hvs
  have hrs := rootsT_size hvs p.rp p.rn
  obtain ⟨V, hV⟩ : ∃ V, p.view s.pg = V := ⟨_, rfl⟩
  have HP : Hid (∀ wx, Below w.heap.size w wx → PagerIs bp bd bm n p wx ∧ Prg bd s wx) := fun wx hb => ⟨h.below hb, Prg.below hD hb⟩
  have hcount : countU (fun k => (V k).isSome) 2000 = countU p.used 2000 := by rw [← hV]; exact p.count s.pg
  have hyes : ∀ k, k < 2000 → p.used k = true → V k = some (p.text s.pg k) := fun k hk hu => by rw [← hV]; exact Pg.view_yes hk hu
  have hno : ∀ k, p.used k = false → V k = none := fun k hu => by rw [← hV]; exact Pg.view_no hu
  have hvt : ∀ k t, V k = some t → t.size = 1024 := by rw [← hV]; exact hvs
  rw [hV] at hps hrs
  have hall : Hid (p.all s.pg = rootsT V p.rp p.rn 8 ++ ⟨#[byteI ((1 + countU p.used 2000 : Nat) : Int)]⟩) := by
    show allT _ _ _ = _
    unfold allT
    rw [hV, hcount]
  have h01 : pagesT V 1 = ⟨#[]⟩ := pagesT_none (hno 0 hp.zero)
  rw [hall.out]
  have HYES : Hid _ := hyes
  have HNO : Hid _ := hno
  have HVT : Hid _ := hvt
  have HPS : Hid _ := hps
  have HRS : Hid _ := hrs
  clear hV hvs hcount h hD hyes hno hvt hps hrs hall
  go_enter Tryz.func24, Tryz.ntmps24
  go_wp2_with fail
  go_loopw [3, 4] (fun t i wr => ∃ k : Nat, 1 ≤ k ∧ k ≤ 60 ∧ i = .int .i64 k ∧ t = .string (pagesT V k) ∧ Hid (Below w.heap.size w wr)) (fun _ i _ => 60 - (intOf i).toNat)
  case atStart => exact ⟨1, by omega, by omega, rfl, by rw [h01], Below.refl _ _⟩
  case round =>
    obtain ⟨k, hk1, hk, rfl, rfl, HB⟩ := hrel
    by_cases hlt : k < 60
    · have h1 : (k : Int) < 60 := by omega
      cases hu : p.used k
      · go_wp2_with fail
        refine (readp_no (HP.out _ HB.out).1.cells k (Pg.code_no (fun e => by rw [Int.toNat_natCast, hu] at e; cases e.2.2))).mono ?_
        rintro _ wa ⟨rfl, hwa⟩
        subst wa
        go_wp2_with fail
        go_roundw
        case rel => exact ⟨k + 1, by omega, by omega, by go_num, by rw [pagesT_none (HNO.out k hu)], HB⟩
        case measure => simp [intOf]; omega
      · have hv := HYES.out k (by omega) hu
        have ht := HVT.out k _ hv
        have hT : pagesT V (k + 1) = _ := pagesT_some hv
        have hs1 := HPS.out k
        have hs2 := HPS.out (k + 1)
        clear hv
        go_wp2_with fail
        refine (readp_yes (HP.out _ HB.out).1 (HP.out _ HB.out).2 hd k (by omega) hu).mono ?_
        rintro _ wa ⟨rfl, hba⟩
        have HB : Hid (Below w.heap.size w wa) := HB.out.trans (hba.mono HB.out.size)
        clear hba
        obtain ⟨t, hte⟩ : ∃ t, p.text s.pg k = t := ⟨_, rfl⟩
        rw [hte] at hT ht
        rw [hte]
        clear hte
        have hcA := one_byteN (k : Int) (by omega) (by omega)
        obtain ⟨T, hTe⟩ : ∃ T, pagesT V k = T := ⟨_, rfl⟩
        rw [hTe] at hT hs1
        rw [hTe]
        have hs3 : T.size ≤ 61500 := by omega
        have hs4 : (⟨#[byteI (k : Int)]⟩ : ByteArray).size = 1 := rfl
        go_wp2_with fail
        go_roundw
        case rel => exact ⟨k + 1, by omega, by omega, by go_num, by rw [hT], (show Below _ _ _ from HB.out.alloc HB.out.size _)⟩
        case measure => simp [intOf]; omega
    · have h1 : ¬ (k : Int) < 60 := by omega
      obtain rfl : k = 60 := by omega
      go_wp2_with fail
      go_loopw [3, 7] (fun t i wr => ∃ k : Nat, k ≤ 8 ∧ i = .int .i64 k ∧ t = .string (rootsT V p.rp p.rn k) ∧ Hid (Below w.heap.size w wr)) (fun _ i _ => 8 - (intOf i).toNat)
      case atStart => exact ⟨0, by omega, rfl, rfl, HB⟩
      case round =>
        clear HB
        obtain ⟨k, hk, rfl, rfl, HB⟩ := hrel
        by_cases hlt : k < 8
        · have h2 : (k : Int) < 8 := by omega
          have hT : rootsT V p.rp p.rn (k + 1) = _ := rfl
          have hs1 := HRS.out k
          go_wp2_with fail
          refine (root_yes (HP.out _ HB.out).1.cells k hlt).mono ?_
          rintro _ wa ⟨rfl, hba⟩
          have HB : Hid (Below w.heap.size w wa) := HB.out.trans (hba.mono HB.out.size)
          clear hba
          obtain ⟨a, ha⟩ : ∃ a, p.rp k = a := ⟨_, rfl⟩
          obtain ⟨b, hb⟩ : ∃ b, p.rn k = b := ⟨_, rfl⟩
          obtain ⟨T, hTe⟩ : ∃ T, rootsT V p.rp p.rn k = T := ⟨_, rfl⟩
          have hT2 : rootsT V p.rp p.rn (k + 1) = T ++ ⟨#[byteI (a / 256), byteI a, byteI (b / 256), byteI b]⟩ := by rw [rootsT, hTe, ha, hb]
          rw [hTe] at hs1
          rw [ha, hb, hTe]
          clear ha hb hTe hT
          have hcA := four_bytesM (a / 256) a (b / 256) b
          have hs3 : T.size ≤ 62000 := by omega
          have hs4 : (⟨#[byteI (a / 256), byteI a, byteI (b / 256), byteI b]⟩ : ByteArray).size = 4 := rfl
          go_wp2_with fail
          go_roundw
          case rel => exact ⟨k + 1, by omega, by go_num, by rw [hT2], (show Below _ _ _ from HB.out.alloc HB.out.size _)⟩
          case measure => simp [intOf]; omega
        · have h2 : ¬ (k : Int) < 8 := by omega
          obtain rfl : k = 8 := by omega
          have hs1 := HRS.out 8
          have hcA := one_byteM ((1 + countU p.used 2000 : Nat) : Int)
          obtain ⟨T, hTe⟩ : ∃ T, rootsT V p.rp p.rn 8 = T := ⟨_, rfl⟩
          rw [hTe] at hs1
          rw [hTe]
          have HTE : Hid _ := hTe
          clear hTe
          have hcast : Hid (((1 + countU p.used 2000 : Nat) : Int) = 1 + (countU p.used 2000 : Int)) := Int.natCast_add _ _
          have hs3 : T.size ≤ 62000 := by omega
          have hs4 : (⟨#[byteI ((1 + countU p.used 2000 : Nat) : Int)]⟩ : ByteArray).size = 1 := rfl
          go_wp2_with fail
          refine (used_any (HP.out _ HB.out).1.cells).mono ?_
          rintro _ wa ⟨rfl, hwa⟩
          subst wa
          go_wp2
          go_ret
          exact ⟨by rw [HTE.out, hcast.out]; rfl, HB.out.alloc HB.out.size _⟩
end
end Go.Proofs.YtjnjjpdgifnnpaaGreatDoor
namespace Go.Proofs
open Go.RowKit Go.Maps Go.Sort Go.Shelf
theorem Tryz.sortsA (m : Nat) : AnyZI.SortsIn Tryz.prog Tryz.sortedA_ren Fence.wide m :=
  ⟨fun blk off cap ss W hH hblk hsz => callsIn_wide.2 (AnyM.slices_Sort_int Tryz.sortA blk off cap ss W hH hblk hsz),
   fun p cap W => callsIn_wide.2 (AnyM.slices_Sort_int_none Tryz.sortA p cap W)⟩
end Go.Proofs
namespace Go.Proofs.YtjnjjpdgifnnpaaGreatDoor
open Go.RowKit Go.Maps Go.Sort Go.Shelf

theorem keys_any (mb : Option Nat) (W : World) : Calls Tryz.prog 53 #[.map mb] W fun e w' => e = .returned (.func (.func 74) #[] #[.pointer (some ⟨W.heap.size, 0, none⟩)]) ∧ w' = W.alloc (.cells #[.map mb] 44) :=
  (callsIn_wide (n := 5)).1 (AnyZI.keys_in Tryz.keysA Fence.wide 5 trivial rfl mb W)

theorem krow_of {w : World} {v : Value} {B : Nat} {ks : List Nat} {zs : List Int} (hz : zs = ks.map fun (k : Nat) => (k : Int)) (h : w.ownsRow B 3 1 v zs.length (zs.map encZ)) : KRow B v ks w := by
  have hl : zs.length = ks.length := by rw [hz, List.length_map]
  rcases h.2 with ⟨rfl, hn⟩ | ⟨g, cap, cur, rfl, hB, hgg, _, _, _, htake⟩
  · refine ⟨none, 0, ?_, .inl ?_⟩
    · rw [← hl, hn]
    · exact List.length_eq_zero_iff.1 (by omega)
  · refine ⟨some ⟨g, 0, none⟩, cap, by rw [hl], .inr ⟨g, rfl, hB, ?_, fun i hi => ?_⟩⟩
    · by_cases e : g < w.heap.size
      · exact e
      · rw [Array.getElem?_eq_none (by omega)] at hgg; cases hgg
    · have h1 : (zs.map encZ)[i]? = some (.int .i64 (ks[i] : Nat)) := by
        rw [hz, List.map_map, List.getElem?_map, List.getElem?_eq_getElem hi]; rfl
      have h2 := h.cells (g := g) rfl i _ h1
      rwa [show (⟨g, 0, none⟩ : Addr).add i = ⟨g, i, none⟩ by unfold Addr.add; split <;> simp_all] at h2

theorem intKeys_nat {D : DataW Unit} {f : Nat → Option ByteArray} (h : MapIs D f) (c : Canon D) {ss : List Int} (hp : ss.Perm (intKeys D)) : ∃ ks : List Nat, KeysOf f ks ∧ ss.mergeSort (fun x y => decide (x ≤ y)) = ks.map fun (k : Nat) => (k : Int) := by
  obtain ⟨es, rfl, hn, hm, hk⟩ := h.keys c
  have hperm : (ss.mergeSort (fun x y => decide (x ≤ y))).Perm (intKeys (.map es)) := (List.mergeSort_perm ss _).trans hp
  have hi : intKeys (.map es) = (es.map fun p => keyN p.1).map fun (k : Nat) => (k : Int) := by
    show (es.map fun p => Go.intOf p.1) = _
    rw [List.map_map]
    refine List.map_congr_left fun p hp' => ?_
    obtain ⟨k, hk', _⟩ := hk p hp'
    show Go.intOf p.1 = ((keyN p.1 : Nat) : Int)
    rw [hk']; rfl
  rw [hi] at hperm
  refine ⟨(ss.mergeSort (fun x y => decide (x ≤ y))).map Int.toNat, ⟨?_, fun k => ?_⟩, ?_⟩
  · have h2 := (hperm.map Int.toNat)
    rw [List.map_map] at h2
    have h3 : (es.map fun p => keyN p.1).map (Int.toNat ∘ fun (k : Nat) => (k : Int)) = es.map fun p => keyN p.1 := by
      rw [List.map_map]; rfl
    rw [h3] at h2
    exact h2.symm.nodup hn
  · rw [← hm k]
    have h2 := (hperm.map Int.toNat)
    rw [List.map_map] at h2
    have h3 : (es.map fun p => keyN p.1).map (Int.toNat ∘ fun (k : Nat) => (k : Int)) = es.map fun p => keyN p.1 := by
      rw [List.map_map]; rfl
    rw [h3] at h2
    exact h2.mem_iff
  · rw [List.map_map]
    refine (List.map_id _).symm.trans (List.map_congr_left fun x hx => ?_)
    have hx2 := hperm.mem_iff.1 hx
    obtain ⟨k, _, rfl⟩ := List.mem_map.1 hx2
    rfl

set_option maxRecDepth 100000 in
set_option maxHeartbeats 1000000 in
theorem sorted_any {bm n : Nat} {f : Nat → Option ByteArray} {w : World} (hS : Sheets bm n f w) :
    Calls Tryz.prog 52 #[.func (.func 74) #[] #[.pointer (some ⟨w.heap.size, 0, none⟩)]] (w.alloc (.cells #[.map (some bm)] 44)) fun e w' => ∃ (v : Value) (ks : List Nat), e = .returned v ∧ KeysOf f ks ∧ KRow (w.heap.size + 1) v ks w' ∧ Below w.heap.size w w' := by
  obtain ⟨D, hown, hM⟩ := hS
  have hbl := hown.lt
  have hcan := hown.canon keyed3
  have hsz : Maps.size D ≤ 2000 := by rw [hM.count hcan]; exact countU_le _ _
  have hseq : SeqGives Fence.wide 2 Tryz.prog 74 #[.pointer (some ⟨w.heap.size, 0, none⟩)] encZ (fun ss => ss.Perm (intKeys D)) (Maps.size D) (w.alloc (.cells #[.map (some bm)] 44)) :=
    AnyZI.keys_gives (ρ := Tryz.keysA_ren) { Tryz.keysA with } Fence.wide _ trivial rfl (by omega) w.heap.size bm n D _ (by simp) (by simp) (by
      obtain ⟨es, clock, hb, Ft, hs, hD⟩ := hown
      exact ⟨es, clock, (Below.heap_alloc _ _ bm hbl).trans hb, Ft, hs, hD⟩)
  have cS := AnyZI.sorted_in Tryz.sortedA Fence.wide 5 trivial trivial trivial trivial rfl (by omega) (Tryz.sortsA _) (enters_of Tryz.func73 (by kernel_rfl) rfl) 74 #[.pointer (some ⟨w.heap.size, 0, none⟩)] trivial (enters_of Tryz.func74 (by kernel_rfl) rfl) _ _ (by unfold maxLen; omega) (by omega) _ hseq
  change CallsIn _ _ Tryz.prog 52 _ _ _ at cS
  refine ((callsIn_wide (n := 5)).1 cS).mono ?_
  rintro e w' ⟨v, ss, rfl, hP, hrow, hnil, hb⟩
  obtain ⟨ks, hK, hks⟩ := intKeys_nat hM hcan hP
  have hl : (ss.mergeSort (fun x y => decide (x ≤ y))).length = ss.length := List.length_mergeSort _
  refine ⟨v, ks, rfl, hK, krow_of hks ?_, ((Below.refl _ w).alloc (Nat.le_refl _) _).trans (hb.mono (by simp))⟩
  rw [hl]
  have h9 := hrow
  rw [World.size_alloc] at h9
  exact h9
end Go.Proofs.YtjnjjpdgifnnpaaGreatDoor
namespace Go.Proofs.YtjnjjpdgifnnpaaGreatDoor
open Go.RowKit Go.Maps

theorem KRow.below {B : Nat} {v : Value} {ks : List Nat} {w w' : World} (h : KRow B v ks w) (hb : ∀ g, B ≤ g → g < w.heap.size → w'.heap[g]? = w.heap[g]?) (hs : w.heap.size ≤ w'.heap.size) : KRow B v ks w' := by
  obtain ⟨ad, cap, hv, h⟩ := h
  refine ⟨ad, cap, hv, ?_⟩
  rcases h with h | ⟨g, h1, h2, h3, h4⟩
  · exact .inl h
  · exact .inr ⟨g, h1, h2, Nat.lt_of_lt_of_le h3 hs, fun i hi => (World.cell?_of_block (hb g h2 h3)).trans (h4 i hi)⟩

theorem KRow.mono {B B' : Nat} {v : Value} {ks : List Nat} {w : World} (h : KRow B v ks w) (hB : B' ≤ B) : KRow B' v ks w := by
  obtain ⟨ad, cap, hv, h⟩ := h
  refine ⟨ad, cap, hv, ?_⟩
  rcases h with h | ⟨g, h1, h2, h3⟩
  · exact .inl h
  · exact .inr ⟨g, h1, Nat.le_trans hB h2, h3⟩
/-- a row's form -/
theorem KRow.open {B : Nat} {ad : Option Addr} {len cap : Nat} {ks : List Nat} {w : World} (h : KRow B (.slice ad len cap) ks w) {i : Nat} (hi : i < ks.length) : ∃ g, ad = some ⟨g, 0, none⟩ ∧ w.cell? ⟨g, i, none⟩ = some (.int .i64 (ks[i] : Nat)) := by
  obtain ⟨ad', cap', hv, h⟩ := h
  cases hv
  rcases h with h | ⟨g, h1, h2, h3, h4⟩
  · subst h; exact absurd hi (by simp)
  · exact ⟨g, h1, h4 i hi⟩
theorem KRow.slice {B : Nat} {v : Value} {ks : List Nat} {w : World} (h : KRow B v ks w) : ∃ ad cap, v = .slice ad ks.length cap := by
  obtain ⟨ad, cap, hv, _⟩ := h
  exact ⟨ad, cap, hv⟩
theorem not_take {ks : List Nat} (h : ks.Nodup) {i : Nat} (hi : i < ks.length) : ks[i] ∉ ks.take i := fun m => by
  obtain ⟨j, hj, e⟩ := List.getElem_of_mem m
  have hj' : j < i := by rw [List.length_take] at hj; omega
  rw [List.getElem_take] at e
  exact (List.pairwise_iff_getElem.1 h) j i (by omega) hi hj' e

theorem KeysOf.len {f : Nat → Option ByteArray} {ks : List Nat} (h : KeysOf f ks) (hf : ∀ k t, f k = some t → k < 2000) : ks.length ≤ 2000 := by
  have hp : ks.Perm ((List.range 2000).filter fun k => (f k).isSome) := (List.perm_ext_iff_of_nodup h.1 (List.nodup_range.filter _)).2 fun k => by
    rw [h.2 k, List.mem_filter, List.mem_range]
    refine ⟨fun hs => ⟨?_, hs⟩, fun hs => hs.2⟩
    obtain ⟨t, ht⟩ := Option.isSome_iff_exists.1 hs
    exact hf k t ht
  rw [hp.length_eq, filter_count]
  exact countU_le _ _

/-- what is read when the head is written -/
structure SavS (bp bd B : Nat) (b : Bool) (F U R : List Value) (wx : World) : Prop where
  disk : wx.cell? ⟨bp, 0, none⟩ = some (.pointer (some ⟨bd, 0, none⟩))
  zero : wx.cell? ⟨B, 0, none⟩ = some (.bool b)
  used : wx.rangeAt bp 2001 F
  upper : wx.rangeAt B 0 U
  roots : wx.rangeAt bp 4001 R
/-- what is known in a save -/
structure SavE (bp bd bm n : Nat) (p : Pg) (s : St) (w : World) (v : Value) (ks : List Nat) (up : Nat → Bool) (st : St) (done : List Nat) (wr : World) : Prop where
  pgr : PagerIs bp bd bm n p wr
  prg : Prg bd st wr
  ok : st.Ok
  ends : st.ends = s.ends
  sav : SavI p s.pg st.pg up done
  bits : Bits w.heap.size up wr
  row : KRow (w.heap.size + 1) v ks wr
  only : Only (fun b => b = bd) w wr
  lt : bd < w.heap.size ∧ bp < w.heap.size ∧ bm < w.heap.size
section
variable {bp bd bm n : Nat} {p : Pg} {s : St} {w : World} {v : Value} {ks : List Nat} {up : Nat → Bool} {st : St} {done : List Nat} {wr wx : World}
theorem SavE.ltB (h : SavE bp bd bm n p s w v ks up st done wr) : w.heap.size < wr.heap.size := World.block_lt_of_cell? wr _ (h.bits.cell 0 (by omega))
theorem SavE.step (h : SavE bp bd bm n p s w v ks up st done wr) (hb : Below wr.heap.size wr wx) : SavE bp bd bm n p s w v ks up st done wx :=
  ⟨h.pgr.below hb, h.prg.below hb, h.ok, h.ends, h.sav, h.bits.block (hb.block _ h.ltB), h.row.below (fun g _ hg => hb.block g hg) hb.size, h.only.trans (Only.of_below (S := fun _ => False) hb) (fun _ e => e.elim), h.lt⟩
theorem SavE.drew (h : SavE bp bd bm n p s w v ks up st done wr) : SavE bp bd bm n p s w v ks up st done wr.drew :=
  ⟨h.pgr.drew, h.prg.drew, h.ok, h.ends, h.sav, h.bits.block rfl, h.row.below (fun _ _ _ => rfl) (Nat.le_refl _), h.only.drew, h.lt⟩
/-- a place is turned, and a page is written -/
theorem SavE.flip (h : SavE bp bd bm n p s w v ks up st done wr) {k : Nat} (hk : k < 2000) (b : Bool) (hb : b = !up k) : Bits w.heap.size (flip1 up k) (wr.setCell ⟨w.heap.size, k, none⟩ (.bool b)) := by
  refine ⟨fun j hj => ?_, fun j => by rw [World.frozen?_setCell]; exact h.bits.free j⟩
  unfold flip1
  by_cases e : j = k
  · subst e
    rw [World.cell?_setCell_same _ _ _ (h.bits.cell j hj), if_pos rfl, hb]
  · rw [World.cell?_setCell_other _ _ _ _ (fun e' => e (by cases e'; rfl)), h.bits.cell j hj, if_neg e]
end

/-- behind the turn, ahead of the write -/
structure SavF (bp bd bm n : Nat) (p : Pg) (s : St) (w : World) (v : Value) (ks : List Nat) (up : Nat → Bool) (st : St) (done : List Nat) (k : Nat) (wr : World) : Prop where
  pgr : PagerIs bp bd bm n p wr
  prg : Prg bd st wr
  ok : st.Ok
  ends : st.ends = s.ends
  sav : SavI p s.pg st.pg up done
  bits : Bits w.heap.size (flip1 up k) wr
  row : KRow (w.heap.size + 1) v ks wr
  only : Only (fun b => b = bd) w wr
  lt : bd < w.heap.size ∧ bp < w.heap.size ∧ bm < w.heap.size
section
variable {bp bd bm n : Nat} {p : Pg} {s : St} {w : World} {v : Value} {ks : List Nat} {up : Nat → Bool} {st st' : St} {done : List Nat} {k : Nat} {wr wx : World}
theorem SavE.flipped (h : SavE bp bd bm n p s w v ks up st done wr) (hk : k < 2000) (b : Bool) (hb : b = !up k) : SavF bp bd bm n p s w v ks up st done k (wr.setCell ⟨w.heap.size, k, none⟩ (.bool b)) := by
  have ho : Only (fun b => b = w.heap.size) wr (wr.setCell ⟨w.heap.size, k, none⟩ (.bool b)) := Only.set w.heap.size k _ wr
  obtain ⟨l1, l2, l3⟩ := h.lt
  refine ⟨h.pgr.only ho (by omega) (by omega), Prg.only (s := st) h.prg ho (by omega), h.ok, h.ends, h.sav, h.flip hk b hb, h.row.below (fun g h1 hg => ho.block g hg (by omega)) ho.size, h.only.trans ho (fun _ e => .inr (by omega)), h.lt⟩
theorem SavF.ltB (h : SavF bp bd bm n p s w v ks up st done k wr) : w.heap.size < wr.heap.size := World.block_lt_of_cell? wr _ (h.bits.cell 0 (by omega))
theorem SavF.step (h : SavF bp bd bm n p s w v ks up st done k wr) (hb : Below wr.heap.size wr wx) : SavF bp bd bm n p s w v ks up st done k wx :=
  ⟨h.pgr.below hb, h.prg.below hb, h.ok, h.ends, h.sav, h.bits.block (hb.block _ h.ltB), h.row.below (fun g _ hg => hb.block g hg) hb.size, h.only.trans (Only.of_below (S := fun _ => False) hb) (fun _ e => e.elim), h.lt⟩
theorem SavF.drew (h : SavF bp bd bm n p s w v ks up st done k wr) : SavF bp bd bm n p s w v ks up st done k wr.drew :=
  ⟨h.pgr.drew, h.prg.drew, h.ok, h.ends, h.sav, h.bits.block rfl, h.row.below (fun _ _ _ => rfl) (Nat.le_refl _), h.only.drew, h.lt⟩
/-- what a save tells -/
def SavT (bd : Nat) (p : Pg) (s : St) (w : World) (up : Nat → Bool) (E : Value) (w' : World) : Prop :=
  ∃ s' : St, Prg bd s' w' ∧ s'.Ok ∧ s'.ends = s.ends ∧ Only (fun b => b = bd) w w' ∧
    ((E = .nilIface ∧ up = p.up ∧ Done p s.pg s'.pg) ∨ (E = .iface 33 (.int .i64 14) ∧ s.ends = true ∧ (Kept p s.pg s'.pg ∨ Done p s.pg s'.pg)))
/-- the pieces that a write leaves as they were -/
structure Wrote (bp bd bm n : Nat) (p : Pg) (s : St) (w : World) (v : Value) (ks : List Nat) (up' : Nat → Bool) (st' : St) (wx : World) : Prop where
  pgr : PagerIs bp bd bm n p wx
  prg : Prg bd st' wx
  ok : st'.Ok
  ends : st'.ends = s.ends
  bits : Bits w.heap.size up' wx
  row : KRow (w.heap.size + 1) v ks wx
  only : Only (fun b => b = bd) w wx
  lt : bd < w.heap.size ∧ bp < w.heap.size ∧ bm < w.heap.size
theorem SavF.wrote (h : SavF bp bd bm n p s w v ks up st done k wr) (hp : Prg bd st' wx) (ho : st'.Ok) (he : st'.ends = st.ends) (hg : wr.grownBy wx (some bd)) : Wrote bp bd bm n p s w v ks (flip1 up k) st' wx := by
  have hO : Only (fun b => b = bd) wr wx := Only.of_grown hg rfl
  obtain ⟨l1, l2, l3⟩ := h.lt
  have n1 := h.pgr.nd h.prg
  have n2 := h.pgr.md h.prg
  exact ⟨h.pgr.only hO n1 n2, hp, ho, he.trans h.ends, h.bits.block (hO.block _ h.ltB (by omega)), h.row.below (fun g h1 hg' => hO.block g hg' (by omega)) hO.size, h.only.trans hO (fun _ e => .inl e), h.lt⟩
theorem Wrote.ltB (h : Wrote bp bd bm n p s w v ks up st wr) : w.heap.size < wr.heap.size := World.block_lt_of_cell? wr _ (h.bits.cell 0 (by omega))
theorem Wrote.drew (h : Wrote bp bd bm n p s w v ks up st wr) : Wrote bp bd bm n p s w v ks up st wr.drew :=
  ⟨h.pgr.drew, h.prg.drew, h.ok, h.ends, h.bits.block rfl, h.row.below (fun _ _ _ => rfl) (Nat.le_refl _), h.only.drew, h.lt⟩
theorem Wrote.step (h : Wrote bp bd bm n p s w v ks up st wr) (hb : Below wr.heap.size wr wx) : Wrote bp bd bm n p s w v ks up st wx :=
  ⟨h.pgr.below hb, h.prg.below hb, h.ok, h.ends, h.bits.block (hb.block _ h.ltB), h.row.below (fun g _ hg => hb.block g hg) hb.size, h.only.trans (Only.of_below (S := fun _ => False) hb) (fun _ e => e.elim), h.lt⟩
theorem Wrote.wrote (h : Wrote bp bd bm n p s w v ks up st wr) (hp : Prg bd st' wx) (ho : st'.Ok) (he : st'.ends = st.ends) (hg : wr.grownBy wx (some bd)) : Wrote bp bd bm n p s w v ks up st' wx := by
  have hO : Only (fun b => b = bd) wr wx := Only.of_grown hg rfl
  obtain ⟨l1, l2, l3⟩ := h.lt
  have n1 := h.pgr.nd h.prg
  have n2 := h.pgr.md h.prg
  exact ⟨h.pgr.only hO n1 n2, hp, ho, he.trans h.ends, h.bits.block (hO.block _ h.ltB (by omega)), h.row.below (fun g h1 hg' => hO.block g hg' (by omega)) hO.size, h.only.trans hO (fun _ e => .inl e), h.lt⟩
theorem Wrote.next (h : Wrote bp bd bm n p s w v ks (flip1 up k) st' wx) (hs : SavI p s.pg st.pg up done) (hk : k ∉ done) (hl : k < 2000) {t : ByteArray} (ht : p.chg k = some t) (hpg : st'.pg = upd st.pg (placeF k (!p.upper k)) t) :
    SavE bp bd bm n p s w v ks (flip1 up k) st' (done ++ [k]) wx :=
  ⟨h.pgr, h.prg, h.ok, h.ends, by rw [hpg]; exact hs.step hk hl ht, h.bits, h.row, h.only, h.lt⟩
/-- the same bits, stored once more -/
theorem Wrote.tells (h : Wrote bp bd bm n p s w v ks up st' wx) (hs : s.ends = true) (hK : Kept p s.pg st'.pg ∨ Done p s.pg st'.pg) (fs : List Value) : SavT bd p s w up (.iface 33 (.int .i64 14)) (wx.setCells w.heap.size 0 fs) := by
  have ho : Only (fun b => b = w.heap.size) wx (wx.setCells w.heap.size 0 fs) := Only.setCells w.heap.size fs 0 wx
  obtain ⟨l1, _, _⟩ := h.lt
  exact ⟨st', Prg.only (s := st') h.prg ho (by omega), h.ok, h.ends, h.only.trans ho (fun _ e => .inr (by omega)), .inr ⟨rfl, hs, hK⟩⟩
theorem Wrote.tellsOk (h : Wrote bp bd bm n p s w v ks up st' wx) (hu : up = p.up) (hK : Done p s.pg st'.pg) (fs : List Value) : SavT bd p s w up .nilIface (wx.setCells w.heap.size 0 fs) := by
  have ho : Only (fun b => b = w.heap.size) wx (wx.setCells w.heap.size 0 fs) := Only.setCells w.heap.size fs 0 wx
  obtain ⟨l1, _, _⟩ := h.lt
  exact ⟨st', Prg.only (s := st') h.prg ho (by omega), h.ok, h.ends, h.only.trans ho (fun _ e => .inr (by omega)), .inl ⟨rfl, hu, hK⟩⟩
end
end Go.Proofs.YtjnjjpdgifnnpaaGreatDoor
