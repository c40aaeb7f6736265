/- Texts of the proof of MatchSets: Ttw, Ttp, Trw. -/
import Derived.Test.YtjgdnainhoipgaaGreatDoorM09
namespace Go.Proofs.YtjgdnainhoipgaaGreatDoor
open Go.RowKit Go.Maps

/-- pages and roots -/
structure Pst where
  used : Nat → Bool
  tx : Nat → ByteArray
  rp : Nat → Int
  rn : Nat → Int
def Pst.write (V : Pst) (k : Nat) (t : ByteArray) : Pst := { V with tx := fun i => if i = k then t else V.tx i }
def Pst.alloc (V : Pst) (k : Nat) : Pst := { V with used := fun i => if i = k then true else V.used i, tx := fun i => if i = k then zeros else V.tx i }
def Pst.free (V : Pst) (k : Nat) : Pst := { V with used := fun i => if i = k then false else V.used i }
def Pst.setRoot (V : Pst) (i : Nat) (k t : Int) : Pst := { V with rp := fun j => if j = i then k else V.rp j, rn := fun j => if j = i then t else V.rn j }
/-- a pager has just that -/
structure Match (p : Pg) (pg : Nat → ByteArray) (V : Pst) : Prop where
  used : p.used = V.used
  text : ∀ k, k < 2000 → V.used k = true → p.text pg k = V.tx k
  rp : ∀ i, i < 8 → p.rp i = V.rp i
  rn : ∀ i, i < 8 → p.rn i = V.rn i
section
variable {p : Pg} {pg : Nat → ByteArray} {V : Pst}
theorem Match.write (h : Match p pg V) (k : Nat) (t : ByteArray) : Match (p.write k t) pg (V.write k t) := by
  refine ⟨h.used, fun j hj hu => ?_, h.rp, h.rn⟩
  show (if j = k then some t else p.chg j).getD _ = (if j = k then t else V.tx j)
  by_cases e : j = k
  · rw [if_pos e, if_pos e]; rfl
  · rw [if_neg e, if_neg e]; exact h.text j hj hu
theorem Match.alloc (h : Match p pg V) (k : Nat) : Match (p.alloc k) pg (V.alloc k) := by
  refine ⟨by show (fun i => if i = k then true else p.used i) = _; rw [h.used]; rfl, fun j hj hu => ?_, h.rp, h.rn⟩
  show (if j = k then some zeros else p.chg j).getD _ = (if j = k then zeros else V.tx j)
  by_cases e : j = k
  · rw [if_pos e, if_pos e]; rfl
  · rw [if_neg e, if_neg e]
    change (if j = k then true else V.used j) = true at hu
    rw [if_neg e] at hu
    exact h.text j hj hu
theorem Match.free (h : Match p pg V) (k : Nat) : Match (p.free k) pg (V.free k) := by
  refine ⟨by show (fun i => if i = k then false else p.used i) = _; rw [h.used]; rfl, fun j hj hu => ?_, h.rp, h.rn⟩
  change (if j = k then false else V.used j) = true at hu
  show (if j = k then none else p.chg j).getD _ = V.tx j
  by_cases e : j = k
  · rw [if_pos e] at hu; cases hu
  · rw [if_neg e] at hu
    rw [if_neg e]; exact h.text j hj hu
theorem Match.setRoot (h : Match p pg V) (i : Nat) (k t : Int) : Match (p.setRoot i k t) pg (V.setRoot i k t) := by
  refine ⟨h.used, h.text, fun j hj => ?_, fun j hj => ?_⟩
  · show (if j = i then k else p.rp j) = (if j = i then k else V.rp j)
    rw [h.rp j hj]
  · show (if j = i then t else p.rn j) = (if j = i then t else V.rn j)
    rw [h.rn j hj]
end
/-- a pager in memory, and its disk -/
structure Tw (bp bd bm N : Nat) (s : St) (up : Nat → Bool) (cm : Int) (V : Pst) (w : World) : Prop where
  ex : ∃ p : Pg, PagerIs bp bd bm N p w ∧ p.Ok ∧ p.down = false ∧ p.upper = up ∧ p.commits = cm ∧ Match p s.pg V
  prg : Prg bd s w
section
variable {bp bd bm N : Nat} {s : St} {up : Nat → Bool} {cm : Int} {V : Pst} {w wx : World}
theorem Tw.below (h : Tw bp bd bm N s up cm V w) (hb : Below w.heap.size w wx) : Tw bp bd bm N s up cm V wx := by
  obtain ⟨p, h1, h2⟩ := h.ex
  exact ⟨⟨p, h1.below hb, h2⟩, Prg.below h.prg hb⟩
theorem Tw.drew (h : Tw bp bd bm N s up cm V w) : Tw bp bd bm N s up cm V w.drew := by
  obtain ⟨p, h1, h2⟩ := h.ex
  exact ⟨⟨p, h1.drew, h2⟩, Prg.drew h.prg⟩
theorem Tw.mono (h : Tw bp bd bm N s up cm V w) {N' : Nat} (hN : N ≤ N') : Tw bp bd bm N' s up cm V w := by
  obtain ⟨p, h1, h2⟩ := h.ex
  exact ⟨⟨p, h1.mono hN, h2⟩, h.prg⟩
theorem Tw.lt (h : Tw bp bd bm N s up cm V w) : bp < w.heap.size ∧ bm < w.heap.size ∧ bd < w.heap.size := by
  obtain ⟨p, h1, h2⟩ := h.ex
  exact ⟨h1.lt, h1.mlt, DiskIs.lt h.prg⟩
theorem Tw.only {S : Nat → Prop} (h : Tw bp bd bm N s up cm V w) (ho : Only S w wx) (h1 : ¬ S bp) (h2 : ¬ S bm) (h3 : ¬ S bd) : Tw bp bd bm N s up cm V wx := by
  obtain ⟨p, k1, k2⟩ := h.ex
  exact ⟨⟨p, k1.only ho h1 h2, k2⟩, Prg.only h.prg ho h3⟩
/-- no page is that of the head -/
theorem Tw.zero (h : Tw bp bd bm N s up cm V w) : V.used 0 = false := by
  obtain ⟨p, _, h2, _, _, _, h3⟩ := h.ex
  rw [← h3.used]; exact h2.zero
theorem Tw.size (h : Tw bp bd bm N s up cm V w) {k : Nat} (hk : k < 2000) (hu : V.used k = true) : (V.tx k).size = 1024 := by
  obtain ⟨p, _, h2, _, _, _, h3⟩ := h.ex
  rw [← h3.text k hk hu]
  unfold Pg.text
  cases hc : p.chg k with
  | some t => exact (h2.chg k t hc).2.2
  | none => exact page_of_sizes h.prg _ (placeF_lt k hk _)

theorem tw_down (h : Tw bp bd bm N s up cm V w) : Calls Tryz.prog 123 #[.pointer (some ⟨bp, 0, none⟩)] w fun e w' => e = .returned (.bool false) ∧ w' = w := by
  obtain ⟨p, h1, h2, h3, _⟩ := h.ex
  refine (down_any h1.cells).mono ?_
  rintro _ w' ⟨rfl, hw⟩
  exact ⟨by rw [h3], hw⟩
theorem tw_root (h : Tw bp bd bm N s up cm V w) (i : Nat) (hi : i < 8) : Calls Tryz.prog 26 #[.pointer (some ⟨bp, 0, none⟩), .int .i64 i] w fun e w' => e = .returned (.tuple #[.int .i64 (V.rp i), .int .i64 (V.rn i), .nilIface]) ∧ Below w.heap.size w w' := by
  obtain ⟨p, h1, h2, h3, _, _, hm⟩ := h.ex
  refine (root_yes h1.cells i hi).mono ?_
  rintro _ w' ⟨rfl, hw⟩
  exact ⟨by rw [hm.rp i hi, hm.rn i hi], hw⟩
theorem tw_read (h : Tw bp bd bm N s up cm V w) (k : Nat) (hk : k < 2000) (hu : V.used k = true) : Calls Tryz.prog 89 #[.pointer (some ⟨bp, 0, none⟩), .int .i64 k] w fun e w' => e = .returned (.tuple #[.string (V.tx k), .nilIface]) ∧ Below w.heap.size w w' := by
  obtain ⟨p, h1, h2, h3, _, _, hm⟩ := h.ex
  refine (readp_yes h1 h.prg h3 k hk (by rw [hm.used]; exact hu)).mono ?_
  rintro _ w' ⟨rfl, hw⟩
  exact ⟨by rw [hm.text k hk hu], hw⟩
theorem tw_write (h : Tw bp bd bm N s up cm V w) (hN : N < 1000000) (k : Nat) (hk : k < 2000) (hu : V.used k = true) (t : ByteArray) (ht : t.size = 1024) :
    Calls Tryz.prog 171 #[.pointer (some ⟨bp, 0, none⟩), .int .i64 k, .string t] w fun e w' => e = .returned .nilIface ∧ Tw bp bd bm (N + 1) s up cm (V.write k t) w' ∧ Only (fun b => b = bp ∨ b = bm) w w' := by
  obtain ⟨p, h1, h2, h3, h4, h5, hm⟩ := h.ex
  have hu' : p.used k = true := by rw [hm.used]; exact hu
  refine (writep_yes h1 hN h3 k hk hu' t ht).mono ?_
  rintro _ w' ⟨rfl, hP, hO⟩
  exact ⟨rfl, ⟨⟨_, hP, h2.write hk hu' t ht, h3, h4, h5, hm.write k t⟩, Prg.only h.prg hO (fun e => h1.md h.prg e.symm)⟩, hO.mono (fun _ e => .inr e)⟩
theorem tw_free (h : Tw bp bd bm N s up cm V w) (k : Nat) (hk : k < 2000) (hu : V.used k = true) :
    Calls Tryz.prog 169 #[.pointer (some ⟨bp, 0, none⟩), .int .i64 k] w fun e w' => e = .returned .nilIface ∧ Tw bp bd bm N s up cm (V.free k) w' ∧ Only (fun b => b = bp ∨ b = bm) w w' := by
  obtain ⟨p, h1, h2, h3, h4, h5, hm⟩ := h.ex
  refine (freep_yes h1 h3 k hk (by rw [hm.used]; exact hu)).mono ?_
  rintro _ w' ⟨rfl, hP, hO⟩
  exact ⟨rfl, ⟨⟨_, hP, h2.free k, h3, h4, h5, hm.free k⟩, Prg.only h.prg hO (fun e => by rcases e with e | e; exact h1.nd h.prg e.symm; exact h1.md h.prg e.symm)⟩, hO⟩
theorem tw_alloc (h : Tw bp bd bm N s up cm V w) (hN : N < 1000000) (k : Nat) (h0 : 0 < k) (hk : k < 2000) (hu : V.used k = false) (hl : ∀ j, 0 < j → j < k → V.used j = true) :
    Calls Tryz.prog 168 #[.pointer (some ⟨bp, 0, none⟩)] w fun e w' => e = .returned (.tuple #[.int .i64 k, .nilIface]) ∧ Tw bp bd bm (N + 1) s up cm (V.alloc k) w' ∧ Only (fun b => b = bp ∨ b = bm) w w' := by
  obtain ⟨p, h1, h2, h3, h4, h5, hm⟩ := h.ex
  refine (allocp_any h1 hN h3 k h0 hk (by rw [hm.used]; exact hu) (fun j a b => by rw [hm.used]; exact hl j a b)).mono ?_
  rintro _ w' ⟨rfl, hP, hO⟩
  exact ⟨rfl, ⟨⟨_, hP, h2.alloc h0 hk, h3, h4, h5, hm.alloc k⟩, Prg.only h.prg hO (fun e => by rcases e with e | e; exact h1.nd h.prg e.symm; exact h1.md h.prg e.symm)⟩, hO⟩
theorem tw_setRoot (h : Tw bp bd bm N s up cm V w) (i : Nat) (hi : i < 8) (k t : Nat) (hk : k < 2000) (ht : t < 65536) :
    Calls Tryz.prog 147 #[.pointer (some ⟨bp, 0, none⟩), .int .i64 i, .int .i64 k, .int .i64 t] w fun e w' => e = .returned .nilIface ∧ Tw bp bd bm N s up cm (V.setRoot i k t) w' ∧ Only (fun b => b = bp ∨ b = bm) w w' := by
  obtain ⟨p, h1, h2, h3, h4, h5, hm⟩ := h.ex
  have b1 : inB (k : Int) 2000 = true := by unfold inB; simp; omega
  have b2 : inB (t : Int) 65536 = true := by unfold inB; simp; omega
  refine (setRoot_yes h1.cells h3 i hi k t b1 b2).mono ?_
  rintro _ w' ⟨rfl, hC, hO⟩
  exact ⟨rfl, ⟨⟨_, ⟨hC, h1.own.only hO h1.ne⟩, h2.setRoot i b1 b2, h3, h4, h5, hm.setRoot i k t⟩, Prg.only h.prg hO (fun e => h1.nd h.prg e.symm)⟩, hO.mono (fun _ e => .inl e)⟩
end
end Go.Proofs.YtjgdnainhoipgaaGreatDoor
namespace Go.Proofs.YtjgdnainhoipgaaGreatDoor
open Go.RowKit

/-- a row of numbers that a call has made -/
def IRow (B : Nat) (v : Value) (ks : List Nat) (w : World) : Prop := w.ownsRow B 3 1 v ks.length (ks.map fun k => Value.int .i64 (k : Nat))
def ints (ks : List Nat) : List Value := ks.map fun k => Value.int .i64 (k : Nat)
theorem IRow.view {B : Nat} {v : Value} {ks : List Nat} {w : World} (h : IRow B v ks w) : View B v (ints ks) w :=
  View.of_own (e := 3) (by unfold ints; rw [List.length_map]; exact h)
theorem ints_len (ks : List Nat) : (ints ks).length = ks.length := List.length_map _
theorem ints_get {ks : List Nat} {k : Nat} (hk : k < ks.length) : (ints ks)[k]'(by rw [ints_len]; exact hk) = Value.int .i64 (ks[k] : Nat) := List.getElem_map _

/-- a top's bytes -/
def topL : List Nat → List UInt8
  | [] => []
  | k :: r => UInt8.ofNat (k / 256) :: UInt8.ofNat (k % 256) :: topL r
theorem topL_len : ∀ ks, (topL ks).length = 2 * ks.length
  | [] => rfl
  | k :: r => by rw [topL, List.length_cons, List.length_cons, topL_len r, List.length_cons]; omega
theorem topL_append : ∀ a b, topL (a ++ b) = topL a ++ topL b
  | [], _ => rfl
  | k :: r, b => by rw [List.cons_append, topL, topL, topL_append r b]; rfl
def topB (ks : List Nat) : ByteArray := ⟨(topL ks).toArray⟩
def u8s (l : List UInt8) : List Value := l.map fun b => Value.int .u8 (b.toNat : Nat)
def URow (B : Nat) (v : Value) (l : List UInt8) (w : World) : Prop := w.ownsRow B 5 1 v l.length (u8s l)
theorem info5' : ∃ i0 : TypeInfo, Tryz.prog.info? 5 = some i0 ∧ i0.zero = some (.int .u8 0) ∧ i0.size = 1 ∧ i0.bytes = 1 := by
  have h := info5
  cases hq : Tryz.prog.info? 5 with
  | none => rw [hq] at h; cases h
  | some i =>
    rw [hq] at h
    simp at h
    exact ⟨i, rfl, h.1, h.2.1, h.2.2⟩
theorem news_two (w : World) (x y : Value) (t : TypeId) : ∀ j u, ([x, y] : List Value)[j]? = some u → (w.alloc (.cells #[x, y] t)).cell? ((⟨w.heap.size, 0, none⟩ : Addr).add j) = some u := by
  intro j u hu
  have hn : (w.alloc (.cells #[x, y] t)).heap[w.heap.size]? = some (.cells #[x, y] t) := heap_alloc_new w _
  match j with
  | 0 => simp at hu; subst hu; rw [add_pl]; simp only [World.cell?, hn]; rfl
  | 1 => simp at hu; subst hu; rw [add_pl]; simp only [World.cell?, hn]; rfl
  | j + 2 => simp at hu
theorem news_oneV (w : World) (x : Value) (t : TypeId) : ∀ j u, ([x] : List Value)[j]? = some u → (w.alloc (.cells #[x] t)).cell? ((⟨w.heap.size, 0, none⟩ : Addr).add j) = some u := by
  intro j u hu
  have hn : (w.alloc (.cells #[x] t)).heap[w.heap.size]? = some (.cells #[x] t) := heap_alloc_new w _
  cases j with
  | zero => simp at hu; subst hu; rw [add_pl]; simp only [World.cell?, hn]; rfl
  | succ j => simp at hu
/-- a row of bytes, as a text -/
theorem text_of {B : Nat} {v : Value} {l : List UInt8} {w : World} (h : URow B v l w) (hl : l ≠ []) : (convert 128 9 v).run Tryz.prog w = .ok (.string ⟨l.toArray⟩) w := by
  have hp : 0 < l.length := List.length_pos_iff.2 hl
  obtain ⟨g, cap, rfl, h1, h2⟩ := World.ownsRow.form h hp
  have := run_convert_bytes_back (P := Tryz.prog) w 128 9 5 ⟨g, 0, none⟩ cap l Tryz.underlying128 Tryz.underlying5 Tryz.underlying9 (fun j hj => by
    rw [add_pl, Nat.zero_add]
    have := World.ownsRow.cellAt h j (by omega)
    rw [this]
    unfold u8s
    rw [List.getElem?_map, List.getElem?_eq_getElem hj]
    rfl)
  exact this

set_option maxRecDepth 100000 in
set_option maxHeartbeats 4000000 in
theorem writeTop_any {B : Nat} {v : Value} {ks : List Nat} (w : World) (hV : View B v (ints ks) w) (hk : ∀ k ∈ ks, k < 2000) (hn : ks.length ≤ 1000) (h0 : ks ≠ []) :
    Calls Tryz.prog 144 #[v] w fun e w' => e = .returned (.string (topB ks)) ∧ Below w.heap.size w w' := by
  have hlen := hV.len Tryz.underlying68
  rw [ints_len] at hlen
  have HV : Hid _ := hV
  have HK : Hid _ := hk
  have H0 : Hid _ := h0
  clear hV hk h0
  go_enter Tryz.func144, Tryz.ntmps144
  go_wp2_with fail
  go_loopw [3, 8] (fun l i wr => ∃ k : Nat, k ≤ ks.length ∧ i = .int .i64 k ∧ Hid (URow w.heap.size l (topL (ks.take k)) wr) ∧ Hid (Below w.heap.size w wr)) (fun _ i _ => ks.length - (intOf i).toNat)
  case atStart => exact ⟨0, Nat.zero_le _, rfl, World.ownsRow_nil _ _ _ _, Below.refl _ _⟩
  case round =>
    obtain ⟨k, hk, rfl, HR, HB⟩ := hrel
    by_cases hlt : k < ks.length
    · have h1 : (k : Int) < (ks.length : Int) := by omega
      obtain ⟨b0, o0, k1, k2, k3, k4⟩ := (HV.out.below HB.out).at (i := k) (by rw [ints_len]; exact hlt)
      have hix := k4 Tryz.underlying68 elem93 size3 (k : Int) rfl
      rw [ints_get hlt] at k3
      have hsk := HK.out _ (List.getElem_mem hlt)
      have HJ : Hid (topL (ks.take (k + 1)) = topL (ks.take k) ++ [UInt8.ofNat (ks[k] / 256), UInt8.ofNat (ks[k] % 256)]) := by
        show _ = _
        rw [List.take_succ_eq_append_getElem hlt, topL_append]; rfl
      have hll : (topL (ks.take k)).length = 2 * k := by rw [topL_len, List.length_take]; omega
      obtain ⟨x, hx⟩ : ∃ x, ks[k] = x := ⟨_, rfl⟩
      rw [hx] at k3 hsk HJ
      obtain ⟨L, hL⟩ : ∃ L, topL (ks.take k) = L := ⟨_, rfl⟩
      rw [hL] at HR HJ hll
      clear hx hL k1 k2 k4
      obtain ⟨i0, hi, hz0, hz1, hz2⟩ := info5'
      have HW : Hid ([Value.int .u8 ((x : Int) / 256), .int .u8 ((x : Int) % 256)] = u8s [UInt8.ofNat (x / 256), UInt8.ofNat (x % 256)]) := by
        show _ = _
        unfold u8s
        have e1 : (UInt8.ofNat (x / 256)).toNat = x / 256 := small_u8 (by omega)
        have e2 : (UInt8.ofNat (x % 256)).toNat = x % 256 := by rw [UInt8.toNat_ofNat']; omega
        simp only [List.map_cons, List.map_nil, e1, e2]
        congr 1
      have HO2 : Hid _ := World.ownsRow.alloc HR.out (.cells #[.int .u8 ((x : Int) / 256), .int .u8 ((x : Int) % 256)] 5)
      have hx1 : ((x : Int) / 256) % 256 = (x : Int) / 256 := by omega
      go_wp2_with (at_builtin; refine wpList_append_own _ rfl _ _ 128 rfl w.heap.size 5 i0 (.int .u8 0) 1 1 Tryz.underlying128 hi hz0 hz1 hz2 rfl (by decide) _ _ _ rfl HO2.out ⟨wr.heap.size, 0, none⟩ 2 2 [.int .u8 ((x : Int) / 256), .int .u8 ((x : Int) % 256)] rfl rfl (news_two wr _ _ 5) (by intro u hu; simp at hu; rcases hu with rfl | rfl <;> rfl) (by rw [hll]; simp only [maxLen]; omega) (by rw [hll]; omega) (by have := HB.out.size; simp; omega) ?_; intro v' w' hO hG hN)
      refine ⟨⟨k + 1, by omega, by go_num, ?_, ?_⟩, by simp [intOf]; omega⟩
      · show URow _ _ _ _
        rw [HJ.out]
        show World.ownsRow _ _ _ _ _ _ _
        rw [List.length_append, show u8s (L ++ [UInt8.ofNat (x / 256), UInt8.ofNat (x % 256)]) = u8s L ++ u8s [UInt8.ofNat (x / 256), UInt8.ofNat (x % 256)] from List.map_append, ← HW.out]
        exact hO
      · exact (HB.out.alloc HB.out.size _).grown hG (by have := HB.out.size; simp; omega) (fun k e => (World.ownsRow.lt HR.out k e).1)
    · have h1 : ¬ (k : Int) < (ks.length : Int) := by omega
      obtain rfl : k = ks.length := by omega
      rw [List.take_length] at HR
      have hcv := text_of HR.out (by intro e; have := topL_len ks; rw [e] at this; exact H0.out (List.length_eq_zero_iff.1 (by have h9 : 0 = 2 * ks.length := this; omega)))
      go_wp2
      go_ret
      exact ⟨rfl, HB.out⟩

theorem top_head {R : ByteArray} {k : Nat} {r : List Nat} {z : Nat} (h : R.data.toList = topL (k :: r) ++ List.replicate z 0) (hk : k < 2000) : ∃ h0 : 1 < R.size, (R[0]'(by omega)).toNat = k / 256 ∧ (R[1]).toNat = k % 256 ∧ (R.extract 2 R.size).data.toList = topL r ++ List.replicate z 0 ∧ (R.extract 2 R.size).size + 2 = R.size := by
  have hl := congrArg List.length h
  rw [Array.length_toList, List.length_append, topL_len, List.length_replicate, List.length_cons] at hl
  have hs : R.size = 2 * (r.length + 1) + z := hl
  have d : R.data.toList.drop 0 = UInt8.ofNat (k / 256) :: UInt8.ofNat (k % 256) :: (topL r ++ List.replicate z 0) := by rw [List.drop_zero, h]; rfl
  refine ⟨by omega, ?_, ?_, ?_, ?_⟩
  · have := get_of_drop (t := R) (a := 0) (b := 0) d rfl (by omega)
    have e : R[0]'(by omega) = UInt8.ofNat (k / 256) := this
    rw [e]; exact small_u8 (by omega)
  · have := get_of_drop (t := R) (a := 0) (b := 1) d rfl (by omega)
    have e : R[1]'(by omega) = UInt8.ofNat (k % 256) := this
    rw [e, UInt8.toNat_ofNat']; omega
  · rw [ByteArray.data_extract, Array.toList_extract, List.extract_eq_take_drop, h]
    show ((topL r ++ List.replicate z 0).take (R.size - 2)) = _
    rw [List.take_of_length_le (by rw [List.length_append, topL_len, List.length_replicate]; omega)]
  · rw [ByteArray.size_extract]; omega
theorem top_tail {R : ByteArray} {z : Nat} (h : R.data.toList = List.replicate z 0) (h1 : 1 < R.size) : (R[0]'(by omega)).toNat = 0 ∧ (R[1]).toNat = 0 := by
  have hl := congrArg List.length h
  rw [Array.length_toList, List.length_replicate] at hl
  have hs : R.size = z := hl
  have d : R.data.toList.drop 0 = List.replicate z 0 := by rw [List.drop_zero, h]
  constructor
  · have e : R[0]'(by omega) = 0 := get_of_drop (t := R) (a := 0) (b := 0) d (by rw [List.getElem?_replicate, if_pos (by omega)]) (by omega)
    rw [e]; rfl
  · have e : R[1]'(by omega) = 0 := get_of_drop (t := R) (a := 0) (b := 1) d (by rw [List.getElem?_replicate, if_pos (by omega)]) (by omega)
    rw [e]; rfl

theorem run_tail (t : ByteArray) (a : Nat) (h : a ≤ t.size) (w : World) : (Instr.slice 9 (.string t) (some (.int .i64 (a : Nat))) none none).run Tryz.prog w = .ok (.string (t.extract a t.size)) w := by
  simp [Instr.slice, Instr.sliceBounds, Instr.sliceBound, asIntOf, run_underlying Tryz.underlying9, go_sem]
  intro hc
  omega
theorem below_drewN' {B : Nat} {w w' : World} (h : Below B w w') (k : Nat) : Below B w (w'.drewN k) := ⟨h.os, h.tape, h.output, h.size, h.block⟩
theorem own_drewN {w : World} {base : Nat} {e : TypeId} {size : Nat} {v : Value} {n : Nat} {xs : List Value} (h : w.ownsRow base e size v n xs) (k : Nat) : (w.drewN k).ownsRow base e size v n xs := by
  have hh : (w.drewN k).heap = w.heap := by simp
  unfold World.ownsRow at h ⊢
  rw [hh]
  exact h
/-- how long a text is -/
def strSize : Value → Nat
  | .string s => s.size
  | _ => 0
set_option maxRecDepth 100000 in
set_option maxHeartbeats 4000000 in
theorem readTop_any {s : ByteArray} {ks : List Nat} {z : Nat} (w : World) (hs : s.data.toList = topL ks ++ List.replicate z 0) (hk : ∀ k ∈ ks, 0 < k ∧ k < 2000) (hm : s.size ≤ 4096) :
    Calls Tryz.prog 124 #[.string s] w fun e w' => ∃ v, e = .returned v ∧ IRow w.heap.size v ks w' ∧ Below w.heap.size w w' := by
  have HS : Hid _ := hs
  have HK : Hid _ := hk
  clear hs hk
  go_enter Tryz.func124, Tryz.ntmps124
  go_wp2_with fail
  go_loopw [0, 2] (fun t l wr => ∃ (j : Nat) (R : ByteArray), j ≤ ks.length ∧ R.size ≤ 4096 ∧ t = .string R ∧ Hid (R.data.toList = topL (ks.drop j) ++ List.replicate z 0) ∧ Hid (IRow w.heap.size l (ks.take j) wr) ∧ Hid (Below w.heap.size w wr)) (fun t _ _ => strSize t)
  case atStart => exact ⟨0, s, Nat.zero_le _, hm, rfl, HS, World.ownsRow_nil _ _ _ _, Below.refl _ _⟩
  case round =>
    obtain ⟨j, R, hj, hR, rfl, HD, HR, HB⟩ := hrel
    by_cases hlt : j < ks.length
    · have hd := HD.out
      rw [List.drop_eq_getElem_cons hlt] at hd
      have hkk := HK.out _ (List.getElem_mem hlt)
      obtain ⟨g1, g2, g3, g4, g5⟩ := top_head hd hkk.2
      have HT : Hid (ks.take (j + 1) = ks.take j ++ [ks[j]]) := List.take_succ_eq_append_getElem hlt
      have hll : (ks.take j).length = j := by rw [List.length_take]; omega
      have h1 : (1 : Int) < (R.size : Int) := by omega
      have h0 : (0 : Int) < (R.size : Int) := by omega
      have hkl : j ≤ 4096 := by
        have := congrArg List.length HD.out
        rw [Array.length_toList, List.length_append, topL_len, List.length_drop] at this
        have h7 : R.size = 2 * (ks.length - j) + (List.replicate z (0 : UInt8)).length := this
        have h8 := congrArg List.length HS.out
        rw [Array.length_toList, List.length_append, topL_len] at h8
        have h9 : s.size = 2 * ks.length + (List.replicate z (0 : UInt8)).length := h8
        omega
      obtain ⟨p, q, hp, hq, hpq⟩ : ∃ p q : Nat, ks[j] / 256 = p ∧ ks[j] % 256 = q ∧ ks[j] = p * 256 + q := ⟨_, _, rfl, rfl, by omega⟩
      rw [hp] at g2
      rw [hq] at g3
      have hp8 : p < 8 := by omega
      have hq8 : q < 256 := by omega
      have HPQ : Hid (ks[j] = p * 256 + q) := hpq
      have hnz : ¬ (p * 256 + q : Int) = 0 := by have := hkk.1; omega
      have b0 : ∀ w, (Instr.index 9 (.string R) (.int .i64 0)).run Tryz.prog w = .ok (.int .u8 (p : Nat)) w := fun w => run_byte R 0 (by omega) p g2 w
      have b1 : ∀ w, (Instr.index 9 (.string R) (.int .i64 1)).run Tryz.prog w = .ok (.int .u8 (q : Nat)) w := fun w => run_byte R 1 g1 q g3 w
      have HD2 : Hid _ := g4
      have HD3 : Hid _ := g5
      have HOR : Hid (bits BinOp.or IntKind.i64 ((p : Int) * 256) (q : Int) = (p : Int) * 256 + (q : Int)) := by
        show _ = _
        rw [bits_join IntKind.i64 63 (by decide) wraps_i64 8 _ _ (by omega) (by omega) (by omega) (by omega) (by omega) (by omega)]
      clear hd g2 g3 g4 g5 hp hq hpq
      go_wp2_with fail
      go_quiet (fail)
      rw [HOR.out]
      have HR : Hid (IRow w.heap.size u2 (ks.take j) (wr.drewN nq)) := own_drewN HR.out nq
      have HB : Hid (Below w.heap.size w (wr.drewN nq)) := below_drewN' HB.out nq
      obtain ⟨wq, hwq⟩ : ∃ wq, wr.drewN nq = wq := ⟨_, rfl⟩
      rw [hwq] at HR HB
      rw [hwq]
      clear hwq
      obtain ⟨i0, hi, hz0, hz1, hz2⟩ := info3
      have HX : Hid (Value.int .i64 ((p : Int) * 256 + (q : Int)) = Value.int .i64 ((ks[j] : Nat) : Int)) := by
        show _ = _
        rw [HPQ.out]; congr 1
      have HO2 : Hid _ := World.ownsRow.alloc HR.out (.cells #[.int .i64 ((p : Int) * 256 + (q : Int))] 3)
      have h2 : (2 : Int) ≤ (R.size : Int) := by omega
      have hs2 : ∀ wx, (Instr.slice 9 (.string R) (some (.int .i64 2)) none none).run Tryz.prog wx = .ok (.string (R.extract 2 R.size)) wx := fun wx => run_tail R 2 (by omega) wx
      go_wp2_with (at_builtin; refine wpList_append_own _ rfl _ _ 68 rfl w.heap.size 3 i0 (.int .i64 0) 1 8 Tryz.underlying68 hi hz0 hz1 hz2 rfl (by decide) _ _ _ rfl HO2.out ⟨wq.heap.size, 0, none⟩ 1 1 [.int .i64 ((p : Int) * 256 + (q : Int))] rfl rfl (news_oneV wq _ 3) (by intro u hu; simp at hu; subst hu; rfl) (by rw [hll]; simp only [maxLen]; omega) (by rw [hll]; omega) (by have := HB.out.size; simp; omega) ?_; intro v' w' hO hG hN)
      refine ⟨⟨j + 1, _, by omega, ?_, rfl, HD2, ?_, ?_⟩, ?_⟩
      · have := HD3.out; omega
      · show IRow _ _ _ _
        rw [HT.out]
        show World.ownsRow _ _ _ _ _ _ _
        rw [List.length_append, List.map_append, List.map_singleton, ← HX.out]
        exact hO
      · exact (HB.out.alloc HB.out.size _).grown hG (by have := HB.out.size; simp; omega) (fun k e => (World.ownsRow.lt HR.out k e).1)
      · have := HD3.out
        show (R.extract 2 R.size).size < R.size
        omega
    · obtain rfl : j = ks.length := by omega
      have hd := HD.out
      rw [List.drop_length, show topL ([] : List Nat) = [] from rfl, List.nil_append] at hd
      rw [List.take_length] at HR
      by_cases h1 : 1 < R.size
      · obtain ⟨g2, g3⟩ := top_tail hd h1
        have b0 : ∀ w, (Instr.index 9 (.string R) (.int .i64 0)).run Tryz.prog w = .ok (.int .u8 0) w := fun w => run_byte R 0 (by omega) 0 g2 w
        have b1 : ∀ w, (Instr.index 9 (.string R) (.int .i64 1)).run Tryz.prog w = .ok (.int .u8 0) w := fun w => run_byte R 1 h1 0 g3 w
        have h2 : (1 : Int) < (R.size : Int) := by omega
        have hor : bits BinOp.or IntKind.i64 0 0 = 0 := by decide
        clear hd g2 g3
        go_wp2_with fail
        go_quiet (fail)
        have HR : Hid (IRow w.heap.size u2 ks (wr.drewN nq)) := own_drewN HR.out nq
        have HB : Hid (Below w.heap.size w (wr.drewN nq)) := below_drewN' HB.out nq
        go_wp2
        go_ret
        exact ⟨_, rfl, HR.out, HB.out⟩
      · have h2 : ¬ (1 : Int) < (R.size : Int) := by omega
        clear hd
        go_wp2
        go_ret
        exact ⟨_, rfl, HR.out, HB.out⟩
end Go.Proofs.YtjgdnainhoipgaaGreatDoor
namespace Go.Proofs.YtjgdnainhoipgaaGreatDoor
open Go.RowKit Go.Maps

/-- a tree in memory: its pager, its root -/
structure Tt (bt bp r : Nat) (w : World) : Prop where
  cp : w.cell? ⟨bt, 0, none⟩ = some (.pointer (some ⟨bp, 0, none⟩))
  cr : w.cell? ⟨bt, 1, none⟩ = some (.int .i64 r)
  lt8 : r < 8
section
variable {bt bp r : Nat} {w wx : World}
theorem Tt.lt (h : Tt bt bp r w) : bt < w.heap.size := World.block_lt_of_cell? w _ h.cp
theorem Tt.below (h : Tt bt bp r w) (hb : Below w.heap.size w wx) : Tt bt bp r wx := ⟨(hb.cell (p := ⟨bt, 0, none⟩) h.lt).trans h.cp, (hb.cell (p := ⟨bt, 1, none⟩) h.lt).trans h.cr, h.lt8⟩
theorem Tt.only {S : Nat → Prop} (h : Tt bt bp r w) (ho : Only S w wx) (hs : ¬ S bt) : Tt bt bp r wx := ⟨(ho.cell h.lt hs 0).trans h.cp, (ho.cell h.lt hs 1).trans h.cr, h.lt8⟩
theorem Tt.drew (h : Tt bt bp r w) : Tt bt bp r w.drew := ⟨h.cp, h.cr, h.lt8⟩
end
/-- a leaf's bytes -/
def leafB (ps : List Pr) : ByteArray := ⟨(encL ps).toArray⟩
theorem leafB_size (ps : List Pr) : (leafB ps).size = szL ps := by
  show (encL ps).toArray.size = _
  rw [List.size_toArray, encL_len]
theorem Leaf.front {t : ByteArray} {ps : List Pr} {z : Nat} (h : Leaf t ps z) : t.extract 0 (szL ps) = leafB ps := by
  apply ByteArray.ext
  apply Array.toList_inj.1
  rw [ByteArray.data_extract, Array.toList_extract, List.extract_eq_take_drop, h.data]
  show (encL ps ++ List.replicate z 0).take (szL ps - 0) = (encL ps).toArray.toList
  rw [Nat.sub_zero, ← encL_len, List.take_left]
theorem leafB_leaf {ps : List Pr} (hok : ∀ x ∈ ps, x.Ok) (hs : szL ps ≤ 4096) : Leaf (leafB ps) ps 0 := ⟨by show (encL ps).toArray.toList = _; simp, hok, by rw [leafB_size]; exact hs⟩

section
variable {bt bp bd bm N r : Nat} {s : St} {up : Nat → Bool} {cm : Int} {V : Pst} {w : World}
theorem run_front (t : ByteArray) (a : Nat) (h : a ≤ t.size) (w : World) : (Instr.slice 9 (.string t) none (some (.int .i64 (a : Nat))) none).run Tryz.prog w = .ok (.string (t.extract 0 a)) w := by
  simp [Instr.slice, Instr.sliceBounds, Instr.sliceBound, asIntOf, run_underlying Tryz.underlying9, go_sem]
  intro hc
  omega
set_option maxRecDepth 100000 in
theorem read_any (hT : Tt bt bp r w) (h : Tw bp bd bm N s up cm V w) (k : Nat) (hk : k < 2000) (hu : V.used k = true) {ps : List Pr} {z : Nat} (hL : Leaf (V.tx k) ps z) :
    Calls Tryz.prog 91 #[.pointer (some ⟨bt, 0, none⟩), .int .i64 k] w fun e w' => e = .returned (.tuple #[.string (leafB ps), .nilIface]) ∧ Below w.heap.size w w' := by
  have q0 := hT.cp
  have HW : Hid _ := h
  have HL : Hid _ := hL
  have hfr := run_front (V.tx k) (szL ps) (by rw [hL.size]; omega)
  rw [hL.front] at hfr
  clear h hL hT
  go_enter Tryz.func91, Tryz.ntmps91
  go_wp2_with fail
  refine (tw_read HW.out k hk hu).mono ?_
  rintro _ w1 ⟨rfl, hb1⟩
  have HB1 : Hid _ := hb1
  clear hb1
  go_wp2_with fail
  refine (filled_any HL.out w1).mono ?_
  rintro _ w2 ⟨rfl, hb2⟩
  have HB2 : Hid (Below w.heap.size w w2) := HB1.out.trans (hb2.mono HB1.out.size)
  clear hb2
  go_wp2
  go_ret2
  exact ⟨rfl, HB2.out⟩
end

/-- a text, with noughts behind it -/
def padG (t : ByteArray) (j : Nat) : Nat := (t.data.toList.getD j 0).toNat
def pad (t : ByteArray) : ByteArray := ⟨(bytesOf (padG t)).toArray⟩
theorem pad_size (t : ByteArray) : (pad t).size = 1024 := by
  show (bytesOf (padG t)).toArray.size = 1024
  rw [List.size_toArray, bytesOf_len]
theorem pad_data (t : ByteArray) (h : t.size ≤ 1024) : (pad t).data.toList = t.data.toList ++ List.replicate (1024 - t.size) 0 := by
  have e0 : (pad t).data.toList = bytesOf (padG t) := by unfold pad; simp only
  rw [e0]
  apply List.ext_getElem?
  intro j
  have hl : t.data.toList.length = t.size := Array.length_toList
  by_cases hj : j < 1024
  · have e1 : (bytesOf (padG t))[j]? = some (t.data.toList.getD j 0) := by
      have := bytesOf_getD (padG t) hj
      rw [List.getD_eq_getElem?_getD] at this
      have hb : j < (bytesOf (padG t)).length := by rw [bytesOf_len]; exact hj
      rw [List.getElem?_eq_getElem hb] at this ⊢
      have h9 : (bytesOf (padG t))[j] = UInt8.ofNat (padG t j) := this
      rw [h9]
      unfold padG
      rw [UInt8.ofNat_toNat]
    rw [e1, List.getElem?_append]
    split
    · rename_i e
      rw [List.getD_eq_getElem?_getD, List.getElem?_eq_getElem e]; rfl
    · rename_i e
      rw [List.getElem?_replicate, if_pos (by omega), List.getD_eq_getElem?_getD, List.getElem?_eq_none (by omega)]; rfl
  · rw [List.getElem?_eq_none (by rw [bytesOf_len]; omega), List.getElem?_eq_none (by rw [List.length_append, List.length_replicate]; omega)]
theorem pad_leaf {ps : List Pr} (hok : ∀ x ∈ ps, x.Ok) (hs : szL ps ≤ 1024) : Leaf (pad (leafB ps)) ps (1024 - szL ps) :=
  ⟨by rw [pad_data _ (by rw [leafB_size]; exact hs), leafB_size]; show (encL ps).toArray.toList ++ _ = _; simp, hok, by rw [pad_size]; omega⟩
theorem BRow.copied {B : Nat} {w : World} (h : BRow B (fun _ => 0) w) (t : ByteArray) (ht : t.size ≤ 1024) : BRow B (padG t) (w.setCells B 0 (Lib.byteCells t.data.toList)) := by
  have hl : t.data.toList.length = t.size := Array.length_toList
  have hb : (Lib.byteCells t.data.toList).length = t.size := by rw [Lib.byteCells_length, hl]
  refine ⟨fun j hj => ?_, fun j => by rw [World.frozen?_setCells]; exact h.free j, fun j => UInt8.toNat_lt _⟩
  by_cases e : j < t.size
  · have := World.cell?_setCells_in B (Lib.byteCells t.data.toList) 0 w (fun i hi => by rw [Nat.zero_add, h.cell i (by omega)]; rfl) j (by omega)
    rw [Nat.zero_add] at this
    rw [this]
    unfold Lib.byteCells padG
    rw [List.getElem_map, List.getD_eq_getElem?_getD, List.getElem?_eq_getElem (by omega)]
    rfl
  · rw [World.cell?_setCells_out B _ 0 w ⟨B, j, none⟩ (fun _ _ => .inr (by show 0 + _ ≤ j; omega)), h.cell j hj]
    unfold padG
    rw [List.getD_eq_getElem?_getD, List.getElem?_eq_none (by omega)]
    rfl

section
variable {bt bp bd bm N r : Nat} {s : St} {up : Nat → Bool} {cm : Int} {V : Pst} {w : World}
theorem bytes_of_beq {a b : ByteArray} (h : (a.toList == b.toList) = true) : a = b := by
  have h2 : a.toList = b.toList := by simpa using h
  rw [ByteArray.toList_eq, ByteArray.toList_eq] at h2
  exact ByteArray.ext (Array.toList_inj.1 h2)
/-- a page has this text -/
theorem Pst.write_same (V : Pst) (k : Nat) : V.write k (V.tx k) = V := by
  cases V
  unfold Pst.write
  congr
  funext i
  by_cases e : i = k
  · rw [if_pos e, e]
  · rw [if_neg e]
set_option maxRecDepth 100000 in
set_option maxHeartbeats 1000000 in
theorem write_any (hT : Tt bt bp r w) (h : Tw bp bd bm N s up cm V w) (hN : N < 1000000) (hne : bt ≠ bp ∧ bt ≠ bm) (k : Nat) (hk : k < 2000) (hu : V.used k = true) (t : ByteArray) (ht : t.size ≤ 1024) :
    Calls Tryz.prog 146 #[.pointer (some ⟨bt, 0, none⟩), .int .i64 k, .string t] w fun e w' => e = .returned .nilIface ∧ Tw bp bd bm (N + 1) s up cm (V.write k (pad t)) w' ∧ Only (fun b => b = bp ∨ b = bm) w w' := by
  have h0 := h.lt
  obtain ⟨w1, hmk, hb1, hr1⟩ := made_page w
  have hcp := run_copy_str (P := Tryz.prog) w1 128 9 3 5 w.heap.size 0 1024 1024 t Tryz.underlying128 (by kernel_rfl) ht (fun j hj => by rw [Nat.zero_add, hr1.cell j (by omega)]; rfl) (fun j _ => by rw [Nat.zero_add]; exact hr1.free j)
  have HR : Hid (BRow w.heap.size (padG t) (w1.setCells w.heap.size 0 (Lib.byteCells t.data.toList))) := hr1.copied t ht
  have HB : Hid (Below w.heap.size w (w1.setCells w.heap.size 0 (Lib.byteCells t.data.toList))) := Below.setCells' (Nat.le_refl _) _ _ _ hb1
  obtain ⟨w2, hw2⟩ : ∃ w2, w1.setCells w.heap.size 0 (Lib.byteCells t.data.toList) = w2 := ⟨_, rfl⟩
  rw [hw2] at hcp HR HB
  have HT : Hid (Tt bt bp r w2) := hT.below HB.out
  have HW : Hid (Tw bp bd bm N s up cm V w2) := h.below HB.out
  have q0 := HT.out.cp
  clear hw2 hr1 hb1 hT h
  go_enter Tryz.func146, Tryz.ntmps146
  go_wp2_with fail
  refine (tw_read HW.out k hk hu).mono ?_
  rintro _ w3 ⟨rfl, hb3⟩
  have HB3 : Hid (Below w.heap.size w w3) := HB.out.trans (hb3.mono HB.out.size)
  have HT3 : Hid (Tt bt bp r w3) := HT.out.below hb3
  have HW3 : Hid (Tw bp bd bm N s up cm V w3) := HW.out.below hb3
  have HR3 : Hid (BRow w.heap.size (padG t) w3) := HR.out.block (hb3.block _ HR.out.lt)
  have htx := HR3.out.text
  have HTX : Hid (pad t = ⟨(bytesOf (padG t)).toArray⟩) := rfl
  rw [← HTX.out] at htx
  have q3 := HT3.out.cp
  clear hb3 HT HW HR q0 HTX
  cases he : ((V.tx k).toList == (pad t).toList)
  · have lts := HW3.out.lt
    have HBT : Hid (bp < w.heap.size ∧ bm < w.heap.size) := ⟨h0.1, h0.2.1⟩
    go_wp2_with fail
    have HW4 : Hid (Tw bp bd bm N s up cm V w3.drew) := HW3.out.drew
    have S0 : Hid (w3.drew.cell? ⟨bt, 0, none⟩ = some (.pointer (some ⟨bp, 0, none⟩)) ∧ (convert 128 9 (.slice (some ⟨w.heap.size, 0, none⟩) 1024 1024)).run Tryz.prog w3.drew = .ok (.string (pad t)) w3.drew) := ⟨HT3.out.drew.cp, (HR3.out.block (w' := w3.drew) rfl).text⟩
    clear htx q3
    go_region_held3 (fun wx => wx.cell? ⟨bt, 0, none⟩ = some (.pointer (some ⟨bp, 0, none⟩)) ∧ (convert 128 9 (.slice (some ⟨w.heap.size, 0, none⟩) 1024 1024)).run Tryz.prog wx = .ok (.string (pad t)) wx) (first | exact S0.out | exact S1.out)
      (first | (go_at_call 171; refine (tw_write HW4.out hN k hk hu (pad t) (pad_size t)).mono ?_; rintro _ w5 ⟨rfl, hW5, hO5⟩; have HO5 : Hid _ := hO5; have HW5 : Hid _ := hW5; have S1 : Hid (w5.cell? ⟨bt, 0, none⟩ = some (.pointer (some ⟨bp, 0, none⟩)) ∧ (convert 128 9 (.slice (some ⟨w.heap.size, 0, none⟩) 1024 1024)).run Tryz.prog w5 = .ok (.string (pad t)) w5) := ⟨(HT3.out.drew.only hO5 (fun e => by rcases e with e | e; exact hne.1 e; exact hne.2 e)).cp, ((HR3.out.block (w' := w3.drew) rfl).block (hO5.block _ HR3.out.lt (fun e => by have := HBT.out; omega))).text⟩; clear hO5 hW5))
    go_wp2
    go_ret
    exact ⟨rfl, HW5.out, (Only.of_below (S := fun b => b = bp ∨ b = bm) HB3.out.drew).trans HO5.out (fun _ e => .inl e)⟩
  · have HE : Hid (V.tx k = pad t) := by
      show _ = _
      exact bytes_of_beq he
    go_wp2
    go_ret
    refine ⟨rfl, ?_, Only.of_below HB3.out⟩
    rw [← HE.out, Pst.write_same]
    exact HW3.out.mono (Nat.le_succ _)
end
end Go.Proofs.YtjgdnainhoipgaaGreatDoor
