/- Texts of the proof of FinderEven: Fno, Fct, Fad, Fbm, Fsm, Fnd, Fl0. -/
import Derived.Test.YtdphlkljenbkcaaGreatDoorF19
namespace Go.Proofs.YtdphlkljenbkcaaGreatDoor
open Go.RowKit Go.Maps

theorem take_new {l : List ByteArray} {i : Nat} (hi : i < l.length) : l[i] ∈ l.take (i + 1) := by
  rw [List.take_succ_eq_append_getElem hi, List.mem_append, List.mem_singleton]
  exact .inr rfl
theorem take_old {l : List ByteArray} {i : Nat} (hi : i < l.length) {x : ByteArray} (h : x ∈ l.take i) : x ∈ l.take (i + 1) := by
  rw [List.take_succ_eq_append_getElem hi, List.mem_append]
  exact .inl h
def box3 (bf r : Nat) (w : World) : World := ((w.alloc (.cells #[.pointer (some ⟨bf, 0, none⟩)] 25)).alloc (.cells #[.string nN] 9)).alloc (.cells #[.int .i64 (r : Nat)] 3)
theorem box3_is (bf r : Nat) (w : World) : Bx3 w.heap.size bf r (box3 bf r w) ∧ Below w.heap.size w (box3 bf r w) ∧ (box3 bf r w).heap.size = w.heap.size + 3 := by
  unfold box3
  refine ⟨⟨?_, ?_, ?_⟩, ?_, by simp⟩
  · exact ((Own1.new w (.pointer (some ⟨bf, 0, none⟩)) 25).below ((Below.refl _ _).alloc (Nat.le_refl _) _)).below ((Below.refl _ _).alloc (Nat.le_refl _) _)
  · have := Own1.new (w.alloc (.cells #[.pointer (some ⟨bf, 0, none⟩)] 25)) (.string nN) 9
    rw [World.size_alloc] at this
    exact this.below ((Below.refl _ _).alloc (Nat.le_refl _) _)
  · have := Own1.new ((w.alloc (.cells #[.pointer (some ⟨bf, 0, none⟩)] 25)).alloc (.cells #[.string nN] 9)) (.int .i64 (r : Nat)) 3
    rw [World.size_alloc, World.size_alloc] at this
    exact this
  · exact (((Below.refl _ w).alloc (Nat.le_refl _) _).alloc (by simp) _).alloc (by simp only [World.size_alloc]; omega) _
theorem piece_key {t : Nt} (ht : t.Ok) {x y : ByteArray} (hx : x ∈ t.ws) (hy : y ∈ t.ws) (hne : x ≠ y) : (t.piece x).k ≠ (t.piece y).k := fun e => by
  have hh := ht.hi
  exact hne (key_tri (ht.ws x hx) (ht.ws y hy) (by omega) (by omega) e).1
section
variable {bf bt bp bd bm N Z Bx : Nat} {M : Pr → Prop} {w : World} {t : Nt} {v : Value}
theorem note_once (ht : t.Ok) (h : PrS bf bt bp bd bm N Z M w) (hrow : w.ownsRow Bx 9 1 v t.ws.length (sc t.ws)) (hvb : ∀ b, v.ownBlock = some b → b ≠ bp ∧ b ≠ bm) (hno : ∀ x ∈ t.ws, ∀ y, M y → y.k ≠ keyF nN x t.r) (hZ : Z + 43 * t.ws.length ≤ 30000) (hN : N + 40 * t.ws.length + 60 < 1000000) :
    Calls Tryz.prog 41 #[v, .int .i64 (t.r : Nat), .func (.func 42) #[] #[.pointer (some ⟨w.heap.size, 0, none⟩), .pointer (some ⟨w.heap.size + 1, 0, none⟩), .pointer (some ⟨w.heap.size + 2, 0, none⟩)]] (box3 bf t.r w) fun e w' => e = .returned .nilIface ∧ PrS bf bt bp bd bm (N + 40 * t.ws.length) (Z + 43 * t.ws.length) (fun y => M y ∨ ∃ x ∈ t.ws, y = t.piece x) w' ∧ Only (fun b => b = bp ∨ b = bm) w w' := by
  obtain ⟨hx3, hb3, hs3⟩ := box3_is bf t.r w
  obtain ⟨l1, l2, l3, l4, l5⟩ := h.lt
  refine (once_any (w := box3 bf t.r w) (W := fun b => b = bp ∨ b = bm) (I := fun i wx => Bx3 w.heap.size bf t.r wx ∧ PrS bf bt bp bd bm (N + 40 * i) (Z + 43 * i) (fun y => M y ∨ ∃ x ∈ t.ws.take i, y = t.piece x) wx) (fun x hx => by have := (ht.ws x hx).le; omega) (by have := ht.len; omega) (row_below hrow hb3) (fun b e => ⟨by rcases e with e | e <;> omega, fun e2 => by have := hvb b e2; rcases e with e | e; exact this.1 e; exact this.2 e⟩) (enters_of Tryz.func42 (by kernel_rfl) rfl) ⟨hx3, ?_⟩ (fun k wx wy hI ho => ⟨hI.1.only ho (fun i e => by omega), hI.2.above ho (by omega)⟩) (fun i hi a n c wx hnew hI hsz hr hn => ?_) (fun i hi wx hin hI => ⟨hI.1, ?_⟩)).mono ?_
  · exact ((h.below hb3).mono (by omega) (by omega)).iff (fun y => by simp)
  · have hmi : t.ws[i] ∈ t.ws := List.getElem_mem hi
    refine (note_cl ht hmi hI.2 hI.1 ⟨l3, l4⟩ hr hn (by omega) (by omega)).mono ?_
    rintro e w' ⟨rfl, g1, g2⟩
    refine ⟨rfl, ⟨hI.1.only g2 (fun j e => by rcases e with e | e <;> omega), ?_⟩, g2⟩
    refine (g1.mono (by omega) (by omega)).iff (fun y => ?_)
    constructor
    · rintro (rfl | ⟨hy, _⟩)
      · exact .inr ⟨_, take_new hi, rfl⟩
      · rcases hy with hy | ⟨x, hx, rfl⟩
        · exact .inl hy
        · exact .inr ⟨x, take_old hi hx, rfl⟩
    · rintro (hy | ⟨x, hx, rfl⟩)
      · exact .inr ⟨.inl hy, hno _ hmi y hy⟩
      · rw [List.take_succ_eq_append_getElem hi, List.mem_append, List.mem_singleton] at hx
        rcases hx with hx | hx
        · exact .inr ⟨.inr ⟨x, hx, rfl⟩, piece_key ht (List.mem_of_mem_take hx) hmi (fun e => hnew (by rw [← e]; exact hx))⟩
        · exact .inl (by rw [hx])
  · refine (hI.2.mono (by omega) (by omega)).iff (fun y => ?_)
    constructor
    · rintro (hy | ⟨x, hx, rfl⟩)
      · exact .inl hy
      · exact .inr ⟨x, take_old hi hx, rfl⟩
    · rintro (hy | ⟨x, hx, rfl⟩)
      · exact .inl hy
      · rw [List.take_succ_eq_append_getElem hi, List.mem_append, List.mem_singleton] at hx
        rcases hx with hx | hx
        · exact .inr ⟨x, hx, rfl⟩
        · exact .inr ⟨x, by rw [hx]; exact hin, rfl⟩
  · rintro e w' ⟨rfl, ⟨_, g1⟩, g2⟩
    rw [List.take_length] at g1
    exact ⟨rfl, g1, (below_only hb3 _).trans g2 (fun _ e => .inl e)⟩
theorem forget_once (ht : t.Ok) (h : PrS bf bt bp bd bm N Z (fun y => M y ∨ ∃ x ∈ t.ws, y = t.piece x) w) (hrow : w.ownsRow Bx 9 1 v t.ws.length (sc t.ws)) (hvb : ∀ b, v.ownBlock = some b → b ≠ bp ∧ b ≠ bm) (hno : ∀ x ∈ t.ws, ∀ y, M y → y.k ≠ keyF nN x t.r) (hN : N + 40 * t.ws.length + 60 < 1000000) :
    Calls Tryz.prog 41 #[v, .int .i64 (t.r : Nat), .func (.func 46) #[] #[.pointer (some ⟨w.heap.size, 0, none⟩), .pointer (some ⟨w.heap.size + 1, 0, none⟩), .pointer (some ⟨w.heap.size + 2, 0, none⟩)]] (box3 bf t.r w) fun e w' => e = .returned .nilIface ∧ PrS bf bt bp bd bm (N + 40 * t.ws.length) Z M w' ∧ Only (fun b => b = bp ∨ b = bm) w w' := by
  obtain ⟨hx3, hb3, hs3⟩ := box3_is bf t.r w
  obtain ⟨l1, l2, l3, l4, l5⟩ := h.lt
  refine (once_any (w := box3 bf t.r w) (W := fun b => b = bp ∨ b = bm) (I := fun i wx => Bx3 w.heap.size bf t.r wx ∧ PrS bf bt bp bd bm (N + 40 * i) Z (fun y => M y ∨ ∃ x ∈ t.ws, x ∉ t.ws.take i ∧ y = t.piece x) wx) (fun x hx => by have := (ht.ws x hx).le; omega) (by have := ht.len; omega) (row_below hrow hb3) (fun b e => ⟨by rcases e with e | e <;> omega, fun e2 => by have := hvb b e2; rcases e with e | e; exact this.1 e; exact this.2 e⟩) (enters_of Tryz.func46 (by kernel_rfl) rfl) ⟨hx3, ?_⟩ (fun k wx wy hI ho => ⟨hI.1.only ho (fun i e => by omega), hI.2.above ho (by omega)⟩) (fun i hi a n c wx hnew hI hsz hr hn => ?_) (fun i hi wx hin hI => ⟨hI.1, ?_⟩)).mono ?_
  · exact ((h.below hb3).mono (by omega) (by omega)).iff (fun y => by simp)
  · have hmi : t.ws[i] ∈ t.ws := List.getElem_mem hi
    refine (forget_cl (y := t.piece t.ws[i]) (by have := (ht.ws _ hmi).le; omega) hI.2 hI.1 ⟨l3, l4⟩ (.inr ⟨_, hmi, hnew, rfl⟩) rfl (by omega)).mono ?_
    rintro e w' ⟨rfl, g1, g2⟩
    refine ⟨rfl, ⟨hI.1.only g2 (fun j e => by rcases e with e | e <;> omega), ?_⟩, g2⟩
    refine (g1.mono (by omega) (Nat.le_refl _)).iff (fun y => ?_)
    constructor
    · rintro ⟨hy | ⟨x, hx, hxn, rfl⟩, hne⟩
      · exact .inl hy
      · refine .inr ⟨x, hx, fun hm => ?_, rfl⟩
        rw [List.take_succ_eq_append_getElem hi, List.mem_append, List.mem_singleton] at hm
        rcases hm with hm | hm
        · exact hxn hm
        · exact hne (by rw [hm])
    · rintro (hy | ⟨x, hx, hxn, rfl⟩)
      · exact ⟨.inl hy, fun e => hno _ hmi y hy (by rw [e]; rfl)⟩
      · rw [List.take_succ_eq_append_getElem hi, List.mem_append, List.mem_singleton] at hxn
        refine ⟨.inr ⟨x, hx, fun hm => hxn (.inl hm), rfl⟩, fun e => ?_⟩
        exact piece_key ht hx hmi (fun e2 => hxn (.inr e2)) (congrArg Pr.k e)
  · refine (hI.2.mono (by omega) (Nat.le_refl _)).iff (fun y => ?_)
    constructor
    · rintro (hy | ⟨x, hx, hxn, rfl⟩)
      · exact .inl hy
      · refine .inr ⟨x, hx, fun hm => ?_, rfl⟩
        rw [List.take_succ_eq_append_getElem hi, List.mem_append, List.mem_singleton] at hm
        rcases hm with hm | hm
        · exact hxn hm
        · exact hxn (by rw [hm]; exact hin)
    · rintro (hy | ⟨x, hx, hxn, rfl⟩)
      · exact .inl hy
      · exact .inr ⟨x, hx, fun hm => hxn (take_old hi hm), rfl⟩
  · rintro e w' ⟨rfl, ⟨_, g1⟩, g2⟩
    rw [List.take_length] at g1
    refine ⟨rfl, g1.iff (fun y => ⟨fun hy => ?_, fun hy => .inl hy⟩), (below_only hb3 _).trans g2 (fun _ e => .inl e)⟩
    rcases hy with hy | ⟨x, hx, hxn, _⟩
    · exact hy
    · exact absurd hx hxn
set_option maxRecDepth 100000 in
set_option maxHeartbeats 2000000 in
theorem note_any (ht : t.Ok) (h : PrS bf bt bp bd bm N Z M w) (hrow : w.ownsRow Bx 9 1 v t.ws.length (sc t.ws)) (hvb : ∀ b, v.ownBlock = some b → b ≠ bp ∧ b ≠ bm) (hno : ∀ x ∈ t.ws, ∀ y, M y → y.k ≠ keyF nN x t.r) (hZ : Z + 43 * t.ws.length ≤ 30000) (hN : N + 40 * t.ws.length + 60 < 1000000) :
    Calls Tryz.prog 21 #[.pointer (some ⟨bf, 0, none⟩), .string nN, .int .i64 (t.r : Nat), v] w fun e w' => e = .returned .nilIface ∧ PrS bf bt bp bd bm (N + 40 * t.ws.length) (Z + 43 * t.ws.length) (fun y => M y ∨ ∃ x ∈ t.ws, y = t.piece x) w' ∧ Only (fun b => b = bp ∨ b = bm) w w' := by
  have HO : Hid _ := note_once ht h hrow hvb hno hZ hN
  have hmf : ∀ (fn : Fn) (first cap : Array Value) (w : World), (Instr.makeFunc fn first cap).run Tryz.prog w = .ok (.func fn first cap) w := fun _ _ _ _ => rfl
  obtain ⟨hx3, _, _⟩ := box3_is bf t.r w
  have c0 := hx3.r.cell
  obtain ⟨w0, hw0⟩ : ∃ w0, box3 bf t.r w = w0 := ⟨_, rfl⟩
  have hw1 : ((w.alloc (.cells #[.pointer (some ⟨bf, 0, none⟩)] 25)).alloc (.cells #[.string nN] 9)).alloc (.cells #[.int .i64 (t.r : Nat)] 3) = w0 := hw0
  rw [hw0] at c0 HO
  have c1 : w0.cell? ⟨w.heap.size + 1 + 1, 0, none⟩ = some (.int .i64 (t.r : Nat)) := c0
  clear hx3 hw0 h hrow hvb hno ht c0
  go_enter Tryz.func21, Tryz.ntmps21
  go_wp2_with fail
  refine (show Calls _ _ _ _ _ from HO.out).mono ?_
  rintro _ w2 ⟨rfl, g1, g2⟩
  have HG1 : Hid _ := g1
  have HG2 : Hid _ := g2
  clear g1 g2 HO
  go_wp2
  go_ret
  exact ⟨rfl, HG1.out, HG2.out⟩
set_option maxRecDepth 100000 in
set_option maxHeartbeats 2000000 in
theorem forget_any (ht : t.Ok) (h : PrS bf bt bp bd bm N Z (fun y => M y ∨ ∃ x ∈ t.ws, y = t.piece x) w) (hrow : w.ownsRow Bx 9 1 v t.ws.length (sc t.ws)) (hvb : ∀ b, v.ownBlock = some b → b ≠ bp ∧ b ≠ bm) (hno : ∀ x ∈ t.ws, ∀ y, M y → y.k ≠ keyF nN x t.r) (hN : N + 40 * t.ws.length + 60 < 1000000) :
    Calls Tryz.prog 23 #[.pointer (some ⟨bf, 0, none⟩), .string nN, .int .i64 (t.r : Nat), v] w fun e w' => e = .returned .nilIface ∧ PrS bf bt bp bd bm (N + 40 * t.ws.length) Z M w' ∧ Only (fun b => b = bp ∨ b = bm) w w' := by
  have HO : Hid _ := forget_once ht h hrow hvb hno hN
  have hmf : ∀ (fn : Fn) (first cap : Array Value) (w : World), (Instr.makeFunc fn first cap).run Tryz.prog w = .ok (.func fn first cap) w := fun _ _ _ _ => rfl
  obtain ⟨hx3, _, _⟩ := box3_is bf t.r w
  have c0 := hx3.r.cell
  obtain ⟨w0, hw0⟩ : ∃ w0, box3 bf t.r w = w0 := ⟨_, rfl⟩
  have hw1 : ((w.alloc (.cells #[.pointer (some ⟨bf, 0, none⟩)] 25)).alloc (.cells #[.string nN] 9)).alloc (.cells #[.int .i64 (t.r : Nat)] 3) = w0 := hw0
  rw [hw0] at c0 HO
  have c1 : w0.cell? ⟨w.heap.size + 1 + 1, 0, none⟩ = some (.int .i64 (t.r : Nat)) := c0
  clear hx3 hw0 h hrow hvb hno ht c0
  go_enter Tryz.func23, Tryz.ntmps23
  go_wp2_with fail
  refine (show Calls _ _ _ _ _ from HO.out).mono ?_
  rintro _ w2 ⟨rfl, g1, g2⟩
  have HG1 : Hid _ := g1
  have HG2 : Hid _ := g2
  clear g1 g2 HO
  go_wp2
  go_ret
  exact ⟨rfl, HG1.out, HG2.out⟩
end
end Go.Proofs.YtdphlkljenbkcaaGreatDoor
namespace Go.Proofs.YtdphlkljenbkcaaGreatDoor
open Go.RowKit Go.Maps

theorem plcs_mem (r : Nat) : ∀ (ws : List ByteArray) (i : Nat) (w : ByteArray) (x : Pl), x ∈ plcsF r i ws w → ∃ j, ws[j]? = some w ∧ x = ⟨(r : Int), ((i + j : Nat) : Int)⟩
  | [], _, _, _, h => by cases h
  | y :: t, i, w, x, h => by
    unfold plcsF at h
    have go : x ∈ plcsF r (i + 1) t w → ∃ j, (y :: t)[j]? = some w ∧ x = ⟨(r : Int), ((i + j : Nat) : Int)⟩ := fun h => by
      obtain ⟨j, h1, h2⟩ := plcs_mem r t (i + 1) w x h
      exact ⟨j + 1, h1, by rw [h2]; congr 2; omega⟩
    by_cases e : y = w
    · rw [if_pos e] at h
      rcases List.mem_cons.1 h with h | h
      · exact ⟨0, by rw [← e]; rfl, h⟩
      · exact go h
    · rw [if_neg e] at h
      exact go h
theorem plcs_nodup (r : Nat) : ∀ (ws : List ByteArray) (i : Nat) (w : ByteArray), (plcsF r i ws w).Pairwise (fun a b => a ≠ b)
  | [], _, _ => List.Pairwise.nil
  | y :: t, i, w => by
    unfold plcsF
    split
    · refine List.Pairwise.cons (fun x hx e => ?_) (plcs_nodup r t (i + 1) w)
      obtain ⟨j, _, h2⟩ := plcs_mem r t (i + 1) w x hx
      rw [← e] at h2
      have h3 := congrArg Pl.a h2
      simp only at h3
      omega
    · exact plcs_nodup r t (i + 1) w
theorem nodup_le {α : Type} : ∀ (l m : List α), l.Pairwise (fun a b => a ≠ b) → (∀ x ∈ l, x ∈ m) → l.length ≤ m.length
  | [], _, _, _ => Nat.zero_le _
  | x :: l, m, hn, hs => by
    rw [List.pairwise_cons] at hn
    obtain ⟨a, b, rfl⟩ := List.append_of_mem (hs x (by simp))
    have := nodup_le l (a ++ b) hn.2 (fun y hy => by
      have h1 := hs y (by simp [hy])
      simp only [List.mem_append, List.mem_cons] at h1 ⊢
      rcases h1 with h1 | h1 | h1
      · exact .inl h1
      · exact absurd h1.symm (hn.1 y hy)
      · exact .inr h1)
    simp only [List.length_append, List.length_cons] at this ⊢
    omega
/-- pieces of these rows, in order -/
structure LsF (R : List Nt) (L : List Pc) : Prop where
  of : ∀ c ∈ L, ∃ t ∈ R, ∃ w ∈ t.ws, c = t.pc w
  sorted : (L.map Pc.pr).Pairwise (fun a b => bl a.k b.k = true)
/-- rows, each once -/
structure RsOk (R : List Nt) : Prop where
  ok : ∀ t ∈ R, t.Ok
  ap : ∀ t ∈ R, ∀ s ∈ R, t.r = s.r → t = s
theorem cntL_flat : ∀ (L : List Pc), cntL L = (L.flatMap Pc.l).length
  | [] => rfl
  | c :: l => by rw [cntL, List.flatMap_cons, List.length_append, cntL_flat l]
theorem LsF.ok {R : List Nt} {L : List Pc} (h : LsF R L) (hR : RsOk R) : ∀ c ∈ L, c.Ok := fun c hc => by
  obtain ⟨t, ht, w, hw, rfl⟩ := h.of c hc
  exact (hR.ok t ht).pc hw
theorem LsF.nodup {R : List Nt} {L : List Pc} (h : LsF R L) (hR : RsOk R) : (L.flatMap Pc.l).Pairwise (fun a b => a ≠ b) := by
  rw [List.pairwise_flatMap]
  refine ⟨fun c hc => ?_, ?_⟩
  · obtain ⟨t, ht, w, hw, rfl⟩ := h.of c hc
    exact plcs_nodup _ _ _ _
  · have hs := h.sorted
    rw [List.pairwise_map] at hs
    refine List.Pairwise.imp_of_mem (fun {a b} ha hb hab x hx y hy e => ?_) hs
    obtain ⟨t, ht, w, hw, rfl⟩ := h.of a ha
    obtain ⟨s, hs, u, hu, rfl⟩ := h.of b hb
    obtain ⟨i, hi, ex⟩ := plcs_mem _ _ _ _ _ hx
    obtain ⟨j, hj, ey⟩ := plcs_mem _ _ _ _ _ hy
    rw [ex, ey] at e
    have e1 := congrArg Pl.r e
    have e2 := congrArg Pl.a e
    simp only at e1 e2
    obtain rfl := hR.ap t ht s hs (by omega)
    have : i = j := by omega
    subst this
    rw [hi] at hj
    obtain rfl := Option.some.inj hj
    rw [bl_irrefl] at hab
    cases hab
theorem LsF.cnt {R : List Nt} {L : List Pc} (h : LsF R L) (hR : RsOk R) : cntL L ≤ 20 * R.length := by
  rw [cntL_flat]
  refine Nat.le_trans (nodup_le _ (R.flatMap (fun t => (List.range t.ws.length).map (fun a : Nat => (⟨(t.r : Int), (a : Int)⟩ : Pl)))) (h.nodup hR) (fun x hx => ?_)) ?_
  · obtain ⟨c, hc, hx⟩ := List.mem_flatMap.1 hx
    obtain ⟨t, ht, w, hw, rfl⟩ := h.of c hc
    obtain ⟨i, hi, ex⟩ := plcs_mem _ _ _ _ _ hx
    refine List.mem_flatMap.2 ⟨t, ht, List.mem_map.2 ⟨i, List.mem_range.2 (List.getElem?_eq_some_iff.1 hi).1, ?_⟩⟩
    rw [ex, Nat.zero_add]
  · have : ∀ (R : List Nt), (∀ t ∈ R, t.Ok) → (R.flatMap (fun t => (List.range t.ws.length).map (fun a : Nat => (⟨(t.r : Int), (a : Int)⟩ : Pl)))).length ≤ 20 * R.length := by
      intro R
      induction R with
      | nil => intro _; simp
      | cons t R ih =>
        intro h
        have h1 := ih (fun s hs => h s (by simp [hs]))
        have h2 := (h t (by simp)).len
        rw [List.flatMap_cons, List.length_append, List.length_map, List.length_range, List.length_cons]
        omega
    exact this R hR.ok
theorem LsF.len {R : List Nt} {L : List Pc} (h : LsF R L) (hR : RsOk R) : L.length ≤ 20 * R.length := by
  refine Nat.le_trans ?_ (h.cnt hR)
  have : ∀ (L : List Pc), (∀ c ∈ L, c.Ok) → L.length ≤ cntL L := by
    intro L
    induction L with
    | nil => intro _; simp
    | cons c L ih =>
      intro h
      have h1 := ih (fun s hs => h s (by simp [hs]))
      have h2 := (h c (by simp)).pos
      rw [cntL, List.length_cons]
      omega
  exact this L (h.ok hR)
theorem exists_map {α β : Type} {f : α → β} {P : α → Prop} : ∀ (l : List β), (∀ x ∈ l, ∃ c, P c ∧ x = f c) → ∃ cs : List α, l = cs.map f ∧ ∀ c ∈ cs, P c
  | [], _ => ⟨[], rfl, fun _ h => by cases h⟩
  | x :: l, h => by
    obtain ⟨cs, h1, h2⟩ := exists_map l (fun y hy => h y (by simp [hy]))
    obtain ⟨c, h3, h4⟩ := h x (by simp)
    refine ⟨c :: cs, by rw [h1, h4]; rfl, fun d hd => ?_⟩
    rcases List.mem_cons.1 hd with rfl | hd
    · exact h3
    · exact h2 d hd
/-- what is in a tree, as pieces -/
theorem PrS.pieces {bf bt bp bd bm N Z : Nat} {R : List Nt} {w : World} (h : PrS bf bt bp bd bm N Z (InF R) w) : ∃ N1 up V T L, Fs bf bt bp bd bm N1 up V T w ∧ T.all = L.map Pc.pr ∧ LsF R L ∧ (∀ c, c ∈ L → c.pr ∈ T.all) ∧ (∀ x, x ∈ T.all ↔ InF R x) := by
  obtain ⟨N1, up, V, T, h1, h2, h3, h4⟩ := h
  obtain ⟨L, hL, hL2⟩ := exists_map (f := Pc.pr) (P := fun c => ∃ t ∈ R, ∃ w ∈ t.ws, c = t.pc w) T.all (fun x hx => by
    obtain ⟨t, ht, w, hw, rfl⟩ := (h4 x).1 hx
    exact ⟨t.pc w, ⟨t, ht, w, hw, rfl⟩, rfl⟩)
  exact ⟨N1, up, V, T, L, h2, hL, ⟨hL2, by rw [← hL]; exact h2.sorted⟩, fun c hc => by rw [hL]; exact List.mem_map.2 ⟨c, hc, rfl⟩, h4⟩
end Go.Proofs.YtdphlkljenbkcaaGreatDoor
namespace Go.Proofs.YtdphlkljenbkcaaGreatDoor
open Go.RowKit Go.Maps

/-- what is laid -/
structure Gl (w : World) : Prop where
  m : ∃ m : Int, w.cell? ⟨2, 0, none⟩ = some (.int .i64 m)
  h : HG w
  e : EndsAt w
section
variable {bf bt bp bd bm N Z Bx : Nat} {M : Pr → Prop} {w w' : World} {t : Nt} {v : Value} {R : List Nt}
theorem Gl.below (h : Gl w) (hb : Below w.heap.size w w') : Gl w' := by
  obtain ⟨⟨m, h1⟩, h2, h3⟩ := h
  exact ⟨⟨m, keepc hb h1⟩, h2.below hb h2.lt, h3.below hb⟩
theorem Gl.only {S : Nat → Prop} (h : Gl w) (ho : Only S w w') (hS : ∀ b, S b → 3 ≤ b) : Gl w' := by
  obtain ⟨⟨m, h1⟩, h2, h3⟩ := h
  have l2 : 2 < w.heap.size := World.block_lt_of_cell? _ _ h1
  refine ⟨⟨m, (ho.cell l2 (fun e => by have := hS _ e; omega) 0).trans h1⟩, (ho.cell h2.lt (fun e => by have := hS _ e; omega) 0).trans h2, ?_⟩
  unfold EndsAt at h3 ⊢
  have e : ∀ o, w'.cell? ⟨0, o, none⟩ = w.cell? ⟨0, o, none⟩ := fun o => ho.cell (by omega) (fun e => by have := hS _ e; omega) o
  simp only [e]
  exact h3
theorem fresh_rows (hR : ∀ s ∈ R, s.Ok) (ht : t.Ok) (hne : ∀ s ∈ R, s.r ≠ t.r) : ∀ x ∈ t.ws, ∀ y, InF R y → y.k ≠ keyF nN x t.r := by
  rintro x hx y ⟨s, hs, u, hu, rfl⟩ e
  have h1 := (hR s hs).hi
  have h2 := ht.hi
  exact hne s hs (key_tri ((hR s hs).ws u hu) (ht.ws x hx) (by omega) (by omega) e).2
theorem inF_more {y : Pr} : InF (R ++ [t]) y ↔ (InF R y ∨ ∃ x ∈ t.ws, y = t.piece x) := by
  constructor
  · rintro ⟨s, hs, u, hu, rfl⟩
    rcases List.mem_append.1 hs with hs | hs
    · exact .inl ⟨s, hs, u, hu, rfl⟩
    · obtain rfl := List.mem_singleton.1 hs
      exact .inr ⟨u, hu, rfl⟩
  · rintro (⟨s, hs, u, hu, rfl⟩ | ⟨u, hu, rfl⟩)
    · exact ⟨s, by simp [hs], u, hu, rfl⟩
    · exact ⟨t, by simp, u, hu, rfl⟩
theorem words_ok {s : ByteArray} {r : Nat} (hs : s.size ≤ 40) (h1 : 1 ≤ r) (h2 : r ≤ 2000) : (⟨r, wordsL s.data.toList⟩ : Nt).Ok :=
  ⟨h1, h2, fun w hw => word_ok hw, by have := words_count s; show (wordsL s.data.toList).length ≤ 20; omega⟩
theorem split_own {s : ByteArray} {r : Nat} (ht : t = ⟨r, wordsL s.data.toList⟩) (hs : s.size ≤ 40) (hg : Gl w) (w0 : World) (hb : Below w.heap.size w w0) :
    Calls Tryz.prog 19 #[.string s] w0 fun e w' => ∃ a c, e = .returned (.slice a t.ws.length c) ∧ w'.ownsRow w0.heap.size 9 1 (.slice a t.ws.length c) t.ws.length (sc t.ws) ∧ Below w0.heap.size w0 w' := by
  subst ht
  refine (split_any s w0 (by omega) (hg.below hb).e).mono ?_
  rintro e w' ⟨v, rfl, h1, h2⟩
  obtain ⟨a, c, rfl⟩ := row_slice h1
  exact ⟨a, c, rfl, h1, h2⟩
set_option maxRecDepth 100000 in
set_option maxHeartbeats 2000000 in
theorem add_any (s : ByteArray) (hs : s.size ≤ 40) {r : Nat} (ht : t = ⟨r, wordsL s.data.toList⟩) (hr1 : 1 ≤ r) (hr2 : r ≤ 2000) (hR : RsOk R) (hne : ∀ s ∈ R, s.r ≠ t.r) (hRl : R.length ≤ 23) (h : PrS bf bt bp bd bm N Z (InF R) w) (hg : Gl w) (hZ : Z + 860 ≤ 30000) (hN : N + 1000 < 1000000) :
    Calls Tryz.prog 6 #[.pointer (some ⟨bf, 0, none⟩), .string nN, .int .i64 (r : Nat), .string s] w fun e w' => e = .returned .nilIface ∧ PrS bf bt bp bd bm (N + 800) (Z + 860) (InF (R ++ [t])) w' ∧ Only (fun b => b = bp ∨ b = bm) w w' := by
  have hok : t.Ok := by rw [ht]; exact words_ok hs hr1 hr2
  have htr : t.r = r := by rw [ht]
  have hno := fresh_rows hR.ok hok hne
  have htl := hok.len
  obtain ⟨l1, l2, l3, l4, l5⟩ := h.lt
  have HSP : Hid _ := fun w0 hb => split_own (w := w) ht hs hg w0 hb
  have HFR : Hid (∀ wx B a c, Below w.heap.size w wx → wx.ownsRow B 9 1 (.slice a t.ws.length c) t.ws.length (sc t.ws) → Calls Tryz.prog 20 #[.pointer (some ⟨bf, 0, none⟩), .string nN, .int .i64 (r : Nat), .slice a t.ws.length c] wx fun e w' => e = .returned .nilIface ∧ Below wx.heap.size wx w') := fun wx B a c hb ho => by
    rw [← htr]
    exact fresh_any (h.below hb) (hg.below hb).h (fun x hx => by have := (hok.ws x hx).le; omega) (by omega) ho hno
  have HMY : Hid (∀ wx, Below w.heap.size w wx → Calls Tryz.prog 10 #[.pointer (some ⟨bf, 0, none⟩)] wx fun e w' => ∃ c : Nat, c ≤ 460 ∧ e = .returned (.tuple #[.int .i64 (c : Nat), .nilIface]) ∧ Below wx.heap.size wx w') := fun wx hb => by
    obtain ⟨N1, up, V, T, L, k1, k2, k3, k4, k5⟩ := (h.below hb).pieces
    obtain ⟨m, hm⟩ := (hg.below hb).m
    refine (many_any k1 hm (k3.ok hR) k2 (by have := k3.len hR; omega)).mono ?_
    rintro e w' ⟨rfl, hb'⟩
    exact ⟨cntL L, by have := k3.cnt hR; omega, rfl, hb'⟩
  have HNT : Hid (∀ wx B a c, Below w.heap.size w wx → w.heap.size ≤ B → wx.ownsRow B 9 1 (.slice a t.ws.length c) t.ws.length (sc t.ws) → Calls Tryz.prog 21 #[.pointer (some ⟨bf, 0, none⟩), .string nN, .int .i64 (r : Nat), .slice a t.ws.length c] wx fun e w' => e = .returned .nilIface ∧ PrS bf bt bp bd bm (N + 800) (Z + 860) (InF (R ++ [t])) w' ∧ Only (fun b => b = bp ∨ b = bm) wx w') := fun wx B a c hb hB ho => by
    rw [← htr]
    refine (note_any hok (h.below hb) ho (fun b e => by have := (World.ownsRow.lt ho b e).1; omega) hno (by omega) (by omega)).mono ?_
    rintro e w' ⟨rfl, g1, g2⟩
    exact ⟨rfl, (g1.mono (by omega) (by omega)).iff (fun y => inF_more.symm), g2⟩
  obtain ⟨n, hn⟩ : ∃ n, t.ws.length = n := ⟨_, rfl⟩
  rw [hn] at HSP HFR HNT htl
  obtain ⟨ss, hss⟩ : ∃ ss, (s.size : Int) = ss := ⟨_, rfl⟩
  have hs2 : ¬ (40 : Int) < (s.size : Int) := by omega
  clear hok htr hno h hg hn ht hR hne hss
  go_enter Tryz.func6, Tryz.ntmps6
  go_wp2_with fail
  refine (checkF_any r hr1 (by omega) _).mono ?_
  rintro _ w9 ⟨rfl, h9⟩
  obtain rfl := h9.symm
  clear h9
  go_wp2_with fail
  refine (show Calls _ _ _ _ _ from HSP.out w (Below.refl _ _)).mono ?_
  rintro _ w2 ⟨a, c, rfl, hr2, hb2⟩
  have HR2 : Hid (w2.ownsRow w.heap.size 9 1 (.slice a n c) n (sc t.ws)) := hr2
  have HB2 : Hid (Below w.heap.size w w2) := hb2
  clear hr2 hb2
  go_wp2_with fail
  refine (show Calls _ _ _ _ _ from HFR.out w2 _ a c HB2.out HR2.out).mono ?_
  rintro _ w3 ⟨rfl, hb3⟩
  have HB3 : Hid (Below w.heap.size w w3) := HB2.out.trans (hb3.mono HB2.out.size)
  have HR3 : Hid (w3.ownsRow w.heap.size 9 1 (.slice a n c) n (sc t.ws)) := row_below HR2.out hb3
  clear hb3
  go_wp2_with fail
  refine (show Calls _ _ _ _ _ from HMY.out w3 HB3.out).mono ?_
  rintro _ w4 ⟨cc, hcc, rfl, hb4⟩
  have HB4 : Hid (Below w.heap.size w w4) := HB3.out.trans (hb4.mono HB3.out.size)
  have HR4 : Hid (w4.ownsRow w.heap.size 9 1 (.slice a n c) n (sc t.ws)) := row_below HR3.out hb4
  have hwp : IntKind.i64.wrap ((cc : Int) + (n : Int)) = (cc : Int) + (n : Int) := wraps_i64 _ (by omega) (by omega)
  have hle : ¬ (500 : Int) < (cc : Int) + (n : Int) := by omega
  clear hb4
  go_wp2_with fail
  refine (show Calls _ _ _ _ _ from HNT.out w4 _ a c HB4.out (Nat.le_refl _) HR4.out).mono ?_
  rintro _ w5 ⟨rfl, g1, g2⟩
  have HG1 : Hid (PrS bf bt bp bd bm (N + 800) (Z + 860) (InF (R ++ [t])) w5) := g1
  have HG2 : Hid (Only (fun b => b = bp ∨ b = bm) w w5) := (below_only HB4.out _).trans g2 (fun _ e => .inl e)
  clear g1 g2
  go_wp2
  go_ret
  exact ⟨rfl, HG1.out, HG2.out⟩
set_option maxRecDepth 100000 in
set_option maxHeartbeats 2000000 in
theorem drop_fin (s : ByteArray) (hs : s.size ≤ 40) {r : Nat} (ht : t = ⟨r, wordsL s.data.toList⟩) (hr1 : 1 ≤ r) (hr2 : r ≤ 2000) (hR : RsOk R) (hne : ∀ s ∈ R, s.r ≠ t.r) (h : PrS bf bt bp bd bm N Z (InF (R ++ [t])) w) (hg : Gl w) (hN : N + 1000 < 1000000) :
    Calls Tryz.prog 8 #[.pointer (some ⟨bf, 0, none⟩), .string nN, .int .i64 (r : Nat), .string s] w fun e w' => e = .returned .nilIface ∧ PrS bf bt bp bd bm (N + 800) Z (InF R) w' ∧ Only (fun b => b = bp ∨ b = bm) w w' := by
  have hok : t.Ok := by rw [ht]; exact words_ok hs hr1 hr2
  have htr : t.r = r := by rw [ht]
  have hno := fresh_rows hR.ok hok hne
  have htl := hok.len
  obtain ⟨l1, l2, l3, l4, l5⟩ := h.lt
  have q0 := h.own.cell
  have HSP : Hid _ := fun w0 hb => split_own (w := w) ht hs hg w0 hb
  have HSH : Hid (Calls Tryz.prog 22 #[.pointer (some ⟨bt, 0, none⟩)] w fun e w' => ∃ x y : Nat, e = .returned (.tuple #[.int .i64 (x : Nat), .int .i64 (y : Nat), .nilIface]) ∧ Below w.heap.size w w') := by
    obtain ⟨N1, up, V, T, k1, k2, k3⟩ := h
    exact (shape_any k2.t k2.tw k2.a).mono (fun e w' hh => ⟨_, _, hh.1, hh.2⟩)
  have HNT : Hid (∀ wx B a c, Below w.heap.size w wx → w.heap.size ≤ B → wx.ownsRow B 9 1 (.slice a t.ws.length c) t.ws.length (sc t.ws) → Calls Tryz.prog 23 #[.pointer (some ⟨bf, 0, none⟩), .string nN, .int .i64 (r : Nat), .slice a t.ws.length c] wx fun e w' => e = .returned .nilIface ∧ PrS bf bt bp bd bm (N + 800) Z (InF R) w' ∧ Only (fun b => b = bp ∨ b = bm) wx w') := fun wx B a c hb hB ho => by
    rw [← htr]
    refine (forget_any hok ((h.below hb).iff (fun y => inF_more)) ho (fun b e => by have := (World.ownsRow.lt ho b e).1; omega) hno (by omega)).mono ?_
    rintro e w' ⟨rfl, g1, g2⟩
    exact ⟨rfl, g1.mono (by omega) (Nat.le_refl _), g2⟩
  obtain ⟨n, hn⟩ : ∃ n, t.ws.length = n := ⟨_, rfl⟩
  rw [hn] at HSP HNT htl
  clear hok htr hno h hg hn ht hR hne
  go_enter Tryz.func8, Tryz.ntmps8
  go_wp2_with fail
  refine (checkF_any r hr1 (by omega) _).mono ?_
  rintro _ w9 ⟨rfl, h9⟩
  obtain rfl := h9.symm
  clear h9
  go_wp2_with fail
  refine (show Calls _ _ _ _ _ from HSH.out).mono ?_
  rintro _ w1 ⟨x, y, rfl, hb1⟩
  have HB1 : Hid (Below w.heap.size w w1) := hb1
  clear hb1 q0
  go_wp2_with fail
  refine (show Calls _ _ _ _ _ from HSP.out w1 HB1.out).mono ?_
  rintro _ w2 ⟨a, c, rfl, hr2, hb2⟩
  have HR2 : Hid (w2.ownsRow w1.heap.size 9 1 (.slice a n c) n (sc t.ws)) := hr2
  have HB2 : Hid (Below w.heap.size w w2) := HB1.out.trans (hb2.mono HB1.out.size)
  clear hr2 hb2
  go_wp2_with fail
  refine (show Calls _ _ _ _ _ from HNT.out w2 _ a c HB2.out HB1.out.size HR2.out).mono ?_
  rintro _ w5 ⟨rfl, g1, g2⟩
  have HG1 : Hid (PrS bf bt bp bd bm (N + 800) Z (InF R) w5) := g1
  have HG2 : Hid (Only (fun b => b = bp ∨ b = bm) w w5) := (below_only HB2.out _).trans g2 (fun _ e => .inl e)
  clear g1 g2
  go_wp2
  go_ret
  exact ⟨rfl, HG1.out, HG2.out⟩
end
end Go.Proofs.YtdphlkljenbkcaaGreatDoor
namespace Go.Proofs.YtdphlkljenbkcaaGreatDoor
open Go.RowKit Go.Maps

theorem compactUpTo_congr {α : Type} [Inhabited α] [DecidableEq α] {d d' : Array α} {m : Nat} (h : ∀ j, j < m → d[j]! = d'[j]!) : Lib.compactUpTo d m = Lib.compactUpTo d' m := by
  induction m with
  | zero => rfl
  | succ m ih =>
    rw [Lib.compactUpTo_succ, Lib.compactUpTo_succ, ih (fun j hj => h j (by omega)), h m (by omega)]
    have : Lib.keeps d m = Lib.keeps d' m := by
      unfold Lib.keeps
      rw [h m (by omega), h (m - 1) (by omega)]
    rw [this]
theorem compact_snoc {α : Type} [Inhabited α] [DecidableEq α] (zs : List α) (z : α) : Lib.compact (zs ++ [z]) = Lib.compact zs ++ (if zs.getLast? = some z then [] else [z]) := by
  unfold Lib.compact
  rw [List.length_append, List.length_singleton, Lib.compactUpTo_succ]
  have hg : ∀ j, j < zs.length → (zs ++ [z]).toArray[j]! = zs.toArray[j]! := fun j hj => by
    simp [List.getElem!_eq_getElem?_getD, List.getElem?_append_left hj]
  have hz : (zs ++ [z]).toArray[zs.length]! = z := by simp
  rw [compactUpTo_congr hg, hz]
  congr 1
  unfold Lib.keeps
  rw [hz]
  by_cases h0 : zs.length = 0
  · have : zs = [] := List.length_eq_zero_iff.1 h0
    subst this
    simp
  · rw [hg (zs.length - 1) (by omega)]
    have hl : zs.getLast? = some (zs.toArray[zs.length - 1]!) := by
      rw [List.getLast?_eq_getElem?]
      have hlt : zs.length - 1 < zs.length := by omega
      simp [List.getElem!_eq_getElem?_getD, List.getElem?_eq_getElem hlt]
    rw [hl]
    generalize zs.toArray[zs.length - 1]! = y
    by_cases e : y = z
    · rw [decide_eq_false (fun h => by rcases h with h | h; exact h0 h; exact h e.symm), if_neg (by decide), if_pos (by rw [e])]
    · rw [decide_eq_true (.inr (fun h => e h.symm)), if_pos rfl, if_neg (fun e2 => e (Option.some.inj e2))]
theorem begL_nil : begL [] = [] := rfl
theorem begL_snoc (L : List Pc) (c : Pc) : begL (L ++ [c]) = begL L ++ (if L.getLast?.map Pc.w = some c.w then [] else [c.w]) := by
  unfold begL
  rw [List.map_append, List.map_singleton, compact_snoc, List.map_append]
  congr 1
  have hl : (L.map (fun c => c.w.data.toList)).getLast? = (L.getLast?.map Pc.w).map (fun w => w.data.toList) := by
    rw [List.getLast?_map, Option.map_map]
    rfl
  rw [hl]
  by_cases e : L.getLast?.map Pc.w = some c.w
  · rw [if_pos e, if_pos (by rw [e]; rfl)]
    rfl
  · rw [if_neg e, if_neg]
    · rfl
    · intro e2
      cases h : L.getLast?.map Pc.w with
      | none => rw [h] at e2; cases e2
      | some x =>
        rw [h] at e2 e
        exact e (by rw [ba_ext (Option.some.inj e2)])
/-- pieces in order -/
def OrdP (L : List Pc) : Prop := L.Pairwise (fun a b => bl a.w b.w = true ∨ (a.w = b.w ∧ a.r < b.r))
theorem LsF.ord {R : List Nt} {L : List Pc} (h : LsF R L) (hR : RsOk R) : OrdP L := by
  have hs := h.sorted
  rw [List.pairwise_map] at hs
  refine List.Pairwise.imp_of_mem (fun {a b} ha hb hab => ?_) hs
  have ka := h.ok hR a ha
  have kb := h.ok hR b hb
  have hab' : bl (keyF nN a.w a.r) (keyF nN b.w b.r) = true := hab
  have no : bl (keyF nN b.w b.r) (keyF nN a.w a.r) = true → False := fun h2 => by
    rw [bl_asymm h2] at hab'; cases hab'
  rcases bl_tri a.w b.w with h1 | h1 | h1
  · exact .inl h1
  · rcases Nat.lt_trichotomy a.r b.r with h2 | h2 | h2
    · exact .inr ⟨h1, h2⟩
    · rw [h1, h2, bl_irrefl] at hab'; cases hab'
    · exact (no (key_lt ka.w ka.r (.inr ⟨h1.symm, h2⟩))).elim
  · exact (no (key_lt ka.w ka.r (.inl h1))).elim
theorem OrdP.new {L : List Pc} {c : Pc} (h : OrdP (L ++ [c])) (hl : ¬ L.getLast?.map Pc.w = some c.w) : ∀ d ∈ L, d.w ≠ c.w := by
  intro d hd e
  unfold OrdP at h
  rw [List.pairwise_append] at h
  obtain ⟨h1, _, h3⟩ := h
  rcases List.eq_nil_or_concat L with rfl | ⟨L0, x, rfl⟩
  · cases hd
  · rw [List.concat_eq_append] at *
    rw [List.getLast?_append] at hl
    have hl' : x.w ≠ c.w := fun e2 => hl (by simp [e2])
    have hx : bl x.w c.w = true := by
      rcases h3 x (by simp) c (by simp) with h | ⟨h, _⟩
      · exact h
      · exact absurd h hl'
    rcases List.mem_append.1 hd with hd | hd
    · rw [List.pairwise_append] at h1
      rcases h1.2.2 d hd x (by simp) with h | ⟨h, _⟩
      · rw [e] at h
        rw [bl_asymm h] at hx; cases hx
      · exact hl' (h.symm.trans e)
    · obtain rfl := List.mem_singleton.1 hd
      exact hl' e
theorem plsW_none (wd : ByteArray) : ∀ (L : List Pc), (∀ d ∈ L, d.w ≠ wd) → plsW wd L = []
  | [], _ => rfl
  | c :: l, h => by
    rw [plsW, if_neg (h c (by simp))]
    exact plsW_none wd l (fun d hd => h d (by simp [hd]))
theorem plsW_pos (wd : ByteArray) : ∀ (L : List Pc), (∀ c ∈ L, c.Ok) → (∃ d ∈ L, d.w = wd) → 0 < (plsW wd L).length
  | [], _, h => by obtain ⟨_, h, _⟩ := h; cases h
  | c :: l, hL, h => by
    unfold plsW
    by_cases e : c.w = wd
    · rw [if_pos e, List.length_append]
      have := (hL c (by simp)).pos
      omega
    · rw [if_neg e]
      refine plsW_pos wd l (fun d hd => hL d (by simp [hd])) ?_
      obtain ⟨d, hd, h2⟩ := h
      rcases List.mem_cons.1 hd with rfl | hd
      · exact absurd h2 e
      · exact ⟨d, hd, h2⟩
def sumW (A : List ByteArray) (L : List Pc) : Nat := (A.map (fun a => (plsW a L).length)).sum
theorem sumW_append (A B : List ByteArray) (L : List Pc) : sumW (A ++ B) L = sumW A L + sumW B L := by simp [sumW]
theorem sumW_more (L : List Pc) (c : Pc) : ∀ (A : List ByteArray), A.Pairwise (fun a b => a ≠ b) → (c.w ∈ A → sumW A (L ++ [c]) = sumW A L + c.l.length) ∧ (c.w ∉ A → sumW A (L ++ [c]) = sumW A L)
  | [], _ => ⟨fun h => (by cases h), fun _ => rfl⟩
  | a :: A, hn => by
    rw [List.pairwise_cons] at hn
    obtain ⟨i1, i2⟩ := sumW_more L c A hn.2
    have e : sumW (a :: A) (L ++ [c]) = (plsW a (L ++ [c])).length + sumW A (L ++ [c]) := by simp [sumW]
    have e' : sumW (a :: A) L = (plsW a L).length + sumW A L := by simp [sumW]
    have ep : plsW a (L ++ [c]) = plsW a L ++ (if c.w = a then c.l else []) := by
      rw [plsW_append]
      congr 1
      simp only [plsW]
      split <;> simp
    rw [e, e', ep, List.length_append]
    constructor
    · intro h
      by_cases ec : c.w = a
      · rw [if_pos ec, i2 (fun h2 => hn.1 c.w h2 ec.symm)]; omega
      · rw [if_neg ec, i1 (by rcases List.mem_cons.1 h with h | h; exact absurd h ec; exact h)]
        simp
        omega
    · intro h
      rw [if_neg (fun ec => h (by rw [ec]; simp)), i2 (fun h2 => h (by simp [h2]))]
      simp
/-- each word once; and all places are those of the words -/
theorem begL_is {L : List Pc} (h : OrdP L) : ∀ k, k ≤ L.length → (∀ x, x ∈ begL (L.take k) ↔ ∃ c ∈ L.take k, c.w = x) ∧ (begL (L.take k)).Pairwise (fun a b => a ≠ b) ∧ sumW (begL (L.take k)) (L.take k) = cntL (L.take k)
  | 0, _ => by rw [List.take_zero, begL_nil]; exact ⟨fun x => by simp, List.Pairwise.nil, rfl⟩
  | k + 1, hk => by
    obtain ⟨i1, i2, i3⟩ := begL_is h k (by omega)
    have hkl : k < L.length := by omega
    have ho : OrdP (L.take k ++ [L[k]]) := by
      rw [← List.take_succ_eq_append_getElem hkl]
      exact h.sublist (List.take_sublist _ _)
    rw [List.take_succ_eq_append_getElem hkl]
    generalize L[k] = c at *
    generalize L.take k = P at *
    rw [begL_snoc, cntL_append]
    have hc1 : cntL [c] = c.l.length := by simp [cntL]
    by_cases e : P.getLast?.map Pc.w = some c.w
    · rw [if_pos e, List.append_nil]
      have hm : c.w ∈ begL P := by
        refine (i1 _).2 ?_
        cases hg : P.getLast? with
        | none => rw [hg] at e; cases e
        | some x =>
          rw [hg] at e
          exact ⟨x, List.mem_of_getLast? hg, Option.some.inj e⟩
      refine ⟨fun x => ?_, i2, ?_⟩
      · rw [i1 x]
        constructor
        · rintro ⟨d, hd, h⟩; exact ⟨d, by simp [hd], h⟩
        · rintro ⟨d, hd, h⟩
          rcases List.mem_append.1 hd with hd | hd
          · exact ⟨d, hd, h⟩
          · obtain rfl := List.mem_singleton.1 hd
            rw [← h]; exact (i1 _).1 hm
      · rw [(sumW_more P c _ i2).1 hm, i3, hc1]
    · rw [if_neg e]
      have hno := ho.new e
      have hm : c.w ∉ begL P := fun h => by
        obtain ⟨d, hd, h2⟩ := (i1 _).1 h
        exact hno d hd h2
      refine ⟨fun x => ?_, ?_, ?_⟩
      · rw [List.mem_append, i1 x, List.mem_singleton]
        constructor
        · rintro (⟨d, hd, h⟩ | rfl)
          · exact ⟨d, by simp [hd], h⟩
          · exact ⟨c, by simp, rfl⟩
        · rintro ⟨d, hd, h⟩
          rcases List.mem_append.1 hd with hd | hd
          · exact .inl ⟨d, hd, h⟩
          · obtain rfl := List.mem_singleton.1 hd
            exact .inr h.symm
      · rw [List.pairwise_append]
        refine ⟨i2, List.pairwise_singleton _ _, fun a ha b hb e => ?_⟩
        obtain rfl := List.mem_singleton.1 hb
        exact hm (by rw [← e]; exact ha)
      · rw [sumW_append, (sumW_more P c _ i2).2 hm, i3, hc1]
        congr 1
        have ep : plsW c.w (P ++ [c]) = c.l := by
          rw [plsW_append, plsW_none _ P hno]
          simp [plsW]
        show ([c.w].map (fun a => (plsW a (P ++ [c])).length)).sum = _
        simp [ep]
theorem begL_mem {L : List Pc} (h : OrdP L) (x : ByteArray) : x ∈ begL L ↔ ∃ c ∈ L, c.w = x := by
  have := (begL_is h L.length (Nat.le_refl _)).1 x
  rw [List.take_length] at this
  exact this
theorem begL_sum {L : List Pc} (h : OrdP L) : sumW (begL L) L = cntL L := by
  have := (begL_is h L.length (Nat.le_refl _)).2.2
  rw [List.take_length] at this
  exact this
/-- the places of a word are right -/
def lastOr : Pl → List Pl → Pl
  | p, [] => p
  | _, q :: l => lastOr q l
theorem right_append : ∀ (a b : List Pl) (p : Pl), rightFrom p (a ++ b) = (rightFrom p a && rightFrom (lastOr p a) b)
  | [], b, p => by simp [rightFrom, lastOr]
  | q :: a, b, p => by rw [List.cons_append, rightFrom, rightFrom, right_append a b q, lastOr, Bool.and_assoc]
theorem lastOr_mem : ∀ (l : List Pl) (p : Pl), 0 < l.length → lastOr p l ∈ l
  | [], _, h => absurd h (by simp)
  | [q], _, _ => by simp [lastOr]
  | q :: q' :: l, _, _ => by
    rw [lastOr]
    exact List.mem_cons_of_mem _ (lastOr_mem (q' :: l) q (by simp))
theorem right_any_from {l : List Pl} {r : Int} {p : Pl} (h : rightL l = true) (hr : ∀ q ∈ l, q.r = r) (hp : p.r < r) : rightFrom p l = true := by
  cases l with
  | nil => rfl
  | cons q l =>
    unfold rightL at h
    rw [rightFrom, Bool.and_eq_true] at h ⊢
    refine ⟨?_, h.2⟩
    have h1 := h.1
    have hq := hr q (by simp)
    unfold follB at h1 ⊢
    rw [Bool.and_eq_true] at h1 ⊢
    refine ⟨h1.1, ?_⟩
    rw [decide_eq_true_eq]
    unfold cmpP cmpI
    rw [if_neg (by omega), if_pos (by omega)]
    decide
theorem plsW_right {wd : ByteArray} : ∀ (L : List Pc) (p : Pl), OrdP L → (∀ c ∈ L, c.Ok ∧ ∀ q ∈ c.l, q.r = (c.r : Int)) → (∀ c ∈ L, c.w = wd → p.r < (c.r : Int)) → rightFrom p (plsW wd L) = true
  | [], _, _, _, _ => rfl
  | c :: l, p, ho, hL, hp => by
    unfold OrdP at ho
    rw [List.pairwise_cons] at ho
    unfold plsW
    by_cases e : c.w = wd
    · rw [if_pos e, right_append, Bool.and_eq_true]
      obtain ⟨hok, hrow⟩ := hL c (by simp)
      refine ⟨right_any_from hok.l hrow (hp c (by simp) e), plsW_right l _ ho.2 (fun d hd => hL d (by simp [hd])) (fun d hd hw => ?_)⟩
      rw [hrow _ (lastOr_mem _ _ hok.pos)]
      rcases ho.1 d hd with h | ⟨_, h⟩
      · rw [e, hw, bl_irrefl] at h; cases h
      · omega
    · rw [if_neg e]
      exact plsW_right l p ho.2 (fun d hd => hL d (by simp [hd])) (fun d hd => hp d (by simp [hd]))
theorem LsF.right {R : List Nt} {L : List Pc} (h : LsF R L) (hR : RsOk R) (wd : ByteArray) : rightL (plsW wd L) = true := by
  refine plsW_right L ⟨0, 0⟩ (h.ord hR) (fun c hc => ⟨h.ok hR c hc, fun q hq => ?_⟩) (fun c hc _ => ?_)
  · obtain ⟨t, ht, w, hw, rfl⟩ := h.of c hc
    obtain ⟨j, _, e⟩ := plcs_mem _ _ _ _ _ hq
    rw [e]; rfl
  · obtain ⟨t, ht, w, hw, rfl⟩ := h.of c hc
    have := (hR.ok t ht).lo
    show (0 : Int) < (t.r : Int)
    omega
/-- a finder with these pieces -/
def FsL (bf bt bp bd bm : Nat) (L : List Pc) (w : World) : Prop := ∃ N up V T, Fs bf bt bp bd bm N up V T w ∧ T.all = L.map Pc.pr
theorem FsL.below {bf bt bp bd bm : Nat} {L : List Pc} {w w' : World} (h : FsL bf bt bp bd bm L w) (hb : Below w.heap.size w w') : FsL bf bt bp bd bm L w' := by
  obtain ⟨N, up, V, T, h1, h2⟩ := h
  exact ⟨N, up, V, T, h1.below hb, h2⟩
theorem PrS.two {bf bt bp bd bm N Z bf' bt' bp' bd' bm' N' Z' : Nat} {R : List Nt} {w : World} (h : PrS bf bt bp bd bm N Z (InF R) w) (h' : PrS bf' bt' bp' bd' bm' N' Z' (InF R) w) : ∃ L, LsF R L ∧ FsL bf bt bp bd bm L w ∧ FsL bf' bt' bp' bd' bm' L w := by
  obtain ⟨N1, up, V, T, L, k1, k2, k3, k4, k5⟩ := h.pieces
  obtain ⟨N2, up2, V2, T2, j1, j2, j3, j4⟩ := h'
  have e := sorted_ext T2.all T.all j2.sorted k1.sorted (fun x => (j4 x).trans (k5 x).symm)
  exact ⟨L, k3, ⟨N1, up, V, T, k1, k2⟩, ⟨N2, up2, V2, T2, j2, e.trans k2⟩⟩
end Go.Proofs.YtdphlkljenbkcaaGreatDoor
namespace Go.Proofs.YtdphlkljenbkcaaGreatDoor
open Go.RowKit Go.Maps

theorem pickR_any (a : Int) (n : Nat) (h0 : 0 < n) (hn : n < 1000000) (w : World) :
    Calls Tryz.prog 7 #[.int .i64 a, .int .i64 (n : Nat)] w fun e w' => (∃ r : Nat, r < n ∧ e = .returned (.int .i64 (r : Nat))) ∧ w' = w := by
  have hu : IntKind.u64.wrap (n : Int) = (n : Int) := by
    have : IntKind.u64.wrap (n : Int) = (n : Int) % 18446744073709551616 := rfl
    rw [this]; omega
  obtain ⟨A, hA⟩ : ∃ A : Int, IntKind.u64.wrap a = A := ⟨_, rfl⟩
  have hA0 : 0 ≤ A := by
    have : IntKind.u64.wrap a = a % 18446744073709551616 := rfl
    rw [← hA, this]; omega
  have hne : ¬ (n : Int) = 0 := by omega
  have hr0 : 0 ≤ A % (n : Int) := Int.emod_nonneg _ hne
  have hr1 : A % (n : Int) < (n : Int) := Int.emod_lt_of_pos _ (by omega)
  have htm : A.tmod (n : Int) = A % (n : Int) := by rw [Int.tmod_eq_emod_of_nonneg hA0]
  obtain ⟨r, hr⟩ : ∃ r : Nat, A % (n : Int) = (r : Nat) := ⟨(A % (n : Int)).toNat, by omega⟩
  have hw1 : IntKind.u64.wrap (r : Int) = (r : Int) := by
    have : IntKind.u64.wrap (r : Int) = (r : Int) % 18446744073709551616 := rfl
    rw [this]; omega
  have hw2 : IntKind.i64.wrap (r : Int) = (r : Int) := wraps_i64 _ (by omega) (by omega)
  rw [hr] at htm
  have hrn : r < n := by omega
  clear hr0 hr1 hr
  go_enter Tryz.func7, Tryz.ntmps7
  go_wp2
  go_ret
  exact ⟨⟨r, hrn, rfl⟩, rfl⟩
set_option maxHeartbeats 1000000 in
theorem sameTexts_any (a a' : Option Addr) (len len' cap cap' : Nat) (xs : List ByteArray) (w : World) (hr : RowS w a len xs) (hr' : RowS w a' len' xs) :
    Calls Tryz.prog 11 #[.slice a len cap, .slice a' len' cap'] w fun e w' => e = .returned (.bool true) ∧ ∃ m, w' = w.drewN m := by
  obtain ⟨rfl, hm, hx⟩ := hr
  obtain ⟨rfl, _, hx'⟩ := hr'
  go_enter Tryz.func11, Tryz.ntmps11
  go_wp2
  go_loopw [5] (fun i wr => ∃ k : Nat, k ≤ xs.length ∧ i = .int .i64 k ∧ Hid (∃ m, wr = w.drewN m)) (fun i _ => xs.length - (intOf i).toNat)
  case atStart => exact ⟨0, Nat.zero_le _, rfl, 0, rfl⟩
  case round =>
    obtain ⟨k, hk, rfl, hbl⟩ := hrel
    obtain ⟨m, rfl⟩ := hbl.out
    by_cases hlt : k < xs.length
    · rcases hx with hx | ⟨b, off, rfl, hb, hrow⟩
      · simp [hx] at hlt
      rcases hx' with hx' | ⟨b', off', rfl, hb', hrow'⟩
      · simp [hx'] at hlt
      have g1 := hrow k hlt
      have e1 := hrow' k hlt
      clear hrow hrow' hbl
      have i1 : (k : Int) < (xs.length : Int) := by omega
      generalize xs[k] = x at *
      go_wp2
      go_quiet (fail)
      go_wp2
      go_roundw
      case rel => exact ⟨k + 1, by omega, by go_num, m + nq, rfl⟩
      case measure => simp [intOf]; omega
    · go_wp2
      go_ret
      exact ⟨rfl, m, rfl⟩
set_option maxRecDepth 100000 in
set_option maxHeartbeats 1000000 in
theorem same_keep (a a' : Option Addr) (len len' cap cap' : Nat) (xs : List Pl) (w : World) (hr : RowP w a len xs) (hr' : RowP w a' len' xs) :
    Calls Tryz.prog 13 #[.slice a len cap, .slice a' len' cap'] w fun e w' => e = .returned (.bool true) ∧ Below w.heap.size w w' := by
  have st := stoodPl
  have gd := guardPl
  obtain ⟨rfl, hm, hx⟩ := hr
  obtain ⟨rfl, _, hx'⟩ := hr'
  go_enter Tryz.func13, Tryz.ntmps13
  go_wp2
  go_loopw [5] (fun i wr => ∃ k : Nat, k ≤ xs.length ∧ i = .int .i64 k ∧ Hid (Below w.heap.size w wr)) (fun i _ => xs.length - (intOf i).toNat)
  case atStart => exact ⟨0, Nat.zero_le _, rfl, Below.refl _ _⟩
  case round =>
    obtain ⟨k, hk, rfl, hbl⟩ := hrel
    by_cases hlt : k < xs.length
    · rcases hx with hx | ⟨b, off, rfl, hb, hrow⟩
      · simp [hx] at hlt
      rcases hx' with hx' | ⟨b', off', rfl, hb', hrow'⟩
      · simp [hx'] at hlt
      obtain ⟨g1, g2⟩ := hrow k hlt
      obtain ⟨e1, e2⟩ := hrow' k hlt
      clear hrow hrow'
      rw [← hbl.out.cell (p := ⟨b, _, none⟩) hb] at g1 g2
      rw [← hbl.out.cell (p := ⟨b', _, none⟩) hb'] at e1 e2
      have i1 : (k : Int) < (xs.length : Int) := by omega
      generalize xs[k] = x at *
      go_wp2
      go_quiet (fail)
      have HB : Hid (Below w.heap.size w (wr.drewN nq)) := below_drewN' hbl.out _
      clear hbl
      go_wp2
      go_roundw
      case rel => exact ⟨k + 1, by omega, by go_num, HB⟩
      case measure => simp [intOf]; omega
    · go_wp2
      go_ret
      exact ⟨rfl, hbl.out⟩
set_option maxRecDepth 100000 in
set_option maxHeartbeats 1000000 in
theorem found_any (w : World) : Calls Tryz.prog 5 #[] w fun e w' => ∃ bf bt bp bd bm, e = .returned (.pointer (some ⟨bf, 0, none⟩)) ∧ PrS bf bt bp bd bm 0 0 (InF []) w' ∧ (w.heap.size ≤ bf ∧ w.heap.size ≤ bt ∧ w.heap.size ≤ bp ∧ w.heap.size ≤ bd ∧ w.heap.size ≤ bm) ∧ Below w.heap.size w w' := by
  have hz := Tryz.zeroValue50
  have HO : Hid _ := open_new w
  go_enter Tryz.func5, Tryz.ntmps5
  go_wp2_with fail
  refine (show Calls _ _ _ _ _ from HO.out).mono ?_
  rintro _ w1 ⟨bp, bm, up, V, rfl, h1, h2, h3, hW, hU, hE, hb⟩
  have HW : Hid _ := hW
  have HU : Hid _ := hU
  have HE : Hid (TrAt V 3 Tr.none) := hE 3 (by omega)
  have HB : Hid (Below w.heap.size w w1) := hb
  obtain ⟨bd, hbd⟩ : ∃ bd, w.heap.size = bd := ⟨_, rfl⟩
  rw [hbd] at h1 h2 HW
  have hbd2 : w.heap.size ≤ bd := by omega
  clear hW hU hE hb HO hbd
  go_wp2_with fail
  refine (at_any (r := 3) HW.out (by omega)).mono ?_
  rintro _ w2 ⟨bt, rfl, hT2, hlt2, hb2⟩
  have hwl := HW.out.lt
  have HT2 : Hid (Tt bt bp 3 w2) := hT2
  have HW2 : Hid _ := HW.out.below hb2
  have HB2 : Hid (Below w.heap.size w w2) := HB.out.trans (hb2.mono HB.out.size)
  have hs2 := hT2.lt
  have hs12 := hb2.size
  have hs11 := HB.out.size
  clear hT2 hb2
  go_wp2_with fail
  refine (overF_any bt w2).mono ?_
  rintro _ w3 ⟨rfl, hw3⟩
  have hb3 : Below w2.heap.size w2 w3 := by rw [hw3]; exact (Below.refl _ _).alloc (Nat.le_refl _) _
  have HF : Hid (Fs w2.heap.size bt bp bd bm 0 up V Tr.none w3) := ⟨by rw [hw3]; exact Own1.new w2 _ _, HT2.out.below hb3, HW2.out.below hb3, HE.out, Sole.none HU.out, ⟨by omega, by omega⟩, ⟨by omega, by omega⟩⟩
  have HB3 : Hid (Below w.heap.size w w3) := HB2.out.trans (hb3.mono HB2.out.size)
  clear hw3 hb3
  go_wp2
  go_ret
  refine ⟨_, bt, bp, bd, bm, rfl, ⟨0, up, V, Tr.none, Nat.le_refl _, HF.out, Nat.le_refl _, fun x => ?_⟩, ⟨by omega, by omega, by omega, by omega, by omega⟩, HB3.out⟩
  constructor
  · intro h; cases h
  · rintro ⟨t, ht, _⟩; cases ht
end Go.Proofs.YtdphlkljenbkcaaGreatDoor
namespace Go.Proofs.YtdphlkljenbkcaaGreatDoor
open Go.RowKit Go.Maps

def wSome : ByteArray := ⟨#[115, 111, 109, 101]⟩
def wWord : ByteArray := ⟨#[119, 111, 114, 100]⟩
def wText : ByteArray := ⟨#[115, 111, 109, 101, 32, 119, 111, 114, 100, 115]⟩
theorem words_text : wordsL wText.data.toList = [wSome, wWord] := by
  have e : runs [] wText.data.toList = [[115, 111, 109, 101], [119, 111, 114, 100, 115]] := by decide
  unfold wordsL
  rw [e]
  show [wordOf [115, 111, 109, 101], wordOf [119, 111, 114, 100, 115]] = _
  have h1 : wordOf [115, 111, 109, 101] = wSome := by
    unfold wordOf
    have : (⟨((smallL [115, 111, 109, 101]).take 12).toArray⟩ : ByteArray) = wSome := by decide
    rw [this]
    unfold stemS endsT
    have HA : hasB wSome ⟨#[115, 115, 101, 115]⟩ = false := by
      rw [hasB, ByteArray.toList_eq, ByteArray.toList_eq, ba_extract]; decide
    have HB : hasB wSome ⟨#[105, 101, 115]⟩ = false := by
      rw [hasB, ByteArray.toList_eq, ByteArray.toList_eq, ba_extract]; decide
    have HC : hasB wSome ⟨#[115, 115]⟩ = false := by
      rw [hasB, ByteArray.toList_eq, ByteArray.toList_eq, ba_extract]; decide
    have HD : hasB wSome ⟨#[105, 110, 103]⟩ = false := by
      rw [hasB, ByteArray.toList_eq, ByteArray.toList_eq, ba_extract]; decide
    have HE : hasB wSome ⟨#[101, 100]⟩ = false := by
      rw [hasB, ByteArray.toList_eq, ByteArray.toList_eq, ba_extract]; decide
    have HF : hasB wSome ⟨#[101, 115]⟩ = false := by
      rw [hasB, ByteArray.toList_eq, ByteArray.toList_eq, ba_extract]; decide
    have HH : hasB wSome ⟨#[115]⟩ = false := by
      rw [hasB, ByteArray.toList_eq, ByteArray.toList_eq, ba_extract]; decide
    rw [stem_no (e := ⟨#[115, 115, 101, 115]⟩) HA, stem_no (e := ⟨#[105, 101, 115]⟩) HB, stem_no (e := ⟨#[115, 115]⟩) HC, stem_no (e := ⟨#[105, 110, 103]⟩) HD, stem_no (e := ⟨#[101, 100]⟩) HE, stem_no (e := ⟨#[101, 115]⟩) HF, stem_no (e := ⟨#[115]⟩) HH]
    rfl
  have h2 : wordOf [119, 111, 114, 100, 115] = wWord := by
    unfold wordOf
    have : (⟨((smallL [119, 111, 114, 100, 115]).take 12).toArray⟩ : ByteArray) = ⟨#[119, 111, 114, 100, 115]⟩ := by decide
    rw [this]
    unfold stemS endsT
    have HA : hasB ⟨#[119, 111, 114, 100, 115]⟩ ⟨#[115, 115, 101, 115]⟩ = false := by
      rw [hasB, ByteArray.toList_eq, ByteArray.toList_eq, ba_extract]; decide
    have HB : hasB ⟨#[119, 111, 114, 100, 115]⟩ ⟨#[105, 101, 115]⟩ = false := by
      rw [hasB, ByteArray.toList_eq, ByteArray.toList_eq, ba_extract]; decide
    have HC : hasB ⟨#[119, 111, 114, 100, 115]⟩ ⟨#[115, 115]⟩ = false := by
      rw [hasB, ByteArray.toList_eq, ByteArray.toList_eq, ba_extract]; decide
    have HD : hasB ⟨#[119, 111, 114, 100, 115]⟩ ⟨#[105, 110, 103]⟩ = false := by
      rw [hasB, ByteArray.toList_eq, ByteArray.toList_eq, ba_extract]; decide
    have HE : hasB ⟨#[119, 111, 114, 100, 115]⟩ ⟨#[101, 100]⟩ = false := by
      rw [hasB, ByteArray.toList_eq, ByteArray.toList_eq, ba_extract]; decide
    have HF : hasB ⟨#[119, 111, 114, 100, 115]⟩ ⟨#[101, 115]⟩ = false := by
      rw [hasB, ByteArray.toList_eq, ByteArray.toList_eq, ba_extract]; decide
    have HH : hasB ⟨#[119, 111, 114, 100, 115]⟩ ⟨#[115]⟩ = true := by
      rw [hasB, ByteArray.toList_eq, ByteArray.toList_eq, ba_extract]; decide
    rw [stem_no (e := ⟨#[115, 115, 101, 115]⟩) HA, stem_no (e := ⟨#[105, 101, 115]⟩) HB, stem_no (e := ⟨#[115, 115]⟩) HC, stem_no (e := ⟨#[105, 110, 103]⟩) HD, stem_no (e := ⟨#[101, 100]⟩) HE, stem_no (e := ⟨#[101, 115]⟩) HF, stem_yes (e := ⟨#[115]⟩) HH (by decide)]
    refine ba_ext ?_
    rw [ByteArray.data_append, Array.toList_append, ba_extract]
    rfl
  rw [h1, h2]
def tNote : Nt := ⟨4, wordsL wText.data.toList⟩
theorem tNote_ws : tNote.ws = [wSome, wWord] := words_text
theorem tNote_ok : tNote.Ok := words_ok (by decide) (by decide) (by decide)
theorem some_in : wSome ∈ tNote.ws := by rw [tNote_ws]; simp
theorem word_in : wWord ∈ tNote.ws := by rw [tNote_ws]; simp
theorem pl_some : plcsF 4 0 tNote.ws wSome = [⟨4, 0⟩] := by rw [tNote_ws]; decide
theorem pl_word : plcsF 4 0 tNote.ws wWord = [⟨4, 1⟩] := by rw [tNote_ws]; decide
theorem some_word : bl wSome wWord = true := by rw [bl_iff]; decide
def LNote : List Pc := [tNote.pc wSome, tNote.pc wWord]
theorem LNote_ok : ∀ c ∈ LNote, c.Ok := fun c hc => by
  rcases List.mem_cons.1 hc with rfl | hc
  · exact tNote_ok.pc some_in
  · obtain rfl := List.mem_singleton.1 hc
    exact tNote_ok.pc word_in
theorem LNote_cnt : cntL LNote = 2 := by
  show (plcsF 4 0 tNote.ws wSome).length + ((plcsF 4 0 tNote.ws wWord).length + 0) = 2
  rw [pl_some, pl_word]; rfl
theorem some_ne : ¬ wSome = wWord := by decide
theorem LNote_pls : plsW wWord LNote = [⟨4, 1⟩] := by
  have e1 : (tNote.pc wSome).w = wSome := rfl
  have e2 : (tNote.pc wWord).w = wWord := rfl
  have e3 : (tNote.pc wWord).l = [⟨4, 1⟩] := pl_word
  unfold LNote plsW plsW plsW
  rw [e1, e2, if_neg some_ne, if_pos rfl, e3]; rfl
theorem noted_at {bf bt bp bd bm N Z : Nat} {w : World} (h : PrS bf bt bp bd bm N Z (InF ([] ++ [tNote])) w) : FsL bf bt bp bd bm LNote w := by
  obtain ⟨N1, up, V, T, h1, h2, h3, h4⟩ := h
  refine ⟨N1, up, V, T, h2, sorted_ext _ _ h2.sorted ?_ (fun x => ?_)⟩
  · refine List.Pairwise.cons (fun y hy => ?_) (List.pairwise_singleton _ _)
    obtain rfl := List.mem_singleton.1 hy
    exact key_lt (tNote_ok.ws _ word_in) (by show tNote.r < _; have := tNote_ok.hi; omega) (.inl some_word)
  · rw [h4 x, List.nil_append]
    constructor
    · rintro ⟨t, ht, u, hu, rfl⟩
      obtain rfl := List.mem_singleton.1 ht
      rw [tNote_ws] at hu
      rcases List.mem_cons.1 hu with rfl | hu
      · exact List.mem_map.2 ⟨tNote.pc wSome, by simp [LNote], rfl⟩
      · obtain rfl := List.mem_singleton.1 hu
        exact List.mem_map.2 ⟨tNote.pc wWord, by simp [LNote], rfl⟩
    · intro hx
      obtain ⟨c, hc, rfl⟩ := List.mem_map.1 hx
      rcases List.mem_cons.1 hc with rfl | hc
      · exact ⟨tNote, by simp, wSome, some_in, rfl⟩
      · obtain rfl := List.mem_singleton.1 hc
        exact ⟨tNote, by simp, wWord, word_in, rfl⟩
theorem RsOk.nil : RsOk [] := ⟨fun t h => (by cases h), fun t h => (by cases h)⟩
set_option maxRecDepth 100000 in
set_option maxHeartbeats 2000000 in
theorem noted_any (w : World) (hg : Gl w) : Calls Tryz.prog 4 #[] w fun e w' => e = .returned (.bool true) ∧ Below w.heap.size w w' := by
  have st := stoodPl
  have gd := guardPl
  have HG0 : Hid (Gl w) := hg
  clear hg
  go_enter Tryz.func4, Tryz.ntmps4
  go_wp2_with fail
  refine (found_any w).mono ?_
  rintro _ w1 ⟨bf, bt, bp, bd, bm, rfl, hp1, ⟨b1, b2, b3, b4, b5⟩, hb1⟩
  have HP1 : Hid (PrS bf bt bp bd bm 0 0 (InF []) w1) := hp1
  have HB1 : Hid (Below w.heap.size w w1) := hb1
  have HG1 : Hid (Gl w1) := HG0.out.below hb1
  have HA : Hid (Calls Tryz.prog 6 #[.pointer (some ⟨bf, 0, none⟩), .string ⟨#[110]⟩, .int .i64 4, .string ⟨#[115, 111, 109, 101, 32, 119, 111, 114, 100, 115]⟩] w1 fun e w' => e = .returned .nilIface ∧ PrS bf bt bp bd bm (0 + 800) (0 + 860) (InF ([] ++ [tNote])) w' ∧ Only (fun b => b = bp ∨ b = bm) w1 w') := add_any (t := tNote) wText (by decide) (r := 4) rfl (by decide) (by decide) RsOk.nil (fun s hs => (by cases hs)) (by decide) hp1 HG1.out (by decide) (by decide)
  clear hp1 hb1
  go_wp2_with fail
  refine (show Calls _ _ _ _ _ from HA.out).mono ?_
  rintro _ w2 ⟨rfl, hp2, ho2⟩
  have HG2 : Hid (Gl w2) := HG1.out.only ho2 (fun b e => by have := HG0.out.m; obtain ⟨m, hm⟩ := this; have := World.block_lt_of_cell? _ _ hm; rcases e with e | e <;> simp only at this <;> omega)
  have HF2 : Hid (FsL bf bt bp bd bm LNote w2) := noted_at hp2
  have HB2 : Hid (Below w.heap.size w w2) := Only.below HB1.out ho2 HB1.out.size (fun b e => by rcases e with e | e <;> omega)
  clear hp2 ho2 HA
  have HPL : Hid (Calls Tryz.prog 12 #[.pointer (some ⟨bf, 0, none⟩), .string ⟨#[110]⟩, .string ⟨#[119, 111, 114, 100]⟩] w2 fun e w' => ∃ g c, e = .returned (.tuple #[.slice (some ⟨g, 0, none⟩) 1 c, .nilIface]) ∧ w2.heap.size ≤ g ∧ w'.cell? ⟨g, 0, none⟩ = some (.int .i64 4) ∧ w'.cell? ⟨g, 1, none⟩ = some (.int .i64 1) ∧ Below w2.heap.size w2 w') := by
    obtain ⟨N, up, V, T, k1, k2⟩ := HF2.out
    obtain ⟨m, hm⟩ := HG2.out.m
    refine (places_any k1 hm LNote_ok k2 (by decide) wWord (by decide)).mono ?_
    rintro e w' ⟨v, rfl, hr, hb⟩
    rw [LNote_pls] at hr
    obtain ⟨g, cap, rfl, g1, g2⟩ := World.ownsRow.form hr (by decide)
    have e0 := hr.cells (g := g) rfl 0 (.int .i64 4) rfl
    have e1 := hr.cells (g := g) rfl 1 (.int .i64 1) rfl
    rw [add_pl, Nat.zero_add] at e0 e1
    exact ⟨g, cap, rfl, g1, e0, e1, hb⟩
  go_wp2_with fail
  refine (show Calls _ _ _ _ _ from HPL.out).mono ?_
  rintro _ w3 ⟨g, c, rfl, hg3, e0, e1, hb3⟩
  have E0 : Hid _ := e0
  have E1 : Hid _ := e1
  have HB3 : Hid (Below w2.heap.size w2 w3) := hb3
  have HMY : Hid (Calls Tryz.prog 10 #[.pointer (some ⟨bf, 0, none⟩)] w3 fun e w' => e = .returned (.tuple #[.int .i64 2, .nilIface]) ∧ Below w3.heap.size w3 w') := by
    obtain ⟨N, up, V, T, k1, k2⟩ := HF2.out.below hb3
    obtain ⟨m, hm⟩ := (HG2.out.below hb3).m
    have := many_any k1 hm LNote_ok k2 (by decide)
    rw [LNote_cnt] at this
    exact this
  clear e0 e1 hb3 HPL
  go_wp2_with fail
  refine (show Calls _ _ _ _ _ from HMY.out).mono ?_
  rintro _ w4 ⟨rfl, hb4⟩
  have k0 := keepc hb4 E0.out
  have k1 := keepc hb4 E1.out
  have HB4 : Hid (Below w.heap.size w w4) := HB2.out.trans ((HB3.out.trans (hb4.mono HB3.out.size)).mono HB2.out.size)
  clear hb4 HMY
  go_wp2
  go_ret
  exact ⟨rfl, HB4.out⟩
end Go.Proofs.YtdphlkljenbkcaaGreatDoor
namespace Go.Proofs.YtdphlkljenbkcaaGreatDoor
open Go.RowKit Go.Maps

/-- texts that came in -/
def TxA (w : World) (a : Option Addr) (n : Nat) (tx : Nat → ByteArray) : Prop := ∀ i, i < n → ∃ b o, a = some ⟨b, o, none⟩ ∧ b < w.heap.size ∧ w.cell? ⟨b, o + i, none⟩ = some (.string (tx i))
/-- numbers that came in -/
def NmA (w : World) (a : Option Addr) (n : Nat) (nm : Nat → Int) : Prop := ∀ i, i < n → ∃ b o, a = some ⟨b, o, none⟩ ∧ b < w.heap.size ∧ w.cell? ⟨b, o + i, none⟩ = some (.int .i64 (nm i))
section
variable {w w' : World} {a : Option Addr} {n : Nat} {tx : Nat → ByteArray} {nm : Nat → Int}
theorem TxA.below (h : TxA w a n tx) (hb : Below w.heap.size w w') : TxA w' a n tx := fun i hi => by
  obtain ⟨b, o, h1, h2, h3⟩ := h i hi
  exact ⟨b, o, h1, Nat.lt_of_lt_of_le h2 hb.size, keepc hb h3⟩
theorem NmA.below (h : NmA w a n nm) (hb : Below w.heap.size w w') : NmA w' a n nm := fun i hi => by
  obtain ⟨b, o, h1, h2, h3⟩ := h i hi
  exact ⟨b, o, h1, Nat.lt_of_lt_of_le h2 hb.size, keepc hb h3⟩
end
/-- the notes -/
def ntT (tx : Nat → ByteArray) (j : Nat) : Nt := ⟨j + 1, wordsL (tx j).data.toList⟩
def mtT (more : ByteArray) (i : Nat) : Nt := ⟨1000 + i, wordsL more.data.toList⟩
section
variable {tx : Nat → ByteArray} {n : Nat} {l L : List Nat}
theorem rs_ok (hs : ∀ j, j < n → (tx j).size ≤ 40) (hn : n ≤ 20) (hl : ∀ j ∈ l, j < n) : RsOk (l.map (ntT tx)) := by
  refine ⟨fun t ht => ?_, fun t ht s hs' e => ?_⟩
  · obtain ⟨j, hj, rfl⟩ := List.mem_map.1 ht
    have := hl j hj
    exact words_ok (hs j this) (by omega) (by omega)
  · obtain ⟨j, hj, rfl⟩ := List.mem_map.1 ht
    obtain ⟨k, hk, rfl⟩ := List.mem_map.1 hs'
    have : j + 1 = k + 1 := e
    obtain rfl : j = k := by omega
    rfl
theorem rs_new (hp : L.Perm (List.range n)) {i : Nat} (hi : i < L.length) : ∀ s ∈ (L.take i).map (ntT tx), s.r ≠ (ntT tx L[i]).r := by
  intro s hs e
  obtain ⟨j, hj, rfl⟩ := List.mem_map.1 hs
  have e' : j + 1 = L[i] + 1 := e
  have hnd : (L.take i ++ L[i] :: L.drop (i + 1)).Nodup := by
    rw [← List.drop_eq_getElem_cons hi, List.take_append_drop]
    exact hp.nodup_iff.2 List.nodup_range
  have := (List.nodup_append.1 hnd).2.2 j hj L[i] (List.mem_cons_self)
  omega
theorem rs_far (hl : ∀ j ∈ l, j < n) (hn : n ≤ 20) (more : ByteArray) (i : Nat) : ∀ s ∈ l.map (ntT tx), s.r ≠ (mtT more i).r := by
  intro s hs e
  obtain ⟨j, hj, rfl⟩ := List.mem_map.1 hs
  have e' : j + 1 = 1000 + i := e
  have := hl j hj
  omega
theorem perm_lt (hp : L.Perm (List.range n)) : ∀ j ∈ L, j < n := fun _ hj => List.mem_range.1 (hp.mem_iff.1 hj)
theorem perm_len (hp : L.Perm (List.range n)) : L.length = n := by rw [hp.length_eq, List.length_range]
theorem inF_perm (hp : L.Perm (List.range n)) (y : Pr) : InF (L.map (ntT tx)) y ↔ InF ((List.range n).map (ntT tx)) y := by
  constructor
  · rintro ⟨t, ht, h⟩; exact ⟨t, (hp.map _).mem_iff.1 ht, h⟩
  · rintro ⟨t, ht, h⟩; exact ⟨t, (hp.map _).mem_iff.2 ht, h⟩
/-- two of them exchanged -/
def swapL (L : List Nat) (i k x y : Nat) : List Nat := (L.set i y).set k x
theorem swap_perm (hp : L.Perm (List.range n)) {i k : Nat} (hi : i < L.length) (hk : k < L.length) : (swapL L i k L[i] L[k]).Perm (List.range n) := by
  unfold swapL
  exact (List.set_set_perm hi hk).trans hp
theorem swap_take {i k x y : Nat} (hik : i ≤ k) : (swapL L i k x y).take i = L.take i := by
  unfold swapL
  rw [List.take_set_of_le (by omega), List.take_set_of_le (by omega)]
theorem swap_len {i k x y : Nat} : (swapL L i k x y).length = L.length := by simp [swapL]
end
end Go.Proofs.YtdphlkljenbkcaaGreatDoor
