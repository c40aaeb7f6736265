/- Texts of the proof of MatchSets: PParse, HHt, HAs, HDr, MAsk2, MAsk3. -/
import Derived.Test.YtjgdnainhoipgaaGreatDoorM35
import Derived.Stop.Asserts
import Derived.Defers
import Derived.Recover
namespace Go.Proofs.YtjgdnainhoipgaaGreatDoor
open Go.RowKit

set_option maxRecDepth 100000 in
set_option maxHeartbeats 2000000 in
theorem told_any (n : Int) (w : World) : Calls Tryz.prog 20 #[.iface 104 (.agg #[.int .i64 n])] w fun e w' => e = .returned (.iface 52 (.int .i64 n)) ∧ Below w.heap.size w w' := by
  have hta : ∀ w : World, (Instr.typeAssert (.iface 104 (.agg #[.int .i64 n])) 20 104 true).run Tryz.prog w = .ok (.tuple #[.agg #[.int .i64 n], .bool true]) w := fun _ => by kernel_rfl
  go_enter Tryz.func20, Tryz.ntmps20
  go_wp2
  go_ret
  exact ⟨rfl, (Below.refl _ _).alloc (Nat.le_refl _) _⟩
set_option maxRecDepth 100000 in
set_option maxHeartbeats 2000000 in
theorem catch_idle (p q : Addr) (w : World) :
    CallsD Tryz.prog 19 #[.pointer (some p), .pointer (some q)] .returning w fun e u' w' => e = .returned (.tuple #[]) ∧ u' = .returning ∧ w' = w := by
  refine callsD_of_wpS Tryz.func19 rfl fun c₀ cs hu => ?_
  simp only [Tryz.ntmps19, List.size_toArray, List.length_cons, List.length_nil, Nat.reduceAdd, Nat.reduceSub, Array.replicate_succ, Array.replicate_zero, List.push_toArray, List.append_toArray, List.nil_append, List.cons_append]
  apply wpS_seq
  apply wpS_region
  simp [wpOpsS, go_sem, recoverD, hu, Exit.thenS]
  refine wpS_of_wp ?_
  go_wp2
  cases c₀
  simp_all [bodyPostS, results, Tryz.results19]
set_option maxRecDepth 100000 in
set_option maxHeartbeats 2000000 in
theorem catch_thrown (b : Nat) (n : Int) (w : World) (c0 : w.cell? ⟨b, 0, none⟩ = some (.pointer none)) (c1 : w.cell? ⟨b + 1, 0, none⟩ = some .nilIface) (f0 : w.frozen? ⟨b, 0, none⟩ = false) (f1 : w.frozen? ⟨b + 1, 0, none⟩ = false) :
    CallsD Tryz.prog 19 #[.pointer (some ⟨b, 0, none⟩), .pointer (some ⟨b + 1, 0, none⟩)] (.panicking [{ v := .iface 104 (.agg #[.int .i64 n]), recovered := false }]) w fun e u' w' => e = .returned (.tuple #[]) ∧ u' = .panicking [{ v := .iface 104 (.agg #[.int .i64 n]), recovered := true }] ∧ w'.cell? ⟨b, 0, none⟩ = some (.pointer none) ∧ w'.cell? ⟨b + 1, 0, none⟩ = some (.iface 52 (.int .i64 n)) ∧ Below b w w' := by
  refine callsD_of_wpS Tryz.func19 rfl fun c₀ cs hu => ?_
  simp only [Tryz.ntmps19, List.size_toArray, List.length_cons, List.length_nil, Nat.reduceAdd, Nat.reduceSub, Array.replicate_succ, Array.replicate_zero, List.push_toArray, List.append_toArray, List.nil_append, List.cons_append]
  apply wpS_seq
  apply wpS_region
  simp [wpOpsS, go_sem, recoverD, hu, Exit.thenS]
  refine wpS_of_wp ?_
  go_wp2_with fail
  refine (told_any n w).mono ?_
  rintro _ w1 ⟨rfl, hb1⟩
  have hlt := World.block_lt_of_cell? w _ c1
  simp only at hlt
  have k0 : w1.cell? ⟨b, 0, none⟩ = some (.pointer none) := (hb1.cell (p := ⟨b, 0, none⟩) (by simp only; omega)).trans c0
  have k1 : w1.cell? ⟨b + 1, 0, none⟩ = some .nilIface := (hb1.cell (p := ⟨b + 1, 0, none⟩) hlt).trans c1
  have g0 : w1.frozen? ⟨b, 0, none⟩ = false := by rw [World.frozen?_of_block (a := ⟨b, 0, none⟩) (hb1.block b (by omega))]; exact f0
  have g1 : w1.frozen? ⟨b + 1, 0, none⟩ = false := by rw [World.frozen?_of_block (a := ⟨b + 1, 0, none⟩) (hb1.block (b + 1) hlt)]; exact f1
  have HB : Hid (Below b w w1) := hb1.mono (by omega)
  clear hb1 c0 c1 f0 f1 hlt
  go_wp2
  refine ⟨rfl, _, rfl, .tuple #[], by simp [results, Tryz.results19], rfl, rfl, ?_, ?_, (HB.out.setCell (Nat.le_refl _) _).setCell (Nat.le_succ _) _⟩
  · rw [World.cell?_setCell_other _ _ _ _ (fun e => by injection e with e; simp at e)]
    exact World.cell?_setCell_same _ _ _ k0
  · exact World.cell?_setCell_same _ _ _ (by rw [World.cell?_setCell_other _ _ _ _ (fun e => by injection e with e; simp at e)]; exact k1)

theorem results_cc {P : Program} {fn : Func} {p q : Tmp} {tp tq : TypeId} {v u : Value} (h : fn.results = #[.cell p tp, .cell q tq]) (tmps : Array Value) (w : World) (a b : Addr) (hp : tmps.getD p undef = .pointer (some a)) (hq : tmps.getD q undef = .pointer (some b)) (hl : (loadVar tp a).run P w = .ok v w) (hm : (loadVar tq b).run P w = .ok u w) :
    (results fn tmps).run P w = .ok (.tuple #[v, u]) w := by
  have hp' : tmps[p]?.getD undef = .pointer (some a) := by simpa [Array.getD_eq_getD_getElem?] using hp
  have hq' : tmps[q]?.getD undef = .pointer (some b) := by simpa [Array.getD_eq_getD_getElem?] using hq
  simp [results, h, hp', hq', asAddr, hl, hm]
theorem MQ.keep {A : Nat} {w w' : World} (hs : w.heap.size ≤ w'.heap.size) (hk : ∀ k, A < k → k < w.heap.size → w'.heap[k]? = w.heap[k]?) (q : Qy) : ∀ {p : Option Addr}, MQ A w p q → MQ A w' p q := by
  induction q with
  | nil => intro p h; exact h
  | node k ws a b ha hb =>
    intro p h
    obtain ⟨B, vw, pa, pb, e, ⟨h1, h2⟩, ⟨c0, c1, c2, c3, c4⟩, hr, qa, qb⟩ := h
    have key : ∀ o, w'.cell? ⟨B, o, none⟩ = w.cell? ⟨B, o, none⟩ := fun o => World.cell?_of_block (w := w) (a := ⟨B, o, none⟩) (hk B h1 h2)
    refine ⟨B, vw, pa, pb, e, ⟨h1, Nat.lt_of_lt_of_le h2 hs⟩, ⟨by rw [key]; exact c0, by rw [key]; exact c1, by rw [key]; exact c2, by rw [key]; exact c3, by rw [key]; exact c4⟩, ?_, ha qa, hb qb⟩
    obtain ⟨x, c, rfl, hl, hx⟩ := hr
    refine ⟨x, c, rfl, hl, ?_⟩
    rcases hx with hx | ⟨g, off, e, g1, g2, g3⟩
    · exact .inl hx
    · exact .inr ⟨g, off, e, g1, Nat.lt_of_lt_of_le g2 hs, fun i hi => by rw [World.cell?_of_block (w := w) (a := ⟨g, off + i, none⟩) (hk g g1 g2)]; exact g3 i hi⟩

set_option maxRecDepth 100000 in
set_option maxHeartbeats 4000000 in
/-- what the program's Parse does -/
theorem parse2_any (s : ByteArray) (w : World) (hs : s.size ≤ 400) (he : EndsAt w) : Calls Tryz.prog 8 #[.string s] w fun e w' => ∃ p E, e = .returned (.tuple #[.pointer p, E]) ∧ MIs w' p (askS s).1 ∧ ((askS s).2 = 0 ∧ E = .nilIface ∨ (askS s).2 ≠ 0 ∧ E = .iface 52 (.int .i64 (askS s).2)) ∧ Below w.heap.size w w' := by
  have hmf : ∀ (fn : Fn) (first cap : Array Value) (w : World), (Instr.makeFunc fn first cap).run Tryz.prog w = .ok (.func fn first cap) w := fun _ _ _ _ => rfl
  have HE : Hid (EndsAt w) := he
  clear he
  go_enter_defers Tryz.func8, Tryz.ntmps8
  go_wp2_with fail
  obtain ⟨W, hW⟩ : ∃ W, (w.alloc (.cells #[.pointer none] 32)).alloc (.cells #[.nilIface] 27) = W := ⟨_, rfl⟩
  have hWs : W.heap.size = w.heap.size + 2 := by rw [← hW]; simp
  have HWb : Hid (Below w.heap.size w W) := by
    show Below _ _ _
    rw [← hW]; exact ((Below.refl _ _).alloc (Nat.le_refl _) _).alloc (by simp) _
  have HEW : Hid (EndsAt W) := HE.out.below HWb.out
  have q0 : W.cell? ⟨w.heap.size, 0, none⟩ = some (.pointer none) := by rw [← hW]; simp [go_sem]
  have q1 : W.cell? ⟨w.heap.size + 1, 0, none⟩ = some .nilIface := by rw [← hW]; simp [go_sem]
  have z0 : W.frozen? ⟨w.heap.size, 0, none⟩ = false := by rw [← hW]; simp [go_sem]
  have z1 : W.frozen? ⟨w.heap.size + 1, 0, none⟩ = false := by rw [← hW]; simp [go_sem]
  rw [hW]
  clear hW
  refine (readQ_any s W hs HEW.out).mono ?_
  rintro e w1 ⟨hcase, hb1⟩
  have k0 : w1.cell? ⟨w.heap.size, 0, none⟩ = some (.pointer none) := (hb1.cell (p := ⟨w.heap.size, 0, none⟩) (by simp only; omega)).trans q0
  have k1 : w1.cell? ⟨w.heap.size + 1, 0, none⟩ = some .nilIface := (hb1.cell (p := ⟨w.heap.size + 1, 0, none⟩) (by simp only; omega)).trans q1
  have g0 : w1.frozen? ⟨w.heap.size, 0, none⟩ = false := by rw [World.frozen?_of_block (a := ⟨w.heap.size, 0, none⟩) (hb1.block w.heap.size (by omega))]; exact z0
  have g1 : w1.frozen? ⟨w.heap.size + 1, 0, none⟩ = false := by rw [World.frozen?_of_block (a := ⟨w.heap.size + 1, 0, none⟩) (hb1.block (w.heap.size + 1) (by omega))]; exact z1
  have HB1 : Hid (Below w.heap.size w w1) := HWb.out.trans (hb1.mono (by omega))
  clear hb1 q0 q1 z0 z1 HWb HEW
  rcases hcase with ⟨hn, p, A, rfl, hA, hq⟩ | ⟨hn, hq, rfl⟩
  · have HK : Hid ((askS s).2 = 0 ∧ MQ A w1 p (askS s).1) := ⟨hn, hq⟩
    clear hn hq
    go_wp2
    refine leaves_cons (f := 19) (args := #[.pointer (some ⟨w.heap.size, 0, none⟩), .pointer (some ⟨w.heap.size + 1, 0, none⟩)]) (by simp) (by simp [go_sem]) ?_
    refine (catch_idle ⟨w.heap.size, 0, none⟩ ⟨w.heap.size + 1, 0, none⟩ _).mono ?_
    rintro e u' w'' ⟨rfl, rfl, rfl⟩
    show ∃ v, _ ∧ _
    refine ⟨.tuple #[.pointer p, .nilIface], results_cc Tryz.results8 _ _ ⟨w.heap.size, 0, none⟩ ⟨w.heap.size + 1, 0, none⟩ rfl rfl ?_ ?_, p, .nilIface, rfl, ?_, ?_, (HB1.out.setCell (Nat.le_refl _) _).setCell (Nat.le_succ _) _⟩
    · simp [go_sem, k0]
    · simp [go_sem, k1]
    · refine (MQ.keep ?_ ?_ _ HK.out.2).mis
      · simp [World.setCell]
      · intro k h1 h2
        rw [Below.heap_setCell _ ⟨w.heap.size + 1, 0, none⟩ _ k (fun e => by simp only at e; omega), Below.heap_setCell _ ⟨w.heap.size, 0, none⟩ _ k (fun e => by simp only at e; omega)]
    · exact .inl ⟨HK.out.1, rfl⟩
  · have HK : Hid ((askS s).2 ≠ 0 ∧ (askS s).1 = .nil) := ⟨hn, hq⟩
    clear hn hq
    go_wp2
    refine leaves_cons (f := 19) (args := #[.pointer (some ⟨w.heap.size, 0, none⟩), .pointer (some ⟨w.heap.size + 1, 0, none⟩)]) (by simp) (by simp [go_sem]) ?_
    refine (catch_thrown w.heap.size (askS s).2 w1 k0 k1 g0 g1).mono ?_
    rintro e u' w2 ⟨rfl, rfl, c0, c1, hb2⟩
    show ∃ v, _ ∧ _
    refine ⟨.tuple #[.pointer none, .iface 52 (.int .i64 (askS s).2)], results_cc Tryz.results8 _ _ ⟨w.heap.size, 0, none⟩ ⟨w.heap.size + 1, 0, none⟩ rfl rfl ?_ ?_, none, _, rfl, ?_, .inr ⟨HK.out.1, rfl⟩, HB1.out.trans hb2⟩
    · simp [go_sem, c0]
    · simp [go_sem, c1]
    · rw [HK.out.2]; exact rfl
end Go.Proofs.YtjgdnainhoipgaaGreatDoor
namespace Go.Proofs.YtjgdnainhoipgaaGreatDoor
open Go.RowKit Go.Maps

theorem askS_nice (s : ByteArray) (hs : s.size ≤ 400) : lvs (askS s).1 ≤ 400 ∧ QOk (askS s).1 ∧ szQ (askS s).1 ≤ 1000 := by
  cases h : piecesM s s.size 0 with
  | none => rw [askS_none h]; exact ⟨Nat.zero_le _, trivial, Nat.zero_le _⟩
  | some L =>
    rw [askS_some h]
    obtain ⟨h1, h2, h3⟩ := ask_nice L
    have := (pieces_spec s s.size 0 L h).1
    exact ⟨by omega, h2, by omega⟩
section
variable {pls : ByteArray → List Pl} {beg : ByteArray → List ByteArray}
/-- a row that is found has a place of some word -/
def RowOf (pls : ByteArray → List Pl) (r : Int) : Prop := ∃ wd, ∃ p ∈ pls wd, p.r = r
theorem tog_row {k : Int} {a b : List Ht} (ha : ∀ x ∈ a, RowOf pls x.r) (hb : ∀ x ∈ b, RowOf pls x.r) : ∀ x ∈ togL k a b, RowOf pls x.r := fun z hz => by
  rcases tog_mem k a b z hz with ⟨x, hx, e⟩ | ⟨y, hy, e⟩
  · rw [← e]; exact ha x hx
  · rw [← e]; exact hb y hy
theorem stand_sub (ws : List ByteArray) : ∀ (s : List Pl), (∀ p ∈ s, RowOf pls p.r) → ∀ p ∈ standF pls s ws, RowOf pls p.r := by
  induction ws with
  | nil => intro s h; exact h
  | cons w ws ih => intro s _; exact ih _ (fun p hp => ⟨w, p, (keep_sub stpF (pls w) s).subset hp, rfl⟩)
theorem alone_row (h : FOk pls beg) (k : Int) (ws : List ByteArray) : ∀ x ∈ aloneL pls beg k ws, RowOf pls x.r := by
  unfold aloneL
  split
  · intro x hx
    obtain ⟨p, hp, e⟩ := (cnt_of (standL_ris pls h.ris ws)).mem x hx
    rw [← e]
    cases ws with
    | nil => cases hp
    | cons w ws => exact stand_sub ws (pls w) (fun p hp => ⟨w, p, hp, rfl⟩) p hp
  · split
    · split
      · rename_i s
        have key : ∀ (l : List ByteArray) (h0 : List Ht), (∀ x ∈ h0, RowOf pls x.r) → ∀ x ∈ begF pls h0 l, RowOf pls x.r := by
          intro l
          induction l with
          | nil => intro h0 hh; exact hh
          | cons w l ih =>
            intro h0 hh
            rw [begF_cons]
            refine ih _ (tog_row hh (fun x hx => ?_))
            obtain ⟨p, hp, e⟩ := (cnt_of (h.ris w)).mem x hx
            exact ⟨w, p, hp, e⟩
        exact key _ [] (fun _ h => by cases h)
      · intro x hx; cases hx
    · split
      · split
        · rename_i u v
          intro x hx
          unfold nearL2 at hx
          obtain ⟨r, hr, rfl⟩ := List.mem_map.1 hx
          obtain ⟨p, hp, q, hq, e, _⟩ := ((near_list 3 (h.ris u) (h.ris v)).2 r).1 hr
          exact ⟨u, p, hp, e⟩
        · intro x hx; cases hx
      · intro x hx; cases hx
theorem eval_row (h : FOk pls beg) (q : Qy) : ∀ x ∈ evalQ pls beg q, RowOf pls x.r := by
  induction q with
  | nil => intro x hx; cases hx
  | node k ws a b ha hb =>
    unfold evalQ
    split
    · exact tog_row ha hb
    · exact alone_row h k ws
theorem eval_bound (h : FOk pls beg) (q : Qy) : ∀ x ∈ evalQ pls beg q, 1 ≤ x.r ∧ x.r ≤ 1073741824 := fun x hx => by
  obtain ⟨wd, p, hp, e⟩ := eval_row h q x hx
  have := h.ok wd p hp
  unfold OkP at this
  omega
end
def tN : ByteArray := ⟨#[110]⟩
section
variable {bf : Nat} {pls : ByteArray → List Pl} {beg : ByteArray → List ByteArray} {w : World}
set_option maxRecDepth 100000 in
set_option maxHeartbeats 8000000 in
theorem hits_any (hF : Fdr bf tN pls beg w) (he : EndsAt w) (s : ByteArray) (hs : s.size ≤ 400) :
    Calls Tryz.prog 7 #[.pointer (some ⟨bf, 0, none⟩), .string s] w fun e w' => Below w.heap.size w w' ∧ ((askS s).2 ≠ 0 ∧ e = .returned (.tuple #[.map none, .bool false]) ∨ (askS s).2 = 0 ∧ ∃ m, e = .returned (.tuple #[.map (some m), .bool true]) ∧ w.heap.size ≤ m ∧ RowsB m (evalQ pls beg (askS s).1).length (evalQ pls beg (askS s).1) w') := by
  obtain ⟨q1, q2, q3⟩ := askS_nice s hs
  have HF : Hid (Fdr bf tN pls beg w) := hF
  have HPA : Hid _ := parse2_any s w hs he
  have HQ : Hid (lvs (askS s).1 ≤ 400 ∧ QOk (askS s).1 ∧ szQ (askS s).1 ≤ 1000) := ⟨q1, q2, q3⟩
  clear hF he q1 q2 q3
  generalize askS s = A at *
  go_enter Tryz.func7, Tryz.ntmps7
  go_wp2_with fail
  refine (show Calls _ _ _ _ _ from HPA.out).mono ?_
  rintro _ w1 ⟨p, E, rfl, hm, hE, hb1⟩
  have HB1 : Hid (Below w.heap.size w w1) := hb1
  have HMI : Hid (MIs w1 p A.1) := hm
  clear hb1 hm HPA
  rcases hE with ⟨h0, rfl⟩ | ⟨h0, rfl⟩
  · have H0 : Hid (A.2 = 0) := h0
    have HEV : Hid _ := eval2_in (HF.out.below HB1.out) A.1 p HMI.out HQ.out.2.1 HQ.out.1 HQ.out.2.2
    clear h0
    go_wp2_with fail
    refine (show Calls _ _ _ _ _ from HEV.out).mono ?_
    rintro _ w2 ⟨v2, rfl, hi2, hb2⟩
    have HB2 : Hid (Below w.heap.size w w2) := HB1.out.trans (hb2.mono HB1.out.size)
    have HK : Hid (Hk 100000000 (evalQ pls beg A.1)) := (eval_hk HF.out.ok A.1).mono (by have := HQ.out.1; omega)
    have HR : Hid (∀ x ∈ evalQ pls beg A.1, 1 ≤ x.r ∧ x.r ≤ 1073741824) := eval_bound HF.out.ok A.1
    obtain ⟨L, hL⟩ : ∃ L, evalQ pls beg A.1 = L := ⟨_, rfl⟩
    have HL : Hid (evalQ pls beg A.1 = L) := hL
    rw [hL] at hi2 HK HR
    obtain ⟨a, c, rfl, _, ⟨_, hm2, hx⟩, _⟩ := hi2
    have hll := HK.out.len
    clear hb2 hL HEV HMI HB1
    have hmm := @run_makeMap Tryz.prog
    have HMP : Hid (RowsB w2.heap.size 0 [] (w2.alloc (.map #[] 0))) := RowsB.new w2
    have HB3 : Hid (Below w2.heap.size w2 (w2.alloc (.map #[] 0))) := alloc_below w2 _
    go_wp2
    go_loopw [9] (fun i wr => ∃ k : Nat, k ≤ L.length ∧ i = .int .i64 k ∧ Hid (RowsB w2.heap.size k (L.take k) wr ∧ Below w2.heap.size w2 wr)) (fun i _ => L.length - (intOf i).toNat)
    case atStart => exact ⟨0, Nat.zero_le _, rfl, HMP.out, HB3.out⟩
    case round =>
      clear HMP HB3
      obtain ⟨k, hk, rfl, hw⟩ := hrel
      have HM : Hid (RowsB w2.heap.size k (L.take k) wr) := hw.out.1
      have HB : Hid (Below w2.heap.size w2 wr) := hw.out.2
      clear hw
      by_cases hlt : k < L.length
      · rcases hx with hx | ⟨b, off, rfl, hb, hrow⟩
        · simp [hx] at hlt
        obtain ⟨g1, g2⟩ := hrow k hlt
        have i1 : (k : Int) < (L.length : Int) := by omega
        have i2 : (0 : Int) ≤ (k : Int) := by omega
        have HRX : Hid (1 ≤ L[k].r ∧ L[k].r ≤ 1073741824) := HR.out _ (List.getElem_mem hlt)
        have HOX : Hid (0 < L[k].o ∧ L[k].o ≤ 100000000) := ⟨HK.out.pos _ (List.getElem_mem hlt), HK.out.le _ (List.getElem_mem hlt)⟩
        have HNO : Hid (∀ y ∈ L.take k, y.r ≠ L[k].r) := fun y hy e => by
          obtain ⟨i, hi, rfl⟩ := List.getElem_of_mem hy
          have hi' : i < k := by rw [List.length_take] at hi; omega
          rw [List.getElem_take] at e
          have := List.pairwise_iff_getElem.1 HK.out.ris i k (by omega) hlt hi'
          omega
        have HTK : Hid (L.take (k + 1) = L.take k ++ [L[k]]) := List.take_succ_eq_append_getElem hlt
        generalize L[k] = x at *
        rw [← HB.out.cell (p := ⟨b, _, none⟩) hb] at g1 g2
        clear hrow
        go_wp2_with fail
        refine wp_region_late (S := fun wx => wx.cell? ⟨b, off + k * 2, none⟩ = some (.int .i64 x.r) ∧ wx.cell? ⟨b, off + k * 2 + 1, none⟩ = some (.int .i64 x.o)) (js := 11) (by kernel_rfl) (⟨g1, g2⟩) ?_
        intro g0
        refine wpAnyL_take (i := 0) (oi := { dst := some 32, op := Op.move (Operand.tmp 4), type := 29, pos := "keep.go:625", after := #[], guard := none }) (v := .map (some w2.heap.size)) rfl (by kernel_rfl) (by kernel_rfl) (by kernel_rfl) (fun _ _ _ h => h) (by decide) (by kernel_rfl) (Or.inl ⟨by rfl, fun wx _ => by go_simp⟩) g0 ?_
        simp only [Act.put, List.setIfInBounds_toArray, List.set_cons_zero, List.set_cons_succ]
        refine wpAnyL_take (i := 1) (oi := { dst := some 33, op := Op.move (Operand.tmp 8), type := 57, pos := "keep.go:625", after := #[], guard := none }) (v := .slice (some ⟨b, off, none⟩) L.length c) rfl (by kernel_rfl) (by kernel_rfl) (by kernel_rfl) (fun _ _ _ h => h) (by decide) (by kernel_rfl) (Or.inl ⟨by rfl, fun wx _ => by go_simp⟩) g0 ?_
        simp only [Act.put, List.setIfInBounds_toArray, List.set_cons_zero, List.set_cons_succ]
        refine wpAnyL_take (i := 2) (oi := { dst := some 34, op := Op.move (Operand.tmp 9), type := 3, pos := "keep.go:625", after := #[], guard := none }) (v := .int .i64 (k : Int)) rfl (by kernel_rfl) (by kernel_rfl) (by kernel_rfl) (fun _ _ _ h => h) (by decide) (by kernel_rfl) (Or.inl ⟨by rfl, fun wx _ => by go_simp⟩) g0 ?_
        simp only [Act.put, List.setIfInBounds_toArray, List.set_cons_zero, List.set_cons_succ]
        refine wpAnyL_take (i := 3) (oi := { dst := some 35, op := Op.indexAddr 57 (Operand.tmp 33) (Operand.tmp 34), type := 0, pos := "keep.go:625", after := #[{ on := 1, ground := Ground.data }, { on := 2, ground := Ground.data }], guard := none }) (v := .pointer (some ⟨b, off + k * 2, none⟩)) rfl (by kernel_rfl) (by kernel_rfl) (by kernel_rfl) (fun _ _ _ h => h) (by decide) (by kernel_rfl) (Or.inl ⟨by rfl, fun wx _ => by go_simp⟩) g0 ?_
        simp only [Act.put, List.setIfInBounds_toArray, List.set_cons_zero, List.set_cons_succ]
        refine wpAnyL_take (i := 4) (oi := { dst := some 36, op := Op.fieldAddr 61 (Operand.tmp 35) 0, type := 0, pos := "keep.go:625", after := #[{ on := 3, ground := Ground.data }], guard := none }) (v := .pointer (some ⟨b, off + k * 2, none⟩)) rfl (by kernel_rfl) (by kernel_rfl) (by kernel_rfl) (fun _ _ _ h => h) (by decide) (by kernel_rfl) (Or.inl ⟨by rfl, fun wx _ => by go_simp⟩) g0 ?_
        simp only [Act.put, List.setIfInBounds_toArray, List.set_cons_zero, List.set_cons_succ]
        refine wpAnyL_take (i := 5) (oi := { dst := some 37, op := Op.load 3 (Operand.tmp 36), type := 3, pos := "keep.go:625", after := #[{ on := 4, ground := Ground.data }], guard := none }) (v := .int .i64 x.r) rfl (by kernel_rfl) (by kernel_rfl) (by kernel_rfl) (fun _ _ _ h => h) (by decide) (by kernel_rfl) (Or.inl ⟨by rfl, fun wx h => by have h8 := h.1; go_simp⟩) g0 ?_
        simp only [Act.put, List.setIfInBounds_toArray, List.set_cons_zero, List.set_cons_succ]
        refine wpAnyL_take (i := 6) (oi := { dst := some 38, op := Op.move (Operand.tmp 8), type := 57, pos := "keep.go:625", after := #[], guard := none }) (v := .slice (some ⟨b, off, none⟩) L.length c) rfl (by kernel_rfl) (by kernel_rfl) (by kernel_rfl) (fun _ _ _ h => h) (by decide) (by kernel_rfl) (Or.inl ⟨by rfl, fun wx _ => by go_simp⟩) g0 ?_
        simp only [Act.put, List.setIfInBounds_toArray, List.set_cons_zero, List.set_cons_succ]
        refine wpAnyL_take (i := 7) (oi := { dst := some 39, op := Op.move (Operand.tmp 9), type := 3, pos := "keep.go:625", after := #[], guard := none }) (v := .int .i64 (k : Int)) rfl (by kernel_rfl) (by kernel_rfl) (by kernel_rfl) (fun _ _ _ h => h) (by decide) (by kernel_rfl) (Or.inl ⟨by rfl, fun wx _ => by go_simp⟩) g0 ?_
        simp only [Act.put, List.setIfInBounds_toArray, List.set_cons_zero, List.set_cons_succ]
        refine wpAnyL_take (i := 8) (oi := { dst := some 40, op := Op.indexAddr 57 (Operand.tmp 38) (Operand.tmp 39), type := 0, pos := "keep.go:625", after := #[{ on := 6, ground := Ground.data }, { on := 7, ground := Ground.data }], guard := none }) (v := .pointer (some ⟨b, off + k * 2, none⟩)) rfl (by kernel_rfl) (by kernel_rfl) (by kernel_rfl) (fun _ _ _ h => h) (by decide) (by kernel_rfl) (Or.inl ⟨by rfl, fun wx _ => by go_simp⟩) g0 ?_
        simp only [Act.put, List.setIfInBounds_toArray, List.set_cons_zero, List.set_cons_succ]
        refine wpAnyL_take (i := 9) (oi := { dst := some 41, op := Op.fieldAddr 61 (Operand.tmp 40) 1, type := 0, pos := "keep.go:625", after := #[{ on := 8, ground := Ground.data }], guard := none }) (v := .pointer (some ⟨b, off + k * 2 + 1, none⟩)) rfl (by kernel_rfl) (by kernel_rfl) (by kernel_rfl) (fun _ _ _ h => h) (by decide) (by kernel_rfl) (Or.inl ⟨by rfl, fun wx _ => by go_simp⟩) g0 ?_
        simp only [Act.put, List.setIfInBounds_toArray, List.set_cons_zero, List.set_cons_succ]
        refine wpAnyL_take (i := 10) (oi := { dst := some 42, op := Op.load 3 (Operand.tmp 41), type := 3, pos := "keep.go:625", after := #[{ on := 9, ground := Ground.data }], guard := none }) (v := .int .i64 x.o) rfl (by kernel_rfl) (by kernel_rfl) (by kernel_rfl) (fun _ _ _ h => h) (by decide) (by kernel_rfl) (Or.inl ⟨by rfl, fun wx h => by have h8 := h.2; go_simp⟩) g0 ?_
        simp only [Act.put, List.setIfInBounds_toArray, List.set_cons_zero, List.set_cons_succ]
        refine wpAnyL_last (o := { dst := none, op := Op.mapUpdate 29 (Operand.tmp 32) (Operand.tmp 37) (Operand.tmp 42), type := 0, pos := "keep.go:625", after := #[{ on := 0, ground := Ground.data }, { on := 5, ground := Ground.data }, { on := 10, ground := Ground.data }, { on := 0, ground := Ground.phase }, { on := 1, ground := Ground.phase }, { on := 2, ground := Ground.phase }, { on := 3, ground := Ground.phase }, { on := 4, ground := Ground.phase }, { on := 5, ground := Ground.phase }, { on := 6, ground := Ground.phase }, { on := 7, ground := Ground.phase }, { on := 8, ground := Ground.phase }, { on := 9, ground := Ground.phase }, { on := 10, ground := Ground.phase }], guard := none }) (by kernel_rfl) (by kernel_rfl) rfl (by rfl) (fun K hK => ?_)
        refine wp_put_rows wr.drew _ _ _ rfl (HM.out.below (Below.refl _ _).drew) (by omega) x (by have := HRX.out; omega) (by have := HRX.out; omega) (by have := HOX.out; omega) (by have := HOX.out; omega) HNO.out rfl rfl rfl ?_
        intro w4 hm4 ho4
        refine hK.out _ _ ?_
        clear hK K
        try simp only [Act.put]
        have HM4 : Hid (RowsB w2.heap.size (k + 1) (L.take (k + 1)) w4) := by rw [HTK.out]; exact hm4
        have HB4 : Hid (Below w2.heap.size w2 w4) := Only.below (HB.out.trans ((Below.refl _ _).drew.mono HB.out.size)) ho4 HB.out.size (fun b e => by omega)
        clear hm4 ho4 g0 g1 g2 HM HB
        go_wp2
        go_roundw
        case rel => exact ⟨k + 1, by omega, by go_num, HM4.out, HB4.out⟩
        case measure => simp [intOf]; omega
      · have e : k = L.length := by omega
        subst e
        rw [List.take_length] at HM
        obtain ⟨D, hD, hH⟩ := HM.out
        have HD : Hid (wr.ownsMap Tryz.prog 3 (plainElem Tryz.prog 3) w2.heap.size L.length D) := hD
        have HSZ : Hid (Maps.size D = L.length) := hH.size
        clear hD hH
        go_wp2_with (at_len; refine wpList_len_own _ rfl _ 29 rfl 3 3 Tryz.underlying29 (plainElem Tryz.prog 3) w2.heap.size L.length D rfl HD.out ?_)
        have hsz := HSZ.out
        generalize Maps.size D = SZ at *
        subst hsz
        have hbe : ((L.length : Int) == (L.length : Int)) = true := by simp
        go_wp2
        go_ret2
        refine ⟨HB2.out.trans (HB.out.mono HB2.out.size), .inr ⟨H0.out, w2.heap.size, rfl, HB2.out.size, ?_⟩⟩
        rw [HL.out]
        exact HM.out
  · have H0 : Hid (A.2 ≠ 0) := h0
    clear h0
    go_wp2
    go_ret2
    exact ⟨HB1.out, .inl ⟨H0.out, rfl⟩⟩
end
end Go.Proofs.YtjgdnainhoipgaaGreatDoor
namespace Go.Proofs.YtjgdnainhoipgaaGreatDoor
open Go.RowKit Go.Maps

def tFact : ByteArray := ⟨#[97, 32, 65, 78, 68, 32, 34, 98, 32, 99, 34, 32, 79, 82, 32, 100, 42]⟩
theorem fact_ask : ∃ ws vs, askS tFact = (.node 5 [] (.node 4 [] (.node 1 ws .nil .nil) (.node 1 vs .nil .nil)) (.node 2 [⟨#[100]⟩] .nil .nil), 0) := ⟨[⟨#[97]⟩], [⟨#[98]⟩, ⟨#[99]⟩], by kernel_rfl⟩
set_option maxRecDepth 100000 in
set_option maxHeartbeats 2000000 in
theorem asked_any (w : World) (he : EndsAt w) : Calls Tryz.prog 4 #[] w fun e w' => e = .returned (.bool true) ∧ Below w.heap.size w w' := by
  obtain ⟨ws, vs, ha⟩ := fact_ask
  have hP := parse2_any tFact w (by decide) he
  rw [ha] at hP
  have HPA : Hid _ := hP
  clear he ha hP
  go_enter Tryz.func4, Tryz.ntmps4
  go_wp2_with fail
  refine (show Calls _ _ _ _ _ from HPA.out).mono ?_
  rintro _ w1 ⟨p, E, rfl, hm, hE, hb1⟩
  have HB1 : Hid (Below w.heap.size w w1) := hb1
  obtain rfl : E = .nilIface := by
    rcases hE with ⟨_, h⟩ | ⟨h, _⟩
    · exact h
    · exact absurd rfl h
  obtain ⟨B1, x1, c1, pa, pb, rfl, hN1, _, hMa, hMb⟩ := hm.node
  obtain ⟨B2, x2, c2, pa2, pb2, rfl, hN2, _, _, _⟩ := hMa.node
  obtain ⟨B3, x3, c3, pa3, pb3, rfl, hN3, hr3, _, _⟩ := hMb.node
  obtain ⟨b, o, rfl, _, hc, _⟩ := row_at0 hr3
  obtain ⟨_, k1, _, _, k2, k3⟩ := hN1
  obtain ⟨_, k4, _, _, _, _⟩ := hN2
  obtain ⟨_, k5, k6, _, _, _⟩ := hN3
  clear hb1 HPA hE hMa hMb hr3
  go_wp2
  go_ret
  exact ⟨rfl, HB1.out⟩
end Go.Proofs.YtjgdnainhoipgaaGreatDoor
namespace Go.Proofs.YtjgdnainhoipgaaGreatDoor
open Go.RowKit Go.Maps

set_option maxRecDepth 100000 in
set_option maxHeartbeats 1000000 in
theorem found_any (w : World) : Calls Tryz.prog 5 #[] w fun e w' => ∃ bf bt bp bd bm, e = .returned (.pointer (some ⟨bf, 0, none⟩)) ∧ PrS bf bt bp bd bm 0 0 (InD []) w' ∧ (w.heap.size ≤ bf ∧ w.heap.size ≤ bt ∧ w.heap.size ≤ bp ∧ w.heap.size ≤ bd ∧ w.heap.size ≤ bm) ∧ Below w.heap.size w w' := by
  have hz := Tryz.zeroValue45
  have HO : Hid _ := open_new w
  go_enter Tryz.func5, Tryz.ntmps5
  go_wp2_with fail
  refine (show Calls _ _ _ _ _ from HO.out).mono ?_
  rintro _ w1 ⟨bp, bm, up, V, rfl, h1, h2, h3, hW, hU, hE, hb⟩
  have HW : Hid _ := hW
  have HU : Hid _ := hU
  have HE : Hid (TrAt V 3 Tr.none) := hE 3 (by omega)
  have HB : Hid (Below w.heap.size w w1) := hb
  obtain ⟨bd, hbd⟩ : ∃ bd, w.heap.size = bd := ⟨_, rfl⟩
  rw [hbd] at h1 h2 HW
  have hbd2 : w.heap.size ≤ bd := by omega
  clear hW hU hE hb HO hbd
  go_wp2_with fail
  refine (at_any (r := 3) HW.out (by omega)).mono ?_
  rintro _ w2 ⟨bt, rfl, hT2, hlt2, hb2⟩
  have hwl := HW.out.lt
  have HT2 : Hid (Tt bt bp 3 w2) := hT2
  have HW2 : Hid _ := HW.out.below hb2
  have HB2 : Hid (Below w.heap.size w w2) := HB.out.trans (hb2.mono HB.out.size)
  have hs2 := hT2.lt
  have hs12 := hb2.size
  have hs11 := HB.out.size
  clear hT2 hb2
  go_wp2_with fail
  refine (overF_any bt w2).mono ?_
  rintro _ w3 ⟨rfl, hw3⟩
  have hb3 : Below w2.heap.size w2 w3 := by rw [hw3]; exact (Below.refl _ _).alloc (Nat.le_refl _) _
  have HF : Hid (Fs w2.heap.size bt bp bd bm 0 up V Tr.none w3) := ⟨by rw [hw3]; exact Own1.new w2 _ _, HT2.out.below hb3, HW2.out.below hb3, HE.out, Sole.none HU.out, ⟨by omega, by omega⟩, ⟨by omega, by omega⟩⟩
  have HB3 : Hid (Below w.heap.size w w3) := HB2.out.trans (hb3.mono HB2.out.size)
  clear hw3 hb3
  go_wp2
  go_ret
  refine ⟨_, bt, bp, bd, bm, rfl, ⟨0, up, V, Tr.none, Nat.le_refl _, HF.out, Nat.le_refl _, fun x => ?_⟩, ⟨by omega, by omega, by omega, by omega, by omega⟩, HB3.out⟩
  constructor
  · intro h; cases h
  · rintro ⟨d, hd, _⟩; cases hd
section
variable {bf bt bp bd bm N : Nat} {w : World} {D : List Nd}
theorem fdr_of (hD : Nts D) (h : PrS bf bt bp bd bm N 21000 (InD D) w) (hg : Gl w) (nm : ByteArray) (hnm : nm.size ≤ 100) :
    ∃ pls beg, Fdr bf nm pls beg w ∧ (∀ wd, PlsOf D nm wd (pls wd)) := by
  obtain ⟨N1, up, V, T, L, k0, k1, k2, k3⟩ := h.piecesD hD.ok
  obtain ⟨m, hm⟩ := hg.m
  have hl := k3.len hD.ok
  have hl2 := hD.len
  have hP : ∀ wd, PlsOf D nm wd (plsW nm wd L) := fun wd => pls_of hD k3 nm wd
  have hB : ∀ s, BegOf D nm s (cmpW (begW' nm s L)) := fun s => beg_of hD k3 nm s
  refine ⟨fun wd => plsW nm wd L, fun s => cmpW (begW' nm s L), ⟨fun wx hx wd hwd => ?_, fun wx hx s hs => ?_, ⟨fun wd => (hP wd).right, fun wd => by have := (hP wd).len; omega, fun s => by have := (hB s).len; omega⟩, fun s x hx => ?_⟩, hP⟩
  · refine (places_any (k1.below hx) (keepc hx hm) (k3.ok hD.ok) k2 (by omega) nm wd hnm hwd).mono ?_
    rintro e w' ⟨v, rfl, hr, hb⟩
    exact ⟨v, rfl, InP.of_own hr (by have := (hP wd).len; omega), hb⟩
  · refine (begin_any (k1.below hx) (keepc hx hm) (k3.ok hD.ok) k2 (by omega) nm s hnm hs).mono ?_
    rintro e w' ⟨v, rfl, hr, hb⟩
    obtain ⟨a, c, rfl, h1, _⟩ := row_of_own hr (by have := (hB s).len; omega)
    exact ⟨a, c, rfl, h1, hb⟩
  · obtain ⟨d, hd, _, rfl, _⟩ := ((hB s).mem x).1 hx
    have := (hD.ok.ok d hd).w.le
    omega
end
section
variable {pls : ByteArray → List Pl} {beg : ByteArray → List ByteArray}
/-- words that stand in a row, one right behind the other: there they are found -/
theorem stand_has (h : FOk pls beg) (R : Int) : ∀ (ws : List ByteArray) (s : List Pl) (a : Int), s.Pairwise LtP → (⟨R, a⟩ : Pl) ∈ s → (∀ j (hj : j < ws.length), (⟨R, a + 1 + j⟩ : Pl) ∈ pls ws[j]) → ∃ p ∈ standF pls s ws, p.r = R
  | [], s, a, _, hm, _ => ⟨_, hm, rfl⟩
  | w :: ws, s, a, hs, hm, hw => by
    obtain ⟨f1, f2⟩ := foll_list hs (h.ris w)
    refine stand_has h R ws _ (a + 1) f1 ((f2 _).2 (mem_folO.2 ⟨?_, ⟨R, a⟩, hm, rfl, rfl⟩)) (fun j hj => ?_)
    · have := hw 0 (by simp)
      simpa using this
    · have := hw (j + 1) (by simpa using hj)
      rw [List.getElem_cons_succ] at this
      have e : a + 1 + ((j + 1 : Nat) : Int) = a + 1 + 1 + (j : Int) := by omega
      rw [e] at this
      exact this
theorem stand_all (h : FOk pls beg) : ∀ (ws : List ByteArray) (s : List Pl), s.Pairwise LtP → ∀ p ∈ standF pls s ws, (∃ q ∈ s, q.r = p.r) ∧ ∀ w ∈ ws, ∃ q ∈ pls w, q.r = p.r
  | [], s, _, p, hp => ⟨⟨p, hp, rfl⟩, fun _ h => by cases h⟩
  | w :: ws, s, hs, p, hp => by
    obtain ⟨f1, f2⟩ := foll_list hs (h.ris w)
    obtain ⟨⟨q, hq, e⟩, h2⟩ := stand_all h ws _ f1 p hp
    obtain ⟨hqw, z, hz, ez, _⟩ := mem_folO.1 ((f2 q).1 hq)
    refine ⟨⟨z, hz, ez.trans e⟩, fun x hx => ?_⟩
    rcases List.mem_cons.1 hx with rfl | hx
    · exact ⟨q, hqw, e⟩
    · exact h2 x hx
theorem quot_has (h : FOk pls beg) (R : Int) (ws : List ByteArray) (hne : ws ≠ []) (hw : ∀ j (hj : j < ws.length), (⟨R, (j : Int)⟩ : Pl) ∈ pls ws[j]) : ∃ x ∈ evalQ pls beg (.node 1 ws .nil .nil), x.r = R := by
  have e : evalQ pls beg (.node 1 ws .nil .nil) = cntL2 (standL pls ws) := rfl
  rw [e]
  cases ws with
  | nil => exact absurd rfl hne
  | cons w ws =>
    obtain ⟨p, hp, er⟩ := stand_has h R ws (pls w) 0 (h.ris w) (by have := hw 0 (by simp); simpa using this) (fun j hj => by
      have := hw (j + 1) (by simpa using hj)
      rw [List.getElem_cons_succ] at this
      have e : (0 : Int) + 1 + (j : Int) = ((j + 1 : Nat) : Int) := by omega
      rw [e]
      exact this)
    obtain ⟨x, hx, ex⟩ := (cnt_of (standL_ris pls h.ris (w :: ws))).all p hp
    exact ⟨x, hx, ex.trans er⟩
theorem quot_all (h : FOk pls beg) (ws : List ByteArray) : ∀ x ∈ evalQ pls beg (.node 1 ws .nil .nil), ∀ w ∈ ws, ∃ q ∈ pls w, q.r = x.r := by
  have e : evalQ pls beg (.node 1 ws .nil .nil) = cntL2 (standL pls ws) := rfl
  rw [e]
  intro x hx w hw
  obtain ⟨p, hp, ep⟩ := (cnt_of (standL_ris pls h.ris ws)).mem x hx
  cases ws with
  | nil => cases hw
  | cons v ws =>
    obtain ⟨⟨q, hq, eq⟩, h2⟩ := stand_all h ws (pls v) (h.ris v) p hp
    rcases List.mem_cons.1 hw with rfl | hw
    · exact ⟨q, hq, eq.trans ep⟩
    · obtain ⟨q, hq, eq⟩ := h2 w hw
      exact ⟨q, hq, eq.trans ep⟩
end
end Go.Proofs.YtjgdnainhoipgaaGreatDoor
namespace Go.Proofs.YtjgdnainhoipgaaGreatDoor
open Go.RowKit

/-- what reads well has taken something -/
def Eats (X : Rst → Qy × Rst) : Prop := ∀ L q L', X ⟨L, 0⟩ = (q, ⟨L', 0⟩) → L'.length < L.length
theorem rst_zero {s : Rst} (h : s.bad = 0) : s = ⟨s.l, 0⟩ := by cases s; simp only at h; rw [h]
theorem take_len (L : List ByteArray) (x : ByteArray) : ((⟨L, 0⟩ : Rst).take x).2.l.length ≤ L.length := by
  unfold Rst.take
  split
  · simp
  · exact Nat.le_refl _
section
variable {E : Bool} {R : List ByteArray} {one two : Rst → Qy × Rst}
theorem sim_allL (hR : Shuts R) (hs : Sim E R one two) (he : Eats one) : ∀ (f f' : Nat) (L L' : List ByteArray) (q q' : Qy), L.length ≤ f → L.length + R.length ≤ f' → allL one f q ⟨L, 0⟩ = (q', ⟨L', 0⟩) →
    allL two f' q ⟨L ++ R, 0⟩ = (q', ⟨L' ++ R, 0⟩) ∨ (E = true ∧ (allL two f' q ⟨L ++ R, 0⟩).2.bad = 4) := by
  intro f
  induction f with
  | zero =>
    intro f' L L' q q' hl hl' h
    have e : L = [] := List.eq_nil_of_length_eq_zero (by omega)
    subst e
    have h' : (q, (⟨[], 0⟩ : Rst)) = (q', ⟨L', 0⟩) := h
    simp only [Prod.mk.injEq, Rst.mk.injEq] at h'
    obtain ⟨rfl, rfl, _⟩ := h'
    exact .inl (allL_stop two f' q _ (by rw [goes_more (L := []) hR]; decide))
  | succ f ih =>
    intro f' L L' q q' hl hl' h
    by_cases hg : goes (⟨L, 0⟩ : Rst).peek = true
    · have hne : L ≠ [] := fun e => by rw [e] at hg; exact absurd hg (by decide)
      have hpos : 0 < L.length := List.length_pos_iff.2 hne
      obtain ⟨f'', rfl⟩ : ∃ m, f' = m + 1 := ⟨f' - 1, by omega⟩
      unfold allL at h ⊢
      rw [if_pos hg] at h
      rw [if_pos (by rw [goes_more hR]; exact hg)]
      obtain ⟨t1, t2⟩ := take_more (L := L) (x := tNot) hR (by decide) (by decide)
      have e1 := rst_zero t2
      have l1 := take_len L tNot
      obtain ⟨c, hc⟩ : ∃ c, ((⟨L, 0⟩ : Rst).take tNot).1 = c := ⟨_, rfl⟩
      obtain ⟨M, hM⟩ : ∃ M, ((⟨L, 0⟩ : Rst).take tNot).2.l = M := ⟨_, rfl⟩
      rw [hM] at e1 t1 l1
      rw [hc] at t1
      simp only [e1, hc] at h
      simp only [t1]
      obtain ⟨u1, u2⟩ := take_more (L := M) (x := tAnd) hR (by decide) (by decide)
      have e2 := rst_zero u2
      have l2 := take_len M tAnd
      -- what the next one is read of
      have key : ∃ M', (if c then (⟨M, 0⟩ : Rst) else ((⟨M, 0⟩ : Rst).take tAnd).2) = ⟨M', 0⟩ ∧ (if c then (⟨M ++ R, 0⟩ : Rst) else ((⟨M ++ R, 0⟩ : Rst).take tAnd).2) = ⟨M' ++ R, 0⟩ ∧ M'.length ≤ L.length := by
        cases c
        · refine ⟨((⟨M, 0⟩ : Rst).take tAnd).2.l, ?_, ?_, by omega⟩
          · simp only [Bool.false_eq_true, if_false]; exact e2
          · simp only [Bool.false_eq_true, if_false]; rw [u1]
        · exact ⟨M, by simp, by simp, l1⟩
      obtain ⟨M', k1, k2, k3⟩ := key
      rw [k1] at h
      rw [k2]
      obtain ⟨r, hr⟩ : ∃ r, one ⟨M', 0⟩ = r := ⟨_, rfl⟩
      obtain ⟨q1, s1⟩ := r
      rw [hr] at h
      simp only at h
      by_cases hb : s1.bad = 0
      · have es := rst_zero hb
        rw [es] at h hr
        have hlt := he _ _ _ hr
        rcases hs _ _ _ hr with g | ⟨g1, g2⟩
        · rw [g]
          exact ih f'' s1.l L' _ _ (by omega) (by omega) h
        · refine .inr ⟨g1, ?_⟩
          rw [allL_badM _ _ _ _ (by rw [g2]; decide)]
          exact g2
      · rw [allL_badM _ _ _ _ hb] at h
        simp only [Prod.mk.injEq] at h
        rw [h.2] at hb
        exact absurd rfl hb
    · have hg' : goes (⟨L, 0⟩ : Rst).peek = false := by simpa using hg
      rw [allL_stop _ _ _ _ hg'] at h
      simp only [Prod.mk.injEq, Rst.mk.injEq] at h
      obtain ⟨rfl, rfl, _⟩ := h
      exact .inl (allL_stop two f' q _ (by rw [goes_more hR]; exact hg'))
theorem sim_all (hR : Shuts R) (hs : Sim E R one two) (he : Eats one) : Sim E R (allM one) (allM two) := by
  intro L q L' h
  unfold allM at h ⊢
  obtain ⟨r, hr⟩ : ∃ r, one ⟨L, 0⟩ = r := ⟨_, rfl⟩
  obtain ⟨q1, s1⟩ := r
  rw [hr] at h
  simp only at h
  by_cases hb : s1.bad = 0
  · have es := rst_zero hb
    rw [es] at h hr
    rcases hs _ _ _ hr with g | ⟨g1, g2⟩
    · rw [g]
      exact sim_allL hR hs he _ _ s1.l L' _ _ (Nat.le_refl _) (by show _ ≤ (s1.l ++ R).length; rw [List.length_append]; exact Nat.le_refl _) h
    · refine .inr ⟨g1, ?_⟩
      simp only
      rw [allL_badM _ _ _ _ (by rw [g2]; decide)]
      exact g2
  · rw [allL_badM _ _ _ _ hb] at h
    simp only [Prod.mk.injEq] at h
    rw [h.2] at hb
    exact absurd rfl hb
end
end Go.Proofs.YtjgdnainhoipgaaGreatDoor
namespace Go.Proofs.YtjgdnainhoipgaaGreatDoor
open Go.RowKit

theorem nu_good (L : List ByteArray) : (⟨L, 0⟩ : Rst).nu = L.length := rfl
section
variable {E : Bool} {R : List ByteArray} {all all2 one two : Rst → Qy × Rst}
theorem sim_anyL (hR : Shuts R) (hs : Sim E R all all2) (he : Eats all) : ∀ (f f' : Nat) (L L' : List ByteArray) (q q' : Qy), L.length ≤ f → L.length + R.length ≤ f' → anyL all f q ⟨L, 0⟩ = (q', ⟨L', 0⟩) →
    anyL all2 f' q ⟨L ++ R, 0⟩ = (q', ⟨L' ++ R, 0⟩) ∨ (E = true ∧ (anyL all2 f' q ⟨L ++ R, 0⟩).2.bad = 4) := by
  have noOr : ∀ L : List ByteArray, (⟨L, 0⟩ : Rst).peek ≠ tOr → (⟨L ++ R, 0⟩ : Rst).peek ≠ tOr := fun L h => by
    cases L with
    | nil =>
      show (⟨R, 0⟩ : Rst).peek ≠ tOr
      rcases peek_end hR with k | k <;> rw [k] <;> decide
    | cons y l => exact h
  intro f
  induction f with
  | zero =>
    intro f' L L' q q' hl hl' h
    have e : L = [] := List.eq_nil_of_length_eq_zero (by omega)
    subst e
    have h' : (q, (⟨[], 0⟩ : Rst)) = (q', ⟨L', 0⟩) := h
    simp only [Prod.mk.injEq, Rst.mk.injEq] at h'
    obtain ⟨rfl, rfl, _⟩ := h'
    exact .inl (anyL_stop all2 f' q _ (noOr [] (by decide)))
  | succ f ih =>
    intro f' L L' q q' hl hl' h
    by_cases hg : (⟨L, 0⟩ : Rst).peek = tOr
    · cases L with
      | nil => exact absurd hg (by decide)
      | cons y l =>
        have ey : y = tOr := hg
        subst ey
        simp only [List.length_cons] at hl hl'
        obtain ⟨f'', rfl⟩ : ∃ m, f' = m + 1 := ⟨f' - 1, by omega⟩
        unfold anyL at h ⊢
        rw [take_yes hg] at h
        rw [take_yes (show (⟨tOr :: l ++ R, 0⟩ : Rst).peek = tOr from rfl)]
        simp only [if_true, List.tail_cons, List.cons_append] at h ⊢
        obtain ⟨r, hr⟩ : ∃ r, all ⟨l, 0⟩ = r := ⟨_, rfl⟩
        obtain ⟨q1, s1⟩ := r
        rw [hr] at h
        simp only at h
        by_cases hb : s1.bad = 0
        · have es := rst_zero hb
          rw [es] at h hr
          have hlt := he _ _ _ hr
          rcases hs _ _ _ hr with g | ⟨g1, g2⟩
          · rw [g]
            exact ih f'' s1.l L' _ _ (by omega) (by omega) h
          · refine .inr ⟨g1, ?_⟩
            rw [anyL_badM _ _ _ _ (by rw [g2]; decide)]
            exact g2
        · rw [anyL_badM _ _ _ _ hb] at h
          simp only [Prod.mk.injEq] at h
          rw [h.2] at hb
          exact absurd rfl hb
    · rw [anyL_stop _ _ _ _ hg] at h
      simp only [Prod.mk.injEq, Rst.mk.injEq] at h
      obtain ⟨rfl, rfl, _⟩ := h
      exact .inl (anyL_stop all2 f' q _ (noOr L hg))
theorem eats_all (ho : ∀ s, (one s).2.nu ≤ s.nu) (he : Eats one) : Eats (allM one) := by
  intro L q L' h
  have h1 := nu_allM ho (⟨L, 0⟩ : Rst)
  rw [h, nu_good] at h1
  obtain ⟨r, hr⟩ : ∃ r, one ⟨L, 0⟩ = r := ⟨_, rfl⟩
  obtain ⟨q1, s1⟩ := r
  by_cases hb : s1.bad = 0
  · have es := rst_zero hb
    rw [es] at hr
    have hlt := he _ _ _ hr
    rw [hr, nu_good] at h1
    omega
  · unfold allM at h
    rw [hr] at h
    simp only at h
    rw [allL_badM _ _ _ _ hb] at h
    simp only [Prod.mk.injEq] at h
    rw [h.2] at hb
    exact absurd rfl hb
theorem sim_any (hR : Shuts R) (hs : Sim E R one two) (he : Eats one) (ho : ∀ s, (one s).2.nu ≤ s.nu) : Sim E R (anyM one) (anyM two) := by
  intro L q L' h
  have ha := sim_all hR hs he
  have hea := eats_all ho he
  unfold anyM at h ⊢
  obtain ⟨r, hr⟩ : ∃ r, allM one ⟨L, 0⟩ = r := ⟨_, rfl⟩
  obtain ⟨q1, s1⟩ := r
  rw [hr] at h
  simp only at h
  by_cases hb : s1.bad = 0
  · have es := rst_zero hb
    rw [es] at h hr
    rcases ha _ _ _ hr with g | ⟨g1, g2⟩
    · rw [g]
      exact sim_anyL hR ha hea _ _ s1.l L' _ _ (Nat.le_refl _) (by show _ ≤ (s1.l ++ R).length; rw [List.length_append]; exact Nat.le_refl _) h
    · refine .inr ⟨g1, ?_⟩
      simp only
      rw [anyL_badM _ _ _ _ (by rw [g2]; decide)]
      exact g2
  · rw [anyL_badM _ _ _ _ hb] at h
    simp only [Prod.mk.injEq] at h
    rw [h.2] at hb
    exact absurd rfl hb
end
end Go.Proofs.YtjgdnainhoipgaaGreatDoor
