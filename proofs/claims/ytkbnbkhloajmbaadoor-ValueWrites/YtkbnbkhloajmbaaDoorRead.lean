/- The contract of Read. -/
import Derived.Test.YtkbnbkhloajmbaaDoorReadVal
import Derived.Lib.IndexBytes
namespace Go.Proofs.YtkbnbkhloajmbaaDoor
open Go.RowKit

/-- which list bytes are -/
def readF : Nat → List UInt8 → Option (List Vl)
  | 0, _ => some []
  | f + 1, l => if l.isEmpty then some [] else if (decV l).2 = 0 then none else (readF f (l.drop (decV l).2)).map ((decV l).1 :: ·)

def cellsW (x : Vl) : List Value := [.int .i64 x.k, .int .i64 x.n, .string x.s]
def cellsL (xs : List Vl) : List Value := xs.flatMap cellsW

theorem info26 : (Tryd.prog.info? 42).map (fun i => (i.zero, i.size, i.bytes)) = some (some (.agg #[.int .i64 0, .int .i64 0, .string ⟨#[]⟩]), 3, 32) := by kernel_rfl

theorem decV_le (l : List UInt8) : (decV l).2 ≤ l.length := by
  cases l with
  | nil => simp [decV, dec1]
  | cons c r =>
    have h1 := lets_le (r.take 41)
    simp at h1
    by_cases c1 : c = 1
    · simp [decV, dec1, c1]
    by_cases c2 : c = 2
    · by_cases h8 : 8 ≤ r.length
      · simp [decV, dec1, c2, h8]
      · simp [decV, dec1, c2, h8]
    by_cases c3 : c = 3
    · by_cases hz : lets (r.take 41) = min 41 r.length
      · simp [decV, dec1, c3, hz]
      · simp [decV, dec1, c3, hz]; omega
    · simp [decV, dec1, c1, c2, c3]

/-- how long the text in a slot is -/
def strLen : Value → Nat
  | .string t => t.size
  | _ => 0

theorem readF_nil (f : Nat) (l : List UInt8) (h : l = []) : readF f l = some [] := by
  cases f with
  | zero => rfl
  | succ f => subst h; rfl
theorem readF_bad (f : Nat) (l : List UInt8) (hf : l.length ≤ f) (h : l ≠ []) (hz : (decV l).2 = 0) : readF f l = none := by
  cases f with
  | zero => exact absurd (List.length_eq_zero_iff.1 (by omega)) h
  | succ f => simp [readF, h, hz]
theorem readF_step (f : Nat) (l : List UInt8) (hf : l.length ≤ f) (h : l ≠ []) (x : Vl) (m : Nat) (hd : decV l = (x, m)) (hz : m ≠ 0) : ∃ f', (l.drop m).length ≤ f' ∧ readF f l = (readF f' (l.drop m)).map (x :: ·) := by
  cases f with
  | zero => exact absurd (List.length_eq_zero_iff.1 (by omega)) h
  | succ f => exact ⟨f, by simp; omega, by simp [readF, h, hd, hz]⟩

theorem cellsL_length (xs : List Vl) : (cellsL xs).length = xs.length * 3 := by
  induction xs with
  | nil => rfl
  | cons x xs ih => simp [cellsL, cellsW] at ih ⊢; omega
theorem cellsL_snoc (xs : List Vl) (x : Vl) : cellsL (xs ++ [x]) = cellsL xs ++ cellsW x := by simp [cellsL]

theorem cell_triple (w : World) (o : Obj) (x : Vl) : ∀ j u, (cellsW x)[j]? = some u →
    ((w.alloc o).alloc (.cells #[.int .i64 x.k, .int .i64 x.n, .string x.s] 42)).cell? ((⟨w.heap.size + 1, 0, none⟩ : Addr).add j) = some u := by
  intro j u hj
  rw [Go.WideShapes.add_plain]
  have e : (w.alloc o).heap.size = w.heap.size + 1 := by simp
  rw [← e]
  match j, hj with
  | 0, hj => simp [cellsW] at hj; subst hj; simp
  | 1, hj => simp [cellsW] at hj; subst hj; simp
  | 2, hj => simp [cellsW] at hj; subst hj; simp
  | j + 3, hj => simp [cellsW] at hj

/-- what Read answers -/
def ReadPost (w : World) (out : Option (List Vl)) (e : Ending) (w' : World) : Prop :=
  Below w.heap.size w w' ∧ match out with
  | none => e = .returned (.tuple #[.slice none 0 0, .iface 24 (.int .i64 3)])
  | some xs => ∃ v, e = .returned (.tuple #[v, .nilIface]) ∧ w'.ownsRow w.heap.size 42 3 v xs.length (cellsL xs)

set_option maxRecDepth 100000 in
set_option maxHeartbeats 1000000 in
theorem read_any (s : ByteArray) (w : World) (hs : s.size ≤ 100000) :
    Calls Tryd.prog 8 #[.string s] w (ReadPost w (readF s.size s.data.toList)) := by
  obtain ⟨out, hout⟩ : ∃ out, readF s.size s.data.toList = out := ⟨_, rfl⟩
  rw [hout]
  have HO : Hid _ := hout
  clear hout
  obtain ⟨i0, hi, hz0, hz1, hz2⟩ := info_parts info26
  go_enter Tryd.func8, Tryd.ntmps8
  go_wp2
  go_loopw [0, 4] (fun sv v wr => ∃ (t : ByteArray) (acc : List Vl) (f : Nat), sv = .string t ∧ t.size + acc.length ≤ s.size ∧ wr.ownsRow w.heap.size 42 3 v acc.length (cellsL acc) ∧ Below w.heap.size w wr ∧ Hid (t.size ≤ f ∧ (readF f t.data.toList).map (acc ++ ·) = out))
    (fun sv _ _ => strLen sv)
  case atStart => exact ⟨s, [], s.size, rfl, by simp, World.ownsRow_nil _ _ _ _, Below.refl _ _, Nat.le_refl _, by rw [HO.out]; simp⟩
  case round =>
    obtain ⟨t, acc, f, rfl, hsz, hown, hbl, hf⟩ := hrel
    have hbs := hbl.size
    by_cases hpos : 0 < t.size
    · have hpos' : (0 : Int) < (t.size : Int) := by omega
      obtain ⟨p, hd⟩ : ∃ p, decV t.data.toList = p := ⟨_, rfl⟩
      obtain ⟨x, m⟩ := p
      have hle := decV_le t.data.toList
      rw [hd, ← size_list] at hle
      simp only at hle
      have HD : Hid _ := hd
      clear hd
      go_wp2_with fail
      refine (readValue_any t _ x m HD.out hpos (by unfold maxLen; omega)).mono ?_
      rintro e w1 ⟨rfl, hb1⟩
      have hown1 := own_below hown hb1 (Nat.le_refl _)
      have hbl1 : Below w.heap.size w w1 := hbl.trans (hb1.mono hbs)
      have hbs1 := hbl1.size
      clear hown hbl hb1
      have hne : t.data.toList ≠ [] := fun e => by rw [size_list, e] at hpos; simp at hpos
      by_cases hm0 : m = 0
      · have hmz : ((m : Int) == 0) = true := by simp; omega
        have HN : Hid (out = none) := by
          show _ = _
          rw [← hf.out.2, readF_bad f _ (by rw [← size_list]; exact hf.out.1) hne (by rw [HD.out]; exact hm0)]
          rfl
        clear hown1 hm0
        go_wp2
        go_ret2
        rw [HN.out]
        exact ⟨(hbl1.alloc hbs1 _), rfl⟩
      · have hmz : ((m : Int) == 0) = false := by simp; omega
        go_wp2_with (at_builtin; refine wpList_append_own _ rfl (.tmp 18) (.tmp 20) 22 rfl w.heap.size 42 i0 (.agg #[.int .i64 0, .int .i64 0, .string ⟨#[]⟩]) 3 32 Tryd.underlying22 hi hz0 hz1 hz2 rfl (by decide) _ _ _ rfl ((hown1.alloc _).alloc _) ⟨w1.heap.size + 1, 0, none⟩ 1 1 (cellsW x) rfl rfl ?c1 ?c2 ?c3 ?c4 ?c5 ?_)
        case c1 => exact cell_triple _ _ _
        case c2 => intro u hu; simp [cellsW] at hu; rcases hu with rfl | rfl | rfl <;> rfl
        case c3 => unfold maxLen; omega
        case c4 => omega
        case c5 => simp; omega
        · intro v2 w2 hown2 hgrow _
          have hb2 : Below w.heap.size w w2 := ((hbl1.alloc hbs1 _).alloc (by simp; omega) _).grown hgrow (by simp; omega) (fun g hg => (hown1.lt g hg).1)
          obtain ⟨f', hf1, hf2⟩ := readF_step f _ (by rw [← size_list]; exact hf.out.1) hne x m HD.out hm0
          have hdr : (t.extract m t.size).data.toList = t.data.toList.drop m := Lib.extract_to_end t m
          have hsz2 : (t.extract m t.size).size = t.size - m := by rw [size_list, hdr, List.length_drop, ← size_list]
          have hown3 : w2.ownsRow w.heap.size 42 3 v2 (acc ++ [x]).length (cellsL (acc ++ [x])) := by
            rw [cellsL_snoc, List.length_append]
            exact hown2
          have HF : Hid ((t.extract m t.size).size ≤ f' ∧ (readF f' (t.extract m t.size).data.toList).map ((acc ++ [x]) ++ ·) = out) := by
            refine ⟨by rw [size_list, hdr]; exact hf1, ?_⟩
            rw [hdr, ← hf.out.2, hf2]
            simp [Option.map_map, Function.comp_def]
          have HZ : Hid _ := hsz2
          clear hown1 hown2 hgrow hbl1 hf hf1 hf2 hdr hsz2
          have hmle : (m : Int) ≤ (t.size : Int) := by omega
          go_wp2
          go_roundw
          case rel => exact ⟨t.extract m t.size, acc ++ [x], f', rfl, by rw [HZ.out]; simp; omega, hown3, hb2, HF.out⟩
          case measure => show (t.extract m t.size).size < t.size; rw [HZ.out]; omega
    · have hpos' : ¬ (0 : Int) < (t.size : Int) := by omega
      have HN : Hid (out = some acc) := by
        show _ = _
        rw [← hf.out.2, readF_nil f _ (List.length_eq_zero_iff.1 (by rw [← size_list]; omega))]
        simp
      go_wp2
      go_ret2
      rw [HN.out]
      exact ⟨hbl, _, rfl, hown⟩
end Go.Proofs.YtkbnbkhloajmbaaDoor
