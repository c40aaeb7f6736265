/- Part 16 of 35. -/
import Derived.Test.YtbdcbaamjkjhaaaGreatDoorH15
import Derived.Lib.ItoaNum
namespace Go.Proofs.YtbdcbaamjkjhaaaGreatDoor
open Go.RowKit

def ElW1 (_b : Nat) (x : Colm) (g o : Nat) (w : World) : Prop := w.cell? ⟨g, o, none⟩ = some (.string x.nm) ∧ w.cell? ⟨g, o + 1, none⟩ = some (.int .i64 x.k) ∧ w.cell? ⟨g, o + 2, none⟩ = some (.bool x.mu) ∧ w.cell? ⟨g, o + 3, none⟩ = some (.bool x.wo)
theorem ElW1.keeps (b : Nat) : Keeps b (ElW1 b) := fun _ g _ _ _ hg kb h => ⟨(kb.cell (p := ⟨g, _, none⟩) hg).trans h.1, (kb.cell (p := ⟨g, _, none⟩) hg).trans h.2.1, (kb.cell (p := ⟨g, _, none⟩) hg).trans h.2.2.1, (kb.cell (p := ⟨g, _, none⟩) hg).trans h.2.2.2⟩
def ElW2 (b : Nat) (x : List Ex) (g o : Nat) (w : World) : Prop := ∃ a c, w.cell? ⟨g, o, none⟩ = some (.slice a x.length c) ∧ RowTr b w a x
theorem ElW2.keeps (b : Nat) : Keeps b (ElW2 b) := fun _ g _ _ _ hg kb h => by
  obtain ⟨a, c, h1, h2⟩ := h
  exact ⟨a, c, (kb.cell (p := ⟨g, _, none⟩) hg).trans h1, h2.keep kb⟩
set_option maxRecDepth 100000 in
set_option maxHeartbeats 4000000 in
theorem cl_w1 {b q r : Nat} {sv : SV} {a : Option Addr} {c : Nat} {L : List Colm} (hL : ∀ x ∈ L, True) : CSp 55 b L.length ⟨q, 0, none⟩ ⟨r, 0, none⟩ (StI (·.cols) b q r 4 (ElW1 b) sv a c L) (fun i => (fun x : Colm => colT x.nm x.k x.mu x.wo) (L.getD i ⟨⟨#[]⟩, 0, false, false⟩)) := by
  intro i l w hi hw hI hl
  have e0 : L.getD i ⟨⟨#[]⟩, 0, false, false⟩ = L[i] := by simp [List.getD, hi]
  obtain ⟨x, hx⟩ : ∃ x, L[i] = x := ⟨_, rfl⟩
  simp only [e0, hx] at hl ⊢
  have HO : Hid (True) := hL x (by rw [← hx]; exact List.getElem_mem hi)
  rcases hI.row with h | ⟨g, off, rfl, hg, hr⟩
  · subst h; exact absurd hi (by simp)
  have hr' := hr i hi
  rw [hx] at hr'
  obtain ⟨h1, h2, h3, h4⟩ := hr'
  have hsl : sv.cols = .slice (some ⟨g, off, none⟩) L.length c := hI.sl
  have z0 : w.drew.cell? ⟨q, 0, none⟩ = some (.pointer (some ⟨b, 0, none⟩)) := by rw [show w.drew.cell? ⟨q, 0, none⟩ = w.cell? ⟨q, 0, none⟩ from rfl, hI.wr.cell 0]; rfl
  have z1 : w.drew.cell? ⟨r, 3, none⟩ = some (.slice (some ⟨g, off, none⟩) L.length c) := by rw [show w.drew.cell? ⟨r, 3, none⟩ = w.cell? ⟨r, 3, none⟩ from rfl, hI.st.cell 3, ← hsl]; rfl
  have z3 : w.drew.cell? ⟨g, off + i * 4, none⟩ = some (.string x.nm) := h1
  have z4 : w.drew.cell? ⟨g, off + i * 4 + 1, none⟩ = some (.int .i64 x.k) := h2
  have z5 : w.drew.cell? ⟨g, off + i * 4 + 2, none⟩ = some (.bool x.mu) := h3
  have z6 : w.drew.cell? ⟨g, off + i * 4 + 3, none⟩ = some (.bool x.wo) := h4
  have hi' : (i : Int) < (L.length : Int) := by omega
  obtain ⟨R, hR⟩ : ∃ R, colT x.nm x.k x.mu x.wo = R := ⟨_, rfl⟩
  have HR : Hid (colT x.nm x.k x.mu x.wo = R) := hR
  have H0 : Hid (WS b l w.drew ∧ True ∧ l.length + (colT x.nm x.k x.mu x.wo).length ≤ 1000000) := ⟨hw.below ((Below.refl _ _).drew), trivial, hl⟩
  rw [hR]
  clear hw hI hl hr hL e0 hsl hx hR h1 h2 h3 h4 HO
  go_enter Tryz.func55, Tryz.ntmps55
  go_region_law (go_wp2_with (go_at_call 56; refine Calls.mono (wcolumn_any x.nm x.k x.mu x.wo b l _ H0.out.1 H0.out.2.2) ?_; rintro _ w1 ⟨rfl, h2, h3⟩; have H1 : Hid (WS b (l ++ R) w1 ∧ WK b w w1) := ⟨by rw [← HR.out]; exact h2, (WK.refl b w).drew.trans h3⟩; clear h2 h3))
  all_goals
    go_end0
    exact ⟨rfl, H1.out.1, H1.out.2⟩
set_option maxRecDepth 100000 in
set_option maxHeartbeats 4000000 in
theorem cl_w2 {b q r : Nat} {sv : SV} {a : Option Addr} {c : Nat} {L : List (List Ex)} (hL : ∀ x ∈ L, (∀ e ∈ x, TreeOk e) ∧ x.length ≤ 1000000) : CSp 57 b L.length ⟨q, 0, none⟩ ⟨r, 0, none⟩ (StI (·.rows) b q r 1 (ElW2 b) sv a c L) (fun i => (fun x : (List Ex) => rowT x) (L.getD i [])) := by
  intro i l w hi hw hI hl
  have e0 : L.getD i [] = L[i] := by simp [List.getD, hi]
  obtain ⟨x, hx⟩ : ∃ x, L[i] = x := ⟨_, rfl⟩
  simp only [e0, hx] at hl ⊢
  have HO : Hid ((∀ e ∈ x, TreeOk e) ∧ x.length ≤ 1000000) := hL x (by rw [← hx]; exact List.getElem_mem hi)
  rcases hI.row with h | ⟨g, off, rfl, hg, hr⟩
  · subst h; exact absurd hi (by simp)
  have hr' := hr i hi
  rw [hx] at hr'
  obtain ⟨a2, c2, h1, h2⟩ := hr'
  have hsl : sv.rows = .slice (some ⟨g, off, none⟩) L.length c := hI.sl
  have z0 : w.drew.cell? ⟨q, 0, none⟩ = some (.pointer (some ⟨b, 0, none⟩)) := by rw [show w.drew.cell? ⟨q, 0, none⟩ = w.cell? ⟨q, 0, none⟩ from rfl, hI.wr.cell 0]; rfl
  have z1 : w.drew.cell? ⟨r, 5, none⟩ = some (.slice (some ⟨g, off, none⟩) L.length c) := by rw [show w.drew.cell? ⟨r, 5, none⟩ = w.cell? ⟨r, 5, none⟩ from rfl, hI.st.cell 5, ← hsl]; rfl
  have z3 : w.drew.cell? ⟨g, off + i, none⟩ = some (.slice a2 x.length c2) := by have h5 := h1; rw [Nat.mul_one] at h5; exact h5
  have hi' : (i : Int) < (L.length : Int) := by omega
  obtain ⟨R, hR⟩ : ∃ R, rowT x = R := ⟨_, rfl⟩
  have HR : Hid (rowT x = R) := hR
  have H0 : Hid (WS b l w.drew ∧ RowTr b w.drew a2 x ∧ l.length + (rowT x).length ≤ 1000000) := ⟨hw.below ((Below.refl _ _).drew), h2.keep ((Below.refl _ _).drew), hl⟩
  rw [hR]
  clear hw hI hl hr hL e0 hsl hx hR h1 h2
  go_enter Tryz.func57, Tryz.ntmps57
  go_region_law (go_wp2_with (go_at_call 58; refine Calls.mono (wrow_any x HO.out.1 HO.out.2 b a2 c2 l _ H0.out.1 H0.out.2.1 H0.out.2.2) ?_; rintro _ w1 ⟨rfl, h2, h3⟩; have H1 : Hid (WS b (l ++ R) w1 ∧ WK b w w1) := ⟨by rw [← HR.out]; exact h2, (WK.refl b w).drew.trans h3⟩; clear h2 h3))
  all_goals
    go_end0
    exact ⟨rfl, H1.out.1, H1.out.2⟩
end Go.Proofs.YtbdcbaamjkjhaaaGreatDoor

namespace Go.Proofs.YtbdcbaamjkjhaaaGreatDoor
open Go.RowKit

/-- a word of small letters -/
def wordB (t : ByteArray) : Prop := ∃ c l, t.data.toList = c :: l ∧ isAl c = true ∧ (∀ d ∈ l, wordC d = true) ∧ smallL (c :: l) = c :: l
/-- a name -/
structure NameW (t : ByteArray) : Prop where
  word : wordB t
  keep : keepB t = false
  size : t.size ≤ 16
inductive LitV : Vl → KT → Prop
  | null : LitV .none (1, ⟨#[110, 117, 108, 108]⟩)
  | num {n : Int} : 0 ≤ n → n ≤ 9223372036854775807 → LitV ⟨1, n, ⟨#[]⟩⟩ (2, ⟨(Lib.decDigits n.toNat).toArray⟩)
  | txt {t : ByteArray} : rightT t = true → LitV ⟨2, 0, t⟩ (3, t)
inductive ColN : ByteArray → List KT → Prop
  | one {a : ByteArray} : NameW a → ColN a [(1, a)]
  | two {a b : ByteArray} : NameW a → NameW b → ColN (a ++ (⟨#[46]⟩ ++ b)) [(1, a), (4, ⟨#[46]⟩), (1, b)]
/-- an expression that can be read at depth d where one of level n stands, and its tokens, printed there -/
inductive Ft : Nat → Int → Ex → List KT → Prop
  | par {d : Nat} {n : Int} {e : Ex} {ts : List KT} : lvlC e.code < n → Ft d 1 e ts → Ft (d + 1) n e ((4, ⟨#[40]⟩) :: (ts ++ [(4, ⟨#[41]⟩)]))
  | lit {d : Nat} {n : Int} {v : Vl} {t : KT} : n ≤ 8 → LitV v t → Ft d n (.node 1 v ⟨#[]⟩ .nil .nil) [t]
  | col {d : Nat} {n : Int} {nm : ByteArray} {ts : List KT} : n ≤ 8 → ColN nm ts → Ft d n (.node 2 .none nm .nil .nil) ts
  | neg {d : Nat} {n : Int} {x : Ex} {ts : List KT} : n ≤ 7 → Ft d 7 x ts → Ft (d + 1) n (.two 3 x .nil) ((4, ⟨#[45]⟩) :: ts)
  | not {d : Nat} {n : Int} {x : Ex} {ts : List KT} : n ≤ 3 → x.code ≠ 5 → Ft d 3 x ts → Ft (d + 1) n (.two 4 x .nil) ((1, ⟨#[110, 111, 116]⟩) :: ts)
  | nnul {d : Nat} {n : Int} {x : Ex} {ts : List KT} : n ≤ 3 → Ft d 5 x ts → Ft d n (.two 4 (.two 5 x .nil) .nil) (ts ++ [(1, ⟨#[105, 115]⟩), (1, ⟨#[110, 111, 116]⟩), (1, ⟨#[110, 117, 108, 108]⟩)])
  | nul {d : Nat} {n : Int} {x : Ex} {ts : List KT} : n ≤ 4 → Ft d 5 x ts → Ft d n (.two 5 x .nil) (ts ++ [(1, ⟨#[105, 115]⟩), (1, ⟨#[110, 117, 108, 108]⟩)])
  | mat {d : Nat} {n : Int} {nm t : ByteArray} {ts : List KT} : n ≤ 4 → ColN nm ts → rightT t = true → Ft d n (.node 17 ⟨2, 0, t⟩ ⟨#[]⟩ (.node 2 .none nm .nil .nil) .nil) (ts ++ [(1, ⟨#[109, 97, 116, 99, 104]⟩), (3, t)])
  | ask {d : Nat} {n : Int} {s : ByteArray × Int} {x y : Ex} {ts us : List KT} : n ≤ 4 → s ∈ cmpS → Ft d 5 x ts → Ft d 5 y us → Ft d n (.two s.2 x y) (ts ++ ((4, s.1) :: us))
  | sum {d : Nat} {n : Int} {s : ByteArray × Int} {x y : Ex} {ts us : List KT} : n ≤ 5 → s ∈ sumS → Ft d 5 x ts → Ft d 6 y us → Ft d n (.two s.2 x y) (ts ++ ((4, s.1) :: us))
  | mul {d : Nat} {n : Int} {s : ByteArray × Int} {x y : Ex} {ts us : List KT} : n ≤ 6 → s ∈ mulS → Ft d 6 x ts → Ft d 7 y us → Ft d n (.two s.2 x y) (ts ++ ((4, s.1) :: us))
  | and {d : Nat} {n : Int} {s : ByteArray × Int} {x y : Ex} {ts us : List KT} : n ≤ 2 → s ∈ andS → Ft d 2 x ts → Ft d 3 y us → Ft d n (.two s.2 x y) (ts ++ ((1, s.1) :: us))
  | or {d : Nat} {n : Int} {s : ByteArray × Int} {x y : Ex} {ts us : List KT} : n ≤ 1 → s ∈ orS → Ft d 1 x ts → Ft d 2 y us → Ft d n (.two s.2 x y) (ts ++ ((1, s.1) :: us))

/-- how tight a sign holds -/
def sgnT (t : ByteArray) : Int :=
  if t = ⟨#[111, 114]⟩ then 1 else if t = ⟨#[97, 110, 100]⟩ then 2
  else if t = ⟨#[61]⟩ then 4 else if t = ⟨#[60, 62]⟩ then 4 else if t = ⟨#[60]⟩ then 4 else if t = ⟨#[60, 61]⟩ then 4 else if t = ⟨#[62]⟩ then 4 else if t = ⟨#[62, 61]⟩ then 4 else if t = ⟨#[105, 115]⟩ then 4 else if t = ⟨#[109, 97, 116, 99, 104]⟩ then 4
  else if t = ⟨#[43]⟩ then 5 else if t = ⟨#[45]⟩ then 5 else if t = ⟨#[42]⟩ then 6 else if t = ⟨#[46]⟩ then 9 else 0
def sgn (l : List KT) : Int := if (hdT l).1 = 1 ∨ (hdT l).1 = 4 then sgnT (hdT l).2 else 0
theorem isT_no {s : ByteArray} {l : List KT} {n : Int} (h : sgn l < n) (hs : n ≤ sgnT s) : isT s l = false := by
  cases e : isT s l with
  | false => rfl
  | true =>
    have := isT_k e
    rw [sgn, if_pos this.1, this.2] at h
    omega
theorem find_no {sg : List (ByteArray × Int)} {l : List KT} {n : Int} (h : sgn l < n) (hs : ∀ s ∈ sg, n ≤ sgnT s.1) : sg.find? (fun s => isT s.1 l) = none := by
  rw [List.find?_eq_none]
  intro s hm
  rw [isT_no h (hs s hm)]
  decide
theorem chainL_end {B : Rf Ex} {sg : List (ByteArray × Int)} {l : List KT} (h : sg.find? (fun s => isT s.1 l) = none) (f : Nat) (e : Ex) : chainL B sg f e l = some (e, l) := by
  cases f with
  | zero => rfl
  | succ f => rw [chainL, h]
theorem chainF_end {B : Rf Ex} {sg : List (ByteArray × Int)} {T l : List KT} {e : Ex} (hB : B T = some (e, l)) (h : sg.find? (fun s => isT s.1 l) = none) : chainF B sg T = some (e, l) := by
  rw [chainF, hB]
  exact chainL_end h _ _
/-- the reader of level n at depth d -/
def Rr (d : Nat) (n : Int) : Rf Ex :=
  if n = 1 then exprF (lev (d + 1)).N else if n = 2 then bothF (lev (d + 1)).N else if n = 3 then (lev (d + 1)).N else if n = 4 then askF (sumF (lev (d + 1)).M) else if n = 5 then sumF (lev (d + 1)).M else if n = 6 then prodF (lev (d + 1)).M else if n = 7 then (lev (d + 1)).M else oneF (lev d).E
theorem Rr1 (d : Nat) : Rr d 1 = chainF (Rr d 2) orS := rfl
theorem Rr1E (d : Nat) : Rr d 1 = (lev (d + 1)).E := rfl
theorem Rr2 (d : Nat) : Rr d 2 = chainF (Rr d 3) andS := rfl
theorem Rr3 (d : Nat) : Rr d 3 = notF (lev d).N (Rr d 4) := rfl
theorem Rr3N (d : Nat) : Rr d 3 = (lev (d + 1)).N := rfl
theorem Rr4 (d : Nat) : Rr d 4 = askF (Rr d 5) := rfl
theorem Rr5 (d : Nat) : Rr d 5 = chainF (Rr d 6) sumS := rfl
theorem Rr6 (d : Nat) : Rr d 6 = chainF (Rr d 7) mulS := rfl
theorem Rr7 (d : Nat) : Rr d 7 = minusF (lev d).M (Rr d 8) := rfl
theorem Rr7M (d : Nat) : Rr d 7 = (lev (d + 1)).M := rfl
theorem Rr8 (d : Nat) : Rr d 8 = oneF (lev d).E := rfl

theorem sig_or : ∀ s ∈ orS, (1 : Int) ≤ sgnT s.1 := by decide +kernel
theorem sig_and : ∀ s ∈ andS, (2 : Int) ≤ sgnT s.1 := by decide +kernel
theorem sig_cmp : ∀ s ∈ cmpS, (4 : Int) ≤ sgnT s.1 := by decide +kernel
theorem sig_sum : ∀ s ∈ sumS, (5 : Int) ≤ sgnT s.1 := by decide +kernel
theorem sig_mul : ∀ s ∈ mulS, (6 : Int) ≤ sgnT s.1 := by decide +kernel
theorem sig_is : (4 : Int) ≤ sgnT ⟨#[105, 115]⟩ := by decide +kernel
theorem sig_match : (4 : Int) ≤ sgnT ⟨#[109, 97, 116, 99, 104]⟩ := by decide +kernel
theorem sig_dot : (8 : Int) ≤ sgnT ⟨#[46]⟩ := by decide +kernel

/-- one level down -/
theorem down {d : Nat} {m : Int} {T l : List KT} {e : Ex} (h1 : 1 ≤ m) (h8 : m ≤ 7) (hR : Rr d (m + 1) T = some (e, l)) (hs : sgn l < m) (h3 : m = 3 → isT ⟨#[110, 111, 116]⟩ T = false) (h7 : m = 7 → isT ⟨#[45]⟩ T = false) : Rr d m T = some (e, l) := by
  have c : m = 1 ∨ m = 2 ∨ m = 3 ∨ m = 4 ∨ m = 5 ∨ m = 6 ∨ m = 7 := by omega
  rcases c with rfl | rfl | rfl | rfl | rfl | rfl | rfl
  · exact chainF_end hR (find_no hs sig_or)
  · exact chainF_end hR (find_no hs sig_and)
  · rw [Rr3, notF, h3 rfl]; exact hR
  · rw [Rr4, askF, show Rr d 5 T = some (e, l) from hR, Option.bind_some, askR, find_no hs sig_cmp]
    simp only
    rw [isT_no hs sig_is, isT_no hs sig_match]
    simp
  · exact chainF_end hR (find_no hs sig_sum)
  · exact chainF_end hR (find_no hs sig_mul)
  · rw [Rr7, minusF, h7 rfl]; exact hR
theorem downs (k : Nat) : ∀ {d : Nat} {n : Int} {T l : List KT} {e : Ex}, 1 ≤ n → n + k ≤ 8 → Rr d (n + k) T = some (e, l) → sgn l < n → (n ≤ 3 → 4 ≤ n + k → isT ⟨#[110, 111, 116]⟩ T = false) → (n ≤ 7 → n + k = 8 → isT ⟨#[45]⟩ T = false) → Rr d n T = some (e, l) := by
  induction k with
  | zero => intro d n T l e _ _ hR _ _ _; simpa using hR
  | succ k ih =>
    intro d n T l e h1 h8 hR hs h3 h7
    have hR2 : Rr d (n + 1) T = some (e, l) := by
      refine ih (by omega) (by omega) ?_ (by omega) (fun a b => h3 (by omega) (by omega)) (fun a b => h7 (by omega) (by omega))
      rw [show n + 1 + (k : Int) = n + ((k + 1 : Nat) : Int) by omega]
      exact hR
    exact down h1 (by omega) hR2 hs (fun a => h3 (by omega) (by omega)) (fun a => h7 (by omega) (by omega))
theorem down_to {d : Nat} {m n : Int} {T l : List KT} {e : Ex} (h1 : 1 ≤ n) (hnm : n ≤ m) (h8 : m ≤ 8) (hR : Rr d m T = some (e, l)) (hs : sgn l < n) (h3 : n ≤ 3 → 4 ≤ m → isT ⟨#[110, 111, 116]⟩ T = false) (h7 : n ≤ 7 → m = 8 → isT ⟨#[45]⟩ T = false) : Rr d n T = some (e, l) := by
  have e1 : m = n + ((m - n).toNat : Int) := by omega
  rw [e1] at hR h3 h7 h8
  exact downs _ h1 h8 hR hs h3 h7
/-- the signs of a level -/
def sgs (n : Int) : List (ByteArray × Int) := if n = 1 then orS else if n = 2 then andS else if n = 5 then sumS else mulS
/-- what is read on from a chain -/
def Cont (d : Nat) (n : Int) (e : Ex) (ts : List KT) : Prop := ∀ l, sgn l < n + 1 → ∃ y L k, Rr d (n + 1) (ts ++ l) = some (y, L) ∧ k + l.length ≤ L.length ∧ ∀ f, chainL (Rr d (n + 1)) (sgs n) (f + k) y L = chainL (Rr d (n + 1)) (sgs n) f e l
def isCh (n : Int) : Prop := n = 1 ∨ n = 2 ∨ n = 5 ∨ n = 6
/-- what is read of these tokens -/
structure Nat8 (d : Nat) (n m : Int) (e : Ex) (ts : List KT) : Prop where
  le : n ≤ m
  pos : 1 ≤ m
  max : m ≤ 8
  read : ∀ l, sgn l < m → Rr d m (ts ++ l) = some (e, l)
  cont : isCh m → Cont d m e ts
  not : 4 ≤ m → ∀ l, isT ⟨#[110, 111, 116]⟩ (ts ++ l) = false
  neg : m = 8 → ∀ l, isT ⟨#[45]⟩ (ts ++ l) = false
theorem Nat8.at {d : Nat} {n m : Int} {e : Ex} {ts : List KT} (h : Nat8 d n m e ts) {i : Int} (h1 : 1 ≤ i) (hi : i ≤ m) {l : List KT} (hs : sgn l < i) : Rr d i (ts ++ l) = some (e, l) :=
  down_to h1 hi h.max (h.read l (by omega)) hs (fun _ b => h.not b l) (fun _ b => h.neg b l)
theorem Nat8.conts {d : Nat} {n m : Int} {e : Ex} {ts : List KT} (h : Nat8 d n m e ts) {i : Int} (hc : isCh i) (hi : i ≤ m) : Cont d i e ts := by
  by_cases c : i = m
  · subst c; exact h.cont hc
  · intro l hl
    refine ⟨e, l, 0, h.at ?_ (by omega) hl, by omega, fun f => rfl⟩
    rcases hc with rfl | rfl | rfl | rfl <;> omega
end Go.Proofs.YtbdcbaamjkjhaaaGreatDoor
namespace Go.Proofs.YtbdcbaamjkjhaaaGreatDoor
open Go.RowKit

theorem hdT_cons (x : KT) (l : List KT) : hdT (x :: l) = x := rfl
theorem isT_cons (s : ByteArray) (x : KT) (l : List KT) : isT s (x :: l) = ((decide (x.1 = 1) || decide (x.1 = 4)) && decide (x.2 = s)) := rfl
theorem sgn_cons (x : KT) (l : List KT) : sgn (x :: l) = if x.1 = 1 ∨ x.1 = 4 then sgnT x.2 else 0 := rfl
theorem sgn_word {s : ByteArray} (l : List KT) : sgn ((1, s) :: l) = sgnT s := by rw [sgn_cons]; rfl
theorem sgn_mark {s : ByteArray} (l : List KT) : sgn ((4, s) :: l) = sgnT s := by rw [sgn_cons]; rfl
/-- a word's text is no mark -/
theorem word_ne {t : ByteArray} (h : wordB t) {s : ByteArray} {c : UInt8} {l : List UInt8} (hs : s.data.toList = c :: l) (hc : isAl c = false) : t ≠ s := by
  rintro rfl
  obtain ⟨c2, l2, h1, h2, _⟩ := h
  rw [hs] at h1
  cases h1
  rw [hc] at h2
  cases h2
theorem name_kept {t : ByteArray} (h : NameW t) {s : ByteArray} (hs : s ∈ keepL) : t ≠ s := by
  rintro rfl
  have := h.keep
  rw [keepB, List.any_eq_false] at this
  exact absurd (decide_eq_true rfl) (this _ hs)
/-- a token that no expression begins with otherwise -/
theorem isT_name {t : ByteArray} (h : NameW t) {s : ByteArray} (hs : s ∈ keepL ∨ ∃ c l, s.data.toList = c :: l ∧ isAl c = false) (l : List KT) : isT s ((1, t) :: l) = false := by
  rw [isT_cons]
  have : t ≠ s := by
    rcases hs with hs | ⟨c, m, h1, h2⟩
    · exact name_kept h hs
    · exact word_ne h.word h1 h2
  rw [decide_eq_false this, Bool.and_false]
theorem ne_isT {x : KT} {s : ByteArray} (h : x.2 ≠ s) (l : List KT) : isT s (x :: l) = false := by
  rw [isT_cons]; simp [h]
theorem one_isT {k : Int} (hk : k ≠ 1 ∧ k ≠ 4) (t s : ByteArray) (l : List KT) : isT s ((k, t) :: l) = false := by
  rw [isT_cons]; simp [hk.1, hk.2]
/-- what an expression begins with -/
inductive Hd : Int → KT → Prop
  | par {n : Int} : Hd n (4, ⟨#[40]⟩)
  | null {n : Int} : Hd n (1, ⟨#[110, 117, 108, 108]⟩)
  | num {n : Int} {t : ByteArray} : Hd n (2, t)
  | txt {n : Int} {t : ByteArray} : Hd n (3, t)
  | name {n : Int} {t : ByteArray} : NameW t → Hd n (1, t)
  | neg {n : Int} : n ≤ 7 → Hd n (4, ⟨#[45]⟩)
  | not {n : Int} : n ≤ 3 → Hd n (1, ⟨#[110, 111, 116]⟩)
theorem Hd.low {n m : Int} {t : KT} (h : Hd n t) (hm : m ≤ n) : Hd m t := by
  cases h with
  | par => exact .par
  | null => exact .null
  | num => exact .num
  | txt => exact .txt
  | name h => exact .name h
  | neg h => exact .neg (by omega)
  | not h => exact .not (by omega)
theorem Lit_hd {v : Vl} {t : KT} (h : LitV v t) (n : Int) : Hd n t := by
  cases h with
  | null => exact .null
  | num => exact .num
  | txt => exact .txt
theorem Col_hd {nm : ByteArray} {ts : List KT} (h : ColN nm ts) (n : Int) : ∃ t l, ts = t :: l ∧ Hd n t := by
  cases h with
  | one h => exact ⟨_, _, rfl, .name h⟩
  | two h _ => exact ⟨_, _, rfl, .name h⟩
theorem Ft.hd {d : Nat} {n : Int} {e : Ex} {ts : List KT} (h : Ft d n e ts) : ∃ t l, ts = t :: l ∧ Hd n t := by
  induction h with
  | par _ _ _ => exact ⟨_, _, rfl, .par⟩
  | lit _ h => exact ⟨_, _, rfl, Lit_hd h _⟩
  | col _ h => exact Col_hd h _
  | neg h _ _ => exact ⟨_, _, rfl, .neg h⟩
  | not h _ _ _ => exact ⟨_, _, rfl, .not h⟩
  | nnul h _ ih => obtain ⟨t, l, rfl, k⟩ := ih; exact ⟨t, _, rfl, k.low (by omega)⟩
  | nul h _ ih => obtain ⟨t, l, rfl, k⟩ := ih; exact ⟨t, _, rfl, k.low (by omega)⟩
  | mat h h2 _ => obtain ⟨t, l, rfl, k⟩ := Col_hd h2 _; exact ⟨t, _, rfl, k⟩
  | ask h _ _ _ ih _ => obtain ⟨t, l, rfl, k⟩ := ih; exact ⟨t, _, rfl, k.low (by omega)⟩
  | sum h _ _ _ ih _ => obtain ⟨t, l, rfl, k⟩ := ih; exact ⟨t, _, rfl, k.low (by omega)⟩
  | mul h _ _ _ ih _ => obtain ⟨t, l, rfl, k⟩ := ih; exact ⟨t, _, rfl, k.low (by omega)⟩
  | and h _ _ _ ih _ => obtain ⟨t, l, rfl, k⟩ := ih; exact ⟨t, _, rfl, k.low (by omega)⟩
  | or h _ _ _ ih _ => obtain ⟨t, l, rfl, k⟩ := ih; exact ⟨t, _, rfl, k.low (by omega)⟩
/-- a word or mark that no expression of level n begins with -/
theorem Hd.isT {n : Int} {t : KT} (h : Hd n t) {s : ByteArray} (hs : s ∈ keepL ∨ ∃ c l, s.data.toList = c :: l ∧ isAl c = false) (h1 : s ≠ ⟨#[40]⟩) (h2 : s ≠ ⟨#[110, 117, 108, 108]⟩) (h3 : n ≤ 7 → s ≠ ⟨#[45]⟩) (h4 : n ≤ 3 → s ≠ ⟨#[110, 111, 116]⟩) (l : List KT) : isT s (t :: l) = false := by
  cases h with
  | par => exact ne_isT (fun h => h1 h.symm) l
  | null => exact ne_isT (fun h => h2 h.symm) l
  | num => exact one_isT (by decide) _ _ _
  | txt => exact one_isT (by decide) _ _ _
  | name h => exact isT_name h hs l
  | neg h => exact ne_isT (fun e => h3 h e.symm) l
  | not h => exact ne_isT (fun e => h4 h e.symm) l
theorem not_keep : ⟨#[110, 111, 116]⟩ ∈ keepL := by simp [keepL]
theorem Ft.noNot {d : Nat} {n : Int} {e : Ex} {ts : List KT} (h : Ft d n e ts) (hn : 4 ≤ n) (l : List KT) : isT ⟨#[110, 111, 116]⟩ (ts ++ l) = false := by
  obtain ⟨t, m, rfl, k⟩ := h.hd
  exact k.isT (Or.inl not_keep) (by decide +kernel) (by decide +kernel) (fun _ => by decide +kernel) (fun _ => by omega) _
theorem Ft.noNeg {d : Nat} {n : Int} {e : Ex} {ts : List KT} (h : Ft d n e ts) (hn : 8 ≤ n) (l : List KT) : isT ⟨#[45]⟩ (ts ++ l) = false := by
  obtain ⟨t, m, rfl, k⟩ := h.hd
  exact k.isT (Or.inr ⟨45, [], rfl, by decide⟩) (by decide +kernel) (by decide +kernel) (fun _ => by omega) (fun _ => by decide +kernel) _
end Go.Proofs.YtbdcbaamjkjhaaaGreatDoor
namespace Go.Proofs.YtbdcbaamjkjhaaaGreatDoor
open Go.RowKit

theorem parse_digit (M : Nat) (r : List UInt8) : ∀ (u acc : Nat), True → acc * 10 ^ Lib.nDigits u + u ≤ M → M ≤ 9999999999999999999 → Lib.parseUintM M acc (Lib.decDigits u ++ r) = Lib.parseUintM M (acc * 10 ^ Lib.nDigits u + u) r := by
  intro u
  induction u using Nat.strongRecOn generalizing r with
  | _ u ih =>
    intro acc _ hM hM2
    by_cases hu : u < 10
    · rw [Lib.decDigits_one hu, List.singleton_append, Lib.parseUintM]
      rw [Lib.nDigits_small hu] at hM ⊢
      have e : (UInt8.ofNat (48 + u)).toNat = 48 + u := by simp; omega
      rw [e, if_pos ⟨by omega, by omega⟩, if_neg (by omega), if_neg (by omega)]
      congr 1
      omega
    · rw [Lib.decDigits, dif_neg hu, List.append_assoc]
      rw [Lib.nDigits_big hu] at hM ⊢
      have hp : acc * 10 ^ (Lib.nDigits (u / 10) + 1) = acc * 10 ^ Lib.nDigits (u / 10) * 10 := by rw [Nat.pow_succ, Nat.mul_assoc]
      rw [hp] at hM ⊢
      rw [ih (u / 10) (by omega) _ acc trivial (by omega) hM2, List.singleton_append, Lib.parseUintM]
      have e : (UInt8.ofNat (48 + u % 10)).toNat = 48 + u % 10 := by simp; omega
      rw [e, if_pos ⟨by omega, by omega⟩, if_neg (by omega), if_neg (by omega)]
      congr 1
      omega
theorem dec_cons (u : Nat) : ∃ c l, Lib.decDigits u = c :: l := by
  have h1 := Lib.nDigits_pos u
  have := Lib.decDigits_length u
  cases h : Lib.decDigits u with
  | nil => rw [h, List.length_nil] at this; omega
  | cons c l => exact ⟨c, l, rfl⟩
theorem dec_all (u : Nat) : ∀ c ∈ Lib.decDigits u, isDg c = true := by
  induction u using Nat.strongRecOn with
  | _ u ih =>
    intro c hc
    by_cases hu : u < 10
    · rw [Lib.decDigits_one hu, List.mem_singleton] at hc
      subst hc
      simp [isDg, digN]; omega
    · rw [Lib.decDigits, dif_neg hu, List.mem_append] at hc
      rcases hc with hc | hc
      · exact ih (u / 10) (by omega) c hc
      · rw [List.mem_singleton] at hc
        subst hc
        simp [isDg, digN]; omega
theorem parse_dec {n : Int} (h0 : 0 ≤ n) (h1 : n ≤ 9223372036854775807) : Lib.parseIntB 64 (Lib.decDigits n.toNat) = .ok n := by
  obtain ⟨c, l, hc⟩ := dec_cons n.toNat
  have hd := dec_all n.toNat c (by rw [hc]; simp)
  simp only [isDg, digN, Bool.and_eq_true, decide_eq_true_eq] at hd
  rw [hc]
  unfold Lib.parseIntB
  simp only
  rw [if_neg (by omega), ← hc]
  have hu : Lib.parseUintB 64 (Lib.decDigits n.toNat) = .ok n.toNat := by
    rw [Lib.parseUintB, if_neg (by rw [hc]; simp)]
    have hb := parse_digit 9223372036854775807 [] n.toNat 0 trivial (by omega) (by omega)
    have hm : ∀ M1 M2 : Nat, M1 ≤ M2 → ∀ l acc v, Lib.parseUintM M1 acc l = .ok v → Lib.parseUintM M2 acc l = .ok v := by
      intro M1 M2 hM l
      induction l with
      | nil => intro acc v h; exact h
      | cons c l ih =>
        intro acc v h
        rw [Lib.parseUintM] at h ⊢
        split at h
        · rename_i hc
          rw [if_pos hc]
          split at h
          · cases h
          · rename_i h2
            rw [if_neg h2]
            split at h
            · cases h
            · rename_i h3
              rw [if_neg (by omega)]
              exact ih _ _ h
        · cases h
    refine hm 9223372036854775807 _ (by decide) _ _ _ ?_
    rw [List.append_nil] at hb
    rw [hb, Lib.parseUintM]
    congr 1
    omega
  rw [hu]
  simp only
  rw [if_neg (by omega), if_neg (by omega), if_neg (by omega)]
  congr 1
  omega

theorem chn_step {d : Nat} {n k : Int} {s : ByteArray × Int} {x y : Ex} {ts us : List KT} (hs : ∀ l, (sgs n).find? (fun q => isT q.1 ((k, s.1) :: l)) = some s) (hg : ∀ l, sgn ((k, s.1) :: l) < n + 1) (hx : Cont d n x ts) (hy : ∀ l, sgn l < n + 1 → Rr d (n + 1) (us ++ l) = some (y, l)) : Cont d n (.two s.2 x y) (ts ++ ((k, s.1) :: us)) := by
  intro l hl
  obtain ⟨y0, L, k0, h1, h2, h3⟩ := hx ((k, s.1) :: (us ++ l)) (hg _)
  refine ⟨y0, L, k0 + 1, by rw [List.append_assoc, List.cons_append]; exact h1, by simp only [List.length_cons, List.length_append] at h2; omega, fun f => ?_⟩
  rw [show f + (k0 + 1) = (f + 1) + k0 by omega, h3 (f + 1), chainL, hs]
  simp only
  rw [List.tail_cons, hy l hl]
  rfl
theorem sgs_all {n : Int} (h : isCh n) : ∀ s ∈ sgs n, n ≤ sgnT s.1 := by
  rcases h with rfl | rfl | rfl | rfl
  · exact sig_or
  · exact sig_and
  · exact sig_sum
  · exact sig_mul
theorem Rr_chain {n : Int} (h : isCh n) (d : Nat) : Rr d n = chainF (Rr d (n + 1)) (sgs n) := by
  rcases h with rfl | rfl | rfl | rfl <;> rfl
theorem cont_read {d : Nat} {n : Int} {e : Ex} {ts : List KT} (hc : isCh n) (h : Cont d n e ts) (l : List KT) (hl : sgn l < n) : Rr d n (ts ++ l) = some (e, l) := by
  obtain ⟨y, L, k, h1, h2, h3⟩ := h l (by omega)
  rw [Rr_chain hc, chainF, h1]
  show chainL _ _ L.length y L = _
  rw [show L.length = (L.length - k) + k by omega, h3]
  exact chainL_end (find_no hl (sgs_all hc)) _ _
theorem nat8_chain {d : Nat} {n m : Int} {e : Ex} {ts : List KT} (hc : isCh m) (hn : n ≤ m) (h : Cont d m e ts) (hno : 4 ≤ m → ∀ l, isT ⟨#[110, 111, 116]⟩ (ts ++ l) = false) : Nat8 d n m e ts := by
  refine ⟨hn, ?_, ?_, fun l hl => cont_read hc h l hl, fun _ => h, hno, fun h8 => ?_⟩
  · rcases hc with rfl | rfl | rfl | rfl <;> omega
  · rcases hc with rfl | rfl | rfl | rfl <;> omega
  · exfalso; rcases hc with rfl | rfl | rfl | rfl <;> omega
theorem NameW.read {a : ByteArray} (h : NameW a) (l : List KT) : nameF ((1, a) :: l) = some (a, l) := by
  rw [nameF, if_pos ⟨by rw [nameB, hdT_cons]; simp [h.keep], h.size⟩]
  rfl
theorem isT_self {k : Int} (hk : k = 1 ∨ k = 4) (s : ByteArray) (l : List KT) : isT s ((k, s) :: l) = true := by
  rw [isT_cons]; rcases hk with rfl | rfl <;> simp
theorem need_self {k : Int} (hk : k = 1 ∨ k = 4) (s : ByteArray) (l : List KT) : needF s ((k, s) :: l) = some l := by
  rw [needF, isT_self hk]; rfl
theorem null_keep : ⟨#[110, 117, 108, 108]⟩ ∈ keepL := by simp [keepL]
theorem onec_col {E : Rf Ex} {a : ByteArray} (h : NameW a) (l : List KT) : oneF E ((1, a) :: l) = colF ((1, a) :: l) := by
  rw [oneF, hdT_cons, if_neg (show ¬ (1 : Int) = 2 by decide), if_neg (show ¬ (1 : Int) = 3 by decide), isT_name h (Or.inl null_keep), isT_name h (Or.inr ⟨40, [], rfl, by decide⟩)]
  rfl
theorem col_read {d : Nat} {nm : ByteArray} {ts : List KT} (h : ColN nm ts) (l : List KT) (hl : sgn l < 8) : Rr d 8 (ts ++ l) = some (.node 2 .none nm .nil .nil, l) := by
  rw [Rr8]
  cases h with
  | one h =>
    rw [List.singleton_append, onec_col h, colF, h.read, Option.bind_some, isT_no hl sig_dot]
    rfl
  | two h k =>
    rw [List.cons_append, onec_col h, colF, h.read, Option.bind_some]
    show (if isT _ ((4, _) :: _) = true then _ else _) = _
    rw [isT_self (Or.inr rfl), if_pos rfl]
    show (nameF ((1, _) :: _)).map _ = _
    rw [k.read]
    rfl
theorem lit_read {d : Nat} {v : Vl} {t : KT} (h : LitV v t) (l : List KT) : Rr d 8 (t :: l) = some (.node 1 v ⟨#[]⟩ .nil .nil, l) := by
  rw [Rr8, oneF, hdT_cons]
  cases h with
  | null => rw [if_neg (by decide), if_neg (by decide), isT_self (Or.inl rfl)]; rfl
  | num h0 h1 =>
    rw [if_pos rfl, numF, hdT_cons]
    simp only [parse_dec h0 h1]
    rfl
  | txt h => rw [if_neg (show ¬ (3 : Int) = 2 by decide), if_pos rfl, textF, hdT_cons, if_pos ⟨rfl, h⟩]; rfl
theorem onec_paren {E : Rf Ex} (l : List KT) : oneF E ((4, ⟨#[40]⟩) :: l) = (E l).bind fun x => (needF ⟨#[41]⟩ x.2).map fun l2 => (x.1, l2) := by
  rw [oneF, hdT_cons, if_neg (by decide), if_neg (by decide), ne_isT (by decide +kernel), isT_self (Or.inr rfl)]
  rfl
theorem Col_not {nm : ByteArray} {ts : List KT} (h : ColN nm ts) (l : List KT) : isT ⟨#[110, 111, 116]⟩ (ts ++ l) = false := by
  cases h with
  | one h => exact isT_name h (Or.inl not_keep) _
  | two h _ => exact isT_name h (Or.inl not_keep) _
theorem Col_neg {nm : ByteArray} {ts : List KT} (h : ColN nm ts) (l : List KT) : isT ⟨#[45]⟩ (ts ++ l) = false := by
  cases h with
  | one h => exact isT_name h (Or.inr ⟨45, [], rfl, by decide⟩) _
  | two h _ => exact isT_name h (Or.inr ⟨45, [], rfl, by decide⟩) _
theorem no_ch {m : Int} (h : m = 3 ∨ m = 4 ∨ m = 7 ∨ m = 8) : ¬ isCh m := by
  unfold isCh; omega
theorem find_cmp (s : ByteArray × Int) (h : s ∈ cmpS) (l : List KT) : cmpS.find? (fun q => isT q.1 ((4, s.1) :: l)) = some s := by
  simp only [isT_cons]
  revert s
  decide +kernel
theorem find_sum (s : ByteArray × Int) (h : s ∈ sumS) (l : List KT) : (sgs 5).find? (fun q => isT q.1 ((4, s.1) :: l)) = some s := by
  simp only [isT_cons]
  revert s
  decide +kernel
theorem find_mul (s : ByteArray × Int) (h : s ∈ mulS) (l : List KT) : (sgs 6).find? (fun q => isT q.1 ((4, s.1) :: l)) = some s := by
  simp only [isT_cons]
  revert s
  decide +kernel
theorem find_and (s : ByteArray × Int) (h : s ∈ andS) (l : List KT) : (sgs 2).find? (fun q => isT q.1 ((1, s.1) :: l)) = some s := by
  simp only [isT_cons]
  revert s
  decide +kernel
theorem find_or (s : ByteArray × Int) (h : s ∈ orS) (l : List KT) : (sgs 1).find? (fun q => isT q.1 ((1, s.1) :: l)) = some s := by
  simp only [isT_cons]
  revert s
  decide +kernel
theorem lt_cmp : ∀ s ∈ cmpS, sgnT s.1 < (5 : Int) := by decide +kernel
theorem lt_sum : ∀ s ∈ sumS, sgnT s.1 < (6 : Int) := by decide +kernel
theorem lt_mul : ∀ s ∈ mulS, sgnT s.1 < (7 : Int) := by decide +kernel
theorem lt_and : ∀ s ∈ andS, sgnT s.1 < (3 : Int) := by decide +kernel
theorem lt_or : ∀ s ∈ orS, sgnT s.1 < (2 : Int) := by decide +kernel
theorem sgn_is (l : List KT) : sgn ((1, ⟨#[105, 115]⟩) :: l) < 5 := by rw [sgn_word]; decide +kernel
theorem sgn_match (l : List KT) : sgn ((1, ⟨#[109, 97, 116, 99, 104]⟩) :: l) < 5 := by rw [sgn_word]; decide +kernel
theorem find_is0 (l : List KT) : cmpS.find? (fun q => isT q.1 ((1, ⟨#[105, 115]⟩) :: l)) = none := by simp only [isT_cons]; decide +kernel
theorem find_match0 (l : List KT) : cmpS.find? (fun q => isT q.1 ((1, ⟨#[109, 97, 116, 99, 104]⟩) :: l)) = none := by simp only [isT_cons]; decide +kernel

theorem Ft.nat {d : Nat} {n : Int} {e : Ex} {ts : List KT} (h : Ft d n e ts) (h8 : n ≤ 8) : ∃ m, Nat8 d n m e ts := by
  induction h with
  | @par d n e ts hl hf ih =>
    obtain ⟨m, hm⟩ := ih (by decide)
    refine ⟨8, h8, by decide, by decide, fun l hs => ?_, fun hc => absurd hc (no_ch (by decide)), fun _ l => ?_, fun _ l => ?_⟩
    · rw [Rr8, List.cons_append, onec_paren, ← Rr1E, List.append_assoc, hm.at (by decide) hm.pos (by rw [List.singleton_append, sgn_mark]; decide +kernel), Option.bind_some, List.singleton_append]
      show (needF _ ((4, _) :: _)).map _ = _
      rw [need_self (Or.inr rfl)]
      rfl
    · exact ne_isT (by decide +kernel) _
    · exact ne_isT (by decide +kernel) _
  | @lit d n v t hn hv =>
    refine ⟨8, h8, by decide, by decide, fun l hs => lit_read hv l, fun hc => absurd hc (no_ch (by decide)), fun _ l => ?_, fun _ l => ?_⟩
    · exact (Lit_hd hv 8).isT (Or.inl not_keep) (by decide +kernel) (by decide +kernel) (fun _ => by decide +kernel) (fun _ => by omega) _
    · exact (Lit_hd hv 8).isT (Or.inr ⟨45, [], rfl, by decide⟩) (by decide +kernel) (by decide +kernel) (fun _ => by omega) (fun _ => by decide +kernel) _
  | @col d n nm ts hn hv =>
    exact ⟨8, h8, by decide, by decide, fun l hs => col_read hv l hs, fun hc => absurd hc (no_ch (by decide)), fun _ l => Col_not hv l, fun _ l => Col_neg hv l⟩
  | @neg d n x ts hn hf ih =>
    obtain ⟨m, hm⟩ := ih (by decide)
    refine ⟨7, hn, by decide, by decide, fun l hs => ?_, fun hc => absurd hc (no_ch (by decide)), fun _ l => ne_isT (by decide +kernel) _, fun h => absurd h (by decide)⟩
    rw [Rr7, minusF, List.cons_append, isT_self (Or.inr rfl), if_pos rfl, List.tail_cons, ← Rr7M, hm.at (by decide) hm.le hs]
    rfl
  | @not d n x ts hn hx hf ih =>
    obtain ⟨m, hm⟩ := ih (by decide)
    refine ⟨3, hn, by decide, by decide, fun l hs => ?_, fun hc => absurd hc (no_ch (by decide)), fun h => absurd h (by decide), fun h => absurd h (by decide)⟩
    rw [Rr3, notF, List.cons_append, isT_self (Or.inl rfl), if_pos rfl, List.tail_cons, ← Rr3N, hm.at (by decide) hm.le hs]
    rfl
  | @nnul d n x ts hn hf ih =>
    obtain ⟨m, hm⟩ := ih (by decide)
    refine ⟨4, by omega, by decide, by decide, fun l hs => ?_, fun hc => absurd hc (no_ch (by decide)), fun _ l => by rw [List.append_assoc]; exact hf.noNot (by decide) _, fun h => absurd h (by decide)⟩
    rw [Rr4, askF, List.append_assoc, List.cons_append, hm.at (by decide) hm.le (sgn_is _), Option.bind_some, askR, find_is0]
    simp only
    rw [isT_self (Or.inl rfl), if_pos rfl, nullF, List.tail_cons, List.cons_append, isT_self (Or.inl rfl), if_pos rfl, List.tail_cons, List.cons_append, need_self (Or.inl rfl)]
    rfl
  | @nul d n x ts hn hf ih =>
    obtain ⟨m, hm⟩ := ih (by decide)
    refine ⟨4, by omega, by decide, by decide, fun l hs => ?_, fun hc => absurd hc (no_ch (by decide)), fun _ l => by rw [List.append_assoc]; exact hf.noNot (by decide) _, fun h => absurd h (by decide)⟩
    rw [Rr4, askF, List.append_assoc, List.cons_append, hm.at (by decide) hm.le (sgn_is _), Option.bind_some, askR, find_is0]
    simp only
    rw [isT_self (Or.inl rfl), if_pos rfl, nullF, List.tail_cons, List.cons_append, ne_isT (by decide +kernel), if_neg (by decide), need_self (Or.inl rfl)]
    rfl
  | @mat d n nm t ts hn hc hr =>
    refine ⟨4, by omega, by decide, by decide, fun l hs => ?_, fun hc => absurd hc (no_ch (by decide)), fun _ l => by rw [List.append_assoc]; exact Col_not hc _, fun h => absurd h (by decide)⟩
    have h5 : Rr d 5 (ts ++ ((1, ⟨#[109, 97, 116, 99, 104]⟩) :: (3, t) :: l)) = some (.node 2 .none nm .nil .nil, (1, ⟨#[109, 97, 116, 99, 104]⟩) :: (3, t) :: l) :=
      down_to (by decide) (by decide) (by decide) (col_read hc _ (by have := sgn_match ((3, t) :: l); omega)) (sgn_match _) (fun h => absurd h (by decide)) (fun _ _ => Col_neg hc _)
    rw [Rr4, askF, List.append_assoc, List.cons_append, List.singleton_append, h5, Option.bind_some, askR, find_match0]
    simp only
    rw [ne_isT (by decide +kernel), if_neg (by decide), if_pos ⟨rfl, isT_self (Or.inl rfl) _ _⟩, List.tail_cons, textF, hdT_cons, if_pos ⟨rfl, hr⟩]
    rfl
  | @ask d n s x y ts us hn hs hx hy ihx ihy =>
    obtain ⟨m, hm⟩ := ihx (by decide)
    obtain ⟨p, hp⟩ := ihy (by decide)
    refine ⟨4, hn, by decide, by decide, fun l hl => ?_, fun hc => absurd hc (no_ch (by decide)), fun _ l => by rw [List.append_assoc]; exact hx.noNot (by decide) _, fun h => absurd h (by decide)⟩
    rw [Rr4, askF, List.append_assoc, List.cons_append, hm.at (by decide) hm.le (by rw [sgn_mark]; exact lt_cmp s hs), Option.bind_some, askR, find_cmp s hs]
    simp only
    rw [List.tail_cons, hp.at (by decide) hp.le (by omega)]
    rfl
  | @sum d n s x y ts us hn hs hx hy ihx ihy =>
    obtain ⟨m, hm⟩ := ihx (by decide)
    obtain ⟨p, hp⟩ := ihy (by decide)
    refine ⟨5, nat8_chain (by unfold isCh; decide) hn (chn_step (find_sum s hs) (fun l => by rw [sgn_mark]; exact lt_sum s hs) (hm.conts (by unfold isCh; decide) hm.le) (fun l hl => hp.at (by decide) hp.le hl)) (fun _ l => by rw [List.append_assoc]; exact hx.noNot (by decide) _)⟩
  | @mul d n s x y ts us hn hs hx hy ihx ihy =>
    obtain ⟨m, hm⟩ := ihx (by decide)
    obtain ⟨p, hp⟩ := ihy (by decide)
    refine ⟨6, nat8_chain (by unfold isCh; decide) hn (chn_step (find_mul s hs) (fun l => by rw [sgn_mark]; exact lt_mul s hs) (hm.conts (by unfold isCh; decide) hm.le) (fun l hl => hp.at (by decide) hp.le hl)) (fun _ l => by rw [List.append_assoc]; exact hx.noNot (by decide) _)⟩
  | @and d n s x y ts us hn hs hx hy ihx ihy =>
    obtain ⟨m, hm⟩ := ihx (by decide)
    obtain ⟨p, hp⟩ := ihy (by decide)
    refine ⟨2, nat8_chain (by unfold isCh; decide) hn (chn_step (find_and s hs) (fun l => by rw [sgn_word]; exact lt_and s hs) (hm.conts (by unfold isCh; decide) hm.le) (fun l hl => hp.at (by decide) hp.le hl)) (fun h => absurd h (by decide))⟩
  | @or d n s x y ts us hn hs hx hy ihx ihy =>
    obtain ⟨m, hm⟩ := ihx (by decide)
    obtain ⟨p, hp⟩ := ihy (by decide)
    refine ⟨1, nat8_chain (by unfold isCh; decide) hn (chn_step (find_or s hs) (fun l => by rw [sgn_word]; exact lt_or s hs) (hm.conts (by unfold isCh; decide) hm.le) (fun l hl => hp.at (by decide) hp.le hl)) (fun h => absurd h (by decide))⟩
/-- printed and read again -/
theorem Ft.back {e : Ex} {ts : List KT} (h : Ft 12 1 e ts) (l : List KT) (hl : sgn l < 1) : Ef (ts ++ l) = some (e, l) := by
  obtain ⟨m, hm⟩ := h.nat (by decide)
  exact hm.at (by decide) hm.pos hl
end Go.Proofs.YtbdcbaamjkjhaaaGreatDoor
