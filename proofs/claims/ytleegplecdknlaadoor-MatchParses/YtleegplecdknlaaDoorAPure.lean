/- What is looked for, as plain data: the document's reader. -/
import Derived.Test.YtleegplecdknlaaDoorWPure
namespace Go.Proofs.YtleegplecdknlaaDoor
open Go.RowKit

/-- what is left, and what was wrong first -/
structure St where
  l : List ByteArray
  bad : Int
inductive Qy where
  | nil
  | node (k : Int) (ws : List ByteArray) (a b : Qy)

def St.fails (s : St) (e : Int) : St := if s.bad = 0 then ⟨s.l, e⟩ else s
def St.peek (s : St) : ByteArray := if s.bad = 0 then s.l.headD ⟨#[]⟩ else ⟨#[]⟩
def St.take (s : St) (x : ByteArray) : Bool × St := if s.peek = x then (true, ⟨s.l.tail, s.bad⟩) else (false, s)
def St.plain (s : St) (x : ByteArray) : ByteArray × St := match wordsL x.data.toList with
  | [y] => (y, s)
  | _ => (⟨#[]⟩, s.fails 3)
def alnum (c : UInt8) : Bool := decide (97 ≤ c.toNat) && decide (c.toNat ≤ 122) || decide (48 ≤ c.toNat) && decide (c.toNat ≤ 57)
def St.begins (s : St) (x : ByteArray) : List UInt8 → St
  | [] => s
  | c :: r => (if !alnum c || decide (12 < x.size) then s.fails 3 else s).begins x r
def zeroQ : Qy := .node 0 [] .nil .nil
def tOpen : ByteArray := ⟨#[40]⟩
def tShut : ByteArray := ⟨#[41]⟩
def tStar : ByteArray := ⟨#[42]⟩
def tAnd : ByteArray := ⟨#[65, 78, 68]⟩
def tOr : ByteArray := ⟨#[79, 82]⟩
def tNot : ByteArray := ⟨#[78, 79, 84]⟩
def tNear : ByteArray := ⟨#[78, 69, 65, 82]⟩
def tNone : ByteArray := ⟨#[]⟩
/-- no thing begins so -/
def noOne (p : ByteArray) : Bool := decide (p = tNone) || decide (p = tShut) || decide (p = tStar) || decide (p = tAnd) || decide (p = tOr) || decide (p = tNot) || decide (p = tNear)
def isSign (c : UInt8) : Bool := c == 40 || c == 41 || c == 42 || c == 34
def firstB (p : ByteArray) : UInt8 := p.data.toList.headD 0

/-- a word, or two that stand near -/
def nearM (p : ByteArray) (s : St) : Qy × St :=
  let x := s.plain p
  let n := x.2.take tNear
  if n.1 then
    let t := n.2.peek
    if t = tNone ∨ isSign (firstB t) then (.node 1 [x.1] .nil .nil, n.2.fails 3)
    else
      let y := (n.2.take t).2.plain t
      (.node 3 [x.1, y.1] .nil .nil, y.2)
  else (.node 1 [x.1] .nil .nil, n.2)
def oneM (any : St → Qy × St) (over : Bool) (s : St) : Qy × St :=
  let p := s.peek
  if over then (zeroQ, s.fails 4)
  else if p = tOpen then
    let r := any (s.take tOpen).2
    let c := r.2.take tShut
    (r.1, if c.1 then c.2 else c.2.fails 3)
  else if noOne p then (zeroQ, s.fails 3)
  else if firstB p = 34 then
    let ws := wordsL (p.data.toList.drop 1)
    (.node 1 ws .nil .nil, if ws = [] then (s.take p).2.fails 3 else (s.take p).2)
  else
    let st := (s.take p).2.take tStar
    if st.1 then (.node 2 [smallS p] .nil .nil, st.2.begins p (smallL p.data.toList))
    else nearM p st.2

/-- how much may still be read -/
def St.nu (s : St) : Nat := if s.bad = 0 then s.l.length else 0
def goes (p : ByteArray) : Bool := !decide (p = tNone) && !decide (p = tShut) && !decide (p = tOr)
def allL (one : St → Qy × St) : Nat → Qy → St → Qy × St
  | 0, q, s => (q, s)
  | f + 1, q, s =>
    if goes s.peek then
      let n := s.take tNot
      let r := one (if n.1 then n.2 else (n.2.take tAnd).2)
      allL one f (.node (if n.1 then 6 else 4) [] q r.1) r.2
    else (q, s)
def allM (one : St → Qy × St) (s : St) : Qy × St := let r := one s; allL one r.2.nu r.1 r.2
def anyL (all : St → Qy × St) : Nat → Qy → St → Qy × St
  | 0, q, s => (q, s)
  | f + 1, q, s =>
    let o := s.take tOr
    if o.1 then
      let r := all o.2
      anyL all f (.node 5 [] q r.1) r.2
    else (q, o.2)
def anyM (one : St → Qy × St) (s : St) : Qy × St := let r := allM one s; anyL (allM one) r.2.nu r.1 r.2
/-- with so many parentheses left -/
def oneAt : Nat → St → Qy × St
  | 0 => oneM (fun s => (.nil, s)) true
  | m + 1 => oneM (anyM (oneAt m)) false
def askM (l : List ByteArray) : Qy × Int :=
  let r := anyM (oneAt 13) ⟨l, 0⟩
  let s := if r.2.l = [] then r.2 else r.2.fails 3
  (if s.bad = 0 then r.1 else .nil, s.bad)

theorem plain_one {s : St} {x y : ByteArray} (h : wordsL x.data.toList = [y]) : s.plain x = (y, s) := by rw [St.plain, h]
theorem plain_other {s : St} {x : ByteArray} {ws : List ByteArray} (h : wordsL x.data.toList = ws) (hl : ws.length ≠ 1) : s.plain x = (⟨#[]⟩, s.fails 3) := by
  rw [St.plain, h]
  match ws, hl with
  | [], _ => rfl
  | [_], h => exact absurd rfl h
  | _ :: _ :: _, _ => rfl
theorem nu_fails (s : St) (e : Int) (he : e ≠ 0) : (s.fails e).nu = 0 := by
  unfold St.fails St.nu
  by_cases h : s.bad = 0 <;> simp [h, he]
theorem nu_take (s : St) (x : ByteArray) : (s.take x).2.nu ≤ s.nu := by
  unfold St.take St.nu
  split <;> simp <;> split <;> simp
theorem peek_some {s : St} (h : s.peek ≠ tNone) : s.bad = 0 ∧ ∃ r, s.l = s.peek :: r := by
  unfold St.peek at *
  split at h
  · rename_i hb
    rw [if_pos hb]
    cases hl : s.l with
    | nil => rw [hl] at h; exact absurd rfl h
    | cons x r => exact ⟨hb, r, by simp⟩
  · exact absurd rfl h
theorem nu_take_lt {s : St} {x : ByteArray} (h : s.peek = x) (hx : x ≠ tNone) : (s.take x).2.nu < s.nu := by
  obtain ⟨hb, r, hl⟩ := peek_some (s := s) (by rw [h]; exact hx)
  unfold St.take St.nu
  rw [if_pos h]
  simp [hb, hl]
theorem take_yes {s : St} {x : ByteArray} (h : s.peek = x) : s.take x = (true, ⟨s.l.tail, s.bad⟩) := by rw [St.take, if_pos h]
theorem take_no {s : St} {x : ByteArray} (h : s.peek ≠ x) : s.take x = (false, s) := by rw [St.take, if_neg h]
theorem nu_plain (s : St) (x : ByteArray) : (s.plain x).2.nu ≤ s.nu := by
  unfold St.plain
  split
  · exact Nat.le_refl _
  · simp [nu_fails]
theorem nu_begins (x : ByteArray) (l : List UInt8) : ∀ s : St, (s.begins x l).nu ≤ s.nu := by
  induction l with
  | nil => intro s; exact Nat.le_refl _
  | cons c r ih =>
    intro s
    unfold St.begins
    refine Nat.le_trans (ih _) ?_
    split
    · simp [nu_fails]
    · exact Nat.le_refl _
theorem nu_near (p : ByteArray) (s : St) : (nearM p s).2.nu ≤ s.nu := by
  have h1 := nu_plain s p
  have h2 := nu_take (s.plain p).2 tNear
  unfold nearM
  simp only
  split
  · split
    · simp [nu_fails]
    · have h3 := nu_take ((s.plain p).2.take tNear).2 ((s.plain p).2.take tNear).2.peek
      have h4 := nu_plain ((((s.plain p).2.take tNear).2.take ((s.plain p).2.take tNear).2.peek).2) ((s.plain p).2.take tNear).2.peek
      simp only
      omega
  · simp only
    omega
theorem nu_one {any : St → Qy × St} (ha : ∀ s, (any s).2.nu ≤ s.nu) (over : Bool) (s : St) : (oneM any over s).2.nu ≤ s.nu ∧ (s.peek ≠ tNone → (oneM any over s).2.nu < s.nu) := by
  have key : s.peek ≠ tNone → 0 < s.nu := fun h => by
    obtain ⟨hb, r, hl⟩ := peek_some h
    unfold St.nu; rw [if_pos hb, hl]; simp
  unfold oneM
  simp only
  split
  · rw [nu_fails _ _ (by decide)]; exact ⟨Nat.zero_le _, key⟩
  · split
    · rename_i hp
      have h1 := nu_take_lt hp (by decide)
      have h2 := ha (s.take tOpen).2
      have h3 := nu_take (any (s.take tOpen).2).2 tShut
      split
      · simp only; exact ⟨by omega, fun _ => by omega⟩
      · simp only; rw [nu_fails _ _ (by decide)]; exact ⟨Nat.zero_le _, key⟩
    · split
      · rw [nu_fails _ _ (by decide)]; exact ⟨Nat.zero_le _, key⟩
      · rename_i hp hno
        have hne : s.peek ≠ tNone := fun e => hno (by rw [e]; decide)
        have h1 := nu_take_lt (s := s) rfl hne
        split
        · split
          · rw [nu_fails _ _ (by decide)]; exact ⟨Nat.zero_le _, key⟩
          · simp only
            exact ⟨by omega, fun _ => h1⟩
        · have h2 := nu_take (s.take s.peek).2 tStar
          split
          · have h3 := nu_begins s.peek (smallL s.peek.data.toList) ((s.take s.peek).2.take tStar).2
            simp only
            exact ⟨by omega, fun _ => by omega⟩
          · have h3 := nu_near s.peek ((s.take s.peek).2.take tStar).2
            exact ⟨by omega, fun _ => by omega⟩
theorem nu_allL {one : St → Qy × St} (ha : ∀ s, (one s).2.nu ≤ s.nu) : ∀ f q s, (allL one f q s).2.nu ≤ s.nu := by
  intro f
  induction f with
  | zero => intro q s; exact Nat.le_refl _
  | succ f ih =>
    intro q s
    unfold allL
    split
    · have h1 := nu_take s tNot
      have h2 := nu_take (s.take tNot).2 tAnd
      refine Nat.le_trans (ih _ _) (Nat.le_trans (ha _) ?_)
      split <;> omega
    · exact Nat.le_refl _
theorem nu_allM {one : St → Qy × St} (ha : ∀ s, (one s).2.nu ≤ s.nu) (s : St) : (allM one s).2.nu ≤ (one s).2.nu := nu_allL ha _ _ _
theorem nu_anyL {all : St → Qy × St} (ha : ∀ s, (all s).2.nu ≤ s.nu) : ∀ f q s, (anyL all f q s).2.nu ≤ s.nu := by
  intro f
  induction f with
  | zero => intro q s; exact Nat.le_refl _
  | succ f ih =>
    intro q s
    have h1 := nu_take s tOr
    unfold anyL
    simp only
    split
    · exact Nat.le_trans (ih _ _) (Nat.le_trans (ha _) h1)
    · exact h1
theorem nu_anyM {one : St → Qy × St} (ha : ∀ s, (one s).2.nu ≤ s.nu) (s : St) : (anyM one s).2.nu ≤ s.nu :=
  Nat.le_trans (nu_anyL (fun s => Nat.le_trans (nu_allM ha s) (ha s)) _ _ _) (Nat.le_trans (nu_allM ha s) (ha s))
theorem nu_oneAt (m : Nat) : ∀ s, (oneAt m s).2.nu ≤ s.nu ∧ (s.peek ≠ tNone → (oneAt m s).2.nu < s.nu) := by
  induction m with
  | zero => intro s; exact nu_one (fun s => Nat.le_refl _) true s
  | succ m ih => intro s; exact nu_one (nu_anyM (fun s => (ih s).1)) false s
end Go.Proofs.YtleegplecdknlaaDoor
