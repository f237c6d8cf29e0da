/- Tokens, as plain data: what the scanner does with each byte. -/
import Derived.Test.YtplgfghffeijcaaCells
import Derived.IntWalk
namespace Go.Proofs.Ytplgfghffeijcaa
open Go.RowKit
set_option linter.unusedVariables false
set_option linter.unusedSimpArgs false

/-- A token: its kind, its place, its text. -/
structure Tk where
  k : Int
  ln : Int
  cl : Int
  tx : ByteArray
def tk0 : Tk := ⟨0, 0, 0, ⟨#[]⟩⟩
def tcell (t : Tk) : List Value := [.int .i64 t.k, .int .i64 t.ln, .int .i64 t.cl, .string t.tx]
def tcells (l : List Tk) : List Value := l.flatMap tcell
theorem tcell_len (t : Tk) : (tcell t).length = 4 := rfl
theorem tcells_len (l : List Tk) : (tcells l).length = l.length * 4 := flat_len tcell_len l
theorem tcells_snoc (l : List Tk) (t : Tk) : tcells (l ++ [t]) = tcells l ++ tcell t := by simp [tcells]
theorem tcells_one {l : List Tk} {u : Value} (h : u ∈ tcells l) : u.oneCell' = true := by
  unfold tcells at h
  rw [List.mem_flatMap] at h
  obtain ⟨t, _, h⟩ := h
  simp [tcell] at h
  rcases h with rfl | rfl | rfl | rfl <;> rfl
theorem tcells_at {l : List Tk} {i : Nat} (hi : i < l.length) (j : Nat) (hj : j < 4) : (tcells l)[i * 4 + j]? = (tcell (l.getD i tk0))[j]? := by
  unfold tcells
  rw [flat_at tcell_len l i j hj]
  simp [List.getD, hi]
/-- Which bytes may be printed; which may stand in a word. -/
def prB (c : Int) : Bool := decide (32 ≤ c) && decide (c ≤ 126)
def wdB (c : Int) : Bool := prB c && (!(c == 32) && !(c == 34))
/-- What is known of a text so far. -/
structure Sg where
  L : List Tk
  t : Tk
  T : List Int
  line : Int
  col : Int
  op : Bool
inductive Md where
  | beg | wrd | quo | esc | beh
deriving DecidableEq
def Sg.start (s : Sg) (k : Int) : Sg := { s with t := ⟨k, s.line, s.col, ⟨#[]⟩⟩, T := [] }
def Sg.done (s : Sg) : Sg := { s with t := ⟨s.t.k, s.t.ln, s.t.cl, strOfNums s.T⟩, L := s.L ++ [⟨s.t.k, s.t.ln, s.t.cl, strOfNums s.T⟩] }
def Sg.push (s : Sg) (c : Int) : Sg := { s with T := s.T ++ [c] }
def behS (s : Sg) (c : Int) : Option Md × Sg := if c = 32 then (some .beg, s) else if c = 10 then (some .beg, (s.start 3).done) else (none, s)
def wrdS (s : Sg) (c : Int) : Option Md × Sg := if wdB c then (some .wrd, s.push c) else behS (if c = 32 ∨ c = 10 then s.done else s) c
def begS (s : Sg) (c : Int) : Option Md × Sg := if c = 34 then (some .quo, s.start 2) else if wdB c then (some .wrd, (s.start 1).push c) else (none, s)
def quoS (s : Sg) (c : Int) : Option Md × Sg := if c = 34 then (some .beh, s.done) else if c = 92 then (some .esc, s) else if prB c then (some .quo, s.push c) else (none, s)
def escS (s : Sg) (c : Int) : Option Md × Sg := if c = 34 ∨ c = 92 then (some .quo, s.push c) else (none, s)
def takeS : Md → Sg → Int → Option Md × Sg
  | .beg => begS
  | .wrd => wrdS
  | .quo => quoS
  | .esc => escS
  | .beh => behS
/-- The line, the column behind a byte. -/
def Sg.next (s : Sg) (c : Int) : Sg := if c = 10 then { s with line := s.line + 1, col := 1, op := false } else { s with col := s.col + 1 }
/-- One byte: where it can not stand, else what is known behind it. -/
def stepS (m : Md) (s : Sg) (c : Int) : (Int × Int) ⊕ (Md × Sg) :=
  match takeS m { s with op := true } c with
  | (none, u) => .inl (u.line, u.col)
  | (some m', u) => .inr (m', u.next c)
def runS : Md → Sg → List Int → (Int × Int) ⊕ (Md × Sg)
  | m, s, [] => .inr (m, s)
  | m, s, c :: r => match stepS m s c with
    | .inl e => .inl e
    | .inr (m', s') => runS m' s' r
def sg0 : Sg := ⟨[], tk0, [], 1, 1, false⟩
/-- What is told: the tokens, two numbers, an error. -/
def endS : (Int × Int) ⊕ (Md × Sg) → List Tk × Int × Int × Int
  | .inl (a, b) => ([], a, b, 230)
  | .inr (_, s) => if s.op then ([], s.line, s.col, 230) else (s.L, s.line - 1, 0, 0)
def tokO (b : List Int) : List Tk × Int × Int × Int := if 1048576 < b.length then ([], 0, 0, 3) else endS (runS .beg sg0 b)
theorem runS_app (m : Md) (s : Sg) : ∀ (a b : List Int), runS m s (a ++ b) = match runS m s a with
    | .inl e => .inl e
    | .inr (m', s') => runS m' s' b := by
  intro a
  induction a generalizing m s with
  | nil => intro b; rfl
  | cons c r ih =>
    intro b
    simp only [List.cons_append, runS]
    cases h : stepS m s c with
    | inl e => rfl
    | inr p => obtain ⟨m', s'⟩ := p; exact ih m' s' b
theorem runS_snoc {m : Md} {s : Sg} {a : List Int} {m1 : Md} {s1 : Sg} (h : runS m s a = .inr (m1, s1)) (c : Int) : runS m s (a ++ [c]) = stepS m1 s1 c := by
  rw [runS_app, h]
  simp only [runS]
  cases h2 : stepS m1 s1 c with
  | inl e => rfl
  | inr p => rfl
/-- What the take functions leave of the numbers. -/
theorem take_keeps (m : Md) (s : Sg) (c : Int) : (takeS m s c).2.line = s.line ∧ (takeS m s c).2.col = s.col ∧ (takeS m s c).2.op = s.op ∧ (takeS m s c).2.L.length ≤ s.L.length + 2 ∧ (takeS m s c).2.T.length ≤ s.T.length + 1 := by
  cases m <;> simp only [takeS, begS, wrdS, quoS, escS, behS] <;> (repeat' split) <;> simp [Sg.start, Sg.done, Sg.push]
/-- Within so many bytes. -/
structure Sg.small (s : Sg) (n : Nat) : Prop where
  l0 : 1 ≤ s.line
  l1 : s.line ≤ n + 1
  c0 : 1 ≤ s.col
  c1 : s.col ≤ n + 1
  L : s.L.length ≤ 2 * n
  T : s.T.length ≤ n
theorem step_small {m m' : Md} {s s' : Sg} {c : Int} {n : Nat} (h : stepS m s c = .inr (m', s')) (hs : s.small n) : s'.small (n + 1) := by
  unfold stepS at h
  have k := take_keeps m { s with op := true } c
  split at h
  · cases h
  · rename_i u hu
    rw [hu] at k
    injection h with h
    injection h with h1 h2
    subst h2
    obtain ⟨k1, k2, -, k4, k5⟩ := k
    simp only at k1 k2 k4 k5
    have := hs.l0; have := hs.l1; have := hs.c0; have := hs.c1; have := hs.L; have := hs.T
    unfold Sg.next
    split
    · exact ⟨by simp only; omega, by simp only; omega, by simp only; omega, by simp only; omega, by simp only; omega, by simp only; omega⟩
    · exact ⟨by simp only; omega, by simp only; omega, by simp only; omega, by simp only; omega, by simp only; omega, by simp only; omega⟩
theorem small0 : sg0.small 0 := ⟨by decide, by decide, by decide, by decide, by decide, by decide⟩
/-- A byte that is no ASCII can stand nowhere. -/
theorem take_high (m : Md) (s : Sg) (c : Int) (h : 127 ≤ c) : takeS m s c = (none, s) := by
  have h1 : prB c = false := by unfold prB; simp; omega
  have h2 : wdB c = false := by unfold wdB; rw [h1, Bool.false_and]
  have h3 : ¬ c = 34 := by omega
  have h4 : ¬ c = 92 := by omega
  have h5 : ¬ c = 32 := by omega
  have h6 : ¬ c = 10 := by omega
  cases m <;> simp [takeS, begS, wrdS, quoS, escS, behS, h1, h2, h3, h4, h5, h6]
end Go.Proofs.Ytplgfghffeijcaa
