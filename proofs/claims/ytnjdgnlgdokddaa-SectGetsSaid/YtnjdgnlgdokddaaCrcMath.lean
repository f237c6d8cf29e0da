/- Plain mathematics of CRC-32C: no program. -/
import Derived.Test.YtnjdgnlgdokddaaBits
namespace Go.Proofs.Ytnjdgnlgdokddaa
set_option linter.unusedVariables false

/-- A bit further. -/
def step (c : Nat) : Nat := if c % 2 = 1 then (c / 2) ^^^ 2197175160 else c / 2
def steps : Nat → Nat → Nat
  | 0, c => c
  | k + 1, c => step (steps k c)
def tk (r c : Nat) : Nat := steps 8 (r ^^^ c)
def creg (r : Nat) (l : List Int) : Nat := l.foldl (fun r c => tk r c.toNat) r
def csum (s : Nat) (l : List Int) : Nat := 4294967295 - creg (4294967295 - s) l

theorem xor_lt32 {a b : Nat} (ha : a < 4294967296) (hb : b < 4294967296) : a ^^^ b < 4294967296 := Nat.xor_lt_two_pow (n := 32) ha hb
theorem step_lt {c : Nat} (h : c < 4294967296) : step c < 4294967296 := by
  unfold step; split
  · exact xor_lt32 (by omega) (by decide)
  · omega
theorem steps_lt {c : Nat} (h : c < 4294967296) (k : Nat) : steps k c < 4294967296 := by
  induction k with
  | zero => exact h
  | succ k ih => exact step_lt ih
theorem steps_add (k j c : Nat) : steps (j + k) c = steps j (steps k c) := by
  induction j with
  | zero => simp [steps]
  | succ j ih => rw [show j + 1 + k = (j + k) + 1 by omega]; show step _ = step _; rw [ih]
theorem tk_lt {r c : Nat} (hr : r < 4294967296) (hc : c < 4294967296) : tk r c < 4294967296 := steps_lt (xor_lt32 hr hc) 8
theorem tk_zero (r : Nat) : tk r 0 = steps 8 r := by simp [tk]
theorem creg_snoc (r : Nat) (l : List Int) (c : Int) : creg r (l ++ [c]) = tk (creg r l) c.toNat := by simp [creg]
theorem creg_append (r : Nat) (l s : List Int) : creg r (l ++ s) = creg (creg r l) s := by simp [creg]
theorem creg_lt {r : Nat} (hr : r < 4294967296) {l : List Int} (hb : Bs l) : creg r l < 4294967296 := by
  induction l generalizing r with
  | nil => exact hr
  | cons c l ih =>
    have := hb c (by simp)
    exact ih (tk_lt hr (by omega)) (fun x hx => hb x (by simp [hx]))
theorem creg_zeros (r n : Nat) : creg r (List.replicate n 0) = steps (8 * n) r := by
  induction n generalizing r with
  | zero => rfl
  | succ n ih =>
    show creg (tk r 0) (List.replicate n 0) = _
    rw [ih, tk_zero, ← steps_add]; rfl

/-- Whatever is told of two, is told of both. -/
theorem step_xor (a b : Nat) : step (a ^^^ b) = step a ^^^ step b := by
  have h : ∀ c, step c = c >>> 1 ^^^ (if c.testBit 0 then 2197175160 else 0) := by
    intro c
    unfold step
    rw [show c >>> 1 = c / 2 from rfl, Nat.testBit_zero]
    by_cases hc : c % 2 = 1
    · simp [hc]
    · simp [hc]
  rw [h, h, h, Nat.shiftRight_xor_distrib, Nat.testBit_xor]
  cases a.testBit 0 <;> cases b.testBit 0
  · simp
  · simp [Nat.xor_assoc]
  · simp only [Bool.xor_false, if_true, Nat.xor_zero, Bool.false_eq_true, if_false]; ac_rfl
  · simp only [Bool.xor_self, if_true, Nat.xor_zero, Bool.false_eq_true, if_false]
    rw [show a >>> 1 ^^^ 2197175160 ^^^ (b >>> 1 ^^^ 2197175160) = a >>> 1 ^^^ b >>> 1 ^^^ (2197175160 ^^^ 2197175160) by ac_rfl]
    simp
theorem steps_xor (k a b : Nat) : steps k (a ^^^ b) = steps k a ^^^ steps k b := by
  induction k with
  | zero => rfl
  | succ k ih => show step _ = step _ ^^^ step _; rw [ih, step_xor]
theorem steps_zero (k : Nat) : steps k 0 = 0 := by
  induction k with
  | zero => rfl
  | succ k ih => show step _ = 0; rw [ih]; rfl

/-- The bits of r below k, of which a table tells what comes. -/
theorem low_bit (r k : Nat) : r % 2 ^ (k + 1) = r % 2 ^ k ^^^ (if r.testBit k then 2 ^ k else 0) := by
  apply Nat.eq_of_testBit_eq
  intro i
  rw [Nat.testBit_xor, Nat.testBit_mod_two_pow, Nat.testBit_mod_two_pow]
  have e : (if r.testBit k = true then 2 ^ k else 0).testBit i = (decide (i = k) && r.testBit k) := by
    by_cases h : r.testBit k
    · simp only [h, if_true, Nat.testBit_two_pow, Bool.and_true]; congr 1; simp [eq_comm]
    · simp [h]
  rw [e]
  by_cases h1 : i < k
  · simp [h1, show i < k + 1 by omega, show ¬ i = k by omega]
  · by_cases h2 : i = k
    · subst h2; simp
    · simp [h1, h2, show ¬ i < k + 1 by omega]
theorem table_step (m r k : Nat) : steps m (r % 2 ^ (k + 1)) = if r.testBit k then steps m (r % 2 ^ k) ^^^ steps m (2 ^ k) else steps m (r % 2 ^ k) := by
  rw [low_bit, steps_xor]
  by_cases h : r.testBit k
  · simp [h]
  · simp [h, steps_zero]

/-- The table. -/
def tab (m : Nat) : List Int := (List.range 32).map (fun i => ((steps m (2 ^ i) : Nat) : Int))
theorem tab_length (m : Nat) : (tab m).length = 32 := by simp [tab]
theorem tab_at (m : Nat) {i : Nat} (h : i < 32) : (tab m).getD i 0 = ((steps m (2 ^ i) : Nat) : Int) := by
  simp [tab, List.getD, h]
theorem bit_lt {i : Nat} (h : i < 32) : 2 ^ i < 4294967296 := Nat.pow_lt_pow_right (by decide) h
end Go.Proofs.Ytnjdgnlgdokddaa
