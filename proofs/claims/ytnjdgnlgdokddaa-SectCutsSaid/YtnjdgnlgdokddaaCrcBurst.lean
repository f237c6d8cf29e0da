/- Plain mathematics of bits that are turned within 32 in a row: no program. -/
import Derived.Test.YtnjdgnlgdokddaaCrcMore
import Derived.Test.YtnjdgnlgdokddaaKit2
namespace Go.Proofs.Ytnjdgnlgdokddaa
set_option linter.unusedVariables false

theorem creg_xor (p q : Nat) (r : List Int) : creg (p ^^^ q) r = creg p r ^^^ steps (8 * r.length) q := by
  induction r generalizing p q with
  | nil => rfl
  | cons c r ih =>
    have e : tk (p ^^^ q) c.toNat = tk p c.toNat ^^^ steps 8 q := by
      unfold tk
      rw [show p ^^^ q ^^^ c.toNat = p ^^^ c.toNat ^^^ q by ac_rfl, steps_xor]
    show creg (tk (p ^^^ q) c.toNat) r = creg (tk p c.toNat) r ^^^ steps (8 * (r.length + 1)) q
    rw [e, ih, ← steps_add, show 8 * r.length + 8 = 8 * (r.length + 1) by omega]
/-- Bit p of a row of bytes, turned. -/
def flip (l : List Int) (p : Nat) : List Int := l.set (p / 8) (((l.getD (p / 8) 0).toNat ^^^ 2 ^ (p % 8) : Nat) : Int)
/-- The bits of t, from bit s on, turned, as far as bit k of t. -/
def turned (l : List Int) (s t : Nat) : Nat → List Int
  | 0 => l
  | k + 1 => if (t / 2 ^ k) % 2 = 1 then flip (turned l s t k) (s + k) else turned l s t k

theorem flip_length (l : List Int) (p : Nat) : (flip l p).length = l.length := by simp [flip]
theorem turned_length (l : List Int) (s t k : Nat) : (turned l s t k).length = l.length := by
  induction k with
  | zero => rfl
  | succ k ih =>
    unfold turned; split
    · rw [flip_length, ih]
    · exact ih
theorem pow8_lt {j : Nat} (h : j < 8) : 2 ^ j < 256 := Nat.pow_lt_pow_right (by decide) h
theorem xor8_lt {a b : Nat} (ha : a < 256) (hb : b < 256) : a ^^^ b < 256 := Nat.xor_lt_two_pow (n := 8) ha hb
theorem getD_byte {l : List Int} (h : Bs l) (i : Nat) : 0 ≤ l.getD i 0 ∧ l.getD i 0 ≤ 255 := by
  by_cases hi : i < l.length
  · exact h.at hi
  · simp [List.getD, show l.length ≤ i by omega]
theorem flip_bs {l : List Int} (h : Bs l) (p : Nat) : Bs (flip l p) := by
  intro y hy
  rcases List.mem_or_eq_of_mem_set hy with hy | rfl
  · exact h y hy
  · have h1 := getD_byte h (p / 8)
    have h2 := xor8_lt (a := (l.getD (p / 8) 0).toNat) (by omega) (pow8_lt (j := p % 8) (by omega))
    omega
theorem turned_bs {l : List Int} (h : Bs l) (s t k : Nat) : Bs (turned l s t k) := by
  induction k with
  | zero => exact h
  | succ k ih =>
    unfold turned; split
    · exact flip_bs ih _
    · exact ih

theorem creg_set (r : Nat) (l : List Int) (i : Nat) (hi : i < l.length) (d : Nat) (h0 : 0 ≤ l.getD i 0) :
    creg r (l.set i (((l.getD i 0).toNat ^^^ d : Nat) : Int)) = creg r l ^^^ steps (8 * (l.length - i)) d := by
  have e : l = l.take i ++ l.getD i 0 :: l.drop (i + 1) := by
    have h1 : l.getD i 0 = l[i] := by simp [List.getD, hi]
    rw [h1, List.getElem_cons_drop, List.take_append_drop]
  have hl : (l.drop (i + 1)).length = l.length - i - 1 := by simp; omega
  rw [List.set_eq_take_append_cons_drop, if_pos hi]
  conv => rhs; lhs; rw [e]
  rw [creg_append, creg_append]
  generalize creg r (l.take i) = R
  generalize l.getD i 0 = x at *
  show creg (tk R (((x.toNat ^^^ d : Nat) : Int)).toNat) _ = creg (tk R x.toNat) _ ^^^ _
  rw [Int.toNat_natCast]
  have e2 : tk R (x.toNat ^^^ d) = tk R x.toNat ^^^ steps 8 d := by
    unfold tk
    rw [show R ^^^ (x.toNat ^^^ d) = R ^^^ x.toNat ^^^ d by ac_rfl, steps_xor]
  rw [e2, creg_xor, hl, ← steps_add]
  congr 2
  omega

theorem steps_pow (k j : Nat) : steps k (2 ^ (k + j)) = 2 ^ j := by
  induction k generalizing j with
  | zero => simp [steps]
  | succ k ih =>
    show step (steps k (2 ^ (k + 1 + j))) = 2 ^ j
    rw [show k + 1 + j = k + (j + 1) by omega, ih]
    unfold step
    rw [if_neg (by rw [Nat.pow_succ]; omega), Nat.pow_succ]
    omega
theorem steps_back (m k : Nat) : steps (m + k) (2 ^ k) = steps m 1 := by
  rw [steps_add]
  have := steps_pow k 0
  rw [Nat.add_zero, Nat.pow_zero] at this
  rw [this]
theorem creg_flip (r : Nat) (l : List Int) (s k : Nat) (hp : s + k < 8 * l.length) (hb : Bs l) :
    creg r (flip l (s + k)) = creg r l ^^^ steps (8 * l.length - s) (2 ^ k) := by
  unfold flip
  rw [creg_set r l _ (by omega) _ (getD_byte hb _).1]
  congr 1
  rw [show 8 * (l.length - (s + k) / 8) = (8 * l.length - (s + k)) + (s + k) % 8 by omega, steps_back,
    show 8 * l.length - s = (8 * l.length - (s + k)) + k by omega, steps_back]
theorem creg_turned (r : Nat) (l : List Int) (s t k : Nat) (hk : k ≤ 32) (hp : s + 32 ≤ 8 * l.length) (hb : Bs l) :
    creg r (turned l s t k) = creg r l ^^^ steps (8 * l.length - s) (t % 2 ^ k) := by
  induction k with
  | zero => simp [turned, steps_zero, Nat.mod_one]
  | succ k ih =>
    rw [table_step, Nat.testBit_eq_decide_div_mod_eq]
    unfold turned
    by_cases h : t / 2 ^ k % 2 = 1
    · rw [if_pos h, if_pos (by simpa using h), creg_flip _ _ _ _ (by rw [turned_length]; omega) (turned_bs hb _ _ _), ih (by omega), turned_length]
      ac_rfl
    · rw [if_neg h, if_neg (by simpa using h), ih (by omega)]

theorem step_pos {c : Nat} (h0 : c ≠ 0) (h1 : c < 4294967296) : step c ≠ 0 := by
  unfold step; split
  · intro h
    have h2 : c / 2 = 2197175160 := by
      have h3 := congrArg (· ^^^ 2197175160) h
      simp only [Nat.xor_assoc, Nat.xor_self, Nat.xor_zero, Nat.zero_xor] at h3
      exact h3
    omega
  · omega
theorem steps_pos {c : Nat} (h0 : c ≠ 0) (h1 : c < 4294967296) (k : Nat) : steps k c ≠ 0 := by
  induction k with
  | zero => exact h0
  | succ k ih => exact step_pos ih (steps_lt h1 k)

/-- The sums are unlike. -/
theorem turned_sum {l : List Int} (hb : Bs l) (s t : Nat) (hp : s + 32 ≤ 8 * l.length) (h0 : t ≠ 0) (h1 : t < 4294967296) : csum 0 (turned l s t 32) ≠ csum 0 l := by
  unfold csum
  rw [Nat.sub_zero, creg_turned _ _ _ _ _ (by omega) hp hb, Nat.mod_eq_of_lt (show t < 2 ^ 32 from h1)]
  have hz : 4294967295 < 4294967296 := by omega
  have hL := creg_lt hz hb
  have hD := steps_lt h1 (8 * l.length - s)
  have hD0 := steps_pos h0 h1 (8 * l.length - s)
  generalize creg 4294967295 l = L at *
  generalize steps (8 * l.length - s) t = D at *
  have hx := xor_lt32 hL hD
  intro h
  have h2 : L ^^^ D = L := by omega
  have h3 := congrArg (L ^^^ ·) h2
  simp only [← Nat.xor_assoc, Nat.xor_self, Nat.zero_xor] at h3
  exact hD0 h3
end Go.Proofs.Ytnjdgnlgdokddaa
