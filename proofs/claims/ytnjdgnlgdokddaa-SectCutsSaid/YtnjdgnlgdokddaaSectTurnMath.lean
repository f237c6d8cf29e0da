/- A section's bytes with some bits of its body and its sum turned are found. Plain lists. -/
import Derived.Test.YtnjdgnlgdokddaaSectRound
import Derived.Test.YtnjdgnlgdokddaaCrcBurst
namespace Go.Proofs.Ytnjdgnlgdokddaa
open Go.RowKit
set_option linter.unusedVariables false
set_option linter.unusedSimpArgs false

theorem step_two (x : Nat) : step (2 * x) = x := by unfold step; rw [if_neg (by omega)]; omega
theorem steps_two : ∀ (k x : Nat), steps k (2 ^ k * x) = x := by
  intro k
  induction k with
  | zero => intro x; simp [steps]
  | succ k ih =>
    intro x
    have e : 2 ^ (k + 1) * x = 2 ^ k * (2 * x) := by rw [Nat.pow_succ, Nat.mul_assoc]
    have h1 : steps (1 + k) (2 ^ k * (2 * x)) = steps 1 (steps k (2 ^ k * (2 * x))) := steps_add k 1 _
    rw [e, show k + 1 = 1 + k by omega, h1, ih]
    show step (2 * x) = x
    exact step_two x
theorem nat_xor_mul {a b k : Nat} (h : a < 2 ^ k) : a ^^^ (2 ^ k * b) = a + 2 ^ k * b := by
  rw [Nat.xor_comm, Nat.add_comm]
  apply Nat.eq_of_testBit_eq
  intro i
  rw [Nat.testBit_xor, Nat.testBit_two_pow_mul, Nat.testBit_two_pow_mul_add _ h]
  by_cases hi : i < k
  · simp [hi, Nat.not_le.2 hi]
  · have : k ≤ i := by omega
    have ha : a.testBit i = false := Nat.testBit_lt_two_pow (Nat.lt_of_lt_of_le h (Nat.pow_le_pow_right (by omega) this))
    simp [hi, this, ha]
/-- Four bytes of a number, taken one behind the other. -/
theorem creg_word (r v : Nat) (hv : v < 4294967296) : creg r (wordB (v : Int)) = steps 32 (r ^^^ v) := by
  have e0 : ((v : Int) % 256).toNat = v % 256 := by omega
  have e1 : ((v : Int) / 256 % 256).toNat = v / 256 % 256 := by omega
  have e2 : ((v : Int) / 65536 % 256).toNat = v / 65536 % 256 := by omega
  have e3 : ((v : Int) / 16777216).toNat = v / 16777216 := by omega
  have hsplit : v = (v % 256) ^^^ (2 ^ 8 * ((v / 256 % 256) ^^^ (2 ^ 8 * ((v / 65536 % 256) ^^^ (2 ^ 8 * (v / 16777216)))))) := by
    rw [nat_xor_mul (by omega), nat_xor_mul (by omega), nat_xor_mul (by omega)]
    omega
  show tk (tk (tk (tk r ((v : Int) % 256).toNat) ((v : Int) / 256 % 256).toNat) ((v : Int) / 65536 % 256).toNat) ((v : Int) / 16777216).toNat = _
  rw [e0, e1, e2, e3]
  conv => rhs; rw [hsplit]
  generalize v % 256 = b0
  generalize v / 256 % 256 = b1
  generalize v / 65536 % 256 = b2
  generalize v / 16777216 = b3
  unfold tk
  have h8 : ∀ x y : Nat, steps 8 (x ^^^ 2 ^ 8 * y) = steps 8 x ^^^ y := fun x y => by rw [steps_xor, steps_two]
  have s32 : ∀ z, steps 32 z = steps 8 (steps 8 (steps 8 (steps 8 z))) := fun z => by
    rw [show (32 : Nat) = 8 + 24 by rfl, steps_add 24 8, show (24 : Nat) = 8 + 16 by rfl, steps_add 16 8, show (16 : Nat) = 8 + 8 by rfl, steps_add 8 8]
  rw [s32, ← Nat.xor_assoc, h8, ← Nat.xor_assoc, h8, ← Nat.xor_assoc, h8]
theorem creg_le {l : List Int} (h : Bs l) : creg 4294967295 l < 4294967296 := creg_lt (by omega) h
/-- The sum of bytes with their own sum behind them is always the same. -/
theorem resid {H : List Int} (hH : Bs H) : csum 0 (H ++ wordB ((csum 0 H : Nat) : Int)) = 4294967295 - steps 32 4294967295 := by
  have hr := creg_le hH
  unfold csum
  simp only [Nat.sub_zero]
  rw [creg_append, creg_word _ _ (by omega)]
  congr 2
  have := nat_not (n := 32) (x := creg 4294967295 H) (by simpa using hr)
  simp only [show (2 : Nat) ^ 32 - 1 = 4294967295 by rfl] at this
  rw [← this, Nat.xor_comm 4294967295, ← Nat.xor_assoc, Nat.xor_self, Nat.zero_xor]
/-- Bits turned in a row of bytes and its sum: no sum fits. -/
theorem turned_bad {H : List Int} (hH : Bs H) (s t : Nat) (hp : s + 32 ≤ 8 * (H.length + 4)) (h0 : t ≠ 0) (h1 : t < 4294967296) {H' : List Int} {n : Nat} (hn : n < 4294967296) (hH' : Bs H')
    (he : turned (H ++ wordB ((csum 0 H : Nat) : Int)) s t 32 = H' ++ wordB (n : Int)) : csum 0 H' ≠ n := by
  intro e
  have hb : Bs (H ++ wordB ((csum 0 H : Nat) : Int)) := by
    intro x hx
    rcases List.mem_append.1 hx with hx | hx
    · exact hH x hx
    · exact wordB_bs (by omega) (csum_le hH) x hx
  have h2 := turned_sum hb s t (by simp [wordB_len]; omega) h0 h1
  rw [he, ← e, resid hH', resid hH] at h2
  exact h2 rfl
end Go.Proofs.Ytnjdgnlgdokddaa
