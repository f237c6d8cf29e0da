/- Bits of unsigned numbers as arithmetic. -/
import Derived.Test.YtkfgfbdlbiahkaaKit
import Derived.Laws.Bits64b
import Derived.Laws.BitsAllLaws
namespace Go.Proofs.Ytkfgfbdlbiahkaa
set_option linter.unusedVariables false

theorem nat_not {n x : Nat} (h : x < 2 ^ n) : (2 ^ n - 1) ^^^ x = 2 ^ n - 1 - x := by
  apply Nat.eq_of_testBit_eq
  intro i
  rw [Nat.testBit_xor, Nat.testBit_two_pow_sub_one, show 2 ^ n - 1 - x = 2 ^ n - (x + 1) by omega, Nat.testBit_two_pow_sub_succ h]
  by_cases hi : i < n
  · simp [hi]
  · have hx : x < 2 ^ i := Nat.lt_of_lt_of_le h (Nat.pow_le_pow_right (by omega) (by omega))
    simp [hi, Nat.testBit_lt_two_pow hx]

theorem u64_max : IntKind.u64.max = 18446744073709551615 := by rfl
theorem u64_not {x : Int} (h0 : 0 ≤ x) (h1 : x ≤ 18446744073709551615) : bits .xor .u64 IntKind.u64.max x = 18446744073709551615 - x := by
  obtain ⟨n, rfl⟩ := Int.eq_ofNat_of_zero_le h0
  rw [u64_max, show (18446744073709551615 : Int) = ((2 ^ 64 - 1 : Nat) : Int) by decide, bits_xor_u64_nat _ _ (by decide) (by omega), nat_not (by omega)]
  omega
theorem u64_and1 {x : Int} (h0 : 0 ≤ x) (h1 : x ≤ 18446744073709551615) : bits .and .u64 x 1 = x % 2 := by
  obtain ⟨n, rfl⟩ := Int.eq_ofNat_of_zero_le h0
  rw [show (1 : Int) = ((1 : Nat) : Int) by rfl, bits_and_u64_nat _ _ (by omega) (by decide), Nat.and_one_is_mod]
  omega
theorem u64_wrap (n : Int) : IntKind.u64.wrap n = n % 18446744073709551616 := IntKind.wrap_u64 n
/-- A sum of parts that share no bit. -/
theorem u64_or_add {a b : Int} {k : Nat} (h0 : 0 ≤ a) (h1 : a < 2 ^ k) (hb : 0 ≤ b) (h : a + 2 ^ k * b ≤ 18446744073709551615) : bits .or .u64 a (2 ^ k * b) = a + 2 ^ k * b := by
  obtain ⟨x, rfl⟩ := Int.eq_ofNat_of_zero_le h0
  obtain ⟨y, rfl⟩ := Int.eq_ofNat_of_zero_le hb
  have h1' : x < 2 ^ k := by exact_mod_cast h1
  have e : (2 : Int) ^ k * (y : Int) = ((2 ^ k * y : Nat) : Int) := by push_cast; rfl
  rw [e] at h ⊢
  have hx : x < 18446744073709551616 := by omega
  have hy : 2 ^ k * y < 18446744073709551616 := by omega
  rw [bits_or_u64_nat _ _ hx hy]
  have := Nat.two_pow_add_eq_or_of_lt h1' y
  rw [Nat.or_comm, ← this]; push_cast; omega
theorem u8_and127 {x : Int} (h0 : 0 ≤ x) (h1 : x ≤ 255) : bits .and .u8 x 127 = x % 128 := by
  have : ∀ y : Fin 256, bits .and .u8 (y.val : Int) 127 = (y.val : Int) % 128 := by decide +kernel
  have h2 := this ⟨x.toNat, by omega⟩
  simp only [] at h2
  rw [show ((x.toNat : Nat) : Int) = x by omega] at h2
  exact h2
end Go.Proofs.Ytkfgfbdlbiahkaa
