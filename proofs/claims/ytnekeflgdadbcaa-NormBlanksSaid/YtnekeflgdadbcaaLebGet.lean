/- leb.Get and the document's Get: the number with which bytes begin. -/
import Derived.Test.YtnekeflgdadbcaaRows
import Derived.Test.YtnekeflgdadbcaaBits
import Derived.Test.YtnekeflgdadbcaaLebMath
namespace Go.Proofs.Ytnekeflgdadbcaa
open Go.RowKit
set_option linter.unusedVariables false

/-- The next seven bits, put to what was read. -/
theorem get_step {k : Nat} {acc c p : Int} (hk : k ≤ 9) (h0 : 0 ≤ acc) (h1 : acc < p) (hp : p = 2 ^ (7 * k)) (hc0 : 0 ≤ c) (hc1 : c ≤ 255) (hw : wrongB k c = false) :
    bits .or .u64 acc (IntKind.u64.wrap (IntKind.u64.wrap (bits .and .u8 c 127) * 2 ^ (7 * k))) = acc + p * (c % 128) ∧ 0 ≤ p * (c % 128) ∧ acc + p * (c % 128) ≤ 18446744073709551615 ∧ acc + p * (c % 128) < p * 128 := by
  have h9 : k = 9 → c ≤ 1 := fun h => by
    have := wrongB_iff (i := k) (c := c)
    rw [hw] at this
    simp at this; omega
  have hle : 0 ≤ 2 ^ (7 * k) * (c % 128) ∧ acc + 2 ^ (7 * k) * (c % 128) ≤ 18446744073709551615 ∧ acc + 2 ^ (7 * k) * (c % 128) < 2 ^ (7 * k) * 128 := by
    rw [hp] at h1
    clear hw hp
    have : k = 0 ∨ k = 1 ∨ k = 2 ∨ k = 3 ∨ k = 4 ∨ k = 5 ∨ k = 6 ∨ k = 7 ∨ k = 8 ∨ k = 9 := by omega
    rcases this with rfl | rfl | rfl | rfl | rfl | rfl | rfl | rfl | rfl | rfl <;> simp at h1 h9 ⊢ <;> omega
  rw [hp]
  refine ⟨?_, hle⟩
  rw [u8_and127 hc0 hc1, wrap_u64_in (n := c % 128) (by omega) (by omega), Int.mul_comm (c % 128), wrap_u64_in hle.1 (by omega), u64_or_add h0 (by rw [← hp]; exact h1) (by omega) hle.2.1]

/-- What three results these are. -/
def got (x : Int × Int × Int) : Value := .tuple #[.int .u64 x.1, .int .i64 x.2.1, .int .i64 x.2.2]

end Go.Proofs.Ytnekeflgdadbcaa
