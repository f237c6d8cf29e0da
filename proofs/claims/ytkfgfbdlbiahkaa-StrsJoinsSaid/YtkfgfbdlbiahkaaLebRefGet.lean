/- The document's Get: the same number. -/
import Derived.Test.YtkfgfbdlbiahkaaLebGet
namespace Go.Proofs.Ytkfgfbdlbiahkaa
open Go.RowKit
set_option linter.unusedVariables false

theorem ref_step {k : Nat} {acc c p : Int} (hk : k ≤ 9) (h0 : 0 ≤ acc) (h1 : acc < p) (hp : p = 2 ^ (7 * k)) (hc0 : 0 ≤ c) (hc1 : c ≤ 255) (hw : wrongB k c = false) :
    IntKind.u64.wrap (acc + IntKind.u64.wrap (p * (c % 128))) = acc + p * (c % 128) ∧ p ≤ 9223372036854775808 ∧ (k ≤ 8 → IntKind.u64.wrap (p * 128) = p * 128) := by
  obtain ⟨_, a, b, _⟩ := get_step hk h0 h1 hp hc0 hc1 hw
  have hp9 : p ≤ 9223372036854775808 ∧ (k ≤ 8 → p * 128 ≤ 9223372036854775808) := by
    have : k = 0 ∨ k = 1 ∨ k = 2 ∨ k = 3 ∨ k = 4 ∨ k = 5 ∨ k = 6 ∨ k = 7 ∨ k = 8 ∨ k = 9 := by omega
    rw [hp]
    rcases this with rfl | rfl | rfl | rfl | rfl | rfl | rfl | rfl | rfl | rfl <;> simp
  refine ⟨by rw [wrap_u64_in a (by omega), wrap_u64_in (by omega) b], hp9.1, fun h => wrap_u64_in (by omega) (by have := hp9.2 h; omega)⟩

end Go.Proofs.Ytkfgfbdlbiahkaa
