/- Signed numbers' bytes; and the number with which bytes begin. -/
import Derived.Test.YtkfgfbdlbiahkaaLebRefPut
import Derived.Test.YtkfgfbdlbiahkaaLebRefGet
import Derived.Test.YtkfgfbdlbiahkaaLebZig
namespace Go.Proofs.Ytkfgfbdlbiahkaa
open Go.RowKit
set_option linter.unusedVariables false

theorem zig_u64 {n : Int} (h : (Lit.int .i64 n).wf = true) : 0 ≤ zig n ∧ U64 (zig n) := by
  have hb := i64_wf h
  unfold U64 zig
  split <;> omega
theorem wf_u64 {n : Int} (h0 : 0 ≤ n) (h1 : n ≤ 18446744073709551615) : (Lit.int .u64 n).wf = true := by
  simp [Lit.wf, IntKind.min, IntKind.max, IntKind.signed, IntKind.bits]; omega
theorem zag_wf {n : Int} (h0 : 0 ≤ n) (h1 : n ≤ 18446744073709551615) : (Lit.int .i64 (zag n)).wf = true := by
  simp [Lit.wf, IntKind.min, IntKind.max, IntKind.signed, IntKind.bits]
  unfold zag
  split <;> omega
theorem zag_zig (n : Int) : zag (zig n) = n := by unfold zig; split <;> (unfold zag; split <;> omega)
theorem zig_zag {n : Int} (h : 0 ≤ n) : zig (zag n) = n := by unfold zag; split <;> (unfold zig; split <;> omega)

/-- What three results these are. -/
def gotI (x : Int × Int × Int) : Value := .tuple #[.int .i64 (zag x.1), .int .i64 x.2.1, .int .i64 x.2.2]

theorem getL_fine {l : List Int} (hb : Bs l) : 0 ≤ (getL 0 0 1 l).1 ∧ (getL 0 0 1 l).1 ≤ 18446744073709551615 ∧ ((getL 0 0 1 l).2.2 = 0 ∨ ((getL 0 0 1 l).1 = 0 ∧ (getL 0 0 1 l).2.1 = 0 ∧ 10 ≤ (getL 0 0 1 l).2.2)) := by
  rcases getL_put0 hb with h | h | ⟨n, j, h, h0, h1, _, _⟩ <;> rw [h] <;> simp
  omega

end Go.Proofs.Ytkfgfbdlbiahkaa
