/- Signed numbers, turned. -/
import Derived.Test.YtkfgfbdlbiahkaaRows
import Derived.Test.YtkfgfbdlbiahkaaBits
namespace Go.Proofs.Ytkfgfbdlbiahkaa
open Go.RowKit
set_option linter.unusedVariables false
def zig (n : Int) : Int := if 0 ≤ n then 2 * n else -2 * n - 1
def zag (u : Int) : Int := if u % 2 = 0 then u / 2 else -(u / 2) - 1
theorem zig_neg {n : Int} (h : n < 0) : zig n = -2 * n - 1 := by unfold zig; rw [if_neg (by omega)]
theorem zig_pos {n : Int} (h : ¬ n < 0) : zig n = 2 * n := by unfold zig; rw [if_pos (by omega)]
theorem zag_even {n : Int} (h : n % 2 = 0) : zag n = n / 2 := by unfold zag; rw [if_pos h]
theorem zag_odd {n : Int} (h : ¬ n % 2 = 0) : zag n = -(n / 2) - 1 := by unfold zag; rw [if_neg h]
end Go.Proofs.Ytkfgfbdlbiahkaa
