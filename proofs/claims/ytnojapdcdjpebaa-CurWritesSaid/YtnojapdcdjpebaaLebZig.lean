/- Signed numbers, turned. -/
import Derived.Test.YtnojapdcdjpebaaRows
import Derived.Test.YtnojapdcdjpebaaBits
namespace Go.Proofs.Ytnojapdcdjpebaa
open Go.RowKit
set_option linter.unusedVariables false
def zig (n : Int) : Int := if 0 ≤ n then 2 * n else -2 * n - 1
def zag (u : Int) : Int := if u % 2 = 0 then u / 2 else -(u / 2) - 1
theorem zig_neg {n : Int} (h : n < 0) : zig n = -2 * n - 1 := by unfold zig; rw [if_neg (by omega)]
theorem zig_pos {n : Int} (h : ¬ n < 0) : zig n = 2 * n := by unfold zig; rw [if_pos (by omega)]
theorem zag_even {n : Int} (h : n % 2 = 0) : zag n = n / 2 := by unfold zag; rw [if_pos h]
theorem zag_odd {n : Int} (h : ¬ n % 2 = 0) : zag n = -(n / 2) - 1 := by unfold zag; rw [if_neg h]
theorem zig_any (n : Int) (w : World) (h : (Lit.int .i64 n).wf = true) : Calls Try.prog 72 #[.int .i64 n] w fun e w' => e = .returned (.int .u64 (zig n)) ∧ w = w' := by
  have hb := i64_wf h
  by_cases h0 : n < 0
  · have e1 : bits .xor .u64 IntKind.u64.max (IntKind.u64.wrap (IntKind.u64.wrap n * 2)) = zig n := by
      rw [zig_neg h0, u64_wrap, u64_wrap, u64_not (by omega) (by omega)]; omega
    go_enter Try.func72, Try.ntmps72
    go_wp2
    go_ret
    exact ⟨rfl, rfl⟩
  · have e1 := zig_pos h0
    go_enter Try.func72, Try.ntmps72
    go_wp2
    go_ret
    exact ⟨by simp [Int.mul_comm], rfl⟩
theorem refzig_any (n : Int) (w : World) (h : (Lit.int .i64 n).wf = true) : Calls Try.prog 61 #[.int .i64 n] w fun e w' => e = .returned (.int .u64 (zig n)) ∧ w = w' := by
  have hb := i64_wf h
  by_cases h0 : n < 0
  · have e1 : 2 * -(n + 1) + 1 = zig n := by rw [zig_neg h0]; omega
    go_enter Try.func61, Try.ntmps61
    go_wp2
    go_ret
    exact ⟨rfl, rfl⟩
  · have e1 := zig_pos h0
    go_enter Try.func61, Try.ntmps61
    go_wp2
    go_ret
    exact ⟨by simp, rfl⟩
theorem zag_any (n : Int) (w : World) (h : (Lit.int .u64 n).wf = true) : Calls Try.prog 74 #[.int .u64 n] w fun e w' => e = .returned (.int .i64 (zag n)) ∧ w = w' := by
  have hb := u64_wf h
  have e0 := u64_and1 hb.1 hb.2
  by_cases h0 : n % 2 = 0
  · have e1 := zag_even h0
    go_enter Try.func74, Try.ntmps74
    go_wp2
    go_ret
    exact ⟨by simp [e1], rfl⟩
  · have e1 : wrap64 (bits .xor .u64 IntKind.u64.max (n / 2)) = zag n := by
      rw [zag_odd h0, u64_not (by omega) (by omega)]; unfold wrap64; omega
    go_enter Try.func74, Try.ntmps74
    go_wp2
    go_ret
    exact ⟨by simp, rfl⟩
theorem refzag_any (n : Int) (w : World) (h : (Lit.int .u64 n).wf = true) : Calls Try.prog 59 #[.int .u64 n] w fun e w' => e = .returned (.int .i64 (zag n)) ∧ w = w' := by
  have hb := u64_wf h
  by_cases h0 : n % 2 = 0
  · have e1 := zag_even h0
    go_enter Try.func59, Try.ntmps59
    go_wp2
    go_ret
    exact ⟨by simp [e1], rfl⟩
  · have e1 := zag_odd h0
    go_enter Try.func59, Try.ntmps59
    go_wp2
    go_ret
    exact ⟨by simp [e1], rfl⟩
end Go.Proofs.Ytnojapdcdjpebaa
