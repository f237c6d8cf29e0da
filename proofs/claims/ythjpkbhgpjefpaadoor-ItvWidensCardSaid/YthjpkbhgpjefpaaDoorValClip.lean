/- val.Clip, Is; the document's Clip, Is. -/
import Derived.Test.YthjpkbhgpjefpaaDoorRows
import Derived.Test.YthjpkbhgpjefpaaDoorValMath
import Derived.Test.YthjpkbhgpjefpaaDoorKit
namespace Go.Proofs.YthjpkbhgpjefpaaDoor
open Go.RowKit
set_option linter.unusedVariables false

def I64 (n : Int) : Prop := -9223372036854775808 ≤ n ∧ n ≤ 9223372036854775807
theorem clip_any (n : Int) (w : World) : Calls Tryd.prog 38 #[.int .i64 n] w fun e w' => e = .returned (.int .i64 (clip n)) ∧ w = w' := by
  have hf : Hid (clip n = if 1099511627776 < n then 1099511627776 else if n < -1099511627776 then -1099511627776 else n) := Lib.hid rfl
  generalize clip n = F at *
  go_enter Tryd.func38, Tryd.ntmps38
  go_wp2
  all_goals (go_ret; refine ⟨ret_int ?_, rfl⟩; rw [hf.out]; clear hf; grind)
theorem refclip_any (n : Int) (w : World) : Calls Tryd.prog 54 #[.int .i64 n] w fun e w' => e = .returned (.int .i64 (clip n)) ∧ w = w' := by
  have hf : Hid (clip n = if 1099511627776 < n then 1099511627776 else if n < -1099511627776 then -1099511627776 else n) := Lib.hid rfl
  generalize clip n = F at *
  go_enter Tryd.func54, Tryd.ntmps54
  go_wp2
  all_goals (go_ret; refine ⟨ret_int ?_, rfl⟩; rw [hf.out]; (repeat' split) <;> omega)
def isV (n : Int) : Bool := decide (-1099511627776 ≤ n ∧ n ≤ 1099511627776)
theorem isV_iff (n : Int) : isV n = true ↔ -1099511627776 ≤ n ∧ n ≤ 1099511627776 := by simp [isV]
theorem clip_beq (n : Int) : (n == clip n) = isV n := by
  rw [Bool.eq_iff_iff, isV_iff, beq_iff_eq]
  have := clip_in n
  constructor
  · intro h; omega
  · intro h; rw [clip_id h.1 h.2]
theorem is_any (n : Int) (w : World) : Calls Tryd.prog 41 #[.int .i64 n] w fun e w' => e = .returned (.bool (isV n)) ∧ w = w' := by
  have hf := Lib.hid (clip_beq n)
  have hc := Lib.hid (clip_any n)
  generalize clip n = F at *
  generalize isV n = V at *
  go_enter Tryd.func41, Tryd.ntmps41
  go_wp2_with fail
  refine (hc.out _).mono ?_
  rintro e w' ⟨rfl, rfl⟩
  go_wp2
  go_ret
  exact ⟨ret_bool hf.out, rfl⟩
theorem refis_any (n : Int) (w : World) : Calls Tryd.prog 32 #[.int .i64 n] w fun e w' => e = .returned (.bool (isV n)) ∧ w = w' := by
  have hf : Hid (isV n = (decide (-1099511627776 ≤ n) && decide (n ≤ 1099511627776))) := Lib.hid (by simp [isV])
  generalize isV n = V at *
  go_enter Tryd.func32, Tryd.ntmps32
  go_wp2
  all_goals (go_ret; refine ⟨ret_bool ?_, rfl⟩; rw [hf.out]; simp; try omega)
end Go.Proofs.YthjpkbhgpjefpaaDoor
