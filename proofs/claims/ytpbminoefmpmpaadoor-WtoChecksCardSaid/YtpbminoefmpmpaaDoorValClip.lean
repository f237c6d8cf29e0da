/- val.Clip, Is; the document's Clip, Is. -/
import Derived.Test.YtpbminoefmpmpaaDoorRows
import Derived.Test.YtpbminoefmpmpaaDoorValMath
import Derived.Test.YtpbminoefmpmpaaDoorKit
namespace Go.Proofs.YtpbminoefmpmpaaDoor
open Go.RowKit
set_option linter.unusedVariables false

def I64 (n : Int) : Prop := -9223372036854775808 ≤ n ∧ n ≤ 9223372036854775807
theorem clip_any (n : Int) (w : World) : Calls Tryd.prog 39 #[.int .i64 n] w fun e w' => e = .returned (.int .i64 (clip n)) ∧ w = w' := by
  have hf : Hid (clip n = if 1099511627776 < n then 1099511627776 else if n < -1099511627776 then -1099511627776 else n) := Lib.hid rfl
  generalize clip n = F at *
  go_enter Tryd.func39, Tryd.ntmps39
  go_wp2
  all_goals (go_ret; refine ⟨ret_int ?_, rfl⟩; rw [hf.out]; clear hf; grind)
def isV (n : Int) : Bool := decide (-1099511627776 ≤ n ∧ n ≤ 1099511627776)
theorem isV_iff (n : Int) : isV n = true ↔ -1099511627776 ≤ n ∧ n ≤ 1099511627776 := by simp [isV]
theorem clip_beq (n : Int) : (n == clip n) = isV n := by
  rw [Bool.eq_iff_iff, isV_iff, beq_iff_eq]
  have := clip_in n
  constructor
  · intro h; omega
  · intro h; rw [clip_id h.1 h.2]
end Go.Proofs.YtpbminoefmpmpaaDoor
