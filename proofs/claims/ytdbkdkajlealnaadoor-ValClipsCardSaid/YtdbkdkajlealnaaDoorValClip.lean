/- val.Clip, Is, Add, Sum, Neg; the document's Clip, Is. -/
import Derived.Test.YtdbkdkajlealnaaDoorRows
import Derived.Test.YtdbkdkajlealnaaDoorValMath
import Derived.Test.YtdbkdkajlealnaaDoorKit
namespace Go.Proofs.YtdbkdkajlealnaaDoor
open Go.RowKit
set_option linter.unusedVariables false

def I64 (n : Int) : Prop := -9223372036854775808 ≤ n ∧ n ≤ 9223372036854775807
theorem clip_any (n : Int) (w : World) : Calls Tryd.prog 10 #[.int .i64 n] w fun e w' => e = .returned (.int .i64 (clip n)) ∧ w = w' := by
  have hf : Hid (clip n = if 1099511627776 < n then 1099511627776 else if n < -1099511627776 then -1099511627776 else n) := Lib.hid rfl
  generalize clip n = F at *
  go_enter Tryd.func10, Tryd.ntmps10
  go_wp2
  all_goals (go_ret; refine ⟨ret_int ?_, rfl⟩; rw [hf.out]; clear hf; grind)
theorem refclip_any (n : Int) (w : World) : Calls Tryd.prog 7 #[.int .i64 n] w fun e w' => e = .returned (.int .i64 (clip n)) ∧ w = w' := by
  have hf : Hid (clip n = if 1099511627776 < n then 1099511627776 else if n < -1099511627776 then -1099511627776 else n) := Lib.hid rfl
  generalize clip n = F at *
  go_enter Tryd.func7, Tryd.ntmps7
  go_wp2
  all_goals (go_ret; refine ⟨ret_int ?_, rfl⟩; rw [hf.out]; (repeat' split) <;> omega)
def isV (n : Int) : Bool := decide (-1099511627776 ≤ n ∧ n ≤ 1099511627776)
theorem isV_iff (n : Int) : isV n = true ↔ -1099511627776 ≤ n ∧ n ≤ 1099511627776 := by simp [isV]
theorem clip_beq (n : Int) : (n == clip n) = isV n := by
  rw [Bool.eq_iff_iff, isV_iff, beq_iff_eq]
  have := clip_in n
  constructor
  · intro h; omega
  · intro h; rw [clip_id h.1 h.2]
theorem is_any (n : Int) (w : World) : Calls Tryd.prog 11 #[.int .i64 n] w fun e w' => e = .returned (.bool (isV n)) ∧ w = w' := by
  have hf := Lib.hid (clip_beq n)
  have hc := Lib.hid (clip_any n)
  generalize clip n = F at *
  generalize isV n = V at *
  go_enter Tryd.func11, Tryd.ntmps11
  go_wp2_with fail
  refine (hc.out _).mono ?_
  rintro e w' ⟨rfl, rfl⟩
  go_wp2
  go_ret
  exact ⟨ret_bool hf.out, rfl⟩
theorem refis_any (n : Int) (w : World) : Calls Tryd.prog 12 #[.int .i64 n] w fun e w' => e = .returned (.bool (isV n)) ∧ w = w' := by
  have hf : Hid (isV n = (decide (-1099511627776 ≤ n) && decide (n ≤ 1099511627776))) := Lib.hid (by simp [isV])
  generalize isV n = V at *
  go_enter Tryd.func12, Tryd.ntmps12
  go_wp2
  all_goals (go_ret; refine ⟨ret_bool ?_, rfl⟩; rw [hf.out]; simp; try omega)
/-- What Add tells. -/
def addN (a b : Int) : Int := if isV (clip a + clip b) then clip a + clip b else 0
theorem add_any (a b : Int) (w : World) : Calls Tryd.prog 8 #[.int .i64 a, .int .i64 b] w fun e w' => e = .returned (.tuple #[.int .i64 (addN a b), .bool (isV (clip a + clip b))]) ∧ w = w' := by
  have ha := clip_in a
  have hb := clip_in b
  have hf : Hid (addN a b = if isV (clip a + clip b) then clip a + clip b else 0) := Lib.hid rfl
  have hc := Lib.hid (clip_any a)
  have hd := Lib.hid (clip_any b)
  have hs := Lib.hid (is_any (clip a + clip b))
  generalize addN a b = F at *
  generalize clip a = x at *
  generalize clip b = y at *
  generalize isV (x + y) = V at *
  go_enter Tryd.func8, Tryd.ntmps8
  cases V
  · go_wp2_with fail
    refine (hc.out _).mono ?_
    rintro e w' ⟨rfl, rfl⟩
    go_wp2_with fail
    refine (hd.out _).mono ?_
    rintro e w' ⟨rfl, rfl⟩
    go_wp2_with fail
    refine (hs.out _).mono ?_
    rintro e w' ⟨rfl, rfl⟩
    go_wp2
    go_ret2
    exact ⟨by rw [hf.out]; rfl, rfl⟩
  · go_wp2_with fail
    refine (hc.out _).mono ?_
    rintro e w' ⟨rfl, rfl⟩
    go_wp2_with fail
    refine (hd.out _).mono ?_
    rintro e w' ⟨rfl, rfl⟩
    go_wp2_with fail
    refine (hs.out _).mono ?_
    rintro e w' ⟨rfl, rfl⟩
    go_wp2
    go_ret2
    exact ⟨by rw [hf.out]; rfl, rfl⟩
theorem sum_any (a b : Int) (w : World) : Calls Tryd.prog 13 #[.int .i64 a, .int .i64 b] w fun e w' => e = .returned (.int .i64 (clip (clip a + clip b))) ∧ w = w' := by
  have ha := clip_in a
  have hb := clip_in b
  have hc := Lib.hid (clip_any a)
  have hd := Lib.hid (clip_any b)
  have hs := Lib.hid (clip_any (clip a + clip b))
  generalize clip a = x at *
  generalize clip b = y at *
  generalize clip (x + y) = V at *
  go_enter Tryd.func13, Tryd.ntmps13
  go_wp2_with fail
  refine (hc.out _).mono ?_
  rintro e w' ⟨rfl, rfl⟩
  go_wp2_with fail
  refine (hd.out _).mono ?_
  rintro e w' ⟨rfl, rfl⟩
  go_wp2_with fail
  refine (hs.out _).mono ?_
  rintro e w' ⟨rfl, rfl⟩
  go_wp2
  go_ret
  exact ⟨rfl, rfl⟩
theorem neg_any (a : Int) (w : World) : Calls Tryd.prog 14 #[.int .i64 a] w fun e w' => e = .returned (.int .i64 (-clip a)) ∧ w = w' := by
  have ha := clip_in a
  have hc := Lib.hid (clip_any a)
  generalize clip a = x at *
  go_enter Tryd.func14, Tryd.ntmps14
  go_wp2_with fail
  refine (hc.out _).mono ?_
  rintro e w' ⟨rfl, rfl⟩
  go_wp2
  go_ret
  exact ⟨rfl, rfl⟩
end Go.Proofs.YtdbkdkajlealnaaDoor
