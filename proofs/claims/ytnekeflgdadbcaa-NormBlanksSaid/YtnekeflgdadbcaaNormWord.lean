/- Bytes of words: the program's test, the document's. (Written by gen-norm.py.) -/
import Derived.Test.YtnekeflgdadbcaaKit
import Derived.Test.YtnekeflgdadbcaaStr
import Derived.Test.YtnekeflgdadbcaaRows
import Derived.IntWalk
namespace Go.Proofs.Ytnekeflgdadbcaa
open Go.RowKit
set_option linter.unusedVariables false
set_option linter.unusedSimpArgs false

def letB (c : Int) : Bool := decide ((97 ≤ c ∧ c ≤ 122) ∨ (65 ≤ c ∧ c ≤ 90) ∨ c = 95)
def wdB (c : Int) : Bool := letB c || decide ((48 ≤ c ∧ c ≤ 57) ∨ c = 46)
set_option maxHeartbeats 1000000 in
theorem wordByte_any (c : Int) (h0 : 0 ≤ c) (h1 : c ≤ 255) (w : World) :
    Calls Try.prog 16 #[.int .u8 c] w fun e w' => e = .returned (.bool (wdB c)) ∧ w = w' := by
  by_cases r0 : c ≤ 45
  · have hv : wdB c = false := by simp [wdB, letB]; omega
    rw [hv]
    have a0 : ¬ 97 ≤ c := by omega
    have a1 : c ≤ 122 := by omega
    have a2 : ¬ 65 ≤ c := by omega
    have a3 : c ≤ 90 := by omega
    have a4 : (c == 95) = false := by simp; omega
    have b4 : ¬ c = 95 := by omega
    have a5 : ¬ 48 ≤ c := by omega
    have a6 : c ≤ 57 := by omega
    have a7 : (c == 46) = false := by simp; omega
    have b7 : ¬ c = 46 := by omega
    clear hv
    go_enter Try.func16, Try.ntmps16
    go_wp2
    go_ret
    first | exact ⟨rfl, rfl⟩ | exact ⟨by simp; omega, rfl⟩
  by_cases r46 : c ≤ 46
  · have hv : wdB c = true := by simp [wdB, letB]; omega
    rw [hv]
    obtain rfl : c = 46 := by omega
    clear hv
    go_enter Try.func16, Try.ntmps16
    go_wp2
    go_ret
    first | exact ⟨rfl, rfl⟩ | exact ⟨by simp; omega, rfl⟩
  by_cases r47 : c ≤ 47
  · have hv : wdB c = false := by simp [wdB, letB]; omega
    rw [hv]
    obtain rfl : c = 47 := by omega
    clear hv
    go_enter Try.func16, Try.ntmps16
    go_wp2
    go_ret
    first | exact ⟨rfl, rfl⟩ | exact ⟨by simp; omega, rfl⟩
  by_cases r48 : c ≤ 57
  · have hv : wdB c = true := by simp [wdB, letB]; omega
    rw [hv]
    have a0 : ¬ 97 ≤ c := by omega
    have a1 : c ≤ 122 := by omega
    have a2 : ¬ 65 ≤ c := by omega
    have a3 : c ≤ 90 := by omega
    have a4 : (c == 95) = false := by simp; omega
    have b4 : ¬ c = 95 := by omega
    have a5 : 48 ≤ c := by omega
    have a6 : c ≤ 57 := by omega
    have a7 : (c == 46) = false := by simp; omega
    have b7 : ¬ c = 46 := by omega
    clear hv
    go_enter Try.func16, Try.ntmps16
    go_wp2
    go_ret
    first | exact ⟨rfl, rfl⟩ | exact ⟨by simp; omega, rfl⟩
  by_cases r58 : c ≤ 64
  · have hv : wdB c = false := by simp [wdB, letB]; omega
    rw [hv]
    have a0 : ¬ 97 ≤ c := by omega
    have a1 : c ≤ 122 := by omega
    have a2 : ¬ 65 ≤ c := by omega
    have a3 : c ≤ 90 := by omega
    have a4 : (c == 95) = false := by simp; omega
    have b4 : ¬ c = 95 := by omega
    have a5 : 48 ≤ c := by omega
    have a6 : ¬ c ≤ 57 := by omega
    have a7 : (c == 46) = false := by simp; omega
    have b7 : ¬ c = 46 := by omega
    clear hv
    go_enter Try.func16, Try.ntmps16
    go_wp2
    go_ret
    first | exact ⟨rfl, rfl⟩ | exact ⟨by simp; omega, rfl⟩
  by_cases r65 : c ≤ 90
  · have hv : wdB c = true := by simp [wdB, letB]; omega
    rw [hv]
    have a0 : ¬ 97 ≤ c := by omega
    have a1 : c ≤ 122 := by omega
    have a2 : 65 ≤ c := by omega
    have a3 : c ≤ 90 := by omega
    have a4 : (c == 95) = false := by simp; omega
    have b4 : ¬ c = 95 := by omega
    have a5 : 48 ≤ c := by omega
    have a6 : ¬ c ≤ 57 := by omega
    have a7 : (c == 46) = false := by simp; omega
    have b7 : ¬ c = 46 := by omega
    clear hv
    go_enter Try.func16, Try.ntmps16
    go_wp2
    go_ret
    first | exact ⟨rfl, rfl⟩ | exact ⟨by simp; omega, rfl⟩
  by_cases r91 : c ≤ 94
  · have hv : wdB c = false := by simp [wdB, letB]; omega
    rw [hv]
    have a0 : ¬ 97 ≤ c := by omega
    have a1 : c ≤ 122 := by omega
    have a2 : 65 ≤ c := by omega
    have a3 : ¬ c ≤ 90 := by omega
    have a4 : (c == 95) = false := by simp; omega
    have b4 : ¬ c = 95 := by omega
    have a5 : 48 ≤ c := by omega
    have a6 : ¬ c ≤ 57 := by omega
    have a7 : (c == 46) = false := by simp; omega
    have b7 : ¬ c = 46 := by omega
    clear hv
    go_enter Try.func16, Try.ntmps16
    go_wp2
    go_ret
    first | exact ⟨rfl, rfl⟩ | exact ⟨by simp; omega, rfl⟩
  by_cases r95 : c ≤ 95
  · have hv : wdB c = true := by simp [wdB, letB]; omega
    rw [hv]
    obtain rfl : c = 95 := by omega
    clear hv
    go_enter Try.func16, Try.ntmps16
    go_wp2
    go_ret
    first | exact ⟨rfl, rfl⟩ | exact ⟨by simp; omega, rfl⟩
  by_cases r96 : c ≤ 96
  · have hv : wdB c = false := by simp [wdB, letB]; omega
    rw [hv]
    obtain rfl : c = 96 := by omega
    clear hv
    go_enter Try.func16, Try.ntmps16
    go_wp2
    go_ret
    first | exact ⟨rfl, rfl⟩ | exact ⟨by simp; omega, rfl⟩
  by_cases r97 : c ≤ 122
  · have hv : wdB c = true := by simp [wdB, letB]; omega
    rw [hv]
    have a0 : 97 ≤ c := by omega
    have a1 : c ≤ 122 := by omega
    have a2 : 65 ≤ c := by omega
    have a3 : ¬ c ≤ 90 := by omega
    have a4 : (c == 95) = false := by simp; omega
    have b4 : ¬ c = 95 := by omega
    have a5 : 48 ≤ c := by omega
    have a6 : ¬ c ≤ 57 := by omega
    have a7 : (c == 46) = false := by simp; omega
    have b7 : ¬ c = 46 := by omega
    clear hv
    go_enter Try.func16, Try.ntmps16
    go_wp2
    go_ret
    first | exact ⟨rfl, rfl⟩ | exact ⟨by simp; omega, rfl⟩
  have hv : wdB c = false := by simp [wdB, letB]; omega
  rw [hv]
  have a0 : 97 ≤ c := by omega
  have a1 : ¬ c ≤ 122 := by omega
  have a2 : 65 ≤ c := by omega
  have a3 : ¬ c ≤ 90 := by omega
  have a4 : (c == 95) = false := by simp; omega
  have b4 : ¬ c = 95 := by omega
  have a5 : 48 ≤ c := by omega
  have a6 : ¬ c ≤ 57 := by omega
  have a7 : (c == 46) = false := by simp; omega
  have b7 : ¬ c = 46 := by omega
  clear hv
  go_enter Try.func16, Try.ntmps16
  go_wp2
  go_ret
  first | exact ⟨rfl, rfl⟩ | exact ⟨by simp; omega, rfl⟩
set_option maxHeartbeats 1000000 in
theorem letter_any (c : Int) (h0 : 0 ≤ c) (h1 : c ≤ 255) (w : World) :
    Calls Try.prog 36 #[.int .u8 c] w fun e w' => e = .returned (.bool (letB c)) ∧ w = w' := by
  by_cases r0 : c ≤ 45
  · have hv : letB c = false := by simp [letB]; omega
    rw [hv]
    have a0 : ¬ 97 ≤ c := by omega
    have a1 : c ≤ 122 := by omega
    have a2 : ¬ 65 ≤ c := by omega
    have a3 : c ≤ 90 := by omega
    have a4 : (c == 95) = false := by simp; omega
    have b4 : ¬ c = 95 := by omega
    clear hv
    go_enter Try.func36, Try.ntmps36
    go_wp2
    go_ret
    first | exact ⟨rfl, rfl⟩ | exact ⟨by simp; omega, rfl⟩
  by_cases r46 : c ≤ 46
  · have hv : letB c = false := by simp [letB]; omega
    rw [hv]
    obtain rfl : c = 46 := by omega
    clear hv
    go_enter Try.func36, Try.ntmps36
    go_wp2
    go_ret
    first | exact ⟨rfl, rfl⟩ | exact ⟨by simp; omega, rfl⟩
  by_cases r47 : c ≤ 47
  · have hv : letB c = false := by simp [letB]; omega
    rw [hv]
    obtain rfl : c = 47 := by omega
    clear hv
    go_enter Try.func36, Try.ntmps36
    go_wp2
    go_ret
    first | exact ⟨rfl, rfl⟩ | exact ⟨by simp; omega, rfl⟩
  by_cases r48 : c ≤ 57
  · have hv : letB c = false := by simp [letB]; omega
    rw [hv]
    have a0 : ¬ 97 ≤ c := by omega
    have a1 : c ≤ 122 := by omega
    have a2 : ¬ 65 ≤ c := by omega
    have a3 : c ≤ 90 := by omega
    have a4 : (c == 95) = false := by simp; omega
    have b4 : ¬ c = 95 := by omega
    clear hv
    go_enter Try.func36, Try.ntmps36
    go_wp2
    go_ret
    first | exact ⟨rfl, rfl⟩ | exact ⟨by simp; omega, rfl⟩
  by_cases r58 : c ≤ 64
  · have hv : letB c = false := by simp [letB]; omega
    rw [hv]
    have a0 : ¬ 97 ≤ c := by omega
    have a1 : c ≤ 122 := by omega
    have a2 : ¬ 65 ≤ c := by omega
    have a3 : c ≤ 90 := by omega
    have a4 : (c == 95) = false := by simp; omega
    have b4 : ¬ c = 95 := by omega
    clear hv
    go_enter Try.func36, Try.ntmps36
    go_wp2
    go_ret
    first | exact ⟨rfl, rfl⟩ | exact ⟨by simp; omega, rfl⟩
  by_cases r65 : c ≤ 90
  · have hv : letB c = true := by simp [letB]; omega
    rw [hv]
    have a0 : ¬ 97 ≤ c := by omega
    have a1 : c ≤ 122 := by omega
    have a2 : 65 ≤ c := by omega
    have a3 : c ≤ 90 := by omega
    have a4 : (c == 95) = false := by simp; omega
    have b4 : ¬ c = 95 := by omega
    clear hv
    go_enter Try.func36, Try.ntmps36
    go_wp2
    go_ret
    first | exact ⟨rfl, rfl⟩ | exact ⟨by simp; omega, rfl⟩
  by_cases r91 : c ≤ 94
  · have hv : letB c = false := by simp [letB]; omega
    rw [hv]
    have a0 : ¬ 97 ≤ c := by omega
    have a1 : c ≤ 122 := by omega
    have a2 : 65 ≤ c := by omega
    have a3 : ¬ c ≤ 90 := by omega
    have a4 : (c == 95) = false := by simp; omega
    have b4 : ¬ c = 95 := by omega
    clear hv
    go_enter Try.func36, Try.ntmps36
    go_wp2
    go_ret
    first | exact ⟨rfl, rfl⟩ | exact ⟨by simp; omega, rfl⟩
  by_cases r95 : c ≤ 95
  · have hv : letB c = true := by simp [letB]; omega
    rw [hv]
    obtain rfl : c = 95 := by omega
    clear hv
    go_enter Try.func36, Try.ntmps36
    go_wp2
    go_ret
    first | exact ⟨rfl, rfl⟩ | exact ⟨by simp; omega, rfl⟩
  by_cases r96 : c ≤ 96
  · have hv : letB c = false := by simp [letB]; omega
    rw [hv]
    obtain rfl : c = 96 := by omega
    clear hv
    go_enter Try.func36, Try.ntmps36
    go_wp2
    go_ret
    first | exact ⟨rfl, rfl⟩ | exact ⟨by simp; omega, rfl⟩
  by_cases r97 : c ≤ 122
  · have hv : letB c = true := by simp [letB]; omega
    rw [hv]
    have a0 : 97 ≤ c := by omega
    have a1 : c ≤ 122 := by omega
    have a2 : 65 ≤ c := by omega
    have a3 : ¬ c ≤ 90 := by omega
    have a4 : (c == 95) = false := by simp; omega
    have b4 : ¬ c = 95 := by omega
    clear hv
    go_enter Try.func36, Try.ntmps36
    go_wp2
    go_ret
    first | exact ⟨rfl, rfl⟩ | exact ⟨by simp; omega, rfl⟩
  have hv : letB c = false := by simp [letB]; omega
  rw [hv]
  have a0 : 97 ≤ c := by omega
  have a1 : ¬ c ≤ 122 := by omega
  have a2 : 65 ≤ c := by omega
  have a3 : ¬ c ≤ 90 := by omega
  have a4 : (c == 95) = false := by simp; omega
  have b4 : ¬ c = 95 := by omega
  clear hv
  go_enter Try.func36, Try.ntmps36
  go_wp2
  go_ret
  first | exact ⟨rfl, rfl⟩ | exact ⟨by simp; omega, rfl⟩
set_option maxHeartbeats 1000000 in
theorem more_any (c : Int) (h0 : 0 ≤ c) (h1 : c ≤ 255) (w : World) :
    Calls Try.prog 35 #[.int .u8 c] w fun e w' => e = .returned (.bool (wdB c)) ∧ w = w' := by
  by_cases r0 : c ≤ 45
  · have hv : wdB c = false := by simp [wdB, letB]; omega
    rw [hv]
    have hl : letB c = false := by simp [letB]; omega
    have hc := letter_any c h0 h1 w
    rw [hl] at hc
    have hc' := Lib.hid hc
    clear hc hl
    have a0 : ¬ 48 ≤ c := by omega
    have a1 : c ≤ 57 := by omega
    have a2 : (c == 46) = false := by simp; omega
    have b2 : ¬ c = 46 := by omega
    clear hv
    go_enter Try.func35, Try.ntmps35
    go_wp2_with fail
    refine hc'.out.mono ?_
    rintro e w' ⟨rfl, rfl⟩
    go_wp2
    go_ret
    first | exact ⟨rfl, rfl⟩ | exact ⟨by simp; omega, rfl⟩
  by_cases r46 : c ≤ 46
  · have hv : wdB c = true := by simp [wdB, letB]; omega
    rw [hv]
    have hl : letB c = false := by simp [letB]; omega
    have hc := letter_any c h0 h1 w
    rw [hl] at hc
    have hc' := Lib.hid hc
    clear hc hl
    obtain rfl : c = 46 := by omega
    clear hv
    go_enter Try.func35, Try.ntmps35
    go_wp2_with fail
    refine hc'.out.mono ?_
    rintro e w' ⟨rfl, rfl⟩
    go_wp2
    go_ret
    first | exact ⟨rfl, rfl⟩ | exact ⟨by simp; omega, rfl⟩
  by_cases r47 : c ≤ 47
  · have hv : wdB c = false := by simp [wdB, letB]; omega
    rw [hv]
    have hl : letB c = false := by simp [letB]; omega
    have hc := letter_any c h0 h1 w
    rw [hl] at hc
    have hc' := Lib.hid hc
    clear hc hl
    obtain rfl : c = 47 := by omega
    clear hv
    go_enter Try.func35, Try.ntmps35
    go_wp2_with fail
    refine hc'.out.mono ?_
    rintro e w' ⟨rfl, rfl⟩
    go_wp2
    go_ret
    first | exact ⟨rfl, rfl⟩ | exact ⟨by simp; omega, rfl⟩
  by_cases r48 : c ≤ 57
  · have hv : wdB c = true := by simp [wdB, letB]; omega
    rw [hv]
    have hl : letB c = false := by simp [letB]; omega
    have hc := letter_any c h0 h1 w
    rw [hl] at hc
    have hc' := Lib.hid hc
    clear hc hl
    have a0 : 48 ≤ c := by omega
    have a1 : c ≤ 57 := by omega
    have a2 : (c == 46) = false := by simp; omega
    have b2 : ¬ c = 46 := by omega
    clear hv
    go_enter Try.func35, Try.ntmps35
    go_wp2_with fail
    refine hc'.out.mono ?_
    rintro e w' ⟨rfl, rfl⟩
    go_wp2
    go_ret
    first | exact ⟨rfl, rfl⟩ | exact ⟨by simp; omega, rfl⟩
  by_cases r58 : c ≤ 64
  · have hv : wdB c = false := by simp [wdB, letB]; omega
    rw [hv]
    have hl : letB c = false := by simp [letB]; omega
    have hc := letter_any c h0 h1 w
    rw [hl] at hc
    have hc' := Lib.hid hc
    clear hc hl
    have a0 : 48 ≤ c := by omega
    have a1 : ¬ c ≤ 57 := by omega
    have a2 : (c == 46) = false := by simp; omega
    have b2 : ¬ c = 46 := by omega
    clear hv
    go_enter Try.func35, Try.ntmps35
    go_wp2_with fail
    refine hc'.out.mono ?_
    rintro e w' ⟨rfl, rfl⟩
    go_wp2
    go_ret
    first | exact ⟨rfl, rfl⟩ | exact ⟨by simp; omega, rfl⟩
  by_cases r65 : c ≤ 90
  · have hv : wdB c = true := by simp [wdB, letB]; omega
    rw [hv]
    have hl : letB c = true := by simp [letB]; omega
    have hc := letter_any c h0 h1 w
    rw [hl] at hc
    have hc' := Lib.hid hc
    clear hc hl
    have a0 : 48 ≤ c := by omega
    have a1 : ¬ c ≤ 57 := by omega
    have a2 : (c == 46) = false := by simp; omega
    have b2 : ¬ c = 46 := by omega
    clear hv
    go_enter Try.func35, Try.ntmps35
    go_wp2_with fail
    refine hc'.out.mono ?_
    rintro e w' ⟨rfl, rfl⟩
    go_wp2
    go_ret
    first | exact ⟨rfl, rfl⟩ | exact ⟨by simp; omega, rfl⟩
  by_cases r91 : c ≤ 94
  · have hv : wdB c = false := by simp [wdB, letB]; omega
    rw [hv]
    have hl : letB c = false := by simp [letB]; omega
    have hc := letter_any c h0 h1 w
    rw [hl] at hc
    have hc' := Lib.hid hc
    clear hc hl
    have a0 : 48 ≤ c := by omega
    have a1 : ¬ c ≤ 57 := by omega
    have a2 : (c == 46) = false := by simp; omega
    have b2 : ¬ c = 46 := by omega
    clear hv
    go_enter Try.func35, Try.ntmps35
    go_wp2_with fail
    refine hc'.out.mono ?_
    rintro e w' ⟨rfl, rfl⟩
    go_wp2
    go_ret
    first | exact ⟨rfl, rfl⟩ | exact ⟨by simp; omega, rfl⟩
  by_cases r95 : c ≤ 95
  · have hv : wdB c = true := by simp [wdB, letB]; omega
    rw [hv]
    have hl : letB c = true := by simp [letB]; omega
    have hc := letter_any c h0 h1 w
    rw [hl] at hc
    have hc' := Lib.hid hc
    clear hc hl
    obtain rfl : c = 95 := by omega
    clear hv
    go_enter Try.func35, Try.ntmps35
    go_wp2_with fail
    refine hc'.out.mono ?_
    rintro e w' ⟨rfl, rfl⟩
    go_wp2
    go_ret
    first | exact ⟨rfl, rfl⟩ | exact ⟨by simp; omega, rfl⟩
  by_cases r96 : c ≤ 96
  · have hv : wdB c = false := by simp [wdB, letB]; omega
    rw [hv]
    have hl : letB c = false := by simp [letB]; omega
    have hc := letter_any c h0 h1 w
    rw [hl] at hc
    have hc' := Lib.hid hc
    clear hc hl
    obtain rfl : c = 96 := by omega
    clear hv
    go_enter Try.func35, Try.ntmps35
    go_wp2_with fail
    refine hc'.out.mono ?_
    rintro e w' ⟨rfl, rfl⟩
    go_wp2
    go_ret
    first | exact ⟨rfl, rfl⟩ | exact ⟨by simp; omega, rfl⟩
  by_cases r97 : c ≤ 122
  · have hv : wdB c = true := by simp [wdB, letB]; omega
    rw [hv]
    have hl : letB c = true := by simp [letB]; omega
    have hc := letter_any c h0 h1 w
    rw [hl] at hc
    have hc' := Lib.hid hc
    clear hc hl
    have a0 : 48 ≤ c := by omega
    have a1 : ¬ c ≤ 57 := by omega
    have a2 : (c == 46) = false := by simp; omega
    have b2 : ¬ c = 46 := by omega
    clear hv
    go_enter Try.func35, Try.ntmps35
    go_wp2_with fail
    refine hc'.out.mono ?_
    rintro e w' ⟨rfl, rfl⟩
    go_wp2
    go_ret
    first | exact ⟨rfl, rfl⟩ | exact ⟨by simp; omega, rfl⟩
  have hv : wdB c = false := by simp [wdB, letB]; omega
  rw [hv]
  have hl : letB c = false := by simp [letB]; omega
  have hc := letter_any c h0 h1 w
  rw [hl] at hc
  have hc' := Lib.hid hc
  clear hc hl
  have a0 : 48 ≤ c := by omega
  have a1 : ¬ c ≤ 57 := by omega
  have a2 : (c == 46) = false := by simp; omega
  have b2 : ¬ c = 46 := by omega
  clear hv
  go_enter Try.func35, Try.ntmps35
  go_wp2_with fail
  refine hc'.out.mono ?_
  rintro e w' ⟨rfl, rfl⟩
  go_wp2
  go_ret
  first | exact ⟨rfl, rfl⟩ | exact ⟨by simp; omega, rfl⟩
end Go.Proofs.Ytnekeflgdadbcaa
