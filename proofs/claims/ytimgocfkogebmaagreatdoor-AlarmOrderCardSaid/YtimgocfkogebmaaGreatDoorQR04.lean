/-
  Words and walks under the law's proof.
-/
import Derived.Test.YtimgocfkogebmaaGreatDoorRows
import Derived.Lib.Hide
import Derived.Laws.Rows
import Derived.Laws.Tables
import Derived.Laws.EntriesVeiled
import Derived.Deep.DeepCutAuto
import Derived.Lib.BufferMore
import Derived.OwnWalk
import Derived.Test.YtimgocfkogebmaaGreatDoorQR01
import Derived.Test.YtimgocfkogebmaaGreatDoorQR03
namespace Go.Proofs.YtimgocfkogebmaaGreatDoor
open Go.RowKit
set_option linter.unusedVariables false
set_option linter.unusedSimpArgs false
def isVarB (x n : Int) : Bool := decide (1 ≤ x) && decide (x ≤ n)
def isTermB (x n : Int) : Bool := decide (0 ≤ x) && decide (x ≤ n)
def isValB (c : Int) : Bool := decide (-1099511627776 ≤ c) && decide (c ≤ 1099511627776)
def skipB (x y c d : Int) : Bool := (x == 0) && ((y == 0) && ((c == 0) && (d == 0)))
def letB (x y c d n : Int) : Bool := isVarB x n && (isTermB y n && (isValB c && (d == 0)))
def anyB (x y c d n : Int) : Bool := isVarB x n && ((y == 0) && (isValB c && (isValB d && decide (c ≤ d))))
def diffB (x y c d n : Int) : Bool := isTermB x n && (isTermB y n && ((x != y) && (isValB c && (d == 0))))
def stmtB (k x y c d n : Int) : Bool := if k = 1 then skipB x y c d else if k = 2 then letB x y c d n else if k = 3 then anyB x y c d n else diffB x y c d n
def rightB (k x y c d n : Int) : Bool := if n < 0 ∨ 8 < n ∨ k < 1 ∨ 5 < k then false else stmtB k x y c d n
def SetTo (v : Value) (w : World) (e : Ending) (w' : World) : Prop := e = .returned v ∧ w = w'
theorem isVar_any (x n : Int) (w : World) : Calls Tryz.prog 200 #[.int .i64 x, .int .i64 n] w (SetTo (.bool (isVarB x n)) w) := by
  by_cases h1 : 1 ≤ x
  · have hR : Hid (decide (x ≤ n) = isVarB x n) := Lib.hid (by unfold isVarB; rw [decide_eq_true h1, Bool.true_and])
    go_enter Tryz.func200, Tryz.ntmps200
    go_wp2
    go_ret
    exact ⟨ret_bool hR.out, rfl⟩
  · have hR : Hid (false = isVarB x n) := Lib.hid (by unfold isVarB; rw [decide_eq_false h1, Bool.false_and])
    go_enter Tryz.func200, Tryz.ntmps200
    go_wp2
    go_ret
    exact ⟨ret_bool hR.out, rfl⟩
theorem isTerm_any (x n : Int) (w : World) : Calls Tryz.prog 201 #[.int .i64 x, .int .i64 n] w (SetTo (.bool (isTermB x n)) w) := by
  by_cases h1 : 0 ≤ x
  · have hR : Hid (decide (x ≤ n) = isTermB x n) := Lib.hid (by unfold isTermB; rw [decide_eq_true h1, Bool.true_and])
    go_enter Tryz.func201, Tryz.ntmps201
    go_wp2
    go_ret
    exact ⟨ret_bool hR.out, rfl⟩
  · have hR : Hid (false = isTermB x n) := Lib.hid (by unfold isTermB; rw [decide_eq_false h1, Bool.false_and])
    go_enter Tryz.func201, Tryz.ntmps201
    go_wp2
    go_ret
    exact ⟨ret_bool hR.out, rfl⟩
theorem pclip_any (c : Int) (w : World) : Calls Tryz.prog 154 #[.int .i64 c] w (SetTo (.int .i64 (max (-1099511627776) (min 1099511627776 c))) w) := by
  by_cases h1 : 1099511627776 ≤ c
  · have h2 : ¬ c < 1099511627776 := by omega
    go_enter Tryz.func154, Tryz.ntmps154
    go_wp2
    go_ret
    exact ⟨ret_int (by omega), rfl⟩
  · have h2 : c < 1099511627776 := by omega
    by_cases h3 : -1099511627776 < c
    · have h4 : ¬ c ≤ -1099511627776 := by omega
      clear h1
      go_enter Tryz.func154, Tryz.ntmps154
      go_wp2
      go_ret
      exact ⟨ret_int (by omega), rfl⟩
    · have h4 : c ≤ -1099511627776 := by omega
      clear h1
      go_enter Tryz.func154, Tryz.ntmps154
      go_wp2
      go_ret
      exact ⟨ret_int (by omega), rfl⟩
theorem pis_any (c : Int) (w : World) : Calls Tryz.prog 112 #[.int .i64 c] w (SetTo (.bool (isValB c)) w) := by
  have hR : Hid ((c == max (-1099511627776) (min 1099511627776 c)) = isValB c) := Lib.hid (by
    unfold isValB
    rw [Bool.eq_iff_iff, beq_iff_eq, Bool.and_eq_true, decide_eq_true_iff, decide_eq_true_iff]
    omega)
  have hq := Lib.hid (pclip_any c w)
  generalize max (-1099511627776) (min 1099511627776 c) = v at *
  go_enter Tryz.func112, Tryz.ntmps112
  go_wp2_with fail
  refine hq.out.mono ?_
  rintro e w1 ⟨rfl, rfl⟩
  go_wp2
  go_ret
  exact ⟨ret_bool hR.out, rfl⟩
set_option maxRecDepth 100000 in
theorem rightSkip_any (k x y c d n : Int) (w : World) : Calls Tryz.prog 174 #[.agg #[.int .i64 k, .int .i64 x, .int .i64 y, .int .i64 c, .int .i64 d], .int .i64 n] w (Gives (.bool (skipB x y c d)) w) := by
  have hB := Lib.hid ((Below.refl w.heap.size w).alloc (Nat.le_refl _) (.cells #[.int .i64 k, .int .i64 x, .int .i64 y, .int .i64 c, .int .i64 d] 73))
  cases h0 : (x == 0)
  · have hR : Hid (false = skipB x y c d) := Lib.hid (by unfold skipB; simp only [h0, Bool.true_and, Bool.false_and, Bool.and_true, Bool.and_false, decide_true, decide_false])
    go_enter Tryz.func174, Tryz.ntmps174
    go_wp2
    go_ret
    exact ⟨ret_bool hR.out, hB.out⟩
  cases h1 : (y == 0)
  · have hR : Hid (false = skipB x y c d) := Lib.hid (by unfold skipB; simp only [h0, h1, Bool.true_and, Bool.false_and, Bool.and_true, Bool.and_false, decide_true, decide_false])
    go_enter Tryz.func174, Tryz.ntmps174
    go_wp2
    go_ret
    exact ⟨ret_bool hR.out, hB.out⟩
  cases h2 : (c == 0)
  · have hR : Hid (false = skipB x y c d) := Lib.hid (by unfold skipB; simp only [h0, h1, h2, Bool.true_and, Bool.false_and, Bool.and_true, Bool.and_false, decide_true, decide_false])
    go_enter Tryz.func174, Tryz.ntmps174
    go_wp2
    go_ret
    exact ⟨ret_bool hR.out, hB.out⟩
  cases h3 : (d == 0)
  · have hR : Hid (false = skipB x y c d) := Lib.hid (by unfold skipB; simp only [h0, h1, h2, h3, Bool.true_and, Bool.false_and, Bool.and_true, Bool.and_false, decide_true, decide_false])
    go_enter Tryz.func174, Tryz.ntmps174
    go_wp2
    go_ret
    exact ⟨ret_bool hR.out, hB.out⟩
  have hR : Hid (true = skipB x y c d) := Lib.hid (by unfold skipB; simp only [h0, h1, h2, h3, Bool.true_and, Bool.false_and, Bool.and_true, Bool.and_false, decide_true, decide_false])
  go_enter Tryz.func174, Tryz.ntmps174
  go_wp2
  go_ret
  exact ⟨ret_bool hR.out, hB.out⟩
set_option maxRecDepth 100000 in
theorem rightLet_any (k x y c d n : Int) (w : World) : Calls Tryz.prog 176 #[.agg #[.int .i64 k, .int .i64 x, .int .i64 y, .int .i64 c, .int .i64 d], .int .i64 n] w (Gives (.bool (letB x y c d n)) w) := by
  have hB := Lib.hid ((Below.refl w.heap.size w).alloc (Nat.le_refl _) (.cells #[.int .i64 k, .int .i64 x, .int .i64 y, .int .i64 c, .int .i64 d] 73))
  have q0 := Lib.hid (fun W => isVar_any x n W)
  cases h0 : isVarB x n
  · rw [h0] at q0
    have hR : Hid (false = letB x y c d n) := Lib.hid (by unfold letB; simp only [h0, Bool.true_and, Bool.false_and, Bool.and_true, Bool.and_false, decide_true, decide_false])
    go_enter Tryz.func176, Tryz.ntmps176
    go_wp2_with fail
    refine (q0.out _).mono ?_
    rintro e w0 ⟨rfl, rfl⟩
    go_wp2
    go_ret
    exact ⟨ret_bool hR.out, hB.out⟩
  rw [h0] at q0
  have q1 := Lib.hid (fun W => isTerm_any y n W)
  cases h1 : isTermB y n
  · rw [h1] at q1
    have hR : Hid (false = letB x y c d n) := Lib.hid (by unfold letB; simp only [h0, h1, Bool.true_and, Bool.false_and, Bool.and_true, Bool.and_false, decide_true, decide_false])
    go_enter Tryz.func176, Tryz.ntmps176
    go_wp2_with fail
    refine (q0.out _).mono ?_
    rintro e w0 ⟨rfl, rfl⟩
    go_wp2_with fail
    refine (q1.out _).mono ?_
    rintro e w1 ⟨rfl, rfl⟩
    go_wp2
    go_ret
    exact ⟨ret_bool hR.out, hB.out⟩
  rw [h1] at q1
  have q2 := Lib.hid (fun W => pis_any c W)
  cases h2 : isValB c
  · rw [h2] at q2
    have hR : Hid (false = letB x y c d n) := Lib.hid (by unfold letB; simp only [h0, h1, h2, Bool.true_and, Bool.false_and, Bool.and_true, Bool.and_false, decide_true, decide_false])
    go_enter Tryz.func176, Tryz.ntmps176
    go_wp2_with fail
    refine (q0.out _).mono ?_
    rintro e w0 ⟨rfl, rfl⟩
    go_wp2_with fail
    refine (q1.out _).mono ?_
    rintro e w1 ⟨rfl, rfl⟩
    go_wp2_with fail
    refine (q2.out _).mono ?_
    rintro e w2 ⟨rfl, rfl⟩
    go_wp2
    go_ret
    exact ⟨ret_bool hR.out, hB.out⟩
  rw [h2] at q2
  cases h3 : (d == 0)
  · have hR : Hid (false = letB x y c d n) := Lib.hid (by unfold letB; simp only [h0, h1, h2, h3, Bool.true_and, Bool.false_and, Bool.and_true, Bool.and_false, decide_true, decide_false])
    go_enter Tryz.func176, Tryz.ntmps176
    go_wp2_with fail
    refine (q0.out _).mono ?_
    rintro e w0 ⟨rfl, rfl⟩
    go_wp2_with fail
    refine (q1.out _).mono ?_
    rintro e w1 ⟨rfl, rfl⟩
    go_wp2_with fail
    refine (q2.out _).mono ?_
    rintro e w2 ⟨rfl, rfl⟩
    go_wp2
    go_ret
    exact ⟨ret_bool hR.out, hB.out⟩
  have hR : Hid (true = letB x y c d n) := Lib.hid (by unfold letB; simp only [h0, h1, h2, h3, Bool.true_and, Bool.false_and, Bool.and_true, Bool.and_false, decide_true, decide_false])
  go_enter Tryz.func176, Tryz.ntmps176
  go_wp2_with fail
  refine (q0.out _).mono ?_
  rintro e w0 ⟨rfl, rfl⟩
  go_wp2_with fail
  refine (q1.out _).mono ?_
  rintro e w1 ⟨rfl, rfl⟩
  go_wp2_with fail
  refine (q2.out _).mono ?_
  rintro e w2 ⟨rfl, rfl⟩
  go_wp2
  go_ret
  exact ⟨ret_bool hR.out, hB.out⟩
set_option maxRecDepth 100000 in
theorem rightAny_any (k x y c d n : Int) (w : World) : Calls Tryz.prog 178 #[.agg #[.int .i64 k, .int .i64 x, .int .i64 y, .int .i64 c, .int .i64 d], .int .i64 n] w (Gives (.bool (anyB x y c d n)) w) := by
  have hB := Lib.hid ((Below.refl w.heap.size w).alloc (Nat.le_refl _) (.cells #[.int .i64 k, .int .i64 x, .int .i64 y, .int .i64 c, .int .i64 d] 73))
  have q0 := Lib.hid (fun W => isVar_any x n W)
  cases h0 : isVarB x n
  · rw [h0] at q0
    have hR : Hid (false = anyB x y c d n) := Lib.hid (by unfold anyB; simp only [h0, Bool.true_and, Bool.false_and, Bool.and_true, Bool.and_false, decide_true, decide_false])
    go_enter Tryz.func178, Tryz.ntmps178
    go_wp2_with fail
    refine (q0.out _).mono ?_
    rintro e w0 ⟨rfl, rfl⟩
    go_wp2
    go_ret
    exact ⟨ret_bool hR.out, hB.out⟩
  rw [h0] at q0
  cases h1 : (y == 0)
  · have hR : Hid (false = anyB x y c d n) := Lib.hid (by unfold anyB; simp only [h0, h1, Bool.true_and, Bool.false_and, Bool.and_true, Bool.and_false, decide_true, decide_false])
    go_enter Tryz.func178, Tryz.ntmps178
    go_wp2_with fail
    refine (q0.out _).mono ?_
    rintro e w0 ⟨rfl, rfl⟩
    go_wp2
    go_ret
    exact ⟨ret_bool hR.out, hB.out⟩
  have q2 := Lib.hid (fun W => pis_any c W)
  cases h2 : isValB c
  · rw [h2] at q2
    have hR : Hid (false = anyB x y c d n) := Lib.hid (by unfold anyB; simp only [h0, h1, h2, Bool.true_and, Bool.false_and, Bool.and_true, Bool.and_false, decide_true, decide_false])
    go_enter Tryz.func178, Tryz.ntmps178
    go_wp2_with fail
    refine (q0.out _).mono ?_
    rintro e w0 ⟨rfl, rfl⟩
    go_wp2_with fail
    refine (q2.out _).mono ?_
    rintro e w2 ⟨rfl, rfl⟩
    go_wp2
    go_ret
    exact ⟨ret_bool hR.out, hB.out⟩
  rw [h2] at q2
  have q3 := Lib.hid (fun W => pis_any d W)
  cases h3 : isValB d
  · rw [h3] at q3
    have hR : Hid (false = anyB x y c d n) := Lib.hid (by unfold anyB; simp only [h0, h1, h2, h3, Bool.true_and, Bool.false_and, Bool.and_true, Bool.and_false, decide_true, decide_false])
    go_enter Tryz.func178, Tryz.ntmps178
    go_wp2_with fail
    refine (q0.out _).mono ?_
    rintro e w0 ⟨rfl, rfl⟩
    go_wp2_with fail
    refine (q2.out _).mono ?_
    rintro e w2 ⟨rfl, rfl⟩
    go_wp2_with fail
    refine (q3.out _).mono ?_
    rintro e w3 ⟨rfl, rfl⟩
    go_wp2
    go_ret
    exact ⟨ret_bool hR.out, hB.out⟩
  rw [h3] at q3
  cases h4 : decide (c ≤ d)
  · have h4p := of_decide_eq_false h4
    have hR : Hid (false = anyB x y c d n) := Lib.hid (by unfold anyB; simp only [h0, h1, h2, h3, h4, Bool.true_and, Bool.false_and, Bool.and_true, Bool.and_false, decide_true, decide_false])
    go_enter Tryz.func178, Tryz.ntmps178
    go_wp2_with fail
    refine (q0.out _).mono ?_
    rintro e w0 ⟨rfl, rfl⟩
    go_wp2_with fail
    refine (q2.out _).mono ?_
    rintro e w2 ⟨rfl, rfl⟩
    go_wp2_with fail
    refine (q3.out _).mono ?_
    rintro e w3 ⟨rfl, rfl⟩
    go_wp2
    go_ret
    exact ⟨ret_bool hR.out, hB.out⟩
  have h4p := of_decide_eq_true h4
  have hR : Hid (true = anyB x y c d n) := Lib.hid (by unfold anyB; simp only [h0, h1, h2, h3, h4, Bool.true_and, Bool.false_and, Bool.and_true, Bool.and_false, decide_true, decide_false])
  go_enter Tryz.func178, Tryz.ntmps178
  go_wp2_with fail
  refine (q0.out _).mono ?_
  rintro e w0 ⟨rfl, rfl⟩
  go_wp2_with fail
  refine (q2.out _).mono ?_
  rintro e w2 ⟨rfl, rfl⟩
  go_wp2_with fail
  refine (q3.out _).mono ?_
  rintro e w3 ⟨rfl, rfl⟩
  go_wp2
  go_ret
  exact ⟨ret_bool hR.out, hB.out⟩
set_option maxRecDepth 100000 in
theorem rightDiff_any (k x y c d n : Int) (w : World) : Calls Tryz.prog 180 #[.agg #[.int .i64 k, .int .i64 x, .int .i64 y, .int .i64 c, .int .i64 d], .int .i64 n] w (Gives (.bool (diffB x y c d n)) w) := by
  have hB := Lib.hid ((Below.refl w.heap.size w).alloc (Nat.le_refl _) (.cells #[.int .i64 k, .int .i64 x, .int .i64 y, .int .i64 c, .int .i64 d] 73))
  have q0 := Lib.hid (fun W => isTerm_any x n W)
  cases h0 : isTermB x n
  · rw [h0] at q0
    have hR : Hid (false = diffB x y c d n) := Lib.hid (by unfold diffB; simp only [h0, Bool.true_and, Bool.false_and, Bool.and_true, Bool.and_false, decide_true, decide_false])
    go_enter Tryz.func180, Tryz.ntmps180
    go_wp2_with fail
    refine (q0.out _).mono ?_
    rintro e w0 ⟨rfl, rfl⟩
    go_wp2
    go_ret
    exact ⟨ret_bool hR.out, hB.out⟩
  rw [h0] at q0
  have q1 := Lib.hid (fun W => isTerm_any y n W)
  cases h1 : isTermB y n
  · rw [h1] at q1
    have hR : Hid (false = diffB x y c d n) := Lib.hid (by unfold diffB; simp only [h0, h1, Bool.true_and, Bool.false_and, Bool.and_true, Bool.and_false, decide_true, decide_false])
    go_enter Tryz.func180, Tryz.ntmps180
    go_wp2_with fail
    refine (q0.out _).mono ?_
    rintro e w0 ⟨rfl, rfl⟩
    go_wp2_with fail
    refine (q1.out _).mono ?_
    rintro e w1 ⟨rfl, rfl⟩
    go_wp2
    go_ret
    exact ⟨ret_bool hR.out, hB.out⟩
  rw [h1] at q1
  cases h2 : (x != y)
  · have hR : Hid (false = diffB x y c d n) := Lib.hid (by unfold diffB; simp only [h0, h1, h2, Bool.true_and, Bool.false_and, Bool.and_true, Bool.and_false, decide_true, decide_false])
    go_enter Tryz.func180, Tryz.ntmps180
    go_wp2_with fail
    refine (q0.out _).mono ?_
    rintro e w0 ⟨rfl, rfl⟩
    go_wp2_with fail
    refine (q1.out _).mono ?_
    rintro e w1 ⟨rfl, rfl⟩
    go_wp2
    go_ret
    exact ⟨ret_bool hR.out, hB.out⟩
  have q3 := Lib.hid (fun W => pis_any c W)
  cases h3 : isValB c
  · rw [h3] at q3
    have hR : Hid (false = diffB x y c d n) := Lib.hid (by unfold diffB; simp only [h0, h1, h2, h3, Bool.true_and, Bool.false_and, Bool.and_true, Bool.and_false, decide_true, decide_false])
    go_enter Tryz.func180, Tryz.ntmps180
    go_wp2_with fail
    refine (q0.out _).mono ?_
    rintro e w0 ⟨rfl, rfl⟩
    go_wp2_with fail
    refine (q1.out _).mono ?_
    rintro e w1 ⟨rfl, rfl⟩
    go_wp2_with fail
    refine (q3.out _).mono ?_
    rintro e w3 ⟨rfl, rfl⟩
    go_wp2
    go_ret
    exact ⟨ret_bool hR.out, hB.out⟩
  rw [h3] at q3
  cases h4 : (d == 0)
  · have hR : Hid (false = diffB x y c d n) := Lib.hid (by unfold diffB; simp only [h0, h1, h2, h3, h4, Bool.true_and, Bool.false_and, Bool.and_true, Bool.and_false, decide_true, decide_false])
    go_enter Tryz.func180, Tryz.ntmps180
    go_wp2_with fail
    refine (q0.out _).mono ?_
    rintro e w0 ⟨rfl, rfl⟩
    go_wp2_with fail
    refine (q1.out _).mono ?_
    rintro e w1 ⟨rfl, rfl⟩
    go_wp2_with fail
    refine (q3.out _).mono ?_
    rintro e w3 ⟨rfl, rfl⟩
    go_wp2
    go_ret
    exact ⟨ret_bool hR.out, hB.out⟩
  have hR : Hid (true = diffB x y c d n) := Lib.hid (by unfold diffB; simp only [h0, h1, h2, h3, h4, Bool.true_and, Bool.false_and, Bool.and_true, Bool.and_false, decide_true, decide_false])
  go_enter Tryz.func180, Tryz.ntmps180
  go_wp2_with fail
  refine (q0.out _).mono ?_
  rintro e w0 ⟨rfl, rfl⟩
  go_wp2_with fail
  refine (q1.out _).mono ?_
  rintro e w1 ⟨rfl, rfl⟩
  go_wp2_with fail
  refine (q3.out _).mono ?_
  rintro e w3 ⟨rfl, rfl⟩
  go_wp2
  go_ret
  exact ⟨ret_bool hR.out, hB.out⟩
def kindsA : Array Value := #[.nilFunc, .nilFunc, .func (.func 174) #[] #[], .func (.func 175) #[] #[], .func (.func 176) #[] #[], .func (.func 177) #[] #[], .func (.func 178) #[] #[], .func (.func 179) #[] #[], .func (.func 180) #[] #[], .func (.func 181) #[] #[], .func (.func 180) #[] #[], .func (.func 182) #[] #[]]
theorem info_kinds : (Tryz.prog.info? 162).map (·.size) = some 12 := by kernel_rfl
theorem kinds_any (w : World) : Calls Tryz.prog 137 #[] w (Gives (.agg kindsA) w) := by
  go_enter Tryz.func137, Tryz.ntmps137
  go_wp2
  exact bodyPost_ret (v := .agg kindsA) (results_cell_row rfl _ _ w.heap.size 162 kindsA (0, 0) _ rfl (heap_alloc_new w (.cells kindsA 162)) Tryz.underlying162 rfl (by rw [info_kinds]; rfl)) rfl ⟨rfl, (Below.refl _ _).alloc (Nat.le_refl _) _⟩
set_option maxRecDepth 100000 in
theorem right_1 (x y c d n : Int) (b : Bool) (hn0 : 0 ≤ n) (hn8 : n ≤ 8)
    (hq : ∀ W, Calls Tryz.prog 174 #[.agg #[.int .i64 1, .int .i64 x, .int .i64 y, .int .i64 c, .int .i64 d], .int .i64 n] W (Gives (.bool b) W)) (w : World) :
    Calls Tryz.prog 136 #[.agg #[.int .i64 1, .int .i64 x, .int .i64 y, .int .i64 c, .int .i64 d], .int .i64 n] w (Gives (.bool b) w) := by
  obtain ⟨W1, hW1⟩ : ∃ W1, W1 = w.alloc (.cells #[.int .i64 1, .int .i64 x, .int .i64 y, .int .i64 c, .int .i64 d] 73) := ⟨_, rfl⟩
  have hB : Below w.heap.size w W1 := by rw [hW1]; exact (Below.refl _ _).alloc (Nat.le_refl _) _
  have hH : Holds W1 w.heap.size 73 #[.int .i64 1, .int .i64 x, .int .i64 y, .int .i64 c, .int .i64 d] := by rw [hW1]; exact Holds.new _ _ _
  have hW1' := Lib.hid hW1
  have k0 := hH.cell 0
  have hB' := Lib.hid hB
  have hH' := Lib.hid hH
  have hq' := Lib.hid hq
  have hix : ∀ W, (Instr.index 162 (.agg kindsA) (.int .i64 1)).run Tryz.prog W = .ok (.agg #[.func (.func 174) #[] #[], .func (.func 175) #[] #[]]) W := fun W => by kernel_rfl
  have hfd : ∀ W, (Instr.field 161 (.agg #[.func (.func 174) #[] #[], .func (.func 175) #[] #[]]) 0).run Tryz.prog W = .ok (.func (.func 174) #[] #[]) W := fun W => by kernel_rfl
  have hn1 : ¬ n < 0 := by omega
  have hn2 : ¬ 8 < n := by omega
  clear hB hH hW1 hq hn0 hn8
  go_enter Tryz.func136, Tryz.ntmps136
  go_wp2
  rw [← hW1'.out]
  have hc0 : ∀ W, Below W1.heap.size W1 W → W.cell? ⟨w.heap.size, 0, none⟩ = some (.int .i64 1) := fun W hW => (hH'.out.below hW hH'.out.lt).cell 0
  have hc1 : ∀ W, Below W1.heap.size W1 W → W.cell? ⟨w.heap.size, 1, none⟩ = some (.int .i64 x) := fun W hW => (hH'.out.below hW hH'.out.lt).cell 1
  have hc2 : ∀ W, Below W1.heap.size W1 W → W.cell? ⟨w.heap.size, 2, none⟩ = some (.int .i64 y) := fun W hW => (hH'.out.below hW hH'.out.lt).cell 2
  have hc3 : ∀ W, Below W1.heap.size W1 W → W.cell? ⟨w.heap.size, 3, none⟩ = some (.int .i64 c) := fun W hW => (hH'.out.below hW hH'.out.lt).cell 3
  have hc4 : ∀ W, Below W1.heap.size W1 W → W.cell? ⟨w.heap.size, 4, none⟩ = some (.int .i64 d) := fun W hW => (hH'.out.below hW hH'.out.lt).cell 4
  clear k0
  refine wp_drawn_on (fun W => Below W1.heap.size W1 W) (by kernel_rfl) ((Below.refl _ _).drew) (fun hHeld => ?_)
  refine wpAnyH_take (i := 1) (oi := { dst := some 22, op := Go.Op.fieldAddr 73 (Go.Operand.tmp 2) 0, type := 0, pos := "prog.go:130", after := #[], guard := none }) (v := ?v1) rfl (by kernel_rfl) (by kernel_rfl) (by kernel_rfl) (fun _ _ _ h => h) (Or.inl ⟨by kernel_rfl, ?h1⟩) (by assumption) ?r1
  case h1 => (intro w hSw; (try dsimp only at hSw); go_simp; try with_reducible rfl)
  try simp only [Act.put, List.setIfInBounds_toArray, List.set_cons_zero, List.set_cons_succ]
  refine wpAnyH_take (i := 2) (oi := { dst := some 23, op := Go.Op.load 3 (Go.Operand.tmp 22), type := 3, pos := "prog.go:130", after := #[{ on := 1, ground := Go.Ground.data }], guard := none }) (v := ?v2) rfl (by kernel_rfl) (by kernel_rfl) (by kernel_rfl) (fun _ _ _ h => h) (Or.inl ⟨by kernel_rfl, ?h2⟩) (by assumption) ?r2
  case h2 => (intro w hSw; (try dsimp only at hSw); go_simp; try with_reducible rfl)
  try simp only [Act.put, List.setIfInBounds_toArray, List.set_cons_zero, List.set_cons_succ]
  refine wpAnyH_take (i := 5) (oi := { dst := some 26, op := Go.Op.load 73 (Go.Operand.tmp 2), type := 73, pos := "prog.go:130", after := #[], guard := none }) (v := ?v3) rfl (by kernel_rfl) (by kernel_rfl) (by kernel_rfl) (fun _ _ _ h => h) (Or.inl ⟨by kernel_rfl, ?h3⟩) (by assumption) ?r3
  case h3 => (intro w hSw; (try dsimp only at hSw); go_simp; try with_reducible rfl)
  try simp only [Act.put, List.setIfInBounds_toArray, List.set_cons_zero, List.set_cons_succ]
  refine wpAnyH_take (i := 6) (oi := { dst := some 27, op := Go.Op.move (Go.Operand.tmp 1), type := 3, pos := "prog.go:130", after := #[], guard := none }) (v := ?v4) rfl (by kernel_rfl) (by kernel_rfl) (by kernel_rfl) (fun _ _ _ h => h) (Or.inl ⟨by kernel_rfl, ?h4⟩) (by assumption) ?r4
  case h4 => (intro w hSw; (try dsimp only at hSw); go_simp; try with_reducible rfl)
  try simp only [Act.put, List.setIfInBounds_toArray, List.set_cons_zero, List.set_cons_succ]
  refine wpAnyH_ready (rs := [0]) (by kernel_rfl) (by simp) ?_
  refine AllReadyH.cons (o := { dst := some 21, op := Go.Op.call { callee := Go.Callee.value (Go.Operand.func 137), args := #[], argTypes := #[] }, type := 162, pos := "prog.go:130", after := #[], guard := none }) rfl (fun K hK => ?_) AllReadyH.nil
  go_simp
  refine (kinds_any _).mono ?_
  rintro e u0 ⟨rfl, b0⟩
  have hx0 := hHeld.trans (b0.mono hHeld.size)
  go_simp
  refine hK.out _ _ (hx0) (fun hHeld => ?_)
  clear hK K
  try simp only [Act.put, List.setIfInBounds_toArray, List.set_cons_zero, List.set_cons_succ]
  refine wpAnyH_take (i := 3) (oi := { dst := some 24, op := Go.Op.index 162 (Go.Operand.tmp 21) (Go.Operand.tmp 23), type := 161, pos := "prog.go:130", after := #[{ on := 0, ground := Go.Ground.data }, { on := 2, ground := Go.Ground.data }], guard := none }) (v := ?v5) rfl (by kernel_rfl) (by kernel_rfl) (by kernel_rfl) (fun _ _ _ h => h) (Or.inl ⟨by kernel_rfl, ?h5⟩) (by assumption) ?r5
  case h5 => (intro w hSw; (try dsimp only at hSw); go_simp; try with_reducible rfl)
  try simp only [Act.put, List.setIfInBounds_toArray, List.set_cons_zero, List.set_cons_succ]
  refine wpAnyH_take (i := 4) (oi := { dst := some 25, op := Go.Op.field 161 (Go.Operand.tmp 24) 0, type := 119, pos := "prog.go:130", after := #[{ on := 3, ground := Go.Ground.data }], guard := none }) (v := ?v6) rfl (by kernel_rfl) (by kernel_rfl) (by kernel_rfl) (fun _ _ _ h => h) (Or.inl ⟨by kernel_rfl, ?h6⟩) (by assumption) ?r6
  case h6 => (intro w hSw; (try dsimp only at hSw); go_simp; try with_reducible rfl)
  try simp only [Act.put, List.setIfInBounds_toArray, List.set_cons_zero, List.set_cons_succ]
  refine wpAnyH_ready (rs := [7]) (by kernel_rfl) (by simp) ?_
  refine AllReadyH.cons (o := { dst := some 28, op := Go.Op.call { callee := Go.Callee.value (Go.Operand.tmp 25), args := #[Go.Operand.tmp 26, Go.Operand.tmp 27], argTypes := #[73, 3] }, type := 4, pos := "prog.go:130", after := #[{ on := 4, ground := Go.Ground.data }, { on := 5, ground := Go.Ground.data }, { on := 6, ground := Go.Ground.data }, { on := 0, ground := Go.Ground.chain }], guard := none }) rfl (fun K hK => ?_) AllReadyH.nil
  go_simp
  refine (hq'.out _).mono ?_
  rintro e u7 ⟨rfl, b7⟩
  have hx7 := hHeld.trans (b7.mono hHeld.size)
  go_simp
  refine hK.out _ _ (hx7) (fun hHeld => ?_)
  clear hK K
  try simp only [Act.put, List.setIfInBounds_toArray, List.set_cons_zero, List.set_cons_succ]
  refine wpAnyH_take (i := 8) (oi := { dst := some 4, op := Go.Op.assign (Go.Operand.tmp 28), type := 4, pos := "prog.go:130", after := #[{ on := 7, ground := Go.Ground.data }, { on := 7, ground := Go.Ground.chain }, { on := 0, ground := Go.Ground.phase }, { on := 1, ground := Go.Ground.phase }, { on := 2, ground := Go.Ground.phase }, { on := 3, ground := Go.Ground.phase }, { on := 4, ground := Go.Ground.phase }, { on := 5, ground := Go.Ground.phase }, { on := 6, ground := Go.Ground.phase }, { on := 7, ground := Go.Ground.phase }], guard := none }) (v := ?v7) rfl (by kernel_rfl) (by kernel_rfl) (by kernel_rfl) (fun _ _ _ h => h) (Or.inl ⟨by kernel_rfl, ?h7⟩) (by assumption) ?r7
  case h7 => (intro w hSw; (try dsimp only at hSw); go_simp; try with_reducible rfl)
  try simp only [Act.put, List.setIfInBounds_toArray, List.set_cons_zero, List.set_cons_succ]
  refine wpAnyH_done (by kernel_rfl) ?_ _
  have hx := Lib.hid hHeld
  go_wp2
  go_ret
  exact ⟨rfl, hB'.out.trans (hx.out.mono hB'.out.size)⟩
set_option maxRecDepth 100000 in
theorem right_2 (x y c d n : Int) (b : Bool) (hn0 : 0 ≤ n) (hn8 : n ≤ 8)
    (hq : ∀ W, Calls Tryz.prog 176 #[.agg #[.int .i64 2, .int .i64 x, .int .i64 y, .int .i64 c, .int .i64 d], .int .i64 n] W (Gives (.bool b) W)) (w : World) :
    Calls Tryz.prog 136 #[.agg #[.int .i64 2, .int .i64 x, .int .i64 y, .int .i64 c, .int .i64 d], .int .i64 n] w (Gives (.bool b) w) := by
  obtain ⟨W1, hW1⟩ : ∃ W1, W1 = w.alloc (.cells #[.int .i64 2, .int .i64 x, .int .i64 y, .int .i64 c, .int .i64 d] 73) := ⟨_, rfl⟩
  have hB : Below w.heap.size w W1 := by rw [hW1]; exact (Below.refl _ _).alloc (Nat.le_refl _) _
  have hH : Holds W1 w.heap.size 73 #[.int .i64 2, .int .i64 x, .int .i64 y, .int .i64 c, .int .i64 d] := by rw [hW1]; exact Holds.new _ _ _
  have hW1' := Lib.hid hW1
  have k0 := hH.cell 0
  have hB' := Lib.hid hB
  have hH' := Lib.hid hH
  have hq' := Lib.hid hq
  have hix : ∀ W, (Instr.index 162 (.agg kindsA) (.int .i64 2)).run Tryz.prog W = .ok (.agg #[.func (.func 176) #[] #[], .func (.func 177) #[] #[]]) W := fun W => by kernel_rfl
  have hfd : ∀ W, (Instr.field 161 (.agg #[.func (.func 176) #[] #[], .func (.func 177) #[] #[]]) 0).run Tryz.prog W = .ok (.func (.func 176) #[] #[]) W := fun W => by kernel_rfl
  have hn1 : ¬ n < 0 := by omega
  have hn2 : ¬ 8 < n := by omega
  clear hB hH hW1 hq hn0 hn8
  go_enter Tryz.func136, Tryz.ntmps136
  go_wp2
  rw [← hW1'.out]
  have hc0 : ∀ W, Below W1.heap.size W1 W → W.cell? ⟨w.heap.size, 0, none⟩ = some (.int .i64 2) := fun W hW => (hH'.out.below hW hH'.out.lt).cell 0
  have hc1 : ∀ W, Below W1.heap.size W1 W → W.cell? ⟨w.heap.size, 1, none⟩ = some (.int .i64 x) := fun W hW => (hH'.out.below hW hH'.out.lt).cell 1
  have hc2 : ∀ W, Below W1.heap.size W1 W → W.cell? ⟨w.heap.size, 2, none⟩ = some (.int .i64 y) := fun W hW => (hH'.out.below hW hH'.out.lt).cell 2
  have hc3 : ∀ W, Below W1.heap.size W1 W → W.cell? ⟨w.heap.size, 3, none⟩ = some (.int .i64 c) := fun W hW => (hH'.out.below hW hH'.out.lt).cell 3
  have hc4 : ∀ W, Below W1.heap.size W1 W → W.cell? ⟨w.heap.size, 4, none⟩ = some (.int .i64 d) := fun W hW => (hH'.out.below hW hH'.out.lt).cell 4
  clear k0
  refine wp_drawn_on (fun W => Below W1.heap.size W1 W) (by kernel_rfl) ((Below.refl _ _).drew) (fun hHeld => ?_)
  refine wpAnyH_take (i := 1) (oi := { dst := some 22, op := Go.Op.fieldAddr 73 (Go.Operand.tmp 2) 0, type := 0, pos := "prog.go:130", after := #[], guard := none }) (v := ?v8) rfl (by kernel_rfl) (by kernel_rfl) (by kernel_rfl) (fun _ _ _ h => h) (Or.inl ⟨by kernel_rfl, ?h8⟩) (by assumption) ?r8
  case h8 => (intro w hSw; (try dsimp only at hSw); go_simp; try with_reducible rfl)
  try simp only [Act.put, List.setIfInBounds_toArray, List.set_cons_zero, List.set_cons_succ]
  refine wpAnyH_take (i := 2) (oi := { dst := some 23, op := Go.Op.load 3 (Go.Operand.tmp 22), type := 3, pos := "prog.go:130", after := #[{ on := 1, ground := Go.Ground.data }], guard := none }) (v := ?v9) rfl (by kernel_rfl) (by kernel_rfl) (by kernel_rfl) (fun _ _ _ h => h) (Or.inl ⟨by kernel_rfl, ?h9⟩) (by assumption) ?r9
  case h9 => (intro w hSw; (try dsimp only at hSw); go_simp; try with_reducible rfl)
  try simp only [Act.put, List.setIfInBounds_toArray, List.set_cons_zero, List.set_cons_succ]
  refine wpAnyH_take (i := 5) (oi := { dst := some 26, op := Go.Op.load 73 (Go.Operand.tmp 2), type := 73, pos := "prog.go:130", after := #[], guard := none }) (v := ?v10) rfl (by kernel_rfl) (by kernel_rfl) (by kernel_rfl) (fun _ _ _ h => h) (Or.inl ⟨by kernel_rfl, ?h10⟩) (by assumption) ?r10
  case h10 => (intro w hSw; (try dsimp only at hSw); go_simp; try with_reducible rfl)
  try simp only [Act.put, List.setIfInBounds_toArray, List.set_cons_zero, List.set_cons_succ]
  refine wpAnyH_take (i := 6) (oi := { dst := some 27, op := Go.Op.move (Go.Operand.tmp 1), type := 3, pos := "prog.go:130", after := #[], guard := none }) (v := ?v11) rfl (by kernel_rfl) (by kernel_rfl) (by kernel_rfl) (fun _ _ _ h => h) (Or.inl ⟨by kernel_rfl, ?h11⟩) (by assumption) ?r11
  case h11 => (intro w hSw; (try dsimp only at hSw); go_simp; try with_reducible rfl)
  try simp only [Act.put, List.setIfInBounds_toArray, List.set_cons_zero, List.set_cons_succ]
  refine wpAnyH_ready (rs := [0]) (by kernel_rfl) (by simp) ?_
  refine AllReadyH.cons (o := { dst := some 21, op := Go.Op.call { callee := Go.Callee.value (Go.Operand.func 137), args := #[], argTypes := #[] }, type := 162, pos := "prog.go:130", after := #[], guard := none }) rfl (fun K hK => ?_) AllReadyH.nil
  go_simp
  refine (kinds_any _).mono ?_
  rintro e u0 ⟨rfl, b0⟩
  have hx0 := hHeld.trans (b0.mono hHeld.size)
  go_simp
  refine hK.out _ _ (hx0) (fun hHeld => ?_)
  clear hK K
  try simp only [Act.put, List.setIfInBounds_toArray, List.set_cons_zero, List.set_cons_succ]
  refine wpAnyH_take (i := 3) (oi := { dst := some 24, op := Go.Op.index 162 (Go.Operand.tmp 21) (Go.Operand.tmp 23), type := 161, pos := "prog.go:130", after := #[{ on := 0, ground := Go.Ground.data }, { on := 2, ground := Go.Ground.data }], guard := none }) (v := ?v12) rfl (by kernel_rfl) (by kernel_rfl) (by kernel_rfl) (fun _ _ _ h => h) (Or.inl ⟨by kernel_rfl, ?h12⟩) (by assumption) ?r12
  case h12 => (intro w hSw; (try dsimp only at hSw); go_simp; try with_reducible rfl)
  try simp only [Act.put, List.setIfInBounds_toArray, List.set_cons_zero, List.set_cons_succ]
  refine wpAnyH_take (i := 4) (oi := { dst := some 25, op := Go.Op.field 161 (Go.Operand.tmp 24) 0, type := 119, pos := "prog.go:130", after := #[{ on := 3, ground := Go.Ground.data }], guard := none }) (v := ?v13) rfl (by kernel_rfl) (by kernel_rfl) (by kernel_rfl) (fun _ _ _ h => h) (Or.inl ⟨by kernel_rfl, ?h13⟩) (by assumption) ?r13
  case h13 => (intro w hSw; (try dsimp only at hSw); go_simp; try with_reducible rfl)
  try simp only [Act.put, List.setIfInBounds_toArray, List.set_cons_zero, List.set_cons_succ]
  refine wpAnyH_ready (rs := [7]) (by kernel_rfl) (by simp) ?_
  refine AllReadyH.cons (o := { dst := some 28, op := Go.Op.call { callee := Go.Callee.value (Go.Operand.tmp 25), args := #[Go.Operand.tmp 26, Go.Operand.tmp 27], argTypes := #[73, 3] }, type := 4, pos := "prog.go:130", after := #[{ on := 4, ground := Go.Ground.data }, { on := 5, ground := Go.Ground.data }, { on := 6, ground := Go.Ground.data }, { on := 0, ground := Go.Ground.chain }], guard := none }) rfl (fun K hK => ?_) AllReadyH.nil
  go_simp
  refine (hq'.out _).mono ?_
  rintro e u7 ⟨rfl, b7⟩
  have hx7 := hHeld.trans (b7.mono hHeld.size)
  go_simp
  refine hK.out _ _ (hx7) (fun hHeld => ?_)
  clear hK K
  try simp only [Act.put, List.setIfInBounds_toArray, List.set_cons_zero, List.set_cons_succ]
  refine wpAnyH_take (i := 8) (oi := { dst := some 4, op := Go.Op.assign (Go.Operand.tmp 28), type := 4, pos := "prog.go:130", after := #[{ on := 7, ground := Go.Ground.data }, { on := 7, ground := Go.Ground.chain }, { on := 0, ground := Go.Ground.phase }, { on := 1, ground := Go.Ground.phase }, { on := 2, ground := Go.Ground.phase }, { on := 3, ground := Go.Ground.phase }, { on := 4, ground := Go.Ground.phase }, { on := 5, ground := Go.Ground.phase }, { on := 6, ground := Go.Ground.phase }, { on := 7, ground := Go.Ground.phase }], guard := none }) (v := ?v14) rfl (by kernel_rfl) (by kernel_rfl) (by kernel_rfl) (fun _ _ _ h => h) (Or.inl ⟨by kernel_rfl, ?h14⟩) (by assumption) ?r14
  case h14 => (intro w hSw; (try dsimp only at hSw); go_simp; try with_reducible rfl)
  try simp only [Act.put, List.setIfInBounds_toArray, List.set_cons_zero, List.set_cons_succ]
  refine wpAnyH_done (by kernel_rfl) ?_ _
  have hx := Lib.hid hHeld
  go_wp2
  go_ret
  exact ⟨rfl, hB'.out.trans (hx.out.mono hB'.out.size)⟩
set_option maxRecDepth 100000 in
theorem right_3 (x y c d n : Int) (b : Bool) (hn0 : 0 ≤ n) (hn8 : n ≤ 8)
    (hq : ∀ W, Calls Tryz.prog 178 #[.agg #[.int .i64 3, .int .i64 x, .int .i64 y, .int .i64 c, .int .i64 d], .int .i64 n] W (Gives (.bool b) W)) (w : World) :
    Calls Tryz.prog 136 #[.agg #[.int .i64 3, .int .i64 x, .int .i64 y, .int .i64 c, .int .i64 d], .int .i64 n] w (Gives (.bool b) w) := by
  obtain ⟨W1, hW1⟩ : ∃ W1, W1 = w.alloc (.cells #[.int .i64 3, .int .i64 x, .int .i64 y, .int .i64 c, .int .i64 d] 73) := ⟨_, rfl⟩
  have hB : Below w.heap.size w W1 := by rw [hW1]; exact (Below.refl _ _).alloc (Nat.le_refl _) _
  have hH : Holds W1 w.heap.size 73 #[.int .i64 3, .int .i64 x, .int .i64 y, .int .i64 c, .int .i64 d] := by rw [hW1]; exact Holds.new _ _ _
  have hW1' := Lib.hid hW1
  have k0 := hH.cell 0
  have hB' := Lib.hid hB
  have hH' := Lib.hid hH
  have hq' := Lib.hid hq
  have hix : ∀ W, (Instr.index 162 (.agg kindsA) (.int .i64 3)).run Tryz.prog W = .ok (.agg #[.func (.func 178) #[] #[], .func (.func 179) #[] #[]]) W := fun W => by kernel_rfl
  have hfd : ∀ W, (Instr.field 161 (.agg #[.func (.func 178) #[] #[], .func (.func 179) #[] #[]]) 0).run Tryz.prog W = .ok (.func (.func 178) #[] #[]) W := fun W => by kernel_rfl
  have hn1 : ¬ n < 0 := by omega
  have hn2 : ¬ 8 < n := by omega
  clear hB hH hW1 hq hn0 hn8
  go_enter Tryz.func136, Tryz.ntmps136
  go_wp2
  rw [← hW1'.out]
  have hc0 : ∀ W, Below W1.heap.size W1 W → W.cell? ⟨w.heap.size, 0, none⟩ = some (.int .i64 3) := fun W hW => (hH'.out.below hW hH'.out.lt).cell 0
  have hc1 : ∀ W, Below W1.heap.size W1 W → W.cell? ⟨w.heap.size, 1, none⟩ = some (.int .i64 x) := fun W hW => (hH'.out.below hW hH'.out.lt).cell 1
  have hc2 : ∀ W, Below W1.heap.size W1 W → W.cell? ⟨w.heap.size, 2, none⟩ = some (.int .i64 y) := fun W hW => (hH'.out.below hW hH'.out.lt).cell 2
  have hc3 : ∀ W, Below W1.heap.size W1 W → W.cell? ⟨w.heap.size, 3, none⟩ = some (.int .i64 c) := fun W hW => (hH'.out.below hW hH'.out.lt).cell 3
  have hc4 : ∀ W, Below W1.heap.size W1 W → W.cell? ⟨w.heap.size, 4, none⟩ = some (.int .i64 d) := fun W hW => (hH'.out.below hW hH'.out.lt).cell 4
  clear k0
  refine wp_drawn_on (fun W => Below W1.heap.size W1 W) (by kernel_rfl) ((Below.refl _ _).drew) (fun hHeld => ?_)
  refine wpAnyH_take (i := 1) (oi := { dst := some 22, op := Go.Op.fieldAddr 73 (Go.Operand.tmp 2) 0, type := 0, pos := "prog.go:130", after := #[], guard := none }) (v := ?v15) rfl (by kernel_rfl) (by kernel_rfl) (by kernel_rfl) (fun _ _ _ h => h) (Or.inl ⟨by kernel_rfl, ?h15⟩) (by assumption) ?r15
  case h15 => (intro w hSw; (try dsimp only at hSw); go_simp; try with_reducible rfl)
  try simp only [Act.put, List.setIfInBounds_toArray, List.set_cons_zero, List.set_cons_succ]
  refine wpAnyH_take (i := 2) (oi := { dst := some 23, op := Go.Op.load 3 (Go.Operand.tmp 22), type := 3, pos := "prog.go:130", after := #[{ on := 1, ground := Go.Ground.data }], guard := none }) (v := ?v16) rfl (by kernel_rfl) (by kernel_rfl) (by kernel_rfl) (fun _ _ _ h => h) (Or.inl ⟨by kernel_rfl, ?h16⟩) (by assumption) ?r16
  case h16 => (intro w hSw; (try dsimp only at hSw); go_simp; try with_reducible rfl)
  try simp only [Act.put, List.setIfInBounds_toArray, List.set_cons_zero, List.set_cons_succ]
  refine wpAnyH_take (i := 5) (oi := { dst := some 26, op := Go.Op.load 73 (Go.Operand.tmp 2), type := 73, pos := "prog.go:130", after := #[], guard := none }) (v := ?v17) rfl (by kernel_rfl) (by kernel_rfl) (by kernel_rfl) (fun _ _ _ h => h) (Or.inl ⟨by kernel_rfl, ?h17⟩) (by assumption) ?r17
  case h17 => (intro w hSw; (try dsimp only at hSw); go_simp; try with_reducible rfl)
  try simp only [Act.put, List.setIfInBounds_toArray, List.set_cons_zero, List.set_cons_succ]
  refine wpAnyH_take (i := 6) (oi := { dst := some 27, op := Go.Op.move (Go.Operand.tmp 1), type := 3, pos := "prog.go:130", after := #[], guard := none }) (v := ?v18) rfl (by kernel_rfl) (by kernel_rfl) (by kernel_rfl) (fun _ _ _ h => h) (Or.inl ⟨by kernel_rfl, ?h18⟩) (by assumption) ?r18
  case h18 => (intro w hSw; (try dsimp only at hSw); go_simp; try with_reducible rfl)
  try simp only [Act.put, List.setIfInBounds_toArray, List.set_cons_zero, List.set_cons_succ]
  refine wpAnyH_ready (rs := [0]) (by kernel_rfl) (by simp) ?_
  refine AllReadyH.cons (o := { dst := some 21, op := Go.Op.call { callee := Go.Callee.value (Go.Operand.func 137), args := #[], argTypes := #[] }, type := 162, pos := "prog.go:130", after := #[], guard := none }) rfl (fun K hK => ?_) AllReadyH.nil
  go_simp
  refine (kinds_any _).mono ?_
  rintro e u0 ⟨rfl, b0⟩
  have hx0 := hHeld.trans (b0.mono hHeld.size)
  go_simp
  refine hK.out _ _ (hx0) (fun hHeld => ?_)
  clear hK K
  try simp only [Act.put, List.setIfInBounds_toArray, List.set_cons_zero, List.set_cons_succ]
  refine wpAnyH_take (i := 3) (oi := { dst := some 24, op := Go.Op.index 162 (Go.Operand.tmp 21) (Go.Operand.tmp 23), type := 161, pos := "prog.go:130", after := #[{ on := 0, ground := Go.Ground.data }, { on := 2, ground := Go.Ground.data }], guard := none }) (v := ?v19) rfl (by kernel_rfl) (by kernel_rfl) (by kernel_rfl) (fun _ _ _ h => h) (Or.inl ⟨by kernel_rfl, ?h19⟩) (by assumption) ?r19
  case h19 => (intro w hSw; (try dsimp only at hSw); go_simp; try with_reducible rfl)
  try simp only [Act.put, List.setIfInBounds_toArray, List.set_cons_zero, List.set_cons_succ]
  refine wpAnyH_take (i := 4) (oi := { dst := some 25, op := Go.Op.field 161 (Go.Operand.tmp 24) 0, type := 119, pos := "prog.go:130", after := #[{ on := 3, ground := Go.Ground.data }], guard := none }) (v := ?v20) rfl (by kernel_rfl) (by kernel_rfl) (by kernel_rfl) (fun _ _ _ h => h) (Or.inl ⟨by kernel_rfl, ?h20⟩) (by assumption) ?r20
  case h20 => (intro w hSw; (try dsimp only at hSw); go_simp; try with_reducible rfl)
  try simp only [Act.put, List.setIfInBounds_toArray, List.set_cons_zero, List.set_cons_succ]
  refine wpAnyH_ready (rs := [7]) (by kernel_rfl) (by simp) ?_
  refine AllReadyH.cons (o := { dst := some 28, op := Go.Op.call { callee := Go.Callee.value (Go.Operand.tmp 25), args := #[Go.Operand.tmp 26, Go.Operand.tmp 27], argTypes := #[73, 3] }, type := 4, pos := "prog.go:130", after := #[{ on := 4, ground := Go.Ground.data }, { on := 5, ground := Go.Ground.data }, { on := 6, ground := Go.Ground.data }, { on := 0, ground := Go.Ground.chain }], guard := none }) rfl (fun K hK => ?_) AllReadyH.nil
  go_simp
  refine (hq'.out _).mono ?_
  rintro e u7 ⟨rfl, b7⟩
  have hx7 := hHeld.trans (b7.mono hHeld.size)
  go_simp
  refine hK.out _ _ (hx7) (fun hHeld => ?_)
  clear hK K
  try simp only [Act.put, List.setIfInBounds_toArray, List.set_cons_zero, List.set_cons_succ]
  refine wpAnyH_take (i := 8) (oi := { dst := some 4, op := Go.Op.assign (Go.Operand.tmp 28), type := 4, pos := "prog.go:130", after := #[{ on := 7, ground := Go.Ground.data }, { on := 7, ground := Go.Ground.chain }, { on := 0, ground := Go.Ground.phase }, { on := 1, ground := Go.Ground.phase }, { on := 2, ground := Go.Ground.phase }, { on := 3, ground := Go.Ground.phase }, { on := 4, ground := Go.Ground.phase }, { on := 5, ground := Go.Ground.phase }, { on := 6, ground := Go.Ground.phase }, { on := 7, ground := Go.Ground.phase }], guard := none }) (v := ?v21) rfl (by kernel_rfl) (by kernel_rfl) (by kernel_rfl) (fun _ _ _ h => h) (Or.inl ⟨by kernel_rfl, ?h21⟩) (by assumption) ?r21
  case h21 => (intro w hSw; (try dsimp only at hSw); go_simp; try with_reducible rfl)
  try simp only [Act.put, List.setIfInBounds_toArray, List.set_cons_zero, List.set_cons_succ]
  refine wpAnyH_done (by kernel_rfl) ?_ _
  have hx := Lib.hid hHeld
  go_wp2
  go_ret
  exact ⟨rfl, hB'.out.trans (hx.out.mono hB'.out.size)⟩
set_option maxRecDepth 100000 in
theorem right_4 (x y c d n : Int) (b : Bool) (hn0 : 0 ≤ n) (hn8 : n ≤ 8)
    (hq : ∀ W, Calls Tryz.prog 180 #[.agg #[.int .i64 4, .int .i64 x, .int .i64 y, .int .i64 c, .int .i64 d], .int .i64 n] W (Gives (.bool b) W)) (w : World) :
    Calls Tryz.prog 136 #[.agg #[.int .i64 4, .int .i64 x, .int .i64 y, .int .i64 c, .int .i64 d], .int .i64 n] w (Gives (.bool b) w) := by
  obtain ⟨W1, hW1⟩ : ∃ W1, W1 = w.alloc (.cells #[.int .i64 4, .int .i64 x, .int .i64 y, .int .i64 c, .int .i64 d] 73) := ⟨_, rfl⟩
  have hB : Below w.heap.size w W1 := by rw [hW1]; exact (Below.refl _ _).alloc (Nat.le_refl _) _
  have hH : Holds W1 w.heap.size 73 #[.int .i64 4, .int .i64 x, .int .i64 y, .int .i64 c, .int .i64 d] := by rw [hW1]; exact Holds.new _ _ _
  have hW1' := Lib.hid hW1
  have k0 := hH.cell 0
  have hB' := Lib.hid hB
  have hH' := Lib.hid hH
  have hq' := Lib.hid hq
  have hix : ∀ W, (Instr.index 162 (.agg kindsA) (.int .i64 4)).run Tryz.prog W = .ok (.agg #[.func (.func 180) #[] #[], .func (.func 181) #[] #[]]) W := fun W => by kernel_rfl
  have hfd : ∀ W, (Instr.field 161 (.agg #[.func (.func 180) #[] #[], .func (.func 181) #[] #[]]) 0).run Tryz.prog W = .ok (.func (.func 180) #[] #[]) W := fun W => by kernel_rfl
  have hn1 : ¬ n < 0 := by omega
  have hn2 : ¬ 8 < n := by omega
  clear hB hH hW1 hq hn0 hn8
  go_enter Tryz.func136, Tryz.ntmps136
  go_wp2
  rw [← hW1'.out]
  have hc0 : ∀ W, Below W1.heap.size W1 W → W.cell? ⟨w.heap.size, 0, none⟩ = some (.int .i64 4) := fun W hW => (hH'.out.below hW hH'.out.lt).cell 0
  have hc1 : ∀ W, Below W1.heap.size W1 W → W.cell? ⟨w.heap.size, 1, none⟩ = some (.int .i64 x) := fun W hW => (hH'.out.below hW hH'.out.lt).cell 1
  have hc2 : ∀ W, Below W1.heap.size W1 W → W.cell? ⟨w.heap.size, 2, none⟩ = some (.int .i64 y) := fun W hW => (hH'.out.below hW hH'.out.lt).cell 2
  have hc3 : ∀ W, Below W1.heap.size W1 W → W.cell? ⟨w.heap.size, 3, none⟩ = some (.int .i64 c) := fun W hW => (hH'.out.below hW hH'.out.lt).cell 3
  have hc4 : ∀ W, Below W1.heap.size W1 W → W.cell? ⟨w.heap.size, 4, none⟩ = some (.int .i64 d) := fun W hW => (hH'.out.below hW hH'.out.lt).cell 4
  clear k0
  refine wp_drawn_on (fun W => Below W1.heap.size W1 W) (by kernel_rfl) ((Below.refl _ _).drew) (fun hHeld => ?_)
  refine wpAnyH_take (i := 1) (oi := { dst := some 22, op := Go.Op.fieldAddr 73 (Go.Operand.tmp 2) 0, type := 0, pos := "prog.go:130", after := #[], guard := none }) (v := ?v22) rfl (by kernel_rfl) (by kernel_rfl) (by kernel_rfl) (fun _ _ _ h => h) (Or.inl ⟨by kernel_rfl, ?h22⟩) (by assumption) ?r22
  case h22 => (intro w hSw; (try dsimp only at hSw); go_simp; try with_reducible rfl)
  try simp only [Act.put, List.setIfInBounds_toArray, List.set_cons_zero, List.set_cons_succ]
  refine wpAnyH_take (i := 2) (oi := { dst := some 23, op := Go.Op.load 3 (Go.Operand.tmp 22), type := 3, pos := "prog.go:130", after := #[{ on := 1, ground := Go.Ground.data }], guard := none }) (v := ?v23) rfl (by kernel_rfl) (by kernel_rfl) (by kernel_rfl) (fun _ _ _ h => h) (Or.inl ⟨by kernel_rfl, ?h23⟩) (by assumption) ?r23
  case h23 => (intro w hSw; (try dsimp only at hSw); go_simp; try with_reducible rfl)
  try simp only [Act.put, List.setIfInBounds_toArray, List.set_cons_zero, List.set_cons_succ]
  refine wpAnyH_take (i := 5) (oi := { dst := some 26, op := Go.Op.load 73 (Go.Operand.tmp 2), type := 73, pos := "prog.go:130", after := #[], guard := none }) (v := ?v24) rfl (by kernel_rfl) (by kernel_rfl) (by kernel_rfl) (fun _ _ _ h => h) (Or.inl ⟨by kernel_rfl, ?h24⟩) (by assumption) ?r24
  case h24 => (intro w hSw; (try dsimp only at hSw); go_simp; try with_reducible rfl)
  try simp only [Act.put, List.setIfInBounds_toArray, List.set_cons_zero, List.set_cons_succ]
  refine wpAnyH_take (i := 6) (oi := { dst := some 27, op := Go.Op.move (Go.Operand.tmp 1), type := 3, pos := "prog.go:130", after := #[], guard := none }) (v := ?v25) rfl (by kernel_rfl) (by kernel_rfl) (by kernel_rfl) (fun _ _ _ h => h) (Or.inl ⟨by kernel_rfl, ?h25⟩) (by assumption) ?r25
  case h25 => (intro w hSw; (try dsimp only at hSw); go_simp; try with_reducible rfl)
  try simp only [Act.put, List.setIfInBounds_toArray, List.set_cons_zero, List.set_cons_succ]
  refine wpAnyH_ready (rs := [0]) (by kernel_rfl) (by simp) ?_
  refine AllReadyH.cons (o := { dst := some 21, op := Go.Op.call { callee := Go.Callee.value (Go.Operand.func 137), args := #[], argTypes := #[] }, type := 162, pos := "prog.go:130", after := #[], guard := none }) rfl (fun K hK => ?_) AllReadyH.nil
  go_simp
  refine (kinds_any _).mono ?_
  rintro e u0 ⟨rfl, b0⟩
  have hx0 := hHeld.trans (b0.mono hHeld.size)
  go_simp
  refine hK.out _ _ (hx0) (fun hHeld => ?_)
  clear hK K
  try simp only [Act.put, List.setIfInBounds_toArray, List.set_cons_zero, List.set_cons_succ]
  refine wpAnyH_take (i := 3) (oi := { dst := some 24, op := Go.Op.index 162 (Go.Operand.tmp 21) (Go.Operand.tmp 23), type := 161, pos := "prog.go:130", after := #[{ on := 0, ground := Go.Ground.data }, { on := 2, ground := Go.Ground.data }], guard := none }) (v := ?v26) rfl (by kernel_rfl) (by kernel_rfl) (by kernel_rfl) (fun _ _ _ h => h) (Or.inl ⟨by kernel_rfl, ?h26⟩) (by assumption) ?r26
  case h26 => (intro w hSw; (try dsimp only at hSw); go_simp; try with_reducible rfl)
  try simp only [Act.put, List.setIfInBounds_toArray, List.set_cons_zero, List.set_cons_succ]
  refine wpAnyH_take (i := 4) (oi := { dst := some 25, op := Go.Op.field 161 (Go.Operand.tmp 24) 0, type := 119, pos := "prog.go:130", after := #[{ on := 3, ground := Go.Ground.data }], guard := none }) (v := ?v27) rfl (by kernel_rfl) (by kernel_rfl) (by kernel_rfl) (fun _ _ _ h => h) (Or.inl ⟨by kernel_rfl, ?h27⟩) (by assumption) ?r27
  case h27 => (intro w hSw; (try dsimp only at hSw); go_simp; try with_reducible rfl)
  try simp only [Act.put, List.setIfInBounds_toArray, List.set_cons_zero, List.set_cons_succ]
  refine wpAnyH_ready (rs := [7]) (by kernel_rfl) (by simp) ?_
  refine AllReadyH.cons (o := { dst := some 28, op := Go.Op.call { callee := Go.Callee.value (Go.Operand.tmp 25), args := #[Go.Operand.tmp 26, Go.Operand.tmp 27], argTypes := #[73, 3] }, type := 4, pos := "prog.go:130", after := #[{ on := 4, ground := Go.Ground.data }, { on := 5, ground := Go.Ground.data }, { on := 6, ground := Go.Ground.data }, { on := 0, ground := Go.Ground.chain }], guard := none }) rfl (fun K hK => ?_) AllReadyH.nil
  go_simp
  refine (hq'.out _).mono ?_
  rintro e u7 ⟨rfl, b7⟩
  have hx7 := hHeld.trans (b7.mono hHeld.size)
  go_simp
  refine hK.out _ _ (hx7) (fun hHeld => ?_)
  clear hK K
  try simp only [Act.put, List.setIfInBounds_toArray, List.set_cons_zero, List.set_cons_succ]
  refine wpAnyH_take (i := 8) (oi := { dst := some 4, op := Go.Op.assign (Go.Operand.tmp 28), type := 4, pos := "prog.go:130", after := #[{ on := 7, ground := Go.Ground.data }, { on := 7, ground := Go.Ground.chain }, { on := 0, ground := Go.Ground.phase }, { on := 1, ground := Go.Ground.phase }, { on := 2, ground := Go.Ground.phase }, { on := 3, ground := Go.Ground.phase }, { on := 4, ground := Go.Ground.phase }, { on := 5, ground := Go.Ground.phase }, { on := 6, ground := Go.Ground.phase }, { on := 7, ground := Go.Ground.phase }], guard := none }) (v := ?v28) rfl (by kernel_rfl) (by kernel_rfl) (by kernel_rfl) (fun _ _ _ h => h) (Or.inl ⟨by kernel_rfl, ?h28⟩) (by assumption) ?r28
  case h28 => (intro w hSw; (try dsimp only at hSw); go_simp; try with_reducible rfl)
  try simp only [Act.put, List.setIfInBounds_toArray, List.set_cons_zero, List.set_cons_succ]
  refine wpAnyH_done (by kernel_rfl) ?_ _
  have hx := Lib.hid hHeld
  go_wp2
  go_ret
  exact ⟨rfl, hB'.out.trans (hx.out.mono hB'.out.size)⟩
set_option maxRecDepth 100000 in
theorem right_5 (x y c d n : Int) (b : Bool) (hn0 : 0 ≤ n) (hn8 : n ≤ 8)
    (hq : ∀ W, Calls Tryz.prog 180 #[.agg #[.int .i64 5, .int .i64 x, .int .i64 y, .int .i64 c, .int .i64 d], .int .i64 n] W (Gives (.bool b) W)) (w : World) :
    Calls Tryz.prog 136 #[.agg #[.int .i64 5, .int .i64 x, .int .i64 y, .int .i64 c, .int .i64 d], .int .i64 n] w (Gives (.bool b) w) := by
  obtain ⟨W1, hW1⟩ : ∃ W1, W1 = w.alloc (.cells #[.int .i64 5, .int .i64 x, .int .i64 y, .int .i64 c, .int .i64 d] 73) := ⟨_, rfl⟩
  have hB : Below w.heap.size w W1 := by rw [hW1]; exact (Below.refl _ _).alloc (Nat.le_refl _) _
  have hH : Holds W1 w.heap.size 73 #[.int .i64 5, .int .i64 x, .int .i64 y, .int .i64 c, .int .i64 d] := by rw [hW1]; exact Holds.new _ _ _
  have hW1' := Lib.hid hW1
  have k0 := hH.cell 0
  have hB' := Lib.hid hB
  have hH' := Lib.hid hH
  have hq' := Lib.hid hq
  have hix : ∀ W, (Instr.index 162 (.agg kindsA) (.int .i64 5)).run Tryz.prog W = .ok (.agg #[.func (.func 180) #[] #[], .func (.func 182) #[] #[]]) W := fun W => by kernel_rfl
  have hfd : ∀ W, (Instr.field 161 (.agg #[.func (.func 180) #[] #[], .func (.func 182) #[] #[]]) 0).run Tryz.prog W = .ok (.func (.func 180) #[] #[]) W := fun W => by kernel_rfl
  have hn1 : ¬ n < 0 := by omega
  have hn2 : ¬ 8 < n := by omega
  clear hB hH hW1 hq hn0 hn8
  go_enter Tryz.func136, Tryz.ntmps136
  go_wp2
  rw [← hW1'.out]
  have hc0 : ∀ W, Below W1.heap.size W1 W → W.cell? ⟨w.heap.size, 0, none⟩ = some (.int .i64 5) := fun W hW => (hH'.out.below hW hH'.out.lt).cell 0
  have hc1 : ∀ W, Below W1.heap.size W1 W → W.cell? ⟨w.heap.size, 1, none⟩ = some (.int .i64 x) := fun W hW => (hH'.out.below hW hH'.out.lt).cell 1
  have hc2 : ∀ W, Below W1.heap.size W1 W → W.cell? ⟨w.heap.size, 2, none⟩ = some (.int .i64 y) := fun W hW => (hH'.out.below hW hH'.out.lt).cell 2
  have hc3 : ∀ W, Below W1.heap.size W1 W → W.cell? ⟨w.heap.size, 3, none⟩ = some (.int .i64 c) := fun W hW => (hH'.out.below hW hH'.out.lt).cell 3
  have hc4 : ∀ W, Below W1.heap.size W1 W → W.cell? ⟨w.heap.size, 4, none⟩ = some (.int .i64 d) := fun W hW => (hH'.out.below hW hH'.out.lt).cell 4
  clear k0
  refine wp_drawn_on (fun W => Below W1.heap.size W1 W) (by kernel_rfl) ((Below.refl _ _).drew) (fun hHeld => ?_)
  refine wpAnyH_take (i := 1) (oi := { dst := some 22, op := Go.Op.fieldAddr 73 (Go.Operand.tmp 2) 0, type := 0, pos := "prog.go:130", after := #[], guard := none }) (v := ?v29) rfl (by kernel_rfl) (by kernel_rfl) (by kernel_rfl) (fun _ _ _ h => h) (Or.inl ⟨by kernel_rfl, ?h29⟩) (by assumption) ?r29
  case h29 => (intro w hSw; (try dsimp only at hSw); go_simp; try with_reducible rfl)
  try simp only [Act.put, List.setIfInBounds_toArray, List.set_cons_zero, List.set_cons_succ]
  refine wpAnyH_take (i := 2) (oi := { dst := some 23, op := Go.Op.load 3 (Go.Operand.tmp 22), type := 3, pos := "prog.go:130", after := #[{ on := 1, ground := Go.Ground.data }], guard := none }) (v := ?v30) rfl (by kernel_rfl) (by kernel_rfl) (by kernel_rfl) (fun _ _ _ h => h) (Or.inl ⟨by kernel_rfl, ?h30⟩) (by assumption) ?r30
  case h30 => (intro w hSw; (try dsimp only at hSw); go_simp; try with_reducible rfl)
  try simp only [Act.put, List.setIfInBounds_toArray, List.set_cons_zero, List.set_cons_succ]
  refine wpAnyH_take (i := 5) (oi := { dst := some 26, op := Go.Op.load 73 (Go.Operand.tmp 2), type := 73, pos := "prog.go:130", after := #[], guard := none }) (v := ?v31) rfl (by kernel_rfl) (by kernel_rfl) (by kernel_rfl) (fun _ _ _ h => h) (Or.inl ⟨by kernel_rfl, ?h31⟩) (by assumption) ?r31
  case h31 => (intro w hSw; (try dsimp only at hSw); go_simp; try with_reducible rfl)
  try simp only [Act.put, List.setIfInBounds_toArray, List.set_cons_zero, List.set_cons_succ]
  refine wpAnyH_take (i := 6) (oi := { dst := some 27, op := Go.Op.move (Go.Operand.tmp 1), type := 3, pos := "prog.go:130", after := #[], guard := none }) (v := ?v32) rfl (by kernel_rfl) (by kernel_rfl) (by kernel_rfl) (fun _ _ _ h => h) (Or.inl ⟨by kernel_rfl, ?h32⟩) (by assumption) ?r32
  case h32 => (intro w hSw; (try dsimp only at hSw); go_simp; try with_reducible rfl)
  try simp only [Act.put, List.setIfInBounds_toArray, List.set_cons_zero, List.set_cons_succ]
  refine wpAnyH_ready (rs := [0]) (by kernel_rfl) (by simp) ?_
  refine AllReadyH.cons (o := { dst := some 21, op := Go.Op.call { callee := Go.Callee.value (Go.Operand.func 137), args := #[], argTypes := #[] }, type := 162, pos := "prog.go:130", after := #[], guard := none }) rfl (fun K hK => ?_) AllReadyH.nil
  go_simp
  refine (kinds_any _).mono ?_
  rintro e u0 ⟨rfl, b0⟩
  have hx0 := hHeld.trans (b0.mono hHeld.size)
  go_simp
  refine hK.out _ _ (hx0) (fun hHeld => ?_)
  clear hK K
  try simp only [Act.put, List.setIfInBounds_toArray, List.set_cons_zero, List.set_cons_succ]
  refine wpAnyH_take (i := 3) (oi := { dst := some 24, op := Go.Op.index 162 (Go.Operand.tmp 21) (Go.Operand.tmp 23), type := 161, pos := "prog.go:130", after := #[{ on := 0, ground := Go.Ground.data }, { on := 2, ground := Go.Ground.data }], guard := none }) (v := ?v33) rfl (by kernel_rfl) (by kernel_rfl) (by kernel_rfl) (fun _ _ _ h => h) (Or.inl ⟨by kernel_rfl, ?h33⟩) (by assumption) ?r33
  case h33 => (intro w hSw; (try dsimp only at hSw); go_simp; try with_reducible rfl)
  try simp only [Act.put, List.setIfInBounds_toArray, List.set_cons_zero, List.set_cons_succ]
  refine wpAnyH_take (i := 4) (oi := { dst := some 25, op := Go.Op.field 161 (Go.Operand.tmp 24) 0, type := 119, pos := "prog.go:130", after := #[{ on := 3, ground := Go.Ground.data }], guard := none }) (v := ?v34) rfl (by kernel_rfl) (by kernel_rfl) (by kernel_rfl) (fun _ _ _ h => h) (Or.inl ⟨by kernel_rfl, ?h34⟩) (by assumption) ?r34
  case h34 => (intro w hSw; (try dsimp only at hSw); go_simp; try with_reducible rfl)
  try simp only [Act.put, List.setIfInBounds_toArray, List.set_cons_zero, List.set_cons_succ]
  refine wpAnyH_ready (rs := [7]) (by kernel_rfl) (by simp) ?_
  refine AllReadyH.cons (o := { dst := some 28, op := Go.Op.call { callee := Go.Callee.value (Go.Operand.tmp 25), args := #[Go.Operand.tmp 26, Go.Operand.tmp 27], argTypes := #[73, 3] }, type := 4, pos := "prog.go:130", after := #[{ on := 4, ground := Go.Ground.data }, { on := 5, ground := Go.Ground.data }, { on := 6, ground := Go.Ground.data }, { on := 0, ground := Go.Ground.chain }], guard := none }) rfl (fun K hK => ?_) AllReadyH.nil
  go_simp
  refine (hq'.out _).mono ?_
  rintro e u7 ⟨rfl, b7⟩
  have hx7 := hHeld.trans (b7.mono hHeld.size)
  go_simp
  refine hK.out _ _ (hx7) (fun hHeld => ?_)
  clear hK K
  try simp only [Act.put, List.setIfInBounds_toArray, List.set_cons_zero, List.set_cons_succ]
  refine wpAnyH_take (i := 8) (oi := { dst := some 4, op := Go.Op.assign (Go.Operand.tmp 28), type := 4, pos := "prog.go:130", after := #[{ on := 7, ground := Go.Ground.data }, { on := 7, ground := Go.Ground.chain }, { on := 0, ground := Go.Ground.phase }, { on := 1, ground := Go.Ground.phase }, { on := 2, ground := Go.Ground.phase }, { on := 3, ground := Go.Ground.phase }, { on := 4, ground := Go.Ground.phase }, { on := 5, ground := Go.Ground.phase }, { on := 6, ground := Go.Ground.phase }, { on := 7, ground := Go.Ground.phase }], guard := none }) (v := ?v35) rfl (by kernel_rfl) (by kernel_rfl) (by kernel_rfl) (fun _ _ _ h => h) (Or.inl ⟨by kernel_rfl, ?h35⟩) (by assumption) ?r35
  case h35 => (intro w hSw; (try dsimp only at hSw); go_simp; try with_reducible rfl)
  try simp only [Act.put, List.setIfInBounds_toArray, List.set_cons_zero, List.set_cons_succ]
  refine wpAnyH_done (by kernel_rfl) ?_ _
  have hx := Lib.hid hHeld
  go_wp2
  go_ret
  exact ⟨rfl, hB'.out.trans (hx.out.mono hB'.out.size)⟩
end Go.Proofs.YtimgocfkogebmaaGreatDoor
namespace Go.Proofs.YtimgocfkogebmaaGreatDoor
open Go.RowKit
set_option linter.unusedVariables false
set_option linter.unusedSimpArgs false
theorem right_b1 (k x y c d n : Int) (h1 : n < 0) (w : World) : Calls Tryz.prog 136 #[.agg #[.int .i64 k, .int .i64 x, .int .i64 y, .int .i64 c, .int .i64 d], .int .i64 n] w (Gives (.bool false) w) := by
  have hB := Lib.hid ((Below.refl w.heap.size w).alloc (Nat.le_refl _) (.cells #[.int .i64 k, .int .i64 x, .int .i64 y, .int .i64 c, .int .i64 d] 73))
  go_enter Tryz.func136, Tryz.ntmps136
  go_wp2
  go_ret
  exact ⟨rfl, hB.out⟩
theorem right_b2 (k x y c d n : Int) (h1 : ¬ n < 0) (h2 : 8 < n) (w : World) : Calls Tryz.prog 136 #[.agg #[.int .i64 k, .int .i64 x, .int .i64 y, .int .i64 c, .int .i64 d], .int .i64 n] w (Gives (.bool false) w) := by
  have hB := Lib.hid ((Below.refl w.heap.size w).alloc (Nat.le_refl _) (.cells #[.int .i64 k, .int .i64 x, .int .i64 y, .int .i64 c, .int .i64 d] 73))
  go_enter Tryz.func136, Tryz.ntmps136
  go_wp2
  go_ret
  exact ⟨rfl, hB.out⟩
theorem right_b3 (k x y c d n : Int) (h1 : ¬ n < 0) (h2 : ¬ 8 < n) (h3 : k < 1) (w : World) : Calls Tryz.prog 136 #[.agg #[.int .i64 k, .int .i64 x, .int .i64 y, .int .i64 c, .int .i64 d], .int .i64 n] w (Gives (.bool false) w) := by
  have hB := Lib.hid ((Below.refl w.heap.size w).alloc (Nat.le_refl _) (.cells #[.int .i64 k, .int .i64 x, .int .i64 y, .int .i64 c, .int .i64 d] 73))
  go_enter Tryz.func136, Tryz.ntmps136
  go_wp2
  go_ret
  exact ⟨rfl, hB.out⟩
theorem right_b4 (k x y c d n : Int) (h1 : ¬ n < 0) (h2 : ¬ 8 < n) (h3 : ¬ k < 1) (h4 : 5 < k) (w : World) : Calls Tryz.prog 136 #[.agg #[.int .i64 k, .int .i64 x, .int .i64 y, .int .i64 c, .int .i64 d], .int .i64 n] w (Gives (.bool false) w) := by
  have hB := Lib.hid ((Below.refl w.heap.size w).alloc (Nat.le_refl _) (.cells #[.int .i64 k, .int .i64 x, .int .i64 y, .int .i64 c, .int .i64 d] 73))
  go_enter Tryz.func136, Tryz.ntmps136
  go_wp2
  go_ret
  exact ⟨rfl, hB.out⟩
theorem right_any (k x y c d n : Int) (w : World) : Calls Tryz.prog 136 #[.agg #[.int .i64 k, .int .i64 x, .int .i64 y, .int .i64 c, .int .i64 d], .int .i64 n] w (Gives (.bool (rightB k x y c d n)) w) := by
  by_cases h1 : n < 0
  · rw [show rightB k x y c d n = false by unfold rightB; rw [if_pos (.inl h1)]]; exact right_b1 k x y c d n h1 w
  by_cases h2 : 8 < n
  · rw [show rightB k x y c d n = false by unfold rightB; rw [if_pos (.inr (.inl h2))]]; exact right_b2 k x y c d n h1 h2 w
  by_cases h3 : k < 1
  · rw [show rightB k x y c d n = false by unfold rightB; rw [if_pos (.inr (.inr (.inl h3)))]]; exact right_b3 k x y c d n h1 h2 h3 w
  by_cases h4 : 5 < k
  · rw [show rightB k x y c d n = false by unfold rightB; rw [if_pos (.inr (.inr (.inr h4)))]]; exact right_b4 k x y c d n h1 h2 h3 h4 w
  have e : rightB k x y c d n = stmtB k x y c d n := by unfold rightB; rw [if_neg (by omega)]
  rw [e]
  obtain rfl | rfl | rfl | rfl | rfl : k = 1 ∨ k = 2 ∨ k = 3 ∨ k = 4 ∨ k = 5 := by omega
  · exact right_1 x y c d n _ (by omega) (by omega) (fun W => rightSkip_any 1 x y c d n W) w
  · exact right_2 x y c d n _ (by omega) (by omega) (fun W => rightLet_any 2 x y c d n W) w
  · exact right_3 x y c d n _ (by omega) (by omega) (fun W => rightAny_any 3 x y c d n W) w
  · exact right_4 x y c d n _ (by omega) (by omega) (fun W => rightDiff_any 4 x y c d n W) w
  · exact right_5 x y c d n _ (by omega) (by omega) (fun W => rightDiff_any 5 x y c d n W) w
end Go.Proofs.YtimgocfkogebmaaGreatDoor
namespace Go.Proofs.YtimgocfkogebmaaGreatDoor
open Go.RowKit
set_option linter.unusedVariables false
set_option linter.unusedSimpArgs false
def emptyB (n : Int) (l : List Int) : Bool := decide (l = []) && checkB n l
theorem empty_any (n : Int) (a : Option Addr) (m c : Nat) (l : List Int) (w : World) (h : SL w a m c l) :
    Calls Tryz.prog 135 #[.agg #[.int .i64 n, .slice a m c]] w (Gives (.bool (emptyB n l)) w) := by
  have hB := box_below w #[.int .i64 n, .slice a m c] 51
  have hc := Lib.hid (dcheck_any n a m c l _ (h.below hB))
  have hB' := Lib.hid hB
  have hmx := h.max
  by_cases h0 : l = []
  · have hm : m = 0 := by rw [h.len, h0]; rfl
    subst hm
    have hr : Hid (emptyB n l = checkB n l) := Lib.hid (by unfold emptyB; simp [h0])
    have hk := Lib.hid (chk_or n l)
    clear hB h h0
    generalize emptyB n l = R at *
    generalize chk n l = E at *
    generalize checkB n l = y at *
    have hr2 := hr.out
    subst hr2
    go_enter Tryz.func135, Tryz.ntmps135
    go_wp2_with fail
    refine hc.out.mono ?_
    rintro e w1 ⟨rfl, b1⟩
    have hb1 := Lib.hid (hB'.out.trans (b1.mono hB'.out.size))
    rcases hk.out with ⟨rfl, rfl⟩ | ⟨rfl, rfl⟩
    · go_wp2
      go_ret
      exact ⟨rfl, hb1.out⟩
    · go_wp2
      go_ret
      exact ⟨rfl, hb1.out⟩
  · have hm := len_pos h0 h.len
    have e0 : ((m : Int) == 0) = false := by simp; omega
    have e2 : ¬ (m : Int) = 0 := by omega
    have e : emptyB n l = false := by unfold emptyB; rw [decide_eq_false h0, Bool.false_and]
    rw [e]
    clear hB h hm h0 hc e
    go_enter Tryz.func135, Tryz.ntmps135
    go_wp2
    go_ret
    exact ⟨rfl, hB'.out⟩
structure Full (n : Nat) (l : List Int) : Prop where
  le : n ≤ 8
  len : l.length = sz n
  ne : l ≠ []
  fix : l = closedL n l
theorem Full.closed {n : Nat} {l : List Int} (h : Full n l) : Closed n (mat n l) := by
  have := (closedL_is (n := n) (M := l) (by rw [← h.fix]; exact h.ne)).2.1
  rwa [← h.fix] at this
theorem Full.up {n : Nat} {l : List Int} (h : Full n l) {i j : Nat} (hi : i ≤ n) (hj : j ≤ n) : mat n l i j ≤ widestF i j := by
  have := closedL_widest (n := n) (M := l) (by rw [← h.fix]; exact h.ne) hi hj
  rwa [← h.fix] at this
theorem Full.low {n : Nat} {l : List Int} (h : Full n l) {i j : Nat} (hi : i ≤ n) (hj : j ≤ n) : -(widestF j i) ≤ mat n l i j := by
  have h1 := h.closed.tri i i j hi hi hj
  rw [h.closed.zero i hi] at h1
  have := h.up hj hi
  omega
end Go.Proofs.YtimgocfkogebmaaGreatDoor
namespace Go.Proofs.YtimgocfkogebmaaGreatDoor
open Go.RowKit
set_option linter.unusedVariables false
set_option linter.unusedSimpArgs false
def zD : List Int := [0, 1099511627776, 1099511627776, 7, 0, 3, 4, 1099511627780, 0]
def zA : List Int := [0, 1099511627776, 1099511627776, 0]
def EndsZ (n err : Int) (m : Nat) (l : List Int) (w : World) (e : Ending) (w' : World) : Prop :=
  ∃ a c, e = .returned (.tuple #[.agg #[.int .i64 n, .slice a m c], .int .i64 err]) ∧ SL w' a m c l ∧ Below w.heap.size w w'
theorem EndsZ.from {n err : Int} {m : Nat} {l : List Int} {w w1 : World} {e : Ending} {w' : World} (h : EndsZ n err m l w1 e w') (hb : Below w.heap.size w w1) : EndsZ n err m l w e w' := by
  obtain ⟨a, c, rfl, hs, hb2⟩ := h
  exact ⟨a, c, rfl, hs, hb.trans (hb2.mono hb.size)⟩
theorem Gives.from {v : Value} {w w1 : World} {e : Ending} {w' : World} (h : Gives v w1 e w') (hb : Below w.heap.size w w1) : Gives v w e w' := ⟨h.1, hb.trans (h.2.mono hb.size)⟩
structure ZLv (w W : World) (g1 g5 g11 : Nat) (a1 a5 ap a11 : Option Addr) (c1 c5 cp c11 : Nat) : Prop where
  bl : Below w.heap.size w W
  z1 : ZH W g1 (.int .i64 2) (.slice a1 9 c1)
  s1 : SL W a1 9 c1 zD
  z5 : ZH W g5 (.int .i64 2) (.slice a5 0 c5)
  s5 : SL W a5 0 c5 []
  sp : SL W ap 2 cp [7, 4]
  z11 : ZH W g11 (.int .i64 1) (.slice a11 4 c11)
  s11 : SL W a11 4 c11 zA
theorem ZLv.on {w W W' : World} {g1 g5 g11 : Nat} {a1 a5 ap a11 : Option Addr} {c1 c5 cp c11 : Nat} (h : ZLv w W g1 g5 g11 a1 a5 ap a11 c1 c5 cp c11) (hb : Below W.heap.size W W') : ZLv w W' g1 g5 g11 a1 a5 ap a11 c1 c5 cp c11 :=
  ⟨h.bl.trans (hb.mono h.bl.size), h.z1.below hb h.z1.lt, h.s1.below hb, h.z5.below hb h.z5.lt, h.s5.below hb, h.sp.below hb, h.z11.below hb h.z11.lt, h.s11.below hb⟩
end Go.Proofs.YtimgocfkogebmaaGreatDoor
namespace Go.Proofs.YtimgocfkogebmaaGreatDoor
open Go.RowKit
set_option linter.unusedVariables false
set_option linter.unusedSimpArgs false
theorem closed_full {n : Nat} (hn : n ≤ 8) {m : List Int} (h : closedL n m ≠ []) : Full n (closedL n m) := ⟨hn, (closedL_is h).1, h, (closedL_again h).symm⟩
end Go.Proofs.YtimgocfkogebmaaGreatDoor
namespace Go.Proofs.YtimgocfkogebmaaGreatDoor
open Go.RowKit
set_option linter.unusedVariables false
set_option linter.unusedSimpArgs false
theorem closed_small {n : Nat} (hn : n ≤ 8) (m : List Int) : (closedL n m).length ≤ 81 := by
  have := sz_le hn
  by_cases h : closedL n m = []
  · rw [h]; simp
  · have : (closedL n m).length = sz n := (closedL_is h).1
    omega
end Go.Proofs.YtimgocfkogebmaaGreatDoor
namespace Go.Proofs.YtimgocfkogebmaaGreatDoor
open Go.RowKit
set_option linter.unusedVariables false
set_option linter.unusedSimpArgs false
structure Tg (w W : World) (g : Nat) (n : Nat) (a : Option Addr) (m c : Nat) (R : List Int) (aq : Option Addr) (nq cq : Nat) (Q : List Int) : Prop where
  bl : Below w.heap.size w W
  z : ZH W g (.int .i64 n) (.slice a m c)
  s : SL W a m c R
  q : SL W aq nq cq Q
theorem Tg.on {w W W' : World} {g n : Nat} {a : Option Addr} {m c : Nat} {R : List Int} {aq : Option Addr} {nq cq : Nat} {Q : List Int} (h : Tg w W g n a m c R aq nq cq Q) (hb : Below W.heap.size W W') : Tg w W' g n a m c R aq nq cq Q :=
  ⟨h.bl.trans (hb.mono h.bl.size), h.z.below hb h.z.lt, h.s.below hb, h.q.below hb⟩
end Go.Proofs.YtimgocfkogebmaaGreatDoor
namespace Go.Proofs.YtimgocfkogebmaaGreatDoor
open Go.RowKit
set_option linter.unusedVariables false
set_option linter.unusedSimpArgs false
theorem zempty_any (n : Int) (a : Option Addr) (m c : Nat) (l : List Int) (w : World) (h : SL w a m c l) :
    Calls Tryz.prog 143 #[.agg #[.int .i64 n, .slice a m c]] w (Gives (.bool (decide (l = []))) w) := by
  have hB := box_below w #[.int .i64 n, .slice a m c] 51
  have hmx := h.max
  by_cases h0 : l = []
  · rw [decide_eq_true h0]
    have hm : m = 0 := by rw [h.len, h0]; rfl
    subst hm
    clear h h0
    go_enter Tryz.func143, Tryz.ntmps143
    go_wp2
    go_ret
    exact ⟨rfl, hB⟩
  · rw [decide_eq_false h0]
    have hm := len_pos h0 h.len
    have e1 : ((m : Int) == 0) = false := by simp; omega
    clear h h0 hm
    go_enter Tryz.func143, Tryz.ntmps143
    go_wp2
    go_ret
    exact ⟨rfl, hB⟩
theorem iclone_any (A : Option Addr) (l : List Int) (n c : Nat) (hn : n = l.length) (hl : l.length ≤ 1000000) (w : World) (hs : Sees .i64 w.heap.size w A l) :
    Calls Tryz.prog 63 #[.slice A n c] w (Made 3 .i64 w l) := by
  obtain ⟨i0, hi, hz0, hz1, hz2⟩ := info_parts zinfoInt
  subst hn
  cases A with
  | none =>
    have hl0 : l = [] := by
      rcases hs with h | ⟨b, off, h, _⟩
      · exact h
      · cases h
    subst hl0
    have hq := fun W => Lib.run_eql_slice_nil_nil (P := Tryz.prog) W (t := 49) (e := 3) 0 c Tryz.underlying49
    go_enter Tryz.func63, Tryz.ntmps63
    go_wp2
    go_ret
    exact ⟨_, rfl, ⟨rfl, .inl ⟨rfl, rfl⟩⟩, Below.refl _ _⟩
  | some ad =>
    have hq := fun W => Lib.run_eql_slice_some_nil (P := Tryz.prog) W (t := 49) (e := 3) ad l.length c Tryz.underlying49
    have hB : Below w.heap.size w (w.alloc (.cells #[] 3)) := (Below.refl _ _).alloc (Nat.le_refl _) _
    have hs' : Sees .i64 w.heap.size (w.alloc (.cells #[] 3)) (some ad) l := hs.below hB
    have hl' := Lib.hid hl
    go_enter Tryz.func63, Tryz.ntmps63
    go_wp2_with (at_builtin; refine wpList_append_sees _ rfl (.tmp 5) (.tmp 6) 49 rfl w 3 i0 (.int .i64 0) 8 Tryz.underlying49 hi hz0 hz1 hz2 rfl .i64 _ [] (by exact own_empty 3 .i64 (Below.refl _ w)) (by exact hB) w.heap.size (some ad) l (by exact hs') l.length c rfl rfl rfl (by have := hl'.out; simp; omega) (by omega) ?_; intro v2 w2 hown2 hw2; simp only [List.nil_append] at hown2)
    go_ret
    exact ⟨v2, rfl, hown2, hw2⟩
end Go.Proofs.YtimgocfkogebmaaGreatDoor
namespace Go.Proofs.YtimgocfkogebmaaGreatDoor
open Go.RowKit
set_option linter.unusedVariables false
set_option linter.unusedSimpArgs false
theorem zone_put {n : Int} {R : List Int} {err : Int} {w W1 w3 : World} {g a c : _} {z0 z1 : Value} (hB : Below w.heap.size w W1) (hg : w.heap.size ≤ g) (hz : ZH W1 g z0 z1) (hc : R.length ≤ c) (hs : Sees .i64 w3.heap.size w3 a R) (hb : Below W1.heap.size W1 w3) (hnw : New W1 a) :
    ZH ((w3.setCell ⟨g, 0, none⟩ (.int .i64 n)).setCell ⟨g, 1, none⟩ (.slice a R.length c)) g (.int .i64 n) (.slice a R.length c) ∧
      ZoneE n R err w (.returned (.tuple #[.agg #[.int .i64 n, .slice a R.length c], .int .i64 err])) ((w3.setCell ⟨g, 0, none⟩ (.int .i64 n)).setCell ⟨g, 1, none⟩ (.slice a R.length c)) ∧
      ZoneS n R w (.returned (.agg #[.int .i64 n, .slice a R.length c])) ((w3.setCell ⟨g, 0, none⟩ (.int .i64 n)).setCell ⟨g, 1, none⟩ (.slice a R.length c)) := by
  have hlt := hz.lt
  have hne : ∀ p, a = some p → g ≠ p.block := fun p hp => by have := hnw p hp; omega
  have hs2 : Sees .i64 ((w3.setCell ⟨g, 0, none⟩ (.int .i64 n)).setCell ⟨g, 1, none⟩ (.slice a R.length c)).heap.size ((w3.setCell ⟨g, 0, none⟩ (.int .i64 n)).setCell ⟨g, 1, none⟩ (.slice a R.length c)) a R := by
    have := sees_other (sees_other hs g hne 0 (.int .i64 n)) g hne 1 (.slice a R.length c)
    simpa using this
  have hbb : Below w.heap.size w ((w3.setCell ⟨g, 0, none⟩ (.int .i64 n)).setCell ⟨g, 1, none⟩ (.slice a R.length c)) := ((hB.trans (hb.mono hB.size)).setCell (p := ⟨g, 0, none⟩) hg _).setCell (p := ⟨g, 1, none⟩) hg _
  have hnew : New w a := fun p hp => Nat.le_trans hB.size (hnw p hp)
  exact ⟨zh_set (hz.below hb hlt) _ _, ⟨a, c, rfl, hc, hs2, hbb, hnew⟩, ⟨a, c, rfl, hc, hs2, hbb, hnew⟩⟩
end Go.Proofs.YtimgocfkogebmaaGreatDoor
namespace Go.Proofs.YtimgocfkogebmaaGreatDoor
open Go.RowKit
set_option linter.unusedVariables false
set_option linter.unusedSimpArgs false
structure B3 (w W : World) (x1 y1 x2 y2 : Value) : Prop where
  bl : Below w.heap.size w W
  z1 : ZH W w.heap.size x1 y1
  z2 : ZH W (w.heap.size + 1) x2 y2
  z3 : ZH W (w.heap.size + 1 + 1) (.int .i64 0) (.slice none 0 0)
theorem B3.on {w W W' : World} {x1 y1 x2 y2 : Value} (h : B3 w W x1 y1 x2 y2) (hb : Below W.heap.size W W') : B3 w W' x1 y1 x2 y2 := ⟨h.bl.trans (hb.mono h.bl.size), h.z1.below hb h.z1.lt, h.z2.below hb h.z2.lt, h.z3.below hb h.z3.lt⟩
def IsZ (n : Nat) (l : List Int) : Prop := n ≤ 8 ∧ (l = [] ∨ Full n l)
theorem isZ_of {n : Int} {l : List Int} (h : checkB n l = true) : ∃ k : Nat, n = k ∧ IsZ k l := by
  have hm : mayB n = true := by
    cases q : mayB n
    · rw [checkB_no q] at h; cases h
    · rfl
  obtain ⟨k, rfl, hk⟩ := mayB_of hm
  refine ⟨k, rfl, hk, ?_⟩
  by_cases h0 : l = []
  · exact .inl h0
  · right
    by_cases hl : l.length = sz k
    · rw [checkB_sz hk h0 hl] at h
      exact ⟨hk, hl, h0, of_decide_eq_true h⟩
    · rw [checkB_len h0 hl] at h; cases h
theorem IsZ.check {n : Nat} {l : List Int} (h : IsZ n l) : checkB n l = true := by
  rcases h.2 with e | hF
  · rw [e]; exact checkB_nil (mayB_nat h.1)
  · rw [checkB_sz hF.le hF.ne hF.len]; exact decide_eq_true hF.fix
theorem IsZ.small {n : Nat} {l : List Int} (h : IsZ n l) : l.length ≤ 81 := by
  rcases h.2 with e | hF
  · rw [e]; simp
  · have := sz_le h.1; rw [hF.len]; exact this
end Go.Proofs.YtimgocfkogebmaaGreatDoor
namespace Go.Proofs.YtimgocfkogebmaaGreatDoor
open Go.RowKit
set_option linter.unusedVariables false
set_option linter.unusedSimpArgs false
def ZoneN (n : Int) (l : List Int) (w : World) (e : Ending) (w' : World) : Prop := ∃ a m c, e = .returned (.agg #[.int .i64 n, .slice a m c]) ∧ SL w' a m c l ∧ Below w.heap.size w w' ∧ (l = [] ∨ New w a)
def ZoneR (n : Int) (l : List Int) (w : World) (e : Ending) (w' : World) : Prop := ∃ a m c, e = .returned (.agg #[.int .i64 n, .slice a m c]) ∧ SL w' a m c l ∧ Below w.heap.size w w'
theorem ZoneN.r {n : Int} {l : List Int} {w : World} {e : Ending} {w' : World} (h : ZoneN n l w e w') : ZoneR n l w e w' := by
  obtain ⟨a, m, c, h1, h2, h3, -⟩ := h
  exact ⟨a, m, c, h1, h2, h3⟩
theorem zoneN_of {n : Int} {l : List Int} {w : World} {e : Ending} {w' : World} (hl : l.length ≤ 1000) (h : ZoneS n l w e w') : ZoneN n l w e w' := by
  obtain ⟨a, c, h1, h2, h3, h4, h5⟩ := h
  exact ⟨a, l.length, c, h1, ⟨rfl, h2, by omega, h3⟩, h4, .inr h5⟩
theorem sl_set {w : World} {a : Option Addr} {m c : Nat} {l : List Int} (h : SL w a m c l) (g : Nat) (hg : l = [] ∨ ∀ p, a = some p → g ≠ p.block) (x y : Value) : SL ((w.setCell ⟨g, 0, none⟩ x).setCell ⟨g, 1, none⟩ y) a m c l := by
  refine ⟨h.len, h.cap, h.max, ?_⟩
  rcases hg with e | hg
  · exact .inl e
  · have := sees_other (sees_other h.sees g hg 0 x) g hg 1 y
    simpa using this
theorem zone_putN {n : Int} {R : List Int} {w W1 w3 : World} {g : Nat} {a : Option Addr} {m c : Nat} {z0 z1 : Value} (hB : Below w.heap.size w W1) (hg : w.heap.size ≤ g) (hz : ZH W1 g z0 z1) (hs : SL w3 a m c R) (hb : Below W1.heap.size W1 w3) (hnw : R = [] ∨ New W1 a) :
    ZH ((w3.setCell ⟨g, 0, none⟩ (.int .i64 n)).setCell ⟨g, 1, none⟩ (.slice a m c)) g (.int .i64 n) (.slice a m c) ∧
      ZoneN n R w (.returned (.agg #[.int .i64 n, .slice a m c])) ((w3.setCell ⟨g, 0, none⟩ (.int .i64 n)).setCell ⟨g, 1, none⟩ (.slice a m c)) := by
  have hlt := hz.lt
  have hs2 := sl_set hs g (hnw.imp id (fun h p hp => by have := h p hp; omega)) (.int .i64 n) (.slice a m c)
  have hbb : Below w.heap.size w ((w3.setCell ⟨g, 0, none⟩ (.int .i64 n)).setCell ⟨g, 1, none⟩ (.slice a m c)) := ((hB.trans (hb.mono hB.size)).setCell (p := ⟨g, 0, none⟩) hg _).setCell (p := ⟨g, 1, none⟩) hg _
  exact ⟨zh_set (hz.below hb hlt) _ _, a, m, c, rfl, hs2, hbb, hnw.imp id (fun h p hp => Nat.le_trans hB.size (h p hp))⟩
structure B2 (w W : World) (x1 y1 x2 y2 : Value) : Prop where
  bl : Below w.heap.size w W
  z1 : ZH W w.heap.size x1 y1
  z2 : ZH W (w.heap.size + 1) x2 y2
theorem B2.on {w W W' : World} {x1 y1 x2 y2 : Value} (h : B2 w W x1 y1 x2 y2) (hb : Below W.heap.size W W') : B2 w W' x1 y1 x2 y2 := ⟨h.bl.trans (hb.mono h.bl.size), h.z1.below hb h.z1.lt, h.z2.below hb h.z2.lt⟩
end Go.Proofs.YtimgocfkogebmaaGreatDoor
namespace Go.Proofs.YtimgocfkogebmaaGreatDoor
open Go.RowKit
set_option linter.unusedVariables false
set_option linter.unusedSimpArgs false
theorem mat_at (n i j : Nat) (hn : n ≤ 8) (hi : i ≤ n) (hj : j ≤ n) (a : Option Addr) (m c : Nat) (w : World) :
    Calls Tryz.prog 221 #[.agg #[.int .i64 n, .slice a m c], .int .i64 i, .int .i64 j] w (Gives (.int .i64 ((i * (n + 1) + j : Nat) : Int)) w) := by
  obtain ⟨p, q, u1, u2, u3, hq, -, -, -, -⟩ := place_wraps hn hi hj
  rw [← hq]
  have hB := Lib.hid (box_below w #[.int .i64 n, .slice a m c] 201)
  clear hq
  go_enter Tryz.func221, Tryz.ntmps221
  go_wp2
  go_ret
  exact ⟨rfl, hB.out⟩
def MatS (s g cap base : Nat) (R : List Int) (w : World) (e : Ending) (w' : World) : Prop :=
  e = .returned (.tuple #[]) ∧ w'.ownsRow base 3 1 (.slice (some ⟨g, 0, none⟩) s cap) s (nums .i64 R) ∧ BelowE [g] w.heap.size w w'
def limL (n : Nat) (l : List Int) (i j : Nat) (c : Int) : List Int := l.set (i * (n + 1) + j) (min (l.getD (i * (n + 1) + j) 0) c)
theorem limL_len (n : Nat) (l : List Int) (i j : Nat) (c : Int) : (limL n l i j c).length = l.length := by simp [limL]
set_option maxRecDepth 100000 in
set_option maxHeartbeats 1000000 in
theorem mlimit_any (n : Nat) (hn : n ≤ 8) (i j : Nat) (hi : i ≤ n) (hj : j ≤ n) (c : Int) (g cap base : Nat) (l : List Int) (hl : l.length = sz n) (w : World)
    (hown : w.ownsRow base 3 1 (.slice (some ⟨g, 0, none⟩) (sz n) cap) (sz n) (nums .i64 l)) :
    Calls Tryz.prog 214 #[.agg #[.int .i64 n, .slice (some ⟨g, 0, none⟩) (sz n) cap], .agg #[.int .i64 i, .int .i64 j, .int .i64 c]] w (MatS (sz n) g cap base (limL n l i j c) w) := by
  have hs81 := sz_le hn
  have hq : i * (n + 1) + j < sz n := place_lt hi hj
  have hat := Lib.hid (fun W => mat_at n i j hn hi hj (some ⟨g, 0, none⟩) (sz n) cap W)
  have hR : limL n l i j c = l.set (i * (n + 1) + j) (min (l.getD (i * (n + 1) + j) 0) c) := rfl
  generalize limL n l i j c = R at *
  generalize i * (n + 1) + j = q at *
  generalize sz n = s at *
  have hsi : (q : Int) < (s : Int) := by omega
  have hgl := own_at hown (i := q) (by omega)
  have hglt : g < w.heap.size := World.block_lt_of_cell? _ _ hgl
  obtain ⟨W1, hW1⟩ : ∃ W1, W1 = (w.alloc (.cells #[.int .i64 n, .slice (some ⟨g, 0, none⟩) s cap] 201)).alloc (.cells #[.int .i64 i, .int .i64 j, .int .i64 c] 196) := ⟨_, rfl⟩
  have hB : Below w.heap.size w W1 := by rw [hW1]; exact box2_below _ _ _ _ _
  have Z1 : Holds W1 w.heap.size 201 #[.int .i64 n, .slice (some ⟨g, 0, none⟩) s cap] := by rw [hW1]; exact (Holds.new w _ _).alloc _
  have Z2 : Holds W1 (w.heap.size + 1) 196 #[.int .i64 i, .int .i64 j, .int .i64 c] := by
    rw [hW1]
    have := Holds.new (w.alloc (.cells #[.int .i64 n, .slice (some ⟨g, 0, none⟩) s cap] 201)) 196 #[.int .i64 i, .int .i64 j, .int .i64 c]
    simpa using this
  have hR' := Lib.hid hR
  clear hR
  have O1 := Lib.hid (own_below hown hB)
  have hW1' := Lib.hid hW1
  have hB' := Lib.hid hB
  have Z1' := Lib.hid Z1
  have Z2' := Lib.hid Z2
  have hl' := Lib.hid hl
  have hglt' := Lib.hid hglt
  clear hW1 hB Z1 Z2 hown hl hgl hglt hq
  go_enter Tryz.func214, Tryz.ntmps214
  go_wp2_with fail
  rw [← hW1'.out]
  refine (hat.out _).mono ?_
  rintro e w2 ⟨rfl, b2⟩
  have O2 := Lib.hid (own_below O1.out b2)
  have Y1 := Lib.hid (Z1'.out.below b2 Z1'.out.lt)
  have Y2 := Lib.hid (Z2'.out.below b2 Z2'.out.lt)
  have B2' := Lib.hid (hB'.out.trans (b2.mono hB'.out.size))
  have m0 := own_at O2.out (i := q) (by have := hl'.out; omega)
  have mf := O2.out.frozenAt q
  have hx0 : w.heap.size ∉ [g] := by have := hglt'.out; simp; omega
  have hx1 : w.heap.size + 1 ∉ [g] := by have := hglt'.out; simp; omega
  have f1 : ∀ W, BelowE [g] w2.heap.size w2 W → W.cell? ⟨w.heap.size, 1, none⟩ = some (.slice (some ⟨g, 0, none⟩) s cap) := fun W hW => (Y1.out.belowE hW Y1.out.lt hx0).cell 1
  have f2 : ∀ W, BelowE [g] w2.heap.size w2 W → W.cell? ⟨w.heap.size + 1, 2, none⟩ = some (.int .i64 c) := fun W hW => (Y2.out.belowE hW Y2.out.lt hx1).cell 2
  have hnx : Hid (∀ z, z = min (l.getD q 0) c → MatS s g cap base R w (.returned (.tuple #[])) (w2.setCell ⟨g, q, none⟩ (.int .i64 z)).drew) := Lib.hid (by
    rintro z rfl
    rw [hR'.out]
    exact ⟨rfl, own_put O2.out q _, ((BelowE.of B2'.out).setIn (p := ⟨g, q, none⟩) (by simp) _).drew⟩)
  clear b2 O1 O2 Z1' Z2' Y1 Y2 B2' hat hx0 hx1 hl' hglt' hR'
  generalize l.getD q 0 = x at *
  by_cases hcx : c < x
  · have hfin := Lib.hid (hnx.out c (by omega))
    clear hnx
    go_wp2
    refine wp_drawn_on (fun W => BelowE [g] w2.heap.size w2 W) (by kernel_rfl) ((BelowE.refl _ _ _).drew) (fun hHeld => ?_)
    refine wpAnyH_take (i := 0) (oi := { dst := some 11, op := Go.Op.fieldAddr 201 (Go.Operand.tmp 2) 1, type := 0, pos := "zone.go:113", after := #[], guard := none }) (v := ?v1) rfl (by kernel_rfl) (by kernel_rfl) (by kernel_rfl) (fun _ _ _ h => h) (Or.inl ⟨by kernel_rfl, ?h1⟩) (by assumption) ?r1
    case h1 => (intro w hSw; (try dsimp only at hSw); go_simp; try with_reducible rfl)
    try simp only [Act.put, List.setIfInBounds_toArray, List.set_cons_zero, List.set_cons_succ]
    refine wpAnyH_take (i := 1) (oi := { dst := some 12, op := Go.Op.load 49 (Go.Operand.tmp 11), type := 49, pos := "zone.go:113", after := #[{ on := 0, ground := Go.Ground.data }], guard := none }) (v := ?v2) rfl (by kernel_rfl) (by kernel_rfl) (by kernel_rfl) (fun _ _ _ h => h) (Or.inl ⟨by kernel_rfl, ?h2⟩) (by assumption) ?r2
    case h2 => (intro w hSw; (try dsimp only at hSw); go_simp; try with_reducible rfl)
    try simp only [Act.put, List.setIfInBounds_toArray, List.set_cons_zero, List.set_cons_succ]
    refine wpAnyH_take (i := 2) (oi := { dst := some 13, op := Go.Op.move (Go.Operand.tmp 4), type := 3, pos := "zone.go:113", after := #[], guard := none }) (v := ?v3) rfl (by kernel_rfl) (by kernel_rfl) (by kernel_rfl) (fun _ _ _ h => h) (Or.inl ⟨by kernel_rfl, ?h3⟩) (by assumption) ?r3
    case h3 => (intro w hSw; (try dsimp only at hSw); go_simp; try with_reducible rfl)
    try simp only [Act.put, List.setIfInBounds_toArray, List.set_cons_zero, List.set_cons_succ]
    refine wpAnyH_take (i := 3) (oi := { dst := some 14, op := Go.Op.fieldAddr 201 (Go.Operand.tmp 2) 1, type := 0, pos := "zone.go:113", after := #[], guard := none }) (v := ?v4) rfl (by kernel_rfl) (by kernel_rfl) (by kernel_rfl) (fun _ _ _ h => h) (Or.inl ⟨by kernel_rfl, ?h4⟩) (by assumption) ?r4
    case h4 => (intro w hSw; (try dsimp only at hSw); go_simp; try with_reducible rfl)
    try simp only [Act.put, List.setIfInBounds_toArray, List.set_cons_zero, List.set_cons_succ]
    refine wpAnyH_take (i := 4) (oi := { dst := some 15, op := Go.Op.load 49 (Go.Operand.tmp 14), type := 49, pos := "zone.go:113", after := #[{ on := 3, ground := Go.Ground.data }], guard := none }) (v := ?v5) rfl (by kernel_rfl) (by kernel_rfl) (by kernel_rfl) (fun _ _ _ h => h) (Or.inl ⟨by kernel_rfl, ?h5⟩) (by assumption) ?r5
    case h5 => (intro w hSw; (try dsimp only at hSw); go_simp; try with_reducible rfl)
    try simp only [Act.put, List.setIfInBounds_toArray, List.set_cons_zero, List.set_cons_succ]
    refine wpAnyH_take (i := 5) (oi := { dst := some 16, op := Go.Op.move (Go.Operand.tmp 4), type := 3, pos := "zone.go:113", after := #[], guard := none }) (v := ?v6) rfl (by kernel_rfl) (by kernel_rfl) (by kernel_rfl) (fun _ _ _ h => h) (Or.inl ⟨by kernel_rfl, ?h6⟩) (by assumption) ?r6
    case h6 => (intro w hSw; (try dsimp only at hSw); go_simp; try with_reducible rfl)
    try simp only [Act.put, List.setIfInBounds_toArray, List.set_cons_zero, List.set_cons_succ]
    refine wpAnyH_take (i := 6) (oi := { dst := some 17, op := Go.Op.indexAddr 49 (Go.Operand.tmp 15) (Go.Operand.tmp 16), type := 0, pos := "zone.go:113", after := #[{ on := 4, ground := Go.Ground.data }, { on := 5, ground := Go.Ground.data }], guard := none }) (v := ?v7) rfl (by kernel_rfl) (by kernel_rfl) (by kernel_rfl) (fun _ _ _ h => h) (Or.inl ⟨by kernel_rfl, ?h7⟩) (by assumption) ?r7
    case h7 => (intro w hSw; (try dsimp only at hSw); go_simp; try with_reducible rfl)
    try simp only [Act.put, List.setIfInBounds_toArray, List.set_cons_zero, List.set_cons_succ]
    refine wpAnyH_take (i := 8) (oi := { dst := some 19, op := Go.Op.fieldAddr 196 (Go.Operand.tmp 3) 2, type := 0, pos := "zone.go:113", after := #[], guard := none }) (v := ?v8) rfl (by kernel_rfl) (by kernel_rfl) (by kernel_rfl) (fun _ _ _ h => h) (Or.inl ⟨by kernel_rfl, ?h8⟩) (by assumption) ?r8
    case h8 => (intro w hSw; (try dsimp only at hSw); go_simp; try with_reducible rfl)
    try simp only [Act.put, List.setIfInBounds_toArray, List.set_cons_zero, List.set_cons_succ]
    refine wpAnyH_take (i := 9) (oi := { dst := some 20, op := Go.Op.load 3 (Go.Operand.tmp 19), type := 3, pos := "zone.go:113", after := #[{ on := 8, ground := Go.Ground.data }], guard := none }) (v := ?v9) rfl (by kernel_rfl) (by kernel_rfl) (by kernel_rfl) (fun _ _ _ h => h) (Or.inl ⟨by kernel_rfl, ?h9⟩) (by assumption) ?r9
    case h9 => (intro w hSw; (try dsimp only at hSw); go_simp; try with_reducible rfl)
    try simp only [Act.put, List.setIfInBounds_toArray, List.set_cons_zero, List.set_cons_succ]
    refine wpAnyH_ready (rs := [7]) (by kernel_rfl) (by simp) ?_
    refine AllReadyH.cons (o := { dst := some 18, op := Go.Op.load 3 (Go.Operand.tmp 17), type := 3, pos := "zone.go:113", after := #[{ on := 6, ground := Go.Ground.data }], guard := none }) rfl (fun K hK => ?_) AllReadyH.nil
    go_simp
    refine hK.out _ _ (hHeld) (fun hHeld => ?_)
    clear hK K
    try simp only [Act.put, List.setIfInBounds_toArray, List.set_cons_zero, List.set_cons_succ]
    refine wpAnyH_take (i := 10) (oi := { dst := some 21, op := Go.Op.call { callee := Go.Callee.builtin Go.Builtin.min, args := #[Go.Operand.tmp 18, Go.Operand.tmp 20], argTypes := #[3, 3] }, type := 3, pos := "zone.go:113", after := #[{ on := 7, ground := Go.Ground.data }, { on := 9, ground := Go.Ground.data }], guard := none }) (v := ?v10) rfl (by kernel_rfl) (by kernel_rfl) (by kernel_rfl) (fun _ _ _ h => h) (Or.inl ⟨by kernel_rfl, ?h10⟩) (by assumption) ?r10
    case h10 => (intro w hSw; (try dsimp only at hSw); go_simp; try with_reducible rfl)
    try simp only [Act.put, List.setIfInBounds_toArray, List.set_cons_zero, List.set_cons_succ]
    refine wpAnyH_take (i := 11) (oi := { dst := some 22, op := Go.Op.indexAddr 49 (Go.Operand.tmp 12) (Go.Operand.tmp 13), type := 0, pos := "zone.go:113", after := #[{ on := 1, ground := Go.Ground.data }, { on := 2, ground := Go.Ground.data }, { on := 0, ground := Go.Ground.phase }, { on := 1, ground := Go.Ground.phase }, { on := 2, ground := Go.Ground.phase }, { on := 3, ground := Go.Ground.phase }, { on := 4, ground := Go.Ground.phase }, { on := 5, ground := Go.Ground.phase }, { on := 6, ground := Go.Ground.phase }, { on := 7, ground := Go.Ground.phase }, { on := 8, ground := Go.Ground.phase }, { on := 9, ground := Go.Ground.phase }, { on := 10, ground := Go.Ground.phase }], guard := none }) (v := ?v11) rfl (by kernel_rfl) (by kernel_rfl) (by kernel_rfl) (fun _ _ _ h => h) (Or.inl ⟨by kernel_rfl, ?h11⟩) (by assumption) ?r11
    case h11 => (intro w hSw; (try dsimp only at hSw); go_simp; try with_reducible rfl)
    try simp only [Act.put, List.setIfInBounds_toArray, List.set_cons_zero, List.set_cons_succ]
    refine wpAnyH_ready (rs := [12]) (by kernel_rfl) (by simp) ?_
    refine AllReadyH.cons (o := { dst := none, op := Go.Op.store 3 (Go.Operand.tmp 22) (Go.Operand.tmp 21), type := 0, pos := "zone.go:113", after := #[{ on := 11, ground := Go.Ground.data }, { on := 10, ground := Go.Ground.data }, { on := 0, ground := Go.Ground.phase }, { on := 1, ground := Go.Ground.phase }, { on := 2, ground := Go.Ground.phase }, { on := 3, ground := Go.Ground.phase }, { on := 4, ground := Go.Ground.phase }, { on := 5, ground := Go.Ground.phase }, { on := 6, ground := Go.Ground.phase }, { on := 7, ground := Go.Ground.phase }, { on := 8, ground := Go.Ground.phase }, { on := 9, ground := Go.Ground.phase }, { on := 10, ground := Go.Ground.phase }], guard := none }) rfl (fun K hK => ?_) AllReadyH.nil
    go_simp
    refine hK.out _ _ (hHeld.setIn (p := ⟨g, q, none⟩) (by simp) _) (fun hHeld => ?_)
    clear hK K
    try simp only [Act.put, List.setIfInBounds_toArray, List.set_cons_zero, List.set_cons_succ]
    refine wpAnyH_done (by kernel_rfl) ?_ _
    go_wp2
    go_end0
    exact hfin.out
  · have hfin := Lib.hid (hnx.out x (by omega))
    clear hnx
    go_wp2
    refine wp_drawn_on (fun W => BelowE [g] w2.heap.size w2 W) (by kernel_rfl) ((BelowE.refl _ _ _).drew) (fun hHeld => ?_)
    refine wpAnyH_take (i := 0) (oi := { dst := some 11, op := Go.Op.fieldAddr 201 (Go.Operand.tmp 2) 1, type := 0, pos := "zone.go:113", after := #[], guard := none }) (v := ?v12) rfl (by kernel_rfl) (by kernel_rfl) (by kernel_rfl) (fun _ _ _ h => h) (Or.inl ⟨by kernel_rfl, ?h12⟩) (by assumption) ?r12
    case h12 => (intro w hSw; (try dsimp only at hSw); go_simp; try with_reducible rfl)
    try simp only [Act.put, List.setIfInBounds_toArray, List.set_cons_zero, List.set_cons_succ]
    refine wpAnyH_take (i := 1) (oi := { dst := some 12, op := Go.Op.load 49 (Go.Operand.tmp 11), type := 49, pos := "zone.go:113", after := #[{ on := 0, ground := Go.Ground.data }], guard := none }) (v := ?v13) rfl (by kernel_rfl) (by kernel_rfl) (by kernel_rfl) (fun _ _ _ h => h) (Or.inl ⟨by kernel_rfl, ?h13⟩) (by assumption) ?r13
    case h13 => (intro w hSw; (try dsimp only at hSw); go_simp; try with_reducible rfl)
    try simp only [Act.put, List.setIfInBounds_toArray, List.set_cons_zero, List.set_cons_succ]
    refine wpAnyH_take (i := 2) (oi := { dst := some 13, op := Go.Op.move (Go.Operand.tmp 4), type := 3, pos := "zone.go:113", after := #[], guard := none }) (v := ?v14) rfl (by kernel_rfl) (by kernel_rfl) (by kernel_rfl) (fun _ _ _ h => h) (Or.inl ⟨by kernel_rfl, ?h14⟩) (by assumption) ?r14
    case h14 => (intro w hSw; (try dsimp only at hSw); go_simp; try with_reducible rfl)
    try simp only [Act.put, List.setIfInBounds_toArray, List.set_cons_zero, List.set_cons_succ]
    refine wpAnyH_take (i := 3) (oi := { dst := some 14, op := Go.Op.fieldAddr 201 (Go.Operand.tmp 2) 1, type := 0, pos := "zone.go:113", after := #[], guard := none }) (v := ?v15) rfl (by kernel_rfl) (by kernel_rfl) (by kernel_rfl) (fun _ _ _ h => h) (Or.inl ⟨by kernel_rfl, ?h15⟩) (by assumption) ?r15
    case h15 => (intro w hSw; (try dsimp only at hSw); go_simp; try with_reducible rfl)
    try simp only [Act.put, List.setIfInBounds_toArray, List.set_cons_zero, List.set_cons_succ]
    refine wpAnyH_take (i := 4) (oi := { dst := some 15, op := Go.Op.load 49 (Go.Operand.tmp 14), type := 49, pos := "zone.go:113", after := #[{ on := 3, ground := Go.Ground.data }], guard := none }) (v := ?v16) rfl (by kernel_rfl) (by kernel_rfl) (by kernel_rfl) (fun _ _ _ h => h) (Or.inl ⟨by kernel_rfl, ?h16⟩) (by assumption) ?r16
    case h16 => (intro w hSw; (try dsimp only at hSw); go_simp; try with_reducible rfl)
    try simp only [Act.put, List.setIfInBounds_toArray, List.set_cons_zero, List.set_cons_succ]
    refine wpAnyH_take (i := 5) (oi := { dst := some 16, op := Go.Op.move (Go.Operand.tmp 4), type := 3, pos := "zone.go:113", after := #[], guard := none }) (v := ?v17) rfl (by kernel_rfl) (by kernel_rfl) (by kernel_rfl) (fun _ _ _ h => h) (Or.inl ⟨by kernel_rfl, ?h17⟩) (by assumption) ?r17
    case h17 => (intro w hSw; (try dsimp only at hSw); go_simp; try with_reducible rfl)
    try simp only [Act.put, List.setIfInBounds_toArray, List.set_cons_zero, List.set_cons_succ]
    refine wpAnyH_take (i := 6) (oi := { dst := some 17, op := Go.Op.indexAddr 49 (Go.Operand.tmp 15) (Go.Operand.tmp 16), type := 0, pos := "zone.go:113", after := #[{ on := 4, ground := Go.Ground.data }, { on := 5, ground := Go.Ground.data }], guard := none }) (v := ?v18) rfl (by kernel_rfl) (by kernel_rfl) (by kernel_rfl) (fun _ _ _ h => h) (Or.inl ⟨by kernel_rfl, ?h18⟩) (by assumption) ?r18
    case h18 => (intro w hSw; (try dsimp only at hSw); go_simp; try with_reducible rfl)
    try simp only [Act.put, List.setIfInBounds_toArray, List.set_cons_zero, List.set_cons_succ]
    refine wpAnyH_take (i := 8) (oi := { dst := some 19, op := Go.Op.fieldAddr 196 (Go.Operand.tmp 3) 2, type := 0, pos := "zone.go:113", after := #[], guard := none }) (v := ?v19) rfl (by kernel_rfl) (by kernel_rfl) (by kernel_rfl) (fun _ _ _ h => h) (Or.inl ⟨by kernel_rfl, ?h19⟩) (by assumption) ?r19
    case h19 => (intro w hSw; (try dsimp only at hSw); go_simp; try with_reducible rfl)
    try simp only [Act.put, List.setIfInBounds_toArray, List.set_cons_zero, List.set_cons_succ]
    refine wpAnyH_take (i := 9) (oi := { dst := some 20, op := Go.Op.load 3 (Go.Operand.tmp 19), type := 3, pos := "zone.go:113", after := #[{ on := 8, ground := Go.Ground.data }], guard := none }) (v := ?v20) rfl (by kernel_rfl) (by kernel_rfl) (by kernel_rfl) (fun _ _ _ h => h) (Or.inl ⟨by kernel_rfl, ?h20⟩) (by assumption) ?r20
    case h20 => (intro w hSw; (try dsimp only at hSw); go_simp; try with_reducible rfl)
    try simp only [Act.put, List.setIfInBounds_toArray, List.set_cons_zero, List.set_cons_succ]
    refine wpAnyH_ready (rs := [7]) (by kernel_rfl) (by simp) ?_
    refine AllReadyH.cons (o := { dst := some 18, op := Go.Op.load 3 (Go.Operand.tmp 17), type := 3, pos := "zone.go:113", after := #[{ on := 6, ground := Go.Ground.data }], guard := none }) rfl (fun K hK => ?_) AllReadyH.nil
    go_simp
    refine hK.out _ _ (hHeld) (fun hHeld => ?_)
    clear hK K
    try simp only [Act.put, List.setIfInBounds_toArray, List.set_cons_zero, List.set_cons_succ]
    refine wpAnyH_take (i := 10) (oi := { dst := some 21, op := Go.Op.call { callee := Go.Callee.builtin Go.Builtin.min, args := #[Go.Operand.tmp 18, Go.Operand.tmp 20], argTypes := #[3, 3] }, type := 3, pos := "zone.go:113", after := #[{ on := 7, ground := Go.Ground.data }, { on := 9, ground := Go.Ground.data }], guard := none }) (v := ?v21) rfl (by kernel_rfl) (by kernel_rfl) (by kernel_rfl) (fun _ _ _ h => h) (Or.inl ⟨by kernel_rfl, ?h21⟩) (by assumption) ?r21
    case h21 => (intro w hSw; (try dsimp only at hSw); go_simp; try with_reducible rfl)
    try simp only [Act.put, List.setIfInBounds_toArray, List.set_cons_zero, List.set_cons_succ]
    refine wpAnyH_take (i := 11) (oi := { dst := some 22, op := Go.Op.indexAddr 49 (Go.Operand.tmp 12) (Go.Operand.tmp 13), type := 0, pos := "zone.go:113", after := #[{ on := 1, ground := Go.Ground.data }, { on := 2, ground := Go.Ground.data }, { on := 0, ground := Go.Ground.phase }, { on := 1, ground := Go.Ground.phase }, { on := 2, ground := Go.Ground.phase }, { on := 3, ground := Go.Ground.phase }, { on := 4, ground := Go.Ground.phase }, { on := 5, ground := Go.Ground.phase }, { on := 6, ground := Go.Ground.phase }, { on := 7, ground := Go.Ground.phase }, { on := 8, ground := Go.Ground.phase }, { on := 9, ground := Go.Ground.phase }, { on := 10, ground := Go.Ground.phase }], guard := none }) (v := ?v22) rfl (by kernel_rfl) (by kernel_rfl) (by kernel_rfl) (fun _ _ _ h => h) (Or.inl ⟨by kernel_rfl, ?h22⟩) (by assumption) ?r22
    case h22 => (intro w hSw; (try dsimp only at hSw); go_simp; try with_reducible rfl)
    try simp only [Act.put, List.setIfInBounds_toArray, List.set_cons_zero, List.set_cons_succ]
    refine wpAnyH_ready (rs := [12]) (by kernel_rfl) (by simp) ?_
    refine AllReadyH.cons (o := { dst := none, op := Go.Op.store 3 (Go.Operand.tmp 22) (Go.Operand.tmp 21), type := 0, pos := "zone.go:113", after := #[{ on := 11, ground := Go.Ground.data }, { on := 10, ground := Go.Ground.data }, { on := 0, ground := Go.Ground.phase }, { on := 1, ground := Go.Ground.phase }, { on := 2, ground := Go.Ground.phase }, { on := 3, ground := Go.Ground.phase }, { on := 4, ground := Go.Ground.phase }, { on := 5, ground := Go.Ground.phase }, { on := 6, ground := Go.Ground.phase }, { on := 7, ground := Go.Ground.phase }, { on := 8, ground := Go.Ground.phase }, { on := 9, ground := Go.Ground.phase }, { on := 10, ground := Go.Ground.phase }], guard := none }) rfl (fun K hK => ?_) AllReadyH.nil
    go_simp
    refine hK.out _ _ (hHeld.setIn (p := ⟨g, q, none⟩) (by simp) _) (fun hHeld => ?_)
    clear hK K
    try simp only [Act.put, List.setIfInBounds_toArray, List.set_cons_zero, List.set_cons_succ]
    refine wpAnyH_done (by kernel_rfl) ?_ _
    go_wp2
    go_end0
    exact hfin.out
end Go.Proofs.YtimgocfkogebmaaGreatDoor
namespace Go.Proofs.YtimgocfkogebmaaGreatDoor
open Go.RowKit
set_option linter.unusedVariables false
set_option linter.unusedSimpArgs false
def pairL (F G : Int → Int) (l : List Int) (p q : Nat) : List Int := (l.set p (F (l.getD p 0))).set q (G (l.getD q 0))
def othK (F G : Int → Int) (n i : Nat) (l : List Int) : Nat → List Int
  | 0 => l
  | k + 1 => if k = i then othK F G n i l k else pairL F G (othK F G n i l k) (i * (n + 1) + k) (k * (n + 1) + i)
def forL (n : Nat) (l : List Int) (i : Nat) : List Int := othK (fun _ => 4398046511104) (fun _ => 4398046511104) n i l (n + 1)
def movL (n : Nat) (l : List Int) (i : Nat) (c : Int) : List Int := othK (fun x => x + c) (fun x => x - c) n i l (n + 1)
def tieL (n : Nat) (l : List Int) (i j : Nat) (c : Int) : List Int := limL n (limL n l i j c) j i (-c)
end Go.Proofs.YtimgocfkogebmaaGreatDoor
namespace Go.Proofs.YtimgocfkogebmaaGreatDoor
open Go.RowKit
set_option linter.unusedVariables false
set_option linter.unusedSimpArgs false
def ZoneO (n : Int) (l : List Int) (err : Int) (w : World) (e : Ending) (w' : World) : Prop :=
  ∃ a c, e = .returned (.tuple #[.agg #[.int .i64 n, .slice a l.length c], .int .i64 err]) ∧ w'.ownsRow w.heap.size 3 1 (.slice a l.length c) l.length (nums .i64 l) ∧ Below w.heap.size w w'
def ZoneOS (n : Int) (l : List Int) (w : World) (e : Ending) (w' : World) : Prop :=
  ∃ a c, e = .returned (.agg #[.int .i64 n, .slice a l.length c]) ∧ w'.ownsRow w.heap.size 3 1 (.slice a l.length c) l.length (nums .i64 l) ∧ Below w.heap.size w w'
theorem zone_endO {w W1 w3 : World} {g : Nat} {z0 z1 : Value} {R : List Int} {e : Ending} (hB : Below w.heap.size w W1) (hg : w.heap.size ≤ g) (hz : ZH W1 g z0 z1) (hm : Made 3 .i64 W1 R e w3) :
    ∃ a c, e = .returned (.slice a R.length c) ∧ ZH w3 g z0 z1 ∧ ∀ n err : Int, ZH ((w3.setCell ⟨g, 0, none⟩ (.int .i64 n)).setCell ⟨g, 1, none⟩ (.slice a R.length c)) g (.int .i64 n) (.slice a R.length c) ∧
      ZoneO n R err w (.returned (.tuple #[.agg #[.int .i64 n, .slice a R.length c], .int .i64 err])) ((w3.setCell ⟨g, 0, none⟩ (.int .i64 n)).setCell ⟨g, 1, none⟩ (.slice a R.length c)) ∧
      ZoneOS n R w (.returned (.agg #[.int .i64 n, .slice a R.length c])) ((w3.setCell ⟨g, 0, none⟩ (.int .i64 n)).setCell ⟨g, 1, none⟩ (.slice a R.length c)) := by
  obtain ⟨v, rfl, hown, hb⟩ := hm
  have hlt := hz.lt
  obtain ⟨a, c, rfl, -, -⟩ := sees_own hown
  have hz3 := hz.below hb hlt
  refine ⟨a, c, rfl, hz3, fun n err => ?_⟩
  have hE : BelowE [g] w3.heap.size w3 ((w3.setCell ⟨g, 0, none⟩ (.int .i64 n)).setCell ⟨g, 1, none⟩ (.slice a R.length c)) := ((BelowE.refl _ _ _).setIn (p := ⟨g, 0, none⟩) (by simp) _).setIn (p := ⟨g, 1, none⟩) (by simp) _
  have hown2 := own_belowE hown hE (fun k hk => by
    have := (hown.lt k hk).1
    simp only [List.mem_singleton]
    omega)
  have hown3 := own_from (B := w.heap.size) hown2 (fun k hk => by have := (hown.lt k hk).1; have := hB.size; omega)
  have hbb : Below w.heap.size w ((w3.setCell ⟨g, 0, none⟩ (.int .i64 n)).setCell ⟨g, 1, none⟩ (.slice a R.length c)) := ((hB.trans (hb.mono hB.size)).setCell (p := ⟨g, 0, none⟩) hg _).setCell (p := ⟨g, 1, none⟩) hg _
  exact ⟨zh_set hz3 _ _, ⟨a, c, rfl, hown3, hbb⟩, ⟨a, c, rfl, hown3, hbb⟩⟩
theorem dclose_own (n : Nat) (hn : n ≤ 8) (a : Option Addr) (M : List Int) (len c : Nat) (hM : len = M.length) (hl : len = sz n) (w : World) (h : Sees .i64 w.heap.size w a M) :
    Calls Tryz.prog 217 #[.int .i64 n, .slice a len c] w (ZoneO n (closedL n M) 0 w) := by
  obtain ⟨W1, hW1⟩ : ∃ W1, W1 = w.alloc (.cells #[.int .i64 0, .slice none 0 0] 51) := ⟨_, rfl⟩
  have hB : Below w.heap.size w W1 := by rw [hW1]; exact (Below.refl _ _).alloc (Nat.le_refl _) _
  have hz : ZH W1 w.heap.size (.int .i64 0) (.slice none 0 0) := by rw [hW1]; exact Holds.new w _ _
  have hmay := Lib.hid (fun W => may_any n W)
  have hsize := Lib.hid (fun W => zsize_any n hn W)
  have hcl := Lib.hid (closed_any n hn a M len c hM hl W1 ((h.below hB).mono hB.size))
  rw [mayB_nat hn] at hmay
  have hle : ((sz n : Nat) : Int) = (len : Int) := by rw [hl]
  rw [hle] at hsize
  have hB' := Lib.hid hB
  have hz' := Lib.hid hz
  have hW1' := Lib.hid hW1
  clear hW1 hB hz hle h hM hl
  generalize closedL n M = R at *
  go_enter Tryz.func217, Tryz.ntmps217
  go_wp2_with fail
  refine (hmay.out _).mono ?_
  rintro e w2 ⟨rfl, rfl⟩
  go_wp2_with fail
  refine (hsize.out _).mono ?_
  rintro e w2 ⟨rfl, rfl⟩
  go_wp2_with fail
  rw [← hW1'.out]
  refine hcl.out.mono ?_
  intro e w3 hm
  obtain ⟨a3, c3, rfl, hz3, hall⟩ := zone_endO hB'.out (Nat.le_refl _) hz'.out hm
  have hfin := Lib.hid (hall n 0)
  have k0 := hz3.cell 0
  have k1 := hz3.cell 1
  have f0 := hz3.free 0
  have f1 := hz3.free 1
  clear hz3 hm hall
  go_wp2
  exact zone_ret2 hfin.out.1 hfin.out.2.1 _ _ 4 5 rfl rfl rfl rfl
set_option maxRecDepth 100000 in
set_option maxHeartbeats 1000000 in
theorem zclone_own (n : Int) (a : Option Addr) (m c : Nat) (l : List Int) (hm : m ≤ 1000) (w : World) (h : SL w a m c l) :
    Calls Tryz.prog 216 #[.agg #[.int .i64 n, .slice a m c]] w (ZoneOS n l w) := by
  obtain ⟨W1, hW1⟩ : ∃ W1, W1 = (w.alloc (.cells #[.int .i64 n, .slice a m c] 51)).alloc (.cells #[.int .i64 0, .slice none 0 0] 51) := ⟨_, rfl⟩
  have hB : Below w.heap.size w W1 := by rw [hW1]; exact box2_below _ _ _ _ _
  have Z1 : ZH W1 w.heap.size (.int .i64 n) (.slice a m c) := by rw [hW1]; exact (Holds.new w _ _).alloc _
  have Z2 : ZH W1 (w.heap.size + 1) (.int .i64 0) (.slice none 0 0) := by
    rw [hW1]
    have := Holds.new (w.alloc (.cells #[.int .i64 n, .slice a m c] 51)) 51 #[.int .i64 0, .slice none 0 0]
    simpa using this
  have hcl := Lib.hid (fun W (hs : Sees .i64 W.heap.size W a l) => iclone_any a l m c h.len (by have := h.len; omega) W hs)
  have hs1 := Lib.hid ((h.below hB).below (below_drew (Below.refl W1.heap.size W1))).sees
  have hc0 : ∀ W, BelowE [w.heap.size + 1] W1.heap.size W1 W → W.cell? ⟨w.heap.size, 0, none⟩ = some (.int .i64 n) := fun W hW => (Z1.belowE hW Z1.lt (by simp)).cell 0
  have hc1 : ∀ W, BelowE [w.heap.size + 1] W1.heap.size W1 W → W.cell? ⟨w.heap.size, 1, none⟩ = some (.slice a m c) := fun W hW => (Z1.belowE hW Z1.lt (by simp)).cell 1
  have hW1' := Lib.hid hW1
  have hB' := Lib.hid hB
  have Z2' := Lib.hid Z2
  clear hW1 hB Z1 Z2 h
  go_enter Tryz.func216, Tryz.ntmps216
  go_wp2
  rw [← hW1'.out]
  clear hW1'
  refine wp_drawn_on (fun W => BelowE [w.heap.size + 1] W1.heap.size W1 W) (by kernel_rfl) ((BelowE.refl _ _ _).drew) (fun hHeld => ?_)
  refine wpAnyH_take (i := 0) (oi := { dst := some 3, op := Go.Op.fieldAddr 51 (Go.Operand.tmp 1) 0, type := 0, pos := "zone.go:31", after := #[], guard := none }) (v := ?v1) rfl (by kernel_rfl) (by kernel_rfl) (by kernel_rfl) (fun _ _ _ h => h) (Or.inl ⟨by kernel_rfl, ?h1⟩) (by assumption) ?r1
  case h1 => (intro w hSw; (try dsimp only at hSw); go_simp; try with_reducible rfl)
  try simp only [Act.put, List.setIfInBounds_toArray, List.set_cons_zero, List.set_cons_succ]
  refine wpAnyH_take (i := 1) (oi := { dst := some 4, op := Go.Op.load 3 (Go.Operand.tmp 3), type := 3, pos := "zone.go:31", after := #[{ on := 0, ground := Go.Ground.data }], guard := none }) (v := ?v2) rfl (by kernel_rfl) (by kernel_rfl) (by kernel_rfl) (fun _ _ _ h => h) (Or.inl ⟨by kernel_rfl, ?h2⟩) (by assumption) ?r2
  case h2 => (intro w hSw; (try dsimp only at hSw); go_simp; try with_reducible rfl)
  try simp only [Act.put, List.setIfInBounds_toArray, List.set_cons_zero, List.set_cons_succ]
  refine wpAnyH_take (i := 2) (oi := { dst := some 5, op := Go.Op.fieldAddr 51 (Go.Operand.tmp 1) 1, type := 0, pos := "zone.go:31", after := #[], guard := none }) (v := ?v3) rfl (by kernel_rfl) (by kernel_rfl) (by kernel_rfl) (fun _ _ _ h => h) (Or.inl ⟨by kernel_rfl, ?h3⟩) (by assumption) ?r3
  case h3 => (intro w hSw; (try dsimp only at hSw); go_simp; try with_reducible rfl)
  try simp only [Act.put, List.setIfInBounds_toArray, List.set_cons_zero, List.set_cons_succ]
  refine wpAnyH_take (i := 3) (oi := { dst := some 6, op := Go.Op.load 49 (Go.Operand.tmp 5), type := 49, pos := "zone.go:31", after := #[{ on := 2, ground := Go.Ground.data }], guard := none }) (v := ?v4) rfl (by kernel_rfl) (by kernel_rfl) (by kernel_rfl) (fun _ _ _ h => h) (Or.inl ⟨by kernel_rfl, ?h4⟩) (by assumption) ?r4
  case h4 => (intro w hSw; (try dsimp only at hSw); go_simp; try with_reducible rfl)
  try simp only [Act.put, List.setIfInBounds_toArray, List.set_cons_zero, List.set_cons_succ]
  refine wpAnyH_ready (rs := [4]) (by kernel_rfl) (by simp) ?_
  refine AllReadyH.cons (o := { dst := some 7, op := Go.Op.call { callee := Go.Callee.value (Go.Operand.func 63), args := #[Go.Operand.tmp 6], argTypes := #[49] }, type := 49, pos := "zone.go:31", after := #[{ on := 3, ground := Go.Ground.data }], guard := none }) rfl (fun K hK => ?_) AllReadyH.nil
  go_simp
  refine (hcl.out _ hs1.out).mono ?_
  intro e w3 hmd
  have b3 : Below W1.heap.size W1.drew w3 := by obtain ⟨v3, -, -, b3⟩ := hmd; exact b3
  obtain ⟨a3, c3, rfl, hz3, hall⟩ := zone_endO (hB'.out.trans ((below_drew (Below.refl _ _)).mono hB'.out.size)) (g := w.heap.size + 1) (by omega) (Z2'.out.below (below_drew (Below.refl _ _)) Z2'.out.lt) hmd
  have hfin := Lib.hid (hall n 0)
  have j0 := hz3.cell 0
  have j1 := hz3.cell 1
  have f0 := hz3.free 0
  have f1 := hz3.free 1
  clear hmd hall
  go_simp
  refine hK.out _ _ (hHeld.trans (BelowE.of b3)) (fun hHeld => ?_)
  clear hK K
  try simp only [Act.put, List.setIfInBounds_toArray, List.set_cons_zero, List.set_cons_succ]
  refine wpAnyH_take (i := 5) (oi := { dst := some 8, op := Go.Op.build 51 #[(0, Go.Operand.tmp 4), (1, Go.Operand.tmp 7)], type := 51, pos := "zone.go:31", after := #[{ on := 1, ground := Go.Ground.data }, { on := 4, ground := Go.Ground.data }], guard := none }) (v := ?v5) rfl (by kernel_rfl) (by kernel_rfl) (by kernel_rfl) (fun _ _ _ h => h) (Or.inl ⟨by kernel_rfl, ?h5⟩) (by assumption) ?r5
  case h5 => (intro w hSw; (try dsimp only at hSw); go_simp; try with_reducible rfl)
  try simp only [Act.put, List.setIfInBounds_toArray, List.set_cons_zero, List.set_cons_succ]
  refine wpAnyH_ready (rs := [6]) (by kernel_rfl) (by simp) ?_
  refine AllReadyH.cons (o := { dst := none, op := Go.Op.store 51 (Go.Operand.tmp 2) (Go.Operand.tmp 8), type := 0, pos := "zone.go:31", after := #[{ on := 5, ground := Go.Ground.data }, { on := 4, ground := Go.Ground.chain }, { on := 0, ground := Go.Ground.phase }, { on := 1, ground := Go.Ground.phase }, { on := 2, ground := Go.Ground.phase }, { on := 3, ground := Go.Ground.phase }, { on := 4, ground := Go.Ground.phase }, { on := 5, ground := Go.Ground.phase }], guard := none }) rfl (fun K hK => ?_) AllReadyH.nil
  go_simp
  refine hK.out _ _ (((hHeld.setIn (p := ⟨w.heap.size + 1, 0, none⟩) (by simp) _).setIn (p := ⟨w.heap.size + 1, 1, none⟩) (by simp) _)) (fun hHeld => ?_)
  clear hK K
  try simp only [Act.put, List.setIfInBounds_toArray, List.set_cons_zero, List.set_cons_succ]
  refine wpAnyH_done (by kernel_rfl) ?_ _
  go_wp2
  exact zone_ret hfin.out.1 hfin.out.2.2 _ _ 2 rfl rfl rfl
end Go.Proofs.YtimgocfkogebmaaGreatDoor
