/-
  Words and walks under the law's proof.
-/
import Derived.Test.YtimgocfkogebmaaGreatDoorRows
import Derived.Lib.Hide
import Derived.Laws.Rows
import Derived.Laws.Tables
import Derived.Laws.EntriesVeiled
import Derived.Test.YtimgocfkogebmaaGreatDoorQF01
namespace Go.Proofs.YtimgocfkogebmaaGreatDoor
open Go.RowKit
set_option linter.unusedVariables false
set_option linter.unusedSimpArgs false
def isVarB (x n : Int) : Bool := decide (1 ≤ x) && decide (x ≤ n)
def isTermB (x n : Int) : Bool := decide (0 ≤ x) && decide (x ≤ n)
def isValB (c : Int) : Bool := decide (-1099511627776 ≤ c) && decide (c ≤ 1099511627776)
def skipB (x y c d : Int) : Bool := (x == 0) && ((y == 0) && ((c == 0) && (d == 0)))
def letB (x y c d n : Int) : Bool := isVarB x n && (isTermB y n && (isValB c && (d == 0)))
def anyB (x y c d n : Int) : Bool := isVarB x n && ((y == 0) && (isValB c && (isValB d && decide (c ≤ d))))
def diffB (x y c d n : Int) : Bool := isTermB x n && (isTermB y n && ((x != y) && (isValB c && (d == 0))))
def stmtB (k x y c d n : Int) : Bool := if k = 1 then skipB x y c d else if k = 2 then letB x y c d n else if k = 3 then anyB x y c d n else diffB x y c d n
def rightB (k x y c d n : Int) : Bool := if n < 0 ∨ 8 < n ∨ k < 1 ∨ 5 < k then false else stmtB k x y c d n
def SetTo (v : Value) (w : World) (e : Ending) (w' : World) : Prop := e = .returned v ∧ w = w'
theorem isVar_any (x n : Int) (w : World) : Calls Tryz.prog 200 #[.int .i64 x, .int .i64 n] w (SetTo (.bool (isVarB x n)) w) := by
  by_cases h1 : 1 ≤ x
  · have hR : Hid (decide (x ≤ n) = isVarB x n) := Lib.hid (by unfold isVarB; rw [decide_eq_true h1, Bool.true_and])
    go_enter Tryz.func200, Tryz.ntmps200
    go_wp2
    go_ret
    exact ⟨ret_bool hR.out, rfl⟩
  · have hR : Hid (false = isVarB x n) := Lib.hid (by unfold isVarB; rw [decide_eq_false h1, Bool.false_and])
    go_enter Tryz.func200, Tryz.ntmps200
    go_wp2
    go_ret
    exact ⟨ret_bool hR.out, rfl⟩
theorem isTerm_any (x n : Int) (w : World) : Calls Tryz.prog 201 #[.int .i64 x, .int .i64 n] w (SetTo (.bool (isTermB x n)) w) := by
  by_cases h1 : 0 ≤ x
  · have hR : Hid (decide (x ≤ n) = isTermB x n) := Lib.hid (by unfold isTermB; rw [decide_eq_true h1, Bool.true_and])
    go_enter Tryz.func201, Tryz.ntmps201
    go_wp2
    go_ret
    exact ⟨ret_bool hR.out, rfl⟩
  · have hR : Hid (false = isTermB x n) := Lib.hid (by unfold isTermB; rw [decide_eq_false h1, Bool.false_and])
    go_enter Tryz.func201, Tryz.ntmps201
    go_wp2
    go_ret
    exact ⟨ret_bool hR.out, rfl⟩
theorem pclip_any (c : Int) (w : World) : Calls Tryz.prog 154 #[.int .i64 c] w (SetTo (.int .i64 (max (-1099511627776) (min 1099511627776 c))) w) := by
  by_cases h1 : 1099511627776 ≤ c
  · have h2 : ¬ c < 1099511627776 := by omega
    go_enter Tryz.func154, Tryz.ntmps154
    go_wp2
    go_ret
    exact ⟨ret_int (by omega), rfl⟩
  · have h2 : c < 1099511627776 := by omega
    by_cases h3 : -1099511627776 < c
    · have h4 : ¬ c ≤ -1099511627776 := by omega
      clear h1
      go_enter Tryz.func154, Tryz.ntmps154
      go_wp2
      go_ret
      exact ⟨ret_int (by omega), rfl⟩
    · have h4 : c ≤ -1099511627776 := by omega
      clear h1
      go_enter Tryz.func154, Tryz.ntmps154
      go_wp2
      go_ret
      exact ⟨ret_int (by omega), rfl⟩
theorem pis_any (c : Int) (w : World) : Calls Tryz.prog 112 #[.int .i64 c] w (SetTo (.bool (isValB c)) w) := by
  have hR : Hid ((c == max (-1099511627776) (min 1099511627776 c)) = isValB c) := Lib.hid (by
    unfold isValB
    rw [Bool.eq_iff_iff, beq_iff_eq, Bool.and_eq_true, decide_eq_true_iff, decide_eq_true_iff]
    omega)
  have hq := Lib.hid (pclip_any c w)
  generalize max (-1099511627776) (min 1099511627776 c) = v at *
  go_enter Tryz.func112, Tryz.ntmps112
  go_wp2_with fail
  refine hq.out.mono ?_
  rintro e w1 ⟨rfl, rfl⟩
  go_wp2
  go_ret
  exact ⟨ret_bool hR.out, rfl⟩
set_option maxRecDepth 100000 in
theorem rightSkip_any (k x y c d n : Int) (w : World) : Calls Tryz.prog 174 #[.agg #[.int .i64 k, .int .i64 x, .int .i64 y, .int .i64 c, .int .i64 d], .int .i64 n] w (Gives (.bool (skipB x y c d)) w) := by
  have hB := Lib.hid ((Below.refl w.heap.size w).alloc (Nat.le_refl _) (.cells #[.int .i64 k, .int .i64 x, .int .i64 y, .int .i64 c, .int .i64 d] 73))
  cases h0 : (x == 0)
  · have hR : Hid (false = skipB x y c d) := Lib.hid (by unfold skipB; simp only [h0, Bool.true_and, Bool.false_and, Bool.and_true, Bool.and_false, decide_true, decide_false])
    go_enter Tryz.func174, Tryz.ntmps174
    go_wp2
    go_ret
    exact ⟨ret_bool hR.out, hB.out⟩
  cases h1 : (y == 0)
  · have hR : Hid (false = skipB x y c d) := Lib.hid (by unfold skipB; simp only [h0, h1, Bool.true_and, Bool.false_and, Bool.and_true, Bool.and_false, decide_true, decide_false])
    go_enter Tryz.func174, Tryz.ntmps174
    go_wp2
    go_ret
    exact ⟨ret_bool hR.out, hB.out⟩
  cases h2 : (c == 0)
  · have hR : Hid (false = skipB x y c d) := Lib.hid (by unfold skipB; simp only [h0, h1, h2, Bool.true_and, Bool.false_and, Bool.and_true, Bool.and_false, decide_true, decide_false])
    go_enter Tryz.func174, Tryz.ntmps174
    go_wp2
    go_ret
    exact ⟨ret_bool hR.out, hB.out⟩
  cases h3 : (d == 0)
  · have hR : Hid (false = skipB x y c d) := Lib.hid (by unfold skipB; simp only [h0, h1, h2, h3, Bool.true_and, Bool.false_and, Bool.and_true, Bool.and_false, decide_true, decide_false])
    go_enter Tryz.func174, Tryz.ntmps174
    go_wp2
    go_ret
    exact ⟨ret_bool hR.out, hB.out⟩
  have hR : Hid (true = skipB x y c d) := Lib.hid (by unfold skipB; simp only [h0, h1, h2, h3, Bool.true_and, Bool.false_and, Bool.and_true, Bool.and_false, decide_true, decide_false])
  go_enter Tryz.func174, Tryz.ntmps174
  go_wp2
  go_ret
  exact ⟨ret_bool hR.out, hB.out⟩
set_option maxRecDepth 100000 in
theorem rightLet_any (k x y c d n : Int) (w : World) : Calls Tryz.prog 176 #[.agg #[.int .i64 k, .int .i64 x, .int .i64 y, .int .i64 c, .int .i64 d], .int .i64 n] w (Gives (.bool (letB x y c d n)) w) := by
  have hB := Lib.hid ((Below.refl w.heap.size w).alloc (Nat.le_refl _) (.cells #[.int .i64 k, .int .i64 x, .int .i64 y, .int .i64 c, .int .i64 d] 73))
  have q0 := Lib.hid (fun W => isVar_any x n W)
  cases h0 : isVarB x n
  · rw [h0] at q0
    have hR : Hid (false = letB x y c d n) := Lib.hid (by unfold letB; simp only [h0, Bool.true_and, Bool.false_and, Bool.and_true, Bool.and_false, decide_true, decide_false])
    go_enter Tryz.func176, Tryz.ntmps176
    go_wp2_with fail
    refine (q0.out _).mono ?_
    rintro e w0 ⟨rfl, rfl⟩
    go_wp2
    go_ret
    exact ⟨ret_bool hR.out, hB.out⟩
  rw [h0] at q0
  have q1 := Lib.hid (fun W => isTerm_any y n W)
  cases h1 : isTermB y n
  · rw [h1] at q1
    have hR : Hid (false = letB x y c d n) := Lib.hid (by unfold letB; simp only [h0, h1, Bool.true_and, Bool.false_and, Bool.and_true, Bool.and_false, decide_true, decide_false])
    go_enter Tryz.func176, Tryz.ntmps176
    go_wp2_with fail
    refine (q0.out _).mono ?_
    rintro e w0 ⟨rfl, rfl⟩
    go_wp2_with fail
    refine (q1.out _).mono ?_
    rintro e w1 ⟨rfl, rfl⟩
    go_wp2
    go_ret
    exact ⟨ret_bool hR.out, hB.out⟩
  rw [h1] at q1
  have q2 := Lib.hid (fun W => pis_any c W)
  cases h2 : isValB c
  · rw [h2] at q2
    have hR : Hid (false = letB x y c d n) := Lib.hid (by unfold letB; simp only [h0, h1, h2, Bool.true_and, Bool.false_and, Bool.and_true, Bool.and_false, decide_true, decide_false])
    go_enter Tryz.func176, Tryz.ntmps176
    go_wp2_with fail
    refine (q0.out _).mono ?_
    rintro e w0 ⟨rfl, rfl⟩
    go_wp2_with fail
    refine (q1.out _).mono ?_
    rintro e w1 ⟨rfl, rfl⟩
    go_wp2_with fail
    refine (q2.out _).mono ?_
    rintro e w2 ⟨rfl, rfl⟩
    go_wp2
    go_ret
    exact ⟨ret_bool hR.out, hB.out⟩
  rw [h2] at q2
  cases h3 : (d == 0)
  · have hR : Hid (false = letB x y c d n) := Lib.hid (by unfold letB; simp only [h0, h1, h2, h3, Bool.true_and, Bool.false_and, Bool.and_true, Bool.and_false, decide_true, decide_false])
    go_enter Tryz.func176, Tryz.ntmps176
    go_wp2_with fail
    refine (q0.out _).mono ?_
    rintro e w0 ⟨rfl, rfl⟩
    go_wp2_with fail
    refine (q1.out _).mono ?_
    rintro e w1 ⟨rfl, rfl⟩
    go_wp2_with fail
    refine (q2.out _).mono ?_
    rintro e w2 ⟨rfl, rfl⟩
    go_wp2
    go_ret
    exact ⟨ret_bool hR.out, hB.out⟩
  have hR : Hid (true = letB x y c d n) := Lib.hid (by unfold letB; simp only [h0, h1, h2, h3, Bool.true_and, Bool.false_and, Bool.and_true, Bool.and_false, decide_true, decide_false])
  go_enter Tryz.func176, Tryz.ntmps176
  go_wp2_with fail
  refine (q0.out _).mono ?_
  rintro e w0 ⟨rfl, rfl⟩
  go_wp2_with fail
  refine (q1.out _).mono ?_
  rintro e w1 ⟨rfl, rfl⟩
  go_wp2_with fail
  refine (q2.out _).mono ?_
  rintro e w2 ⟨rfl, rfl⟩
  go_wp2
  go_ret
  exact ⟨ret_bool hR.out, hB.out⟩
set_option maxRecDepth 100000 in
theorem rightAny_any (k x y c d n : Int) (w : World) : Calls Tryz.prog 178 #[.agg #[.int .i64 k, .int .i64 x, .int .i64 y, .int .i64 c, .int .i64 d], .int .i64 n] w (Gives (.bool (anyB x y c d n)) w) := by
  have hB := Lib.hid ((Below.refl w.heap.size w).alloc (Nat.le_refl _) (.cells #[.int .i64 k, .int .i64 x, .int .i64 y, .int .i64 c, .int .i64 d] 73))
  have q0 := Lib.hid (fun W => isVar_any x n W)
  cases h0 : isVarB x n
  · rw [h0] at q0
    have hR : Hid (false = anyB x y c d n) := Lib.hid (by unfold anyB; simp only [h0, Bool.true_and, Bool.false_and, Bool.and_true, Bool.and_false, decide_true, decide_false])
    go_enter Tryz.func178, Tryz.ntmps178
    go_wp2_with fail
    refine (q0.out _).mono ?_
    rintro e w0 ⟨rfl, rfl⟩
    go_wp2
    go_ret
    exact ⟨ret_bool hR.out, hB.out⟩
  rw [h0] at q0
  cases h1 : (y == 0)
  · have hR : Hid (false = anyB x y c d n) := Lib.hid (by unfold anyB; simp only [h0, h1, Bool.true_and, Bool.false_and, Bool.and_true, Bool.and_false, decide_true, decide_false])
    go_enter Tryz.func178, Tryz.ntmps178
    go_wp2_with fail
    refine (q0.out _).mono ?_
    rintro e w0 ⟨rfl, rfl⟩
    go_wp2
    go_ret
    exact ⟨ret_bool hR.out, hB.out⟩
  have q2 := Lib.hid (fun W => pis_any c W)
  cases h2 : isValB c
  · rw [h2] at q2
    have hR : Hid (false = anyB x y c d n) := Lib.hid (by unfold anyB; simp only [h0, h1, h2, Bool.true_and, Bool.false_and, Bool.and_true, Bool.and_false, decide_true, decide_false])
    go_enter Tryz.func178, Tryz.ntmps178
    go_wp2_with fail
    refine (q0.out _).mono ?_
    rintro e w0 ⟨rfl, rfl⟩
    go_wp2_with fail
    refine (q2.out _).mono ?_
    rintro e w2 ⟨rfl, rfl⟩
    go_wp2
    go_ret
    exact ⟨ret_bool hR.out, hB.out⟩
  rw [h2] at q2
  have q3 := Lib.hid (fun W => pis_any d W)
  cases h3 : isValB d
  · rw [h3] at q3
    have hR : Hid (false = anyB x y c d n) := Lib.hid (by unfold anyB; simp only [h0, h1, h2, h3, Bool.true_and, Bool.false_and, Bool.and_true, Bool.and_false, decide_true, decide_false])
    go_enter Tryz.func178, Tryz.ntmps178
    go_wp2_with fail
    refine (q0.out _).mono ?_
    rintro e w0 ⟨rfl, rfl⟩
    go_wp2_with fail
    refine (q2.out _).mono ?_
    rintro e w2 ⟨rfl, rfl⟩
    go_wp2_with fail
    refine (q3.out _).mono ?_
    rintro e w3 ⟨rfl, rfl⟩
    go_wp2
    go_ret
    exact ⟨ret_bool hR.out, hB.out⟩
  rw [h3] at q3
  cases h4 : decide (c ≤ d)
  · have h4p := of_decide_eq_false h4
    have hR : Hid (false = anyB x y c d n) := Lib.hid (by unfold anyB; simp only [h0, h1, h2, h3, h4, Bool.true_and, Bool.false_and, Bool.and_true, Bool.and_false, decide_true, decide_false])
    go_enter Tryz.func178, Tryz.ntmps178
    go_wp2_with fail
    refine (q0.out _).mono ?_
    rintro e w0 ⟨rfl, rfl⟩
    go_wp2_with fail
    refine (q2.out _).mono ?_
    rintro e w2 ⟨rfl, rfl⟩
    go_wp2_with fail
    refine (q3.out _).mono ?_
    rintro e w3 ⟨rfl, rfl⟩
    go_wp2
    go_ret
    exact ⟨ret_bool hR.out, hB.out⟩
  have h4p := of_decide_eq_true h4
  have hR : Hid (true = anyB x y c d n) := Lib.hid (by unfold anyB; simp only [h0, h1, h2, h3, h4, Bool.true_and, Bool.false_and, Bool.and_true, Bool.and_false, decide_true, decide_false])
  go_enter Tryz.func178, Tryz.ntmps178
  go_wp2_with fail
  refine (q0.out _).mono ?_
  rintro e w0 ⟨rfl, rfl⟩
  go_wp2_with fail
  refine (q2.out _).mono ?_
  rintro e w2 ⟨rfl, rfl⟩
  go_wp2_with fail
  refine (q3.out _).mono ?_
  rintro e w3 ⟨rfl, rfl⟩
  go_wp2
  go_ret
  exact ⟨ret_bool hR.out, hB.out⟩
set_option maxRecDepth 100000 in
theorem rightDiff_any (k x y c d n : Int) (w : World) : Calls Tryz.prog 180 #[.agg #[.int .i64 k, .int .i64 x, .int .i64 y, .int .i64 c, .int .i64 d], .int .i64 n] w (Gives (.bool (diffB x y c d n)) w) := by
  have hB := Lib.hid ((Below.refl w.heap.size w).alloc (Nat.le_refl _) (.cells #[.int .i64 k, .int .i64 x, .int .i64 y, .int .i64 c, .int .i64 d] 73))
  have q0 := Lib.hid (fun W => isTerm_any x n W)
  cases h0 : isTermB x n
  · rw [h0] at q0
    have hR : Hid (false = diffB x y c d n) := Lib.hid (by unfold diffB; simp only [h0, Bool.true_and, Bool.false_and, Bool.and_true, Bool.and_false, decide_true, decide_false])
    go_enter Tryz.func180, Tryz.ntmps180
    go_wp2_with fail
    refine (q0.out _).mono ?_
    rintro e w0 ⟨rfl, rfl⟩
    go_wp2
    go_ret
    exact ⟨ret_bool hR.out, hB.out⟩
  rw [h0] at q0
  have q1 := Lib.hid (fun W => isTerm_any y n W)
  cases h1 : isTermB y n
  · rw [h1] at q1
    have hR : Hid (false = diffB x y c d n) := Lib.hid (by unfold diffB; simp only [h0, h1, Bool.true_and, Bool.false_and, Bool.and_true, Bool.and_false, decide_true, decide_false])
    go_enter Tryz.func180, Tryz.ntmps180
    go_wp2_with fail
    refine (q0.out _).mono ?_
    rintro e w0 ⟨rfl, rfl⟩
    go_wp2_with fail
    refine (q1.out _).mono ?_
    rintro e w1 ⟨rfl, rfl⟩
    go_wp2
    go_ret
    exact ⟨ret_bool hR.out, hB.out⟩
  rw [h1] at q1
  cases h2 : (x != y)
  · have hR : Hid (false = diffB x y c d n) := Lib.hid (by unfold diffB; simp only [h0, h1, h2, Bool.true_and, Bool.false_and, Bool.and_true, Bool.and_false, decide_true, decide_false])
    go_enter Tryz.func180, Tryz.ntmps180
    go_wp2_with fail
    refine (q0.out _).mono ?_
    rintro e w0 ⟨rfl, rfl⟩
    go_wp2_with fail
    refine (q1.out _).mono ?_
    rintro e w1 ⟨rfl, rfl⟩
    go_wp2
    go_ret
    exact ⟨ret_bool hR.out, hB.out⟩
  have q3 := Lib.hid (fun W => pis_any c W)
  cases h3 : isValB c
  · rw [h3] at q3
    have hR : Hid (false = diffB x y c d n) := Lib.hid (by unfold diffB; simp only [h0, h1, h2, h3, Bool.true_and, Bool.false_and, Bool.and_true, Bool.and_false, decide_true, decide_false])
    go_enter Tryz.func180, Tryz.ntmps180
    go_wp2_with fail
    refine (q0.out _).mono ?_
    rintro e w0 ⟨rfl, rfl⟩
    go_wp2_with fail
    refine (q1.out _).mono ?_
    rintro e w1 ⟨rfl, rfl⟩
    go_wp2_with fail
    refine (q3.out _).mono ?_
    rintro e w3 ⟨rfl, rfl⟩
    go_wp2
    go_ret
    exact ⟨ret_bool hR.out, hB.out⟩
  rw [h3] at q3
  cases h4 : (d == 0)
  · have hR : Hid (false = diffB x y c d n) := Lib.hid (by unfold diffB; simp only [h0, h1, h2, h3, h4, Bool.true_and, Bool.false_and, Bool.and_true, Bool.and_false, decide_true, decide_false])
    go_enter Tryz.func180, Tryz.ntmps180
    go_wp2_with fail
    refine (q0.out _).mono ?_
    rintro e w0 ⟨rfl, rfl⟩
    go_wp2_with fail
    refine (q1.out _).mono ?_
    rintro e w1 ⟨rfl, rfl⟩
    go_wp2_with fail
    refine (q3.out _).mono ?_
    rintro e w3 ⟨rfl, rfl⟩
    go_wp2
    go_ret
    exact ⟨ret_bool hR.out, hB.out⟩
  have hR : Hid (true = diffB x y c d n) := Lib.hid (by unfold diffB; simp only [h0, h1, h2, h3, h4, Bool.true_and, Bool.false_and, Bool.and_true, Bool.and_false, decide_true, decide_false])
  go_enter Tryz.func180, Tryz.ntmps180
  go_wp2_with fail
  refine (q0.out _).mono ?_
  rintro e w0 ⟨rfl, rfl⟩
  go_wp2_with fail
  refine (q1.out _).mono ?_
  rintro e w1 ⟨rfl, rfl⟩
  go_wp2_with fail
  refine (q3.out _).mono ?_
  rintro e w3 ⟨rfl, rfl⟩
  go_wp2
  go_ret
  exact ⟨ret_bool hR.out, hB.out⟩
def kindsA : Array Value := #[.nilFunc, .nilFunc, .func (.func 174) #[] #[], .func (.func 175) #[] #[], .func (.func 176) #[] #[], .func (.func 177) #[] #[], .func (.func 178) #[] #[], .func (.func 179) #[] #[], .func (.func 180) #[] #[], .func (.func 181) #[] #[], .func (.func 180) #[] #[], .func (.func 182) #[] #[]]
theorem info_kinds : (Tryz.prog.info? 162).map (·.size) = some 12 := by kernel_rfl
theorem kinds_any (w : World) : Calls Tryz.prog 137 #[] w (Gives (.agg kindsA) w) := by
  go_enter Tryz.func137, Tryz.ntmps137
  go_wp2
  exact bodyPost_ret (v := .agg kindsA) (results_cell_row rfl _ _ w.heap.size 162 kindsA (0, 0) _ rfl (heap_alloc_new w (.cells kindsA 162)) Tryz.underlying162 rfl (by rw [info_kinds]; rfl)) rfl ⟨rfl, (Below.refl _ _).alloc (Nat.le_refl _) _⟩
set_option maxRecDepth 100000 in
theorem right_1 (x y c d n : Int) (b : Bool) (hn0 : 0 ≤ n) (hn8 : n ≤ 8)
    (hq : ∀ W, Calls Tryz.prog 174 #[.agg #[.int .i64 1, .int .i64 x, .int .i64 y, .int .i64 c, .int .i64 d], .int .i64 n] W (Gives (.bool b) W)) (w : World) :
    Calls Tryz.prog 136 #[.agg #[.int .i64 1, .int .i64 x, .int .i64 y, .int .i64 c, .int .i64 d], .int .i64 n] w (Gives (.bool b) w) := by
  obtain ⟨W1, hW1⟩ : ∃ W1, W1 = w.alloc (.cells #[.int .i64 1, .int .i64 x, .int .i64 y, .int .i64 c, .int .i64 d] 73) := ⟨_, rfl⟩
  have hB : Below w.heap.size w W1 := by rw [hW1]; exact (Below.refl _ _).alloc (Nat.le_refl _) _
  have hH : Holds W1 w.heap.size 73 #[.int .i64 1, .int .i64 x, .int .i64 y, .int .i64 c, .int .i64 d] := by rw [hW1]; exact Holds.new _ _ _
  have hW1' := Lib.hid hW1
  have k0 := hH.cell 0
  have hB' := Lib.hid hB
  have hH' := Lib.hid hH
  have hq' := Lib.hid hq
  have hix : ∀ W, (Instr.index 162 (.agg kindsA) (.int .i64 1)).run Tryz.prog W = .ok (.agg #[.func (.func 174) #[] #[], .func (.func 175) #[] #[]]) W := fun W => by kernel_rfl
  have hfd : ∀ W, (Instr.field 161 (.agg #[.func (.func 174) #[] #[], .func (.func 175) #[] #[]]) 0).run Tryz.prog W = .ok (.func (.func 174) #[] #[]) W := fun W => by kernel_rfl
  have hn1 : ¬ n < 0 := by omega
  have hn2 : ¬ 8 < n := by omega
  clear hB hH hW1 hq hn0 hn8
  go_enter Tryz.func136, Tryz.ntmps136
  go_wp2
  rw [← hW1'.out]
  have hc0 : ∀ W, Below W1.heap.size W1 W → W.cell? ⟨w.heap.size, 0, none⟩ = some (.int .i64 1) := fun W hW => (hH'.out.below hW hH'.out.lt).cell 0
  have hc1 : ∀ W, Below W1.heap.size W1 W → W.cell? ⟨w.heap.size, 1, none⟩ = some (.int .i64 x) := fun W hW => (hH'.out.below hW hH'.out.lt).cell 1
  have hc2 : ∀ W, Below W1.heap.size W1 W → W.cell? ⟨w.heap.size, 2, none⟩ = some (.int .i64 y) := fun W hW => (hH'.out.below hW hH'.out.lt).cell 2
  have hc3 : ∀ W, Below W1.heap.size W1 W → W.cell? ⟨w.heap.size, 3, none⟩ = some (.int .i64 c) := fun W hW => (hH'.out.below hW hH'.out.lt).cell 3
  have hc4 : ∀ W, Below W1.heap.size W1 W → W.cell? ⟨w.heap.size, 4, none⟩ = some (.int .i64 d) := fun W hW => (hH'.out.below hW hH'.out.lt).cell 4
  clear k0
  refine wp_drawn_on (fun W => Below W1.heap.size W1 W) (by kernel_rfl) ((Below.refl _ _).drew) (fun hHeld => ?_)
  refine wT 1 (v := ?v1) rfl (by kernel_rfl) (fun _ _ _ h => h) ?h1 (by assumption) ?r1
  case h1 => (intro w hSw; (try dsimp only at hSw); go_simp; try with_reducible rfl)
  refine wT 2 (v := ?v2) rfl (by kernel_rfl) (fun _ _ _ h => h) ?h2 (by assumption) ?r2
  case h2 => (intro w hSw; (try dsimp only at hSw); go_simp; try with_reducible rfl)
  refine wT 5 (v := ?v3) rfl (by kernel_rfl) (fun _ _ _ h => h) ?h3 (by assumption) ?r3
  case h3 => (intro w hSw; (try dsimp only at hSw); go_simp; try with_reducible rfl)
  refine wT 6 (v := ?v4) rfl (by kernel_rfl) (fun _ _ _ h => h) ?h4 (by assumption) ?r4
  case h4 => (intro w hSw; (try dsimp only at hSw); go_simp; try with_reducible rfl)
  try simp only [Act.put, List.setIfInBounds_toArray, List.set_cons_zero, List.set_cons_succ]
  refine wpAnyH_ready (rs := [0]) (by kernel_rfl) (by simp) ?_
  refine AllReadyH.cons (o := ⟨_, _, _, _, _, _⟩) rfl (fun K hK => ?_) AllReadyH.nil
  go_simp
  refine (kinds_any _).mono ?_
  rintro e u0 ⟨rfl, b0⟩
  have hx0 := hHeld.trans (b0.mono hHeld.size)
  go_simp
  refine hK.out _ _ (hx0) (fun hHeld => ?_)
  clear hK K
  refine wT 3 (v := ?v5) rfl (by kernel_rfl) (fun _ _ _ h => h) ?h5 (by assumption) ?r5
  case h5 => (intro w hSw; (try dsimp only at hSw); go_simp; try with_reducible rfl)
  refine wT 4 (v := ?v6) rfl (by kernel_rfl) (fun _ _ _ h => h) ?h6 (by assumption) ?r6
  case h6 => (intro w hSw; (try dsimp only at hSw); go_simp; try with_reducible rfl)
  try simp only [Act.put, List.setIfInBounds_toArray, List.set_cons_zero, List.set_cons_succ]
  refine wpAnyH_ready (rs := [7]) (by kernel_rfl) (by simp) ?_
  refine AllReadyH.cons (o := ⟨_, _, _, _, _, _⟩) rfl (fun K hK => ?_) AllReadyH.nil
  go_simp
  refine (hq'.out _).mono ?_
  rintro e u7 ⟨rfl, b7⟩
  have hx7 := hHeld.trans (b7.mono hHeld.size)
  go_simp
  refine hK.out _ _ (hx7) (fun hHeld => ?_)
  clear hK K
  refine wT 8 (v := ?v7) rfl (by kernel_rfl) (fun _ _ _ h => h) ?h7 (by assumption) ?r7
  case h7 => (intro w hSw; (try dsimp only at hSw); go_simp; try with_reducible rfl)
  try simp only [Act.put, List.setIfInBounds_toArray, List.set_cons_zero, List.set_cons_succ]
  refine wpAnyH_done (by kernel_rfl) ?_ _
  have hx := Lib.hid hHeld
  go_wp2
  go_ret
  exact ⟨rfl, hB'.out.trans (hx.out.mono hB'.out.size)⟩
set_option maxRecDepth 100000 in
theorem right_2 (x y c d n : Int) (b : Bool) (hn0 : 0 ≤ n) (hn8 : n ≤ 8)
    (hq : ∀ W, Calls Tryz.prog 176 #[.agg #[.int .i64 2, .int .i64 x, .int .i64 y, .int .i64 c, .int .i64 d], .int .i64 n] W (Gives (.bool b) W)) (w : World) :
    Calls Tryz.prog 136 #[.agg #[.int .i64 2, .int .i64 x, .int .i64 y, .int .i64 c, .int .i64 d], .int .i64 n] w (Gives (.bool b) w) := by
  obtain ⟨W1, hW1⟩ : ∃ W1, W1 = w.alloc (.cells #[.int .i64 2, .int .i64 x, .int .i64 y, .int .i64 c, .int .i64 d] 73) := ⟨_, rfl⟩
  have hB : Below w.heap.size w W1 := by rw [hW1]; exact (Below.refl _ _).alloc (Nat.le_refl _) _
  have hH : Holds W1 w.heap.size 73 #[.int .i64 2, .int .i64 x, .int .i64 y, .int .i64 c, .int .i64 d] := by rw [hW1]; exact Holds.new _ _ _
  have hW1' := Lib.hid hW1
  have k0 := hH.cell 0
  have hB' := Lib.hid hB
  have hH' := Lib.hid hH
  have hq' := Lib.hid hq
  have hix : ∀ W, (Instr.index 162 (.agg kindsA) (.int .i64 2)).run Tryz.prog W = .ok (.agg #[.func (.func 176) #[] #[], .func (.func 177) #[] #[]]) W := fun W => by kernel_rfl
  have hfd : ∀ W, (Instr.field 161 (.agg #[.func (.func 176) #[] #[], .func (.func 177) #[] #[]]) 0).run Tryz.prog W = .ok (.func (.func 176) #[] #[]) W := fun W => by kernel_rfl
  have hn1 : ¬ n < 0 := by omega
  have hn2 : ¬ 8 < n := by omega
  clear hB hH hW1 hq hn0 hn8
  go_enter Tryz.func136, Tryz.ntmps136
  go_wp2
  rw [← hW1'.out]
  have hc0 : ∀ W, Below W1.heap.size W1 W → W.cell? ⟨w.heap.size, 0, none⟩ = some (.int .i64 2) := fun W hW => (hH'.out.below hW hH'.out.lt).cell 0
  have hc1 : ∀ W, Below W1.heap.size W1 W → W.cell? ⟨w.heap.size, 1, none⟩ = some (.int .i64 x) := fun W hW => (hH'.out.below hW hH'.out.lt).cell 1
  have hc2 : ∀ W, Below W1.heap.size W1 W → W.cell? ⟨w.heap.size, 2, none⟩ = some (.int .i64 y) := fun W hW => (hH'.out.below hW hH'.out.lt).cell 2
  have hc3 : ∀ W, Below W1.heap.size W1 W → W.cell? ⟨w.heap.size, 3, none⟩ = some (.int .i64 c) := fun W hW => (hH'.out.below hW hH'.out.lt).cell 3
  have hc4 : ∀ W, Below W1.heap.size W1 W → W.cell? ⟨w.heap.size, 4, none⟩ = some (.int .i64 d) := fun W hW => (hH'.out.below hW hH'.out.lt).cell 4
  clear k0
  refine wp_drawn_on (fun W => Below W1.heap.size W1 W) (by kernel_rfl) ((Below.refl _ _).drew) (fun hHeld => ?_)
  refine wT 1 (v := ?v8) rfl (by kernel_rfl) (fun _ _ _ h => h) ?h8 (by assumption) ?r8
  case h8 => (intro w hSw; (try dsimp only at hSw); go_simp; try with_reducible rfl)
  refine wT 2 (v := ?v9) rfl (by kernel_rfl) (fun _ _ _ h => h) ?h9 (by assumption) ?r9
  case h9 => (intro w hSw; (try dsimp only at hSw); go_simp; try with_reducible rfl)
  refine wT 5 (v := ?v10) rfl (by kernel_rfl) (fun _ _ _ h => h) ?h10 (by assumption) ?r10
  case h10 => (intro w hSw; (try dsimp only at hSw); go_simp; try with_reducible rfl)
  refine wT 6 (v := ?v11) rfl (by kernel_rfl) (fun _ _ _ h => h) ?h11 (by assumption) ?r11
  case h11 => (intro w hSw; (try dsimp only at hSw); go_simp; try with_reducible rfl)
  try simp only [Act.put, List.setIfInBounds_toArray, List.set_cons_zero, List.set_cons_succ]
  refine wpAnyH_ready (rs := [0]) (by kernel_rfl) (by simp) ?_
  refine AllReadyH.cons (o := ⟨_, _, _, _, _, _⟩) rfl (fun K hK => ?_) AllReadyH.nil
  go_simp
  refine (kinds_any _).mono ?_
  rintro e u0 ⟨rfl, b0⟩
  have hx0 := hHeld.trans (b0.mono hHeld.size)
  go_simp
  refine hK.out _ _ (hx0) (fun hHeld => ?_)
  clear hK K
  refine wT 3 (v := ?v12) rfl (by kernel_rfl) (fun _ _ _ h => h) ?h12 (by assumption) ?r12
  case h12 => (intro w hSw; (try dsimp only at hSw); go_simp; try with_reducible rfl)
  refine wT 4 (v := ?v13) rfl (by kernel_rfl) (fun _ _ _ h => h) ?h13 (by assumption) ?r13
  case h13 => (intro w hSw; (try dsimp only at hSw); go_simp; try with_reducible rfl)
  try simp only [Act.put, List.setIfInBounds_toArray, List.set_cons_zero, List.set_cons_succ]
  refine wpAnyH_ready (rs := [7]) (by kernel_rfl) (by simp) ?_
  refine AllReadyH.cons (o := ⟨_, _, _, _, _, _⟩) rfl (fun K hK => ?_) AllReadyH.nil
  go_simp
  refine (hq'.out _).mono ?_
  rintro e u7 ⟨rfl, b7⟩
  have hx7 := hHeld.trans (b7.mono hHeld.size)
  go_simp
  refine hK.out _ _ (hx7) (fun hHeld => ?_)
  clear hK K
  refine wT 8 (v := ?v14) rfl (by kernel_rfl) (fun _ _ _ h => h) ?h14 (by assumption) ?r14
  case h14 => (intro w hSw; (try dsimp only at hSw); go_simp; try with_reducible rfl)
  try simp only [Act.put, List.setIfInBounds_toArray, List.set_cons_zero, List.set_cons_succ]
  refine wpAnyH_done (by kernel_rfl) ?_ _
  have hx := Lib.hid hHeld
  go_wp2
  go_ret
  exact ⟨rfl, hB'.out.trans (hx.out.mono hB'.out.size)⟩
set_option maxRecDepth 100000 in
theorem right_3 (x y c d n : Int) (b : Bool) (hn0 : 0 ≤ n) (hn8 : n ≤ 8)
    (hq : ∀ W, Calls Tryz.prog 178 #[.agg #[.int .i64 3, .int .i64 x, .int .i64 y, .int .i64 c, .int .i64 d], .int .i64 n] W (Gives (.bool b) W)) (w : World) :
    Calls Tryz.prog 136 #[.agg #[.int .i64 3, .int .i64 x, .int .i64 y, .int .i64 c, .int .i64 d], .int .i64 n] w (Gives (.bool b) w) := by
  obtain ⟨W1, hW1⟩ : ∃ W1, W1 = w.alloc (.cells #[.int .i64 3, .int .i64 x, .int .i64 y, .int .i64 c, .int .i64 d] 73) := ⟨_, rfl⟩
  have hB : Below w.heap.size w W1 := by rw [hW1]; exact (Below.refl _ _).alloc (Nat.le_refl _) _
  have hH : Holds W1 w.heap.size 73 #[.int .i64 3, .int .i64 x, .int .i64 y, .int .i64 c, .int .i64 d] := by rw [hW1]; exact Holds.new _ _ _
  have hW1' := Lib.hid hW1
  have k0 := hH.cell 0
  have hB' := Lib.hid hB
  have hH' := Lib.hid hH
  have hq' := Lib.hid hq
  have hix : ∀ W, (Instr.index 162 (.agg kindsA) (.int .i64 3)).run Tryz.prog W = .ok (.agg #[.func (.func 178) #[] #[], .func (.func 179) #[] #[]]) W := fun W => by kernel_rfl
  have hfd : ∀ W, (Instr.field 161 (.agg #[.func (.func 178) #[] #[], .func (.func 179) #[] #[]]) 0).run Tryz.prog W = .ok (.func (.func 178) #[] #[]) W := fun W => by kernel_rfl
  have hn1 : ¬ n < 0 := by omega
  have hn2 : ¬ 8 < n := by omega
  clear hB hH hW1 hq hn0 hn8
  go_enter Tryz.func136, Tryz.ntmps136
  go_wp2
  rw [← hW1'.out]
  have hc0 : ∀ W, Below W1.heap.size W1 W → W.cell? ⟨w.heap.size, 0, none⟩ = some (.int .i64 3) := fun W hW => (hH'.out.below hW hH'.out.lt).cell 0
  have hc1 : ∀ W, Below W1.heap.size W1 W → W.cell? ⟨w.heap.size, 1, none⟩ = some (.int .i64 x) := fun W hW => (hH'.out.below hW hH'.out.lt).cell 1
  have hc2 : ∀ W, Below W1.heap.size W1 W → W.cell? ⟨w.heap.size, 2, none⟩ = some (.int .i64 y) := fun W hW => (hH'.out.below hW hH'.out.lt).cell 2
  have hc3 : ∀ W, Below W1.heap.size W1 W → W.cell? ⟨w.heap.size, 3, none⟩ = some (.int .i64 c) := fun W hW => (hH'.out.below hW hH'.out.lt).cell 3
  have hc4 : ∀ W, Below W1.heap.size W1 W → W.cell? ⟨w.heap.size, 4, none⟩ = some (.int .i64 d) := fun W hW => (hH'.out.below hW hH'.out.lt).cell 4
  clear k0
  refine wp_drawn_on (fun W => Below W1.heap.size W1 W) (by kernel_rfl) ((Below.refl _ _).drew) (fun hHeld => ?_)
  refine wT 1 (v := ?v15) rfl (by kernel_rfl) (fun _ _ _ h => h) ?h15 (by assumption) ?r15
  case h15 => (intro w hSw; (try dsimp only at hSw); go_simp; try with_reducible rfl)
  refine wT 2 (v := ?v16) rfl (by kernel_rfl) (fun _ _ _ h => h) ?h16 (by assumption) ?r16
  case h16 => (intro w hSw; (try dsimp only at hSw); go_simp; try with_reducible rfl)
  refine wT 5 (v := ?v17) rfl (by kernel_rfl) (fun _ _ _ h => h) ?h17 (by assumption) ?r17
  case h17 => (intro w hSw; (try dsimp only at hSw); go_simp; try with_reducible rfl)
  refine wT 6 (v := ?v18) rfl (by kernel_rfl) (fun _ _ _ h => h) ?h18 (by assumption) ?r18
  case h18 => (intro w hSw; (try dsimp only at hSw); go_simp; try with_reducible rfl)
  try simp only [Act.put, List.setIfInBounds_toArray, List.set_cons_zero, List.set_cons_succ]
  refine wpAnyH_ready (rs := [0]) (by kernel_rfl) (by simp) ?_
  refine AllReadyH.cons (o := ⟨_, _, _, _, _, _⟩) rfl (fun K hK => ?_) AllReadyH.nil
  go_simp
  refine (kinds_any _).mono ?_
  rintro e u0 ⟨rfl, b0⟩
  have hx0 := hHeld.trans (b0.mono hHeld.size)
  go_simp
  refine hK.out _ _ (hx0) (fun hHeld => ?_)
  clear hK K
  refine wT 3 (v := ?v19) rfl (by kernel_rfl) (fun _ _ _ h => h) ?h19 (by assumption) ?r19
  case h19 => (intro w hSw; (try dsimp only at hSw); go_simp; try with_reducible rfl)
  refine wT 4 (v := ?v20) rfl (by kernel_rfl) (fun _ _ _ h => h) ?h20 (by assumption) ?r20
  case h20 => (intro w hSw; (try dsimp only at hSw); go_simp; try with_reducible rfl)
  try simp only [Act.put, List.setIfInBounds_toArray, List.set_cons_zero, List.set_cons_succ]
  refine wpAnyH_ready (rs := [7]) (by kernel_rfl) (by simp) ?_
  refine AllReadyH.cons (o := ⟨_, _, _, _, _, _⟩) rfl (fun K hK => ?_) AllReadyH.nil
  go_simp
  refine (hq'.out _).mono ?_
  rintro e u7 ⟨rfl, b7⟩
  have hx7 := hHeld.trans (b7.mono hHeld.size)
  go_simp
  refine hK.out _ _ (hx7) (fun hHeld => ?_)
  clear hK K
  refine wT 8 (v := ?v21) rfl (by kernel_rfl) (fun _ _ _ h => h) ?h21 (by assumption) ?r21
  case h21 => (intro w hSw; (try dsimp only at hSw); go_simp; try with_reducible rfl)
  try simp only [Act.put, List.setIfInBounds_toArray, List.set_cons_zero, List.set_cons_succ]
  refine wpAnyH_done (by kernel_rfl) ?_ _
  have hx := Lib.hid hHeld
  go_wp2
  go_ret
  exact ⟨rfl, hB'.out.trans (hx.out.mono hB'.out.size)⟩
set_option maxRecDepth 100000 in
theorem right_4 (x y c d n : Int) (b : Bool) (hn0 : 0 ≤ n) (hn8 : n ≤ 8)
    (hq : ∀ W, Calls Tryz.prog 180 #[.agg #[.int .i64 4, .int .i64 x, .int .i64 y, .int .i64 c, .int .i64 d], .int .i64 n] W (Gives (.bool b) W)) (w : World) :
    Calls Tryz.prog 136 #[.agg #[.int .i64 4, .int .i64 x, .int .i64 y, .int .i64 c, .int .i64 d], .int .i64 n] w (Gives (.bool b) w) := by
  obtain ⟨W1, hW1⟩ : ∃ W1, W1 = w.alloc (.cells #[.int .i64 4, .int .i64 x, .int .i64 y, .int .i64 c, .int .i64 d] 73) := ⟨_, rfl⟩
  have hB : Below w.heap.size w W1 := by rw [hW1]; exact (Below.refl _ _).alloc (Nat.le_refl _) _
  have hH : Holds W1 w.heap.size 73 #[.int .i64 4, .int .i64 x, .int .i64 y, .int .i64 c, .int .i64 d] := by rw [hW1]; exact Holds.new _ _ _
  have hW1' := Lib.hid hW1
  have k0 := hH.cell 0
  have hB' := Lib.hid hB
  have hH' := Lib.hid hH
  have hq' := Lib.hid hq
  have hix : ∀ W, (Instr.index 162 (.agg kindsA) (.int .i64 4)).run Tryz.prog W = .ok (.agg #[.func (.func 180) #[] #[], .func (.func 181) #[] #[]]) W := fun W => by kernel_rfl
  have hfd : ∀ W, (Instr.field 161 (.agg #[.func (.func 180) #[] #[], .func (.func 181) #[] #[]]) 0).run Tryz.prog W = .ok (.func (.func 180) #[] #[]) W := fun W => by kernel_rfl
  have hn1 : ¬ n < 0 := by omega
  have hn2 : ¬ 8 < n := by omega
  clear hB hH hW1 hq hn0 hn8
  go_enter Tryz.func136, Tryz.ntmps136
  go_wp2
  rw [← hW1'.out]
  have hc0 : ∀ W, Below W1.heap.size W1 W → W.cell? ⟨w.heap.size, 0, none⟩ = some (.int .i64 4) := fun W hW => (hH'.out.below hW hH'.out.lt).cell 0
  have hc1 : ∀ W, Below W1.heap.size W1 W → W.cell? ⟨w.heap.size, 1, none⟩ = some (.int .i64 x) := fun W hW => (hH'.out.below hW hH'.out.lt).cell 1
  have hc2 : ∀ W, Below W1.heap.size W1 W → W.cell? ⟨w.heap.size, 2, none⟩ = some (.int .i64 y) := fun W hW => (hH'.out.below hW hH'.out.lt).cell 2
  have hc3 : ∀ W, Below W1.heap.size W1 W → W.cell? ⟨w.heap.size, 3, none⟩ = some (.int .i64 c) := fun W hW => (hH'.out.below hW hH'.out.lt).cell 3
  have hc4 : ∀ W, Below W1.heap.size W1 W → W.cell? ⟨w.heap.size, 4, none⟩ = some (.int .i64 d) := fun W hW => (hH'.out.below hW hH'.out.lt).cell 4
  clear k0
  refine wp_drawn_on (fun W => Below W1.heap.size W1 W) (by kernel_rfl) ((Below.refl _ _).drew) (fun hHeld => ?_)
  refine wT 1 (v := ?v22) rfl (by kernel_rfl) (fun _ _ _ h => h) ?h22 (by assumption) ?r22
  case h22 => (intro w hSw; (try dsimp only at hSw); go_simp; try with_reducible rfl)
  refine wT 2 (v := ?v23) rfl (by kernel_rfl) (fun _ _ _ h => h) ?h23 (by assumption) ?r23
  case h23 => (intro w hSw; (try dsimp only at hSw); go_simp; try with_reducible rfl)
  refine wT 5 (v := ?v24) rfl (by kernel_rfl) (fun _ _ _ h => h) ?h24 (by assumption) ?r24
  case h24 => (intro w hSw; (try dsimp only at hSw); go_simp; try with_reducible rfl)
  refine wT 6 (v := ?v25) rfl (by kernel_rfl) (fun _ _ _ h => h) ?h25 (by assumption) ?r25
  case h25 => (intro w hSw; (try dsimp only at hSw); go_simp; try with_reducible rfl)
  try simp only [Act.put, List.setIfInBounds_toArray, List.set_cons_zero, List.set_cons_succ]
  refine wpAnyH_ready (rs := [0]) (by kernel_rfl) (by simp) ?_
  refine AllReadyH.cons (o := ⟨_, _, _, _, _, _⟩) rfl (fun K hK => ?_) AllReadyH.nil
  go_simp
  refine (kinds_any _).mono ?_
  rintro e u0 ⟨rfl, b0⟩
  have hx0 := hHeld.trans (b0.mono hHeld.size)
  go_simp
  refine hK.out _ _ (hx0) (fun hHeld => ?_)
  clear hK K
  refine wT 3 (v := ?v26) rfl (by kernel_rfl) (fun _ _ _ h => h) ?h26 (by assumption) ?r26
  case h26 => (intro w hSw; (try dsimp only at hSw); go_simp; try with_reducible rfl)
  refine wT 4 (v := ?v27) rfl (by kernel_rfl) (fun _ _ _ h => h) ?h27 (by assumption) ?r27
  case h27 => (intro w hSw; (try dsimp only at hSw); go_simp; try with_reducible rfl)
  try simp only [Act.put, List.setIfInBounds_toArray, List.set_cons_zero, List.set_cons_succ]
  refine wpAnyH_ready (rs := [7]) (by kernel_rfl) (by simp) ?_
  refine AllReadyH.cons (o := ⟨_, _, _, _, _, _⟩) rfl (fun K hK => ?_) AllReadyH.nil
  go_simp
  refine (hq'.out _).mono ?_
  rintro e u7 ⟨rfl, b7⟩
  have hx7 := hHeld.trans (b7.mono hHeld.size)
  go_simp
  refine hK.out _ _ (hx7) (fun hHeld => ?_)
  clear hK K
  refine wT 8 (v := ?v28) rfl (by kernel_rfl) (fun _ _ _ h => h) ?h28 (by assumption) ?r28
  case h28 => (intro w hSw; (try dsimp only at hSw); go_simp; try with_reducible rfl)
  try simp only [Act.put, List.setIfInBounds_toArray, List.set_cons_zero, List.set_cons_succ]
  refine wpAnyH_done (by kernel_rfl) ?_ _
  have hx := Lib.hid hHeld
  go_wp2
  go_ret
  exact ⟨rfl, hB'.out.trans (hx.out.mono hB'.out.size)⟩
set_option maxRecDepth 100000 in
theorem right_5 (x y c d n : Int) (b : Bool) (hn0 : 0 ≤ n) (hn8 : n ≤ 8)
    (hq : ∀ W, Calls Tryz.prog 180 #[.agg #[.int .i64 5, .int .i64 x, .int .i64 y, .int .i64 c, .int .i64 d], .int .i64 n] W (Gives (.bool b) W)) (w : World) :
    Calls Tryz.prog 136 #[.agg #[.int .i64 5, .int .i64 x, .int .i64 y, .int .i64 c, .int .i64 d], .int .i64 n] w (Gives (.bool b) w) := by
  obtain ⟨W1, hW1⟩ : ∃ W1, W1 = w.alloc (.cells #[.int .i64 5, .int .i64 x, .int .i64 y, .int .i64 c, .int .i64 d] 73) := ⟨_, rfl⟩
  have hB : Below w.heap.size w W1 := by rw [hW1]; exact (Below.refl _ _).alloc (Nat.le_refl _) _
  have hH : Holds W1 w.heap.size 73 #[.int .i64 5, .int .i64 x, .int .i64 y, .int .i64 c, .int .i64 d] := by rw [hW1]; exact Holds.new _ _ _
  have hW1' := Lib.hid hW1
  have k0 := hH.cell 0
  have hB' := Lib.hid hB
  have hH' := Lib.hid hH
  have hq' := Lib.hid hq
  have hix : ∀ W, (Instr.index 162 (.agg kindsA) (.int .i64 5)).run Tryz.prog W = .ok (.agg #[.func (.func 180) #[] #[], .func (.func 182) #[] #[]]) W := fun W => by kernel_rfl
  have hfd : ∀ W, (Instr.field 161 (.agg #[.func (.func 180) #[] #[], .func (.func 182) #[] #[]]) 0).run Tryz.prog W = .ok (.func (.func 180) #[] #[]) W := fun W => by kernel_rfl
  have hn1 : ¬ n < 0 := by omega
  have hn2 : ¬ 8 < n := by omega
  clear hB hH hW1 hq hn0 hn8
  go_enter Tryz.func136, Tryz.ntmps136
  go_wp2
  rw [← hW1'.out]
  have hc0 : ∀ W, Below W1.heap.size W1 W → W.cell? ⟨w.heap.size, 0, none⟩ = some (.int .i64 5) := fun W hW => (hH'.out.below hW hH'.out.lt).cell 0
  have hc1 : ∀ W, Below W1.heap.size W1 W → W.cell? ⟨w.heap.size, 1, none⟩ = some (.int .i64 x) := fun W hW => (hH'.out.below hW hH'.out.lt).cell 1
  have hc2 : ∀ W, Below W1.heap.size W1 W → W.cell? ⟨w.heap.size, 2, none⟩ = some (.int .i64 y) := fun W hW => (hH'.out.below hW hH'.out.lt).cell 2
  have hc3 : ∀ W, Below W1.heap.size W1 W → W.cell? ⟨w.heap.size, 3, none⟩ = some (.int .i64 c) := fun W hW => (hH'.out.below hW hH'.out.lt).cell 3
  have hc4 : ∀ W, Below W1.heap.size W1 W → W.cell? ⟨w.heap.size, 4, none⟩ = some (.int .i64 d) := fun W hW => (hH'.out.below hW hH'.out.lt).cell 4
  clear k0
  refine wp_drawn_on (fun W => Below W1.heap.size W1 W) (by kernel_rfl) ((Below.refl _ _).drew) (fun hHeld => ?_)
  refine wT 1 (v := ?v29) rfl (by kernel_rfl) (fun _ _ _ h => h) ?h29 (by assumption) ?r29
  case h29 => (intro w hSw; (try dsimp only at hSw); go_simp; try with_reducible rfl)
  refine wT 2 (v := ?v30) rfl (by kernel_rfl) (fun _ _ _ h => h) ?h30 (by assumption) ?r30
  case h30 => (intro w hSw; (try dsimp only at hSw); go_simp; try with_reducible rfl)
  refine wT 5 (v := ?v31) rfl (by kernel_rfl) (fun _ _ _ h => h) ?h31 (by assumption) ?r31
  case h31 => (intro w hSw; (try dsimp only at hSw); go_simp; try with_reducible rfl)
  refine wT 6 (v := ?v32) rfl (by kernel_rfl) (fun _ _ _ h => h) ?h32 (by assumption) ?r32
  case h32 => (intro w hSw; (try dsimp only at hSw); go_simp; try with_reducible rfl)
  try simp only [Act.put, List.setIfInBounds_toArray, List.set_cons_zero, List.set_cons_succ]
  refine wpAnyH_ready (rs := [0]) (by kernel_rfl) (by simp) ?_
  refine AllReadyH.cons (o := ⟨_, _, _, _, _, _⟩) rfl (fun K hK => ?_) AllReadyH.nil
  go_simp
  refine (kinds_any _).mono ?_
  rintro e u0 ⟨rfl, b0⟩
  have hx0 := hHeld.trans (b0.mono hHeld.size)
  go_simp
  refine hK.out _ _ (hx0) (fun hHeld => ?_)
  clear hK K
  refine wT 3 (v := ?v33) rfl (by kernel_rfl) (fun _ _ _ h => h) ?h33 (by assumption) ?r33
  case h33 => (intro w hSw; (try dsimp only at hSw); go_simp; try with_reducible rfl)
  refine wT 4 (v := ?v34) rfl (by kernel_rfl) (fun _ _ _ h => h) ?h34 (by assumption) ?r34
  case h34 => (intro w hSw; (try dsimp only at hSw); go_simp; try with_reducible rfl)
  try simp only [Act.put, List.setIfInBounds_toArray, List.set_cons_zero, List.set_cons_succ]
  refine wpAnyH_ready (rs := [7]) (by kernel_rfl) (by simp) ?_
  refine AllReadyH.cons (o := ⟨_, _, _, _, _, _⟩) rfl (fun K hK => ?_) AllReadyH.nil
  go_simp
  refine (hq'.out _).mono ?_
  rintro e u7 ⟨rfl, b7⟩
  have hx7 := hHeld.trans (b7.mono hHeld.size)
  go_simp
  refine hK.out _ _ (hx7) (fun hHeld => ?_)
  clear hK K
  refine wT 8 (v := ?v35) rfl (by kernel_rfl) (fun _ _ _ h => h) ?h35 (by assumption) ?r35
  case h35 => (intro w hSw; (try dsimp only at hSw); go_simp; try with_reducible rfl)
  try simp only [Act.put, List.setIfInBounds_toArray, List.set_cons_zero, List.set_cons_succ]
  refine wpAnyH_done (by kernel_rfl) ?_ _
  have hx := Lib.hid hHeld
  go_wp2
  go_ret
  exact ⟨rfl, hB'.out.trans (hx.out.mono hB'.out.size)⟩
end Go.Proofs.YtimgocfkogebmaaGreatDoor
