/- What is shown has the same tokens. -/
import Derived.Test.YtplgfghffeijcaaLexTextMath
import Derived.Test.YtplgfghffeijcaaLexSame
namespace Go.Proofs.Ytplgfghffeijcaa
open Go.RowKit
set_option linter.unusedVariables false
set_option linter.unusedSimpArgs false

theorem same_keys {a b : List Tk} (h : a.map keyT = b.map keyT) : sameB false a b = true := by
  have hl : a.length = b.length := by have := congrArg List.length h; simpa using this
  unfold sameB sameK
  rw [decide_eq_true hl, Bool.true_and, List.all_eq_true]
  intro i hi
  have hi1 : i < a.length := by simpa using hi
  have hi2 : i < b.length := by omega
  have hk : keyT (a.getD i tk0) = keyT (b.getD i tk0) := by
    have := congrArg (fun l => l[i]?) h
    simp only [List.getElem?_map, List.getElem?_eq_getElem hi1, List.getElem?_eq_getElem hi2, Option.map_some, Option.some.injEq] at this
    simpa [List.getD, hi1, hi2] using this
  unfold keyT at hk
  injection hk with h1 h2
  unfold tkB
  rw [h1, h2]
  simp
/-- What is shown has the same tokens. -/
theorem tok_show {l : List Tk} (ha : areF true l = true) (hl : (showF true l).length ≤ 1048576) : ∃ L n, tokO (showF true l) = (L, n, 0, 0) ∧ sameB false L l = true := by
  obtain ⟨s', h1, h2, h3⟩ := run_shown l true [] .beg sg0 ha ⟨rfl, rfl, rfl⟩
  refine ⟨s'.L, s'.line - 1, ?_, same_keys (by simpa using h3)⟩
  unfold tokO
  rw [if_neg (by omega), h1]
  simp [endS, h2]
end Go.Proofs.Ytplgfghffeijcaa
