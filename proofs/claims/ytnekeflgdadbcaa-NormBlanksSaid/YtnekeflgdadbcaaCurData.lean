/- What a reader tells, as plain functions on its bytes, its place, its error; what a reader is in memory; how a step of it ends. -/
import Derived.Test.YtnekeflgdadbcaaLebIs
import Derived.Test.YtnekeflgdadbcaaMem
namespace Go.Proofs.Ytnekeflgdadbcaa
open Go.RowKit
set_option linter.unusedVariables false

theorem got_put0 {l : List Int} (hb : Bs l) : (getL 0 0 1 l = (0, 0, 10)) ∨ (getL 0 0 1 l = (0, 0, 11)) ∨ ∃ (n : Int) (j : Nat), getL 0 0 1 l = (n, (j : Int), 0) ∧ 0 ≤ n ∧ n ≤ 18446744073709551615 ∧ j ≤ l.length := by
  rcases getL_put0 hb with h | h | ⟨n, j, h, h0, h1, h2, h3⟩
  · exact .inl h
  · exact .inr (.inl h)
  · exact .inr (.inr ⟨n, j, h, h0, h1, h3⟩)

/-- The number that is read at a place; the place behind it; why there is none. -/
def uN (bs : List Int) (p : Nat) : Int × Nat × Int := ((getL 0 0 1 (bs.drop p)).1, p + (getL 0 0 1 (bs.drop p)).2.1.toNat, (getL 0 0 1 (bs.drop p)).2.2)
theorem Bs.drop {l : List Int} (h : Bs l) (n : Nat) : Bs (l.drop n) := fun x hx => h x (List.mem_of_mem_drop hx)

end Go.Proofs.Ytnekeflgdadbcaa
