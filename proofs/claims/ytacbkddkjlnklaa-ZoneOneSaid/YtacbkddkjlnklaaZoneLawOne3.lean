/- ZoneOne: the walk of the statement's function, whole. -/
import Derived.Test.YtacbkddkjlnklaaZoneLawOne2
namespace Go.Proofs.Ytacbkddkjlnklaa
open Go.RowKit
set_option linter.unusedVariables false

theorem zoneOne_walk (w : World) (n1 : Int) (hn1 : (Lit.int .i64 n1).wf = true) (a1 : Option Addr) (m1 c1 : Nat) (l1 : List Int) (hl1 : l1.length = m1) (hm1 : m1 ≤ maxLen) (hc1 : m1 ≤ c1) (hw1 : ∀ n ∈ l1, (Lit.int .i64 n).wf = true) (hs1 : Sees .i64 w.heap.size w a1 l1)
    (i : Int) (hi : (Lit.int .i64 i).wf = true) (j : Int) (hj : (Lit.int .i64 j).wf = true) (c : Int) (hc : (Lit.int .i64 c).wf = true) :
    Calls Try.prog 4 #[.agg #[.int .i64 n1, .slice a1 m1 c1], .int .i64 i, .int .i64 j, .int .i64 c] w (Gives (.bool true) w) := by
  have h1 : SL w a1 m1 c1 l1 := ⟨hl1.symm, hc1, by unfold maxLen at hm1; omega, hs1⟩
  by_cases b1 : 200 < m1
  · exact one_large n1 i j c a1 m1 c1 l1 w h1 b1
  cases hk : checkB n1 l1
  · exact one_bad n1 i j c a1 m1 c1 l1 w h1 b1 hk
  · by_cases hoff : i < 0 ∨ n1 < i
    · exact one_off n1 i j c a1 m1 c1 l1 w h1 b1 hk hoff
    · obtain ⟨n, rfl, hz⟩ := isZ_of hk
      obtain ⟨p, rfl⟩ : ∃ p : Nat, i = p := ⟨i.toNat, by omega⟩
      by_cases hj2 : j < 0 ∨ n < j
      · by_cases h0 : p = 0
        · exact one_zo n p j hj2 c a1 m1 c1 l1 w h1 b1 hz (by omega) h0
        · exact one_vo n p j hj2 c a1 m1 c1 l1 w h1 b1 hz (by omega) (by omega)
      · obtain ⟨q, rfl⟩ : ∃ q : Nat, j = q := ⟨j.toNat, by omega⟩
        by_cases h0 : p = 0
        · exact one_zj n p q (by omega) c a1 m1 c1 l1 w h1 b1 hz (by omega) h0
        · exact one_vj n p q (by omega) c a1 m1 c1 l1 w h1 b1 hz (by omega) (by omega)
end Go.Proofs.Ytacbkddkjlnklaa
