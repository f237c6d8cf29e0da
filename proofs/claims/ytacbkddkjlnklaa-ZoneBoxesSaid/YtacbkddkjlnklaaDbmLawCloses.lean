/- DbmCloses: the walk of the statement's function. (Written by gen-dbm-closes.py.) -/
import Derived.Test.YtacbkddkjlnklaaDbmLawHas
namespace Go.Proofs.Ytacbkddkjlnklaa
open Go.RowKit
set_option linter.unusedVariables false
set_option linter.unusedSimpArgs false

theorem closed_chk {n : Nat} (hn : n ≤ 8) (m : List Int) : chk n (closedL n m) = 0 ∧ emptyB n (closedL n m) = decide (closedL n m = []) := by
  by_cases h : closedL n m = []
  · rw [h]
    have e := checkB_nil (mayB_nat hn)
    unfold chk emptyB
    rw [e]
    simp
  · have hF := closed_full hn h
    have e : checkB n (closedL n m) = true := by rw [checkB_sz hn h hF.len]; exact decide_eq_true hF.fix
    unfold chk emptyB
    rw [e]
    simp
theorem closed_small {n : Nat} (hn : n ≤ 8) (m : List Int) : (closedL n m).length ≤ 81 := by
  have := sz_le hn
  by_cases h : closedL n m = []
  · rw [h]; simp
  · have : (closedL n m).length = sz n := (closedL_is h).1
    omega
theorem ret_tt {e : Ending} {b : Bool} (h : e = .returned (.bool b)) (hb : b = true) : e = .returned (.bool true) := by rw [h, hb]
theorem zone_nil (w : World) (n : Int) (a : Option Addr) (c : Nat) (h : SL w a 0 c []) : Calls Try.prog 46 #[.agg #[.int .i64 0, .slice a 0 c], .agg #[.int .i64 0, .slice none 0 0]] w (Gives (.bool true) w) := by
  have := dsame_any 0 0 a none [] [] 0 0 c 0 w h (SL.nil w)
  simpa using this
theorem rzone_nil (w : World) (n : Int) (a : Option Addr) (c : Nat) (h : SL w a 0 c []) : Calls Try.prog 16 #[.agg #[.int .i64 0, .slice a 0 c], .agg #[.int .i64 0, .slice none 0 0]] w (Gives (.bool true) w) := by
  have := rsame_any 0 0 a none [] [] 0 0 c 0 w h (SL.nil w)
  simpa using this
theorem rsame_self (n : Int) (a1 a2 : Option Addr) (l : List Int) (m c1 c2 : Nat) (w : World) (h1 : SL w a1 m c1 l) (h2 : SL w a2 m c2 l) :
    Calls Try.prog 16 #[.agg #[.int .i64 n, .slice a1 m c1], .agg #[.int .i64 n, .slice a2 m c2]] w (Gives (.bool true) w) := by
  have := rsame_any n n a1 a2 l l m m c1 c2 w h1 h2
  simpa using this
theorem dsame_self (n : Int) (a1 a2 : Option Addr) (l : List Int) (m c1 c2 : Nat) (w : World) (h1 : SL w a1 m c1 l) (h2 : SL w a2 m c2 l) :
    Calls Try.prog 46 #[.agg #[.int .i64 n, .slice a1 m c1], .agg #[.int .i64 n, .slice a2 m c2]] w (Gives (.bool true) w) := by
  have := dsame_any n n a1 a2 l l m m c1 c2 w h1 h2
  simpa using this
/-- A zone that the document's function hands back, its length a letter. -/
theorem zones_of {n : Int} {l : List Int} {w : World} {e : Ending} {w' : World} {m : Nat} (hm : l.length = m) (hmx : m ≤ 9223372036854775807) (h : ZoneS n l w e w') : ∃ a c, e = .returned (.agg #[.int .i64 n, .slice a m c]) ∧ SL w' a m c l ∧ Below w.heap.size w w' := by
  obtain ⟨a, c, rfl, hc, hs, hb, -⟩ := h
  subst hm
  exact ⟨a, c, rfl, ⟨rfl, hc, hmx, hs⟩, hb⟩
end Go.Proofs.Ytacbkddkjlnklaa
