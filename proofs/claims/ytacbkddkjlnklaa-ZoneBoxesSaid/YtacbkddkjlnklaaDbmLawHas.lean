/- DbmHas: the walk of the statement's function. -/
import Derived.Test.YtacbkddkjlnklaaDbmLives
namespace Go.Proofs.Ytacbkddkjlnklaa
open Go.RowKit
set_option linter.unusedVariables false
set_option linter.unusedSimpArgs false

/-- What a list's values differ by. -/
def difF (v : List Int) (i j : Nat) : Int := valF v i - valF v j
theorem dif_closed (n : Nat) (v : List Int) : Closed n (difF v) := ⟨fun i _ => by unfold difF; omega, fun i j k _ _ _ => by unfold difF; omega⟩
theorem cells_iff (n : Nat) (l v : List Int) : cellsB n l v = true ↔ Leq n (difF v) (mat n l) := by
  constructor
  · intro h i j hi hj
    have ht := place_lt hi hj
    have := List.all_eq_true.1 h (i * (n + 1) + j) (List.mem_range.2 ht)
    unfold cellB at this
    rw [place_div hj, place_mod hj] at this
    exact of_decide_eq_true this
  · intro h
    refine cellsB_yes (fun t ht => ?_)
    obtain ⟨q1, q2, q3⟩ := place_of ht
    have := h _ _ q1 q2
    unfold cellB
    apply decide_eq_true
    unfold mat at this
    rw [q3] at this
    exact this
theorem dif_widest {v : List Int} (h : v.any farB = false) (i j : Nat) : difF v i j ≤ widestF i j ∧ -2199023255552 ≤ difF v i j := by
  have h1 := val_in h i
  have h2 := val_in h j
  have h0 : valF v 0 = 0 := by unfold valF; rw [if_pos rfl]
  unfold difF widestF
  split
  · rename_i e; subst e; omega
  · split
    · rename_i e
      rcases e with rfl | rfl <;> omega
    · omega
theorem dif_clip {n : Nat} {m v : List Int} (h : v.any farB = false) : Leq n (difF v) (mat n (clipL n m)) ↔ Leq n (difF v) (mat n m) := by
  constructor
  · intro hh i j hi hj
    have := hh i j hi hj
    unfold clipL at this
    rw [mat_matL _ hi hj] at this
    have := dif_widest h i j
    unfold clipF at *
    omega
  · intro hh i j hi hj
    have := hh i j hi hj
    unfold clipL
    rw [mat_matL _ hi hj]
    have := dif_widest h i j
    unfold clipF
    omega
theorem holds_ne {m v : List Int} (h : holdsB m v = true) : closedL v.length m ≠ [] := by
  unfold holdsB at h
  rw [Bool.and_eq_true, Bool.and_eq_true] at h
  have hf : v.any farB = false := by simpa using h.2.1
  have := (cells_iff _ _ _).1 h.2.2
  exact closedL_ne (closedL_max (dif_closed _ v) ((dif_clip hf).2 this)).1
theorem closed_full {n : Nat} (hn : n ≤ 8) {m : List Int} (h : closedL n m ≠ []) : Full n (closedL n m) := ⟨hn, (closedL_is h).1, h, (closedL_again h).symm⟩
theorem has_holds {m v : List Int} (hn : v.length ≤ 8) (hl : m.length = sz v.length) : hasB v.length (closedL v.length m) v = holdsB m v := by
  have ht : (((v.length : Nat) : Int)).toNat = v.length := by omega
  by_cases hc : closedL v.length m = []
  · have h1 : hasB v.length (closedL v.length m) v = false := by unfold hasB; rw [hc]; rfl
    rw [h1]
    cases h2 : holdsB m v
    · rfl
    · exact absurd hc (holds_ne h2)
  · have hF := closed_full hn hc
    unfold hasB holdsB
    rw [hF.is, ht, decide_eq_true hl, decide_eq_true rfl, Bool.true_and, Bool.true_and, Bool.true_and]
    cases hf : v.any farB
    · rw [Bool.not_false, Bool.true_and, Bool.true_and]
      apply Bool.eq_iff_iff.2
      rw [cells_iff, cells_iff]
      obtain ⟨h3, h4, h5⟩ := closedL_is hc
      constructor
      · intro h
        exact (dif_clip hf).1 (fun i j hi hj => Int.le_trans (h i j hi hj) (h5 i j hi hj))
      · intro h
        exact (closedL_max (dif_closed _ v) ((dif_clip hf).2 h)).2
    · rfl
end Go.Proofs.Ytacbkddkjlnklaa
