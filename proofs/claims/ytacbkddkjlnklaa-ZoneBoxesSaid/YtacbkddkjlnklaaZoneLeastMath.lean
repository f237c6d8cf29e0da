/- ZoneLeast: joins and meets as bounds; points. Plain lists. -/
import Derived.Test.YtacbkddkjlnklaaZoneLawTwo
namespace Go.Proofs.Ytacbkddkjlnklaa
open Go.RowKit
set_option linter.unusedVariables false
set_option linter.unusedSimpArgs false

theorem leqB_iff {n : Nat} {l1 l2 : List Int} (h1 : Full n l1) (h2 : Full n l2) : leqB l1 l2 = true ↔ Leq n (mat n l1) (mat n l2) := by
  unfold leqB
  rw [if_neg h1.ne, if_neg h2.ne, List.all_eq_true]
  constructor
  · intro h i j hi hj
    have := h (i * (n + 1) + j) (List.mem_range.2 (by rw [h1.len]; exact place_lt hi hj))
    exact of_decide_eq_true this
  · intro h t ht
    rw [List.mem_range, h1.len] at ht
    obtain ⟨q1, q2, q3⟩ := place_of ht
    have := h _ _ q1 q2
    unfold mat at this
    rw [q3] at this
    exact decide_eq_true this
theorem leqB_nil (l : List Int) : leqB [] l = true := by unfold leqB; rw [if_pos rfl]
theorem leqB_none {l : List Int} (h : l ≠ []) : leqB l [] = false := by unfold leqB; rw [if_neg h, if_pos rfl]
theorem pw_mat {n : Nat} {F : Int → Int → Int} {l1 l2 : List Int} (h1 : Full n l1) {i j : Nat} (hi : i ≤ n) (hj : j ≤ n) : mat n (pw F l1 l2) i j = F (mat n l1 i j) (mat n l2 i j) := by
  unfold mat
  exact pw_at F l1 l2 (by rw [h1.len]; exact place_lt hi hj)
theorem join_full {n : Nat} {l1 l2 : List Int} (h1 : Full n l1) (h2 : Full n l2) : closedL n (pw max l1 l2) = pw max l1 l2 := by
  refine closedL_fix (by rw [pw_len]; exact h1.len) ⟨fun i hi => ?_, fun i j k hi hj hk => ?_⟩ (fun i j hi hj => ?_)
  · rw [pw_mat h1 hi hi, h1.closed.zero i hi, h2.closed.zero i hi]; rfl
  · rw [pw_mat h1 hi hj, pw_mat h1 hi hk, pw_mat h1 hk hj]
    have a := h1.closed.tri i j k hi hj hk
    have b := h2.closed.tri i j k hi hj hk
    omega
  · rw [pw_mat h1 hi hj]
    have a := h1.up hi hj
    have b := h2.up hi hj
    omega
theorem join_is {n : Nat} {l1 l2 : List Int} (h1 : Full n l1) (h2 : Full n l2) : Full n (pw max l1 l2) := by
  have e := join_full h1 h2
  have hl : (pw max l1 l2).length = sz n := by rw [pw_len]; exact h1.len
  exact ⟨h1.le, hl, by intro q; rw [q] at hl; have := sz_pos n; exact this hl.symm, e.symm⟩
theorem joinL_isz {n : Nat} {l1 l2 : List Int} (z1 : IsZ n l1) (z2 : IsZ n l2) : IsZ n (joinL n l1 l2) := by
  unfold joinL
  split
  · exact z2
  · rename_i e1
    split
    · exact z1
    · rename_i e2
      rw [join_full (z1.2.resolve_left e1) (z2.2.resolve_left e2)]
      exact ⟨z1.1, .inr (join_is (z1.2.resolve_left e1) (z2.2.resolve_left e2))⟩
theorem meetL_isz {n : Nat} {l1 l2 : List Int} (z1 : IsZ n l1) (z2 : IsZ n l2) : IsZ n (meetL n l1 l2) := by
  unfold meetL
  split
  · exact ⟨z1.1, .inl rfl⟩
  · split
    · exact ⟨z1.1, .inl rfl⟩
    · by_cases h : closedL n (pw min l1 l2) = []
      · exact ⟨z1.1, .inl h⟩
      · exact ⟨z1.1, .inr (closed_full z1.1 h)⟩
theorem leq_join {n : Nat} {l1 l2 l3 : List Int} (z1 : IsZ n l1) (z2 : IsZ n l2) (z3 : IsZ n l3) : leqB (joinL n l1 l2) l3 = (leqB l1 l3 && leqB l2 l3) := by
  unfold joinL
  split
  · rename_i e; rw [e, leqB_nil, Bool.true_and]
  · rename_i e1
    split
    · rename_i e2; rw [e2, leqB_nil, Bool.and_true]
    · rename_i e2
      have h1 := z1.2.resolve_left e1
      have h2 := z2.2.resolve_left e2
      rw [join_full h1 h2]
      by_cases e3 : l3 = []
      · rw [e3, leqB_none (join_is h1 h2).ne, leqB_none e1, Bool.false_and]
      · have h3 := z3.2.resolve_left e3
        rw [Bool.eq_iff_iff, Bool.and_eq_true, leqB_iff (join_is h1 h2) h3, leqB_iff h1 h3, leqB_iff h2 h3]
        constructor
        · intro h
          constructor
          · intro i j hi hj
            have := h i j hi hj
            rw [pw_mat h1 hi hj] at this
            omega
          · intro i j hi hj
            have := h i j hi hj
            rw [pw_mat h1 hi hj] at this
            omega
        · rintro ⟨ha, hb⟩ i j hi hj
          rw [pw_mat h1 hi hj]
          have a := ha i j hi hj
          have b := hb i j hi hj
          omega
theorem leq_meet {n : Nat} {l1 l2 l3 : List Int} (z1 : IsZ n l1) (z2 : IsZ n l2) (z3 : IsZ n l3) : leqB l3 (meetL n l1 l2) = (leqB l3 l1 && leqB l3 l2) := by
  by_cases e3 : l3 = []
  · rw [e3, leqB_nil, leqB_nil, leqB_nil]; rfl
  have h3 := z3.2.resolve_left e3
  unfold meetL
  split
  · rename_i e; rw [e, leqB_none e3, Bool.false_and]
  · rename_i e1
    split
    · rename_i e2; rw [e2, leqB_none e3, Bool.and_false]
    · rename_i e2
      have h1 := z1.2.resolve_left e1
      have h2 := z2.2.resolve_left e2
      have hclip : ∀ D : Nat → Nat → Int, (∀ i j, i ≤ n → j ≤ n → D i j ≤ widestF i j ∧ -2199023255552 ≤ D i j) → (Leq n D (mat n (clipL n (pw min l1 l2))) ↔ Leq n D (mat n l1) ∧ Leq n D (mat n l2)) := by
        intro D hD
        constructor
        · intro h
          constructor
          · intro i j hi hj
            have a := h i j hi hj
            unfold clipL at a
            rw [mat_matL _ hi hj] at a
            have b := hD i j hi hj
            unfold clipF at a
            rw [pw_mat h1 hi hj] at a
            omega
          · intro i j hi hj
            have a := h i j hi hj
            unfold clipL at a
            rw [mat_matL _ hi hj] at a
            have b := hD i j hi hj
            unfold clipF at a
            rw [pw_mat h1 hi hj] at a
            omega
        · rintro ⟨ha, hb⟩ i j hi hj
          have a := ha i j hi hj
          have b := hb i j hi hj
          have c := hD i j hi hj
          unfold clipL
          rw [mat_matL _ hi hj]
          unfold clipF
          rw [pw_mat h1 hi hj]
          omega
      have hD3 : ∀ i j, i ≤ n → j ≤ n → mat n l3 i j ≤ widestF i j ∧ -2199023255552 ≤ mat n l3 i j := fun i j hi hj => by
        have a := h3.up hi hj
        have b := h3.low hi hj
        have c := widestF_le j i
        omega
      rw [Bool.eq_iff_iff, Bool.and_eq_true, leqB_iff h3 h1, leqB_iff h3 h2]
      constructor
      · intro h
        have hne : closedL n (pw min l1 l2) ≠ [] := by
          intro e; rw [e, leqB_none e3] at h; cases h
        have hM := closed_full z1.1 hne
        rw [leqB_iff h3 hM] at h
        obtain ⟨-, -, h5⟩ := closedL_is hne
        exact (hclip _ hD3).1 (fun i j hi hj => Int.le_trans (h i j hi hj) (h5 i j hi hj))
      · intro h
        obtain ⟨q1, q2⟩ := closedL_max h3.closed ((hclip _ hD3).2 h)
        have hM := closed_full z1.1 (closedL_ne q1)
        exact (leqB_iff h3 hM).2 q2
theorem leq_points {n : Nat} {l1 l3 : List Int} (h1 : Full n l1) (h3 : Full n l3) : leqB l1 l3 = (List.range (n + 1)).all fun k => hasB n l3 (pointL n l1 k) := by
  have ht : (((n : Nat) : Int)).toNat = n := by omega
  have hh : ∀ k, k ≤ n → (hasB n l3 (pointL n l1 k) = true ↔ Leq n (difF (pointL n l1 k)) (mat n l3)) := by
    intro k hk
    unfold hasB
    rw [h3.is, point_len, ht, point_near h1 hk, decide_eq_true rfl, Bool.true_and, Bool.true_and, Bool.not_false, Bool.true_and, cells_iff]
  rw [Bool.eq_iff_iff, leqB_iff h1 h3, List.all_eq_true]
  constructor
  · intro h k hk
    rw [List.mem_range] at hk
    rw [hh k (by omega)]
    intro i j hi hj
    unfold difF
    rw [point_at h1 hi (by omega), point_at h1 hj (by omega)]
    have a := h i j hi hj
    have b := h1.closed.tri i k j hi (by omega) hj
    omega
  · intro h i j hi hj
    have a := (hh j hj).1 (h j (List.mem_range.2 (by omega))) i j hi hj
    unfold difF at a
    rw [point_at h1 hi hj, point_at h1 hj hj, h1.closed.zero j hj] at a
    omega
end Go.Proofs.Ytacbkddkjlnklaa
