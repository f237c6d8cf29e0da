/- Plain mathematics of what intervals have: no walk. -/
import Derived.Test.YthjpkbhgpjefpaaDoorItvMath
namespace Go.Proofs.YthjpkbhgpjefpaaDoor
set_option linter.unusedVariables false

def hasB (a b v : Int) : Bool := isV v && decide (a ≤ v) && decide (v ≤ b)
theorem has_iff (a b v : Int) : hasB a b v = true ↔ (-1099511627776 ≤ v ∧ v ≤ 1099511627776) ∧ a ≤ v ∧ v ≤ b := by
  unfold hasB
  rw [Bool.and_eq_true, Bool.and_eq_true, isV_iff, decide_eq_true_iff, decide_eq_true_iff, and_assoc]
theorem has_of (a b v : Int) : hasB (ofL a b) (ofH a b) v = hasB a b v := by
  rw [Bool.eq_iff_iff, has_iff, has_iff]
  rcases of_cases a b with ⟨h1, e1, e2⟩ | ⟨h1, e1, e2⟩ <;> rw [e1, e2]
  · unfold emp at h1; omega
  · have k1 := clip_cases a
    have k2 := clip_cases b
    unfold emp at h1
    omega
theorem has_meet (a b c d v : Int) : hasB (ofL (max a c) (min b d)) (ofH (max a c) (min b d)) v = (hasB a b v && hasB c d v) := by
  rw [has_of, Bool.eq_iff_iff, Bool.and_eq_true, has_iff, has_iff, has_iff]
  omega
theorem has_all (v : Int) : hasB (-1099511627776) 1099511627776 v = isV v := by
  rw [Bool.eq_iff_iff, has_iff, isV_iff]; omega
theorem has_none (v : Int) : hasB 1 0 v = false := by
  rw [← Bool.not_eq_true, has_iff]; omega
theorem has_emp {a b v : Int} (h : hasB a b v = true) : ¬ emp a b := by
  rw [has_iff] at h; unfold emp; omega
theorem has_clip {a b v : Int} (h : hasB a b v = true) : clip a ≤ v ∧ v ≤ clip b := by
  rw [has_iff] at h
  have k1 := clip_cases a
  have k2 := clip_cases b
  omega
theorem has_join (a b c d v : Int) (h : hasB a b v = true) : hasB (jnL (ofL a b) (ofH a b) (ofL c d) (ofH c d)) (jnH (ofL a b) (ofH a b) (ofL c d) (ofH c d)) v = true := by
  have h0 := has_clip h
  have he := has_emp h
  have hv := (has_iff a b v).1 h
  rcases join_cases a b c d with ⟨h1, e1, e2⟩ | ⟨h1, h2, e1, e2⟩ | ⟨h1, h2, e1, e2⟩
  · exact absurd h1 he
  · rw [e1, e2, has_of]; exact h
  · rw [e1, e2, has_iff]; omega
/-- The widened one's ends, of any intervals. -/
theorem widen_cases (a b c d : Int) : (emp a b ∧ wdL (ofL a b) (ofH a b) (ofL c d) (ofH c d) = ofL c d ∧ wdH (ofL a b) (ofH a b) (ofL c d) (ofH c d) = ofH c d) ∨
    (¬ emp a b ∧ emp c d ∧ wdL (ofL a b) (ofH a b) (ofL c d) (ofH c d) = ofL a b ∧ wdH (ofL a b) (ofH a b) (ofL c d) (ofH c d) = ofH a b) ∨
    (¬ emp a b ∧ ¬ emp c d ∧ wdL (ofL a b) (ofH a b) (ofL c d) (ofH c d) = (if clip c < clip a then -1099511627776 else clip a) ∧ wdH (ofL a b) (ofH a b) (ofL c d) (ofH c d) = if clip b < clip d then 1099511627776 else clip b) := by
  unfold wdL wdH
  by_cases h1 : emp a b
  · left; rw [if_pos ((none_iff a b).2 h1), if_pos ((none_iff a b).2 h1)]; exact ⟨h1, rfl, rfl⟩
  · rw [if_neg (fun h => h1 ((none_iff a b).1 h)), if_neg (fun h => h1 ((none_iff a b).1 h))]
    by_cases h2 : emp c d
    · right; left; rw [if_pos ((none_iff c d).2 h2), if_pos ((none_iff c d).2 h2)]; exact ⟨h1, h2, rfl, rfl⟩
    · right; right
      rw [if_neg (fun h => h2 ((none_iff c d).1 h)), if_neg (fun h => h2 ((none_iff c d).1 h)), (ofL_in h1).1, (ofL_in h1).2, (ofL_in h2).1, (ofL_in h2).2]
      exact ⟨h1, h2, rfl, rfl⟩
theorem has_widen (a b c d v : Int) (h : hasB a b v = true ∨ hasB c d v = true) : hasB (wdL (ofL a b) (ofH a b) (ofL c d) (ofH c d)) (wdH (ofL a b) (ofH a b) (ofL c d) (ofH c d)) v = true := by
  rcases widen_cases a b c d with ⟨h1, e1, e2⟩ | ⟨h1, h2, e1, e2⟩ | ⟨h1, h2, e1, e2⟩
  · rw [e1, e2, has_of]
    rcases h with h | h
    · exact absurd h1 (has_emp h)
    · exact h
  · rw [e1, e2, has_of]
    rcases h with h | h
    · exact h
    · exact absurd h2 (has_emp h)
  · rw [e1, e2, has_iff]
    have hv : -1099511627776 ≤ v ∧ v ≤ 1099511627776 := by
      rcases h with h | h
      · exact ((has_iff _ _ _).1 h).1
      · exact ((has_iff _ _ _).1 h).1
    have hc : (clip a ≤ v ∧ v ≤ clip b) ∨ (clip c ≤ v ∧ v ≤ clip d) := by
      rcases h with h | h
      · exact .inl (has_clip h)
      · exact .inr (has_clip h)
    refine ⟨hv, ?_, ?_⟩
    · split <;> omega
    · split <;> omega
theorem has_neg (a b v : Int) (hv : -1099511627776 ≤ v ∧ v ≤ 1099511627776) : hasB (ngL (ofL a b) (ofH a b)) (ngH (ofL a b) (ofH a b)) (-v) = hasB a b v := by
  unfold ngL ngH
  by_cases h1 : emp a b
  · rw [if_pos ((none_iff a b).2 h1), if_pos ((none_iff a b).2 h1), has_of, Bool.eq_iff_iff, has_iff, has_iff]
    unfold emp at h1; omega
  · rw [if_neg (fun h => h1 ((none_iff a b).1 h)), if_neg (fun h => h1 ((none_iff a b).1 h)), (ofL_in h1).1, (ofL_in h1).2, Bool.eq_iff_iff, has_iff, has_iff]
    have k1 := clip_cases a
    have k2 := clip_cases b
    unfold emp at h1
    omega
theorem has_plus (a b c d v u : Int) (h : hasB a b v = true) (k : hasB c d u = true) : hasB (psL (ofL a b) (ofH a b) (ofL c d) (ofH c d)) (psH (ofL a b) (ofH a b) (ofL c d) (ofH c d)) (v + u) = isV (v + u) := by
  have h1 := has_emp h
  have h2 := has_emp k
  have e : ¬ ((ofL a b == 1 && ofH a b == 0) || (ofL c d == 1 && ofH c d == 0)) = true := by
    rw [Bool.or_eq_true, none_iff, none_iff]
    exact fun e => e.elim h1 h2
  unfold psL psH
  rw [if_neg e, if_neg e, has_of, (ofL_in h1).1, (ofL_in h1).2, (ofL_in h2).1, (ofL_in h2).2, Bool.eq_iff_iff, has_iff, isV_iff]
  have k1 := has_clip h
  have k2 := has_clip k
  omega
theorem has_move (a b c v : Int) (hv : -1099511627776 ≤ v ∧ v ≤ 1099511627776) (hc : -1099511627776 ≤ c ∧ c ≤ 1099511627776) (hd : -1099511627776 ≤ v - c ∧ v - c ≤ 1099511627776) : hasB (mvL (ofL a b) (ofH a b) c) (mvH (ofL a b) (ofH a b) c) v = hasB a b (v - c) := by
  unfold mvL mvH
  rw [if_neg (by omega), if_neg (by omega), has_of, Bool.eq_iff_iff, has_iff, has_iff]
  rcases of_cases a b with ⟨h1, e1, e2⟩ | ⟨h1, e1, e2⟩ <;> rw [e1, e2]
  · unfold emp at h1; omega
  · have k1 := clip_cases a
    have k2 := clip_cases b
    unfold emp at h1
    omega
end Go.Proofs.YthjpkbhgpjefpaaDoor
