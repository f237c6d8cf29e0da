/- Widening by one behind the other changes at most three times: plain mathematics. -/
import Derived.Test.YthjpkbhgpjefpaaDoorItvHas
namespace Go.Proofs.YthjpkbhgpjefpaaDoor
set_option linter.unusedVariables false

/-- How often an interval may still be widened. -/
def phi (a b : Int) : Nat := if ofL a b == 1 && ofH a b == 0 then 3 else (if -1099511627776 < clip a then 1 else 0) + (if clip b < 1099511627776 then 1 else 0)
theorem phi_le (a b : Int) : phi a b ≤ 3 := by unfold phi; split <;> (try split) <;> (try split) <;> omega
theorem phi_emp {a b : Int} (h : emp a b) : phi a b = 3 := by unfold phi; rw [if_pos ((none_iff a b).2 h)]
theorem phi_not {a b : Int} (h : ¬ emp a b) : phi a b = (if -1099511627776 < clip a then 1 else 0) + (if clip b < 1099511627776 then 1 else 0) := by unfold phi; rw [if_neg (fun e => h ((none_iff a b).1 e))]
/-- What is widened by the join. -/
def stL (p q c d : Int) : Int := wdL (ofL p q) (ofH p q) (ofL (jnL (ofL p q) (ofH p q) (ofL c d) (ofH c d)) (jnH (ofL p q) (ofH p q) (ofL c d) (ofH c d))) (ofH (jnL (ofL p q) (ofH p q) (ofL c d) (ofH c d)) (jnH (ofL p q) (ofH p q) (ofL c d) (ofH c d)))
def stH (p q c d : Int) : Int := wdH (ofL p q) (ofH p q) (ofL (jnL (ofL p q) (ofH p q) (ofL c d) (ofH c d)) (jnH (ofL p q) (ofH p q) (ofL c d) (ofH c d))) (ofH (jnL (ofL p q) (ofH p q) (ofL c d) (ofH c d)) (jnH (ofL p q) (ofH p q) (ofL c d) (ofH c d)))
theorem st_emp {p q : Int} (c d : Int) (h : emp p q) : stL p q c d = ofL c d ∧ stH p q c d = ofH c d := by
  unfold stL stH
  rcases join_cases p q c d with ⟨_, e1, e2⟩ | ⟨h1, _⟩ | ⟨h1, _⟩
  · rw [e1, e2]
    rcases widen_cases p q (ofL c d) (ofH c d) with ⟨_, e3, e4⟩ | ⟨h1, _⟩ | ⟨h1, _⟩
    · rw [e3, e4]; exact of_of c d
    · exact absurd h h1
    · exact absurd h h1
  · exact absurd h h1
  · exact absurd h h1
theorem st_not {p q : Int} (c d : Int) (h : ¬ emp p q) : ∃ X Y : Bool, stL p q c d = (if X then -1099511627776 else clip p) ∧ stH p q c d = (if Y then 1099511627776 else clip q) ∧
    (X = true → -1099511627776 < clip p) ∧ (Y = true → clip q < 1099511627776) ∧ (¬ emp c d → (X = false → clip p ≤ clip c) ∧ (Y = false → clip d ≤ clip q)) := by
  have hp := clip_in p
  have hq := clip_in q
  unfold stL stH
  rcases join_cases p q c d with ⟨h1, _⟩ | ⟨_, h2, e1, e2⟩ | ⟨_, h2, e1, e2⟩
  · exact absurd h1 h
  · rw [e1, e2]
    rcases widen_cases p q (ofL p q) (ofH p q) with ⟨h1, _⟩ | ⟨_, h3, _⟩ | ⟨_, h3, e3, e4⟩
    · exact absurd h1 h
    · exact absurd ((emp_of p q).1 h3) h
    · rw [e3, e4, (clip_of h).1, (clip_of h).2, if_neg (by omega), if_neg (by omega)]
      exact ⟨false, false, (if_neg (by decide)).symm, (if_neg (by decide)).symm, (fun e => by cases e), (fun e => by cases e), fun e => absurd h2 e⟩
  · rw [e1, e2]
    have hc := clip_in c
    have hd := clip_in d
    have hpq := clip_le (a := p) (b := q) (by unfold emp at h; omega)
    have hj : ¬ emp (min (clip p) (clip c)) (max (clip q) (clip d)) := by unfold emp; omega
    rcases widen_cases p q (min (clip p) (clip c)) (max (clip q) (clip d)) with ⟨h1, _⟩ | ⟨_, h3, _⟩ | ⟨_, h3, e3, e4⟩
    · exact absurd h1 h
    · exact absurd h3 hj
    · rw [e3, e4, clip_id (n := min (clip p) (clip c)) (by omega) (by omega), clip_id (n := max (clip q) (clip d)) (by omega) (by omega)]
      refine ⟨decide (min (clip p) (clip c) < clip p), decide (clip q < max (clip q) (clip d)), by simp only [decide_eq_true_iff], by simp only [decide_eq_true_iff], ?_, ?_, fun _ => ⟨?_, ?_⟩⟩
      · intro e; rw [decide_eq_true_iff] at e; omega
      · intro e; rw [decide_eq_true_iff] at e; omega
      · intro e; rw [decide_eq_false_iff_not] at e; omega
      · intro e; rw [decide_eq_false_iff_not] at e; omega
theorem leq_refl (a b : Int) : leqB a b a b = true := by
  rw [leq_iff]
  by_cases h : emp a b
  · exact .inl h
  · exact .inr ⟨h, h, Int.le_refl _, Int.le_refl _⟩
theorem st_leq (p q c d : Int) : leqB p q (stL p q c d) (stH p q c d) = true ∧ leqB c d (stL p q c d) (stH p q c d) = true := by
  by_cases h : emp p q
  · rw [(st_emp c d h).1, (st_emp c d h).2, leq_plain2, leq_plain2]
    exact ⟨(leq_iff _ _ _ _).2 (.inl h), leq_refl c d⟩
  · obtain ⟨X, Y, e1, e2, hX, hY, hcd⟩ := st_not c d h
    have hp := clip_in p
    have hq := clip_in q
    have hc := clip_in c
    have hd := clip_in d
    have hpq := clip_le (a := p) (b := q) (by unfold emp at h; omega)
    have hy : ¬ emp (stL p q c d) (stH p q c d) := by
      rw [e1, e2]; unfold emp
      cases X <;> cases Y <;> simp <;> omega
    have k1 : clip (stL p q c d) = stL p q c d := clip_id (by rw [e1]; split <;> omega) (by rw [e1]; split <;> omega)
    have k2 : clip (stH p q c d) = stH p q c d := clip_id (by rw [e2]; split <;> omega) (by rw [e2]; split <;> omega)
    refine ⟨(leq_iff _ _ _ _).2 (.inr ⟨h, hy, ?_, ?_⟩), (leq_iff _ _ _ _).2 ?_⟩
    · rw [k1, e1]; split <;> omega
    · rw [k2, e2]; split <;> omega
    · by_cases h2 : emp c d
      · exact .inl h2
      · obtain ⟨g1, g2⟩ := hcd h2
        refine .inr ⟨h2, hy, ?_, ?_⟩
        · rw [k1, e1]; cases X
          · have := g1 rfl; simpa using this
          · simp; omega
        · rw [k2, e2]; cases Y
          · have := g2 rfl; simpa using this
          · simp; omega
theorem st_phi (p q c d : Int) : phi (stL p q c d) (stH p q c d) + (if (ofL p q == ofL (stL p q c d) (stH p q c d) && ofH p q == ofH (stL p q c d) (stH p q c d)) = true then 0 else 1) ≤ phi p q := by
  by_cases h : emp p q
  · rw [(st_emp c d h).1, (st_emp c d h).2, (of_of c d).1, (of_of c d).2, phi_emp h]
    by_cases h2 : emp c d
    · rw [(ofL_out h).1, (ofL_out h).2, (ofL_out h2).1, (ofL_out h2).2, if_pos (by decide)]
      have := phi_le 1 0
      omega
    · rw [phi_not (fun e => h2 ((emp_of c d).1 e))]
      split <;> split <;> split <;> omega
  · obtain ⟨X, Y, e1, e2, hX, hY, hcd⟩ := st_not c d h
    have hp := clip_in p
    have hq := clip_in q
    have hpq := clip_le (a := p) (b := q) (by unfold emp at h; omega)
    have hy : ¬ emp (stL p q c d) (stH p q c d) := by
      rw [e1, e2]; unfold emp
      cases X <;> cases Y <;> simp <;> omega
    have k1 : clip (stL p q c d) = stL p q c d := clip_id (by rw [e1]; split <;> omega) (by rw [e1]; split <;> omega)
    have k2 : clip (stH p q c d) = stH p q c d := clip_id (by rw [e2]; split <;> omega) (by rw [e2]; split <;> omega)
    rw [phi_not h, phi_not hy, k1, k2, (ofL_in h).1, (ofL_in h).2, (ofL_in hy).1, (ofL_in hy).2, k1, k2, e1, e2]
    generalize clip p = P at *
    generalize clip q = Q at *
    cases X <;> cases Y <;> simp only [Bool.false_eq_true, if_false, if_true]
    · simp
    · have := hY rfl
      simp only [BEq.rfl, Bool.true_and, beq_iff_eq]
      split <;> split <;> split <;> omega
    · have := hX rfl
      simp only [BEq.rfl, Bool.and_true, beq_iff_eq]
      split <;> split <;> split <;> omega
    · have := hX rfl
      have := hY rfl
      simp only [Bool.and_eq_true, beq_iff_eq]
      split <;> split <;> split <;> omega
end Go.Proofs.YthjpkbhgpjefpaaDoor
