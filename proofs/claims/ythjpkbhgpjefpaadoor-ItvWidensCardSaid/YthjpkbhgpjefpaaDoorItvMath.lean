/- Plain mathematics of intervals: no walk. -/
import Derived.Test.YthjpkbhgpjefpaaDoorItvParse
import Derived.Test.YthjpkbhgpjefpaaDoorItvPlus
namespace Go.Proofs.YthjpkbhgpjefpaaDoor
set_option linter.unusedVariables false

def emp (a b : Int) : Prop := b < a ∨ 1099511627776 < a ∨ b < -1099511627776
theorem of_cases (a b : Int) : (emp a b ∧ ofL a b = 1 ∧ ofH a b = 0) ∨ (¬ emp a b ∧ ofL a b = clip a ∧ ofH a b = clip b) := by
  by_cases h : emp a b
  · exact .inl ⟨h, ofL_out h⟩
  · exact .inr ⟨h, ofL_in h⟩
theorem clip_cases (n : Int) : (1099511627776 < n ∧ clip n = 1099511627776) ∨ (n < -1099511627776 ∧ clip n = -1099511627776) ∨ (-1099511627776 ≤ n ∧ n ≤ 1099511627776 ∧ clip n = n) := by
  unfold clip; split
  · left; constructor <;> omega
  · split
    · right; left; constructor <;> omega
    · right; right; refine ⟨?_, ?_, rfl⟩ <;> omega
theorem clip_max (a b : Int) : clip (max a b) = max (clip a) (clip b) := by
  have h1 := clip_cases a
  have h2 := clip_cases b
  have h3 := clip_cases (max a b)
  omega
theorem clip_min (a b : Int) : clip (min a b) = min (clip a) (clip b) := by
  have h1 := clip_cases a
  have h2 := clip_cases b
  have h3 := clip_cases (min a b)
  omega
theorem clip_le {a b : Int} (h : a ≤ b) : clip a ≤ clip b := by
  have h1 := clip_cases a
  have h2 := clip_cases b
  omega
/-- Leq, as it is told. -/
def leqB (a b c d : Int) : Bool := ofL (max a c) (min b d) == ofL a b && ofH (max a c) (min b d) == ofH a b
theorem leq_iff (a b c d : Int) : leqB a b c d = true ↔ emp a b ∨ (¬ emp a b ∧ ¬ emp c d ∧ clip c ≤ clip a ∧ clip b ≤ clip d) := by
  unfold leqB
  rw [Bool.and_eq_true, beq_iff_eq, beq_iff_eq]
  have hm := clip_max a c
  have hn := clip_min b d
  rcases of_cases a b with ⟨h1, e1, e2⟩ | ⟨h1, e1, e2⟩
  · rcases of_cases (max a c) (min b d) with ⟨h2, e3, e4⟩ | ⟨h2, e3, e4⟩
    · constructor
      · intro _; exact .inl h1
      · intro _; omega
    · exfalso; unfold emp at *; omega
  · have hab := clip_le (a := a) (b := b) (by unfold emp at h1; omega)
    rcases of_cases (max a c) (min b d) with ⟨h2, e3, e4⟩ | ⟨h2, e3, e4⟩
    · constructor
      · intro h; omega
      · intro h
        exfalso
        rcases h with h | ⟨_, h3, h4, h5⟩
        · exact h1 h
        · have k1 := clip_cases a
          have k2 := clip_cases b
          have k3 := clip_cases c
          have k4 := clip_cases d
          unfold emp at *
          omega
    · rw [e1, e2, e3, e4, hm, hn]
      constructor
      · intro h
        refine .inr ⟨h1, ?_, by omega, by omega⟩
        unfold emp at *; omega
      · intro h
        rcases h with h | ⟨_, h3, h4, h5⟩
        · exact absurd h h1
        · omega
theorem of_of (a b : Int) : ofL (ofL a b) (ofH a b) = ofL a b ∧ ofH (ofL a b) (ofH a b) = ofH a b := by
  rcases of_cases a b with ⟨h1, e1, e2⟩ | ⟨h1, e1, e2⟩
  · rw [e1, e2]; decide
  · have ha := clip_in a
    have hb := clip_in b
    have hab := clip_le (a := a) (b := b) (by unfold emp at h1; omega)
    rcases of_cases (ofL a b) (ofH a b) with ⟨h2, e3, e4⟩ | ⟨h2, e3, e4⟩
    · exfalso; rw [e1, e2] at h2; unfold emp at h2; omega
    · rw [e3, e4, e1, e2, clip_id ha.1 ha.2, clip_id hb.1 hb.2]; exact ⟨rfl, rfl⟩
/-- Is a plain interval none? -/
theorem none_iff (a b : Int) : (ofL a b == 1 && ofH a b == 0) = true ↔ emp a b := by
  rw [Bool.and_eq_true, beq_iff_eq, beq_iff_eq]
  rcases of_cases a b with ⟨h1, e1, e2⟩ | ⟨h1, e1, e2⟩
  · exact ⟨fun _ => h1, fun _ => ⟨e1, e2⟩⟩
  · have hab := clip_le (a := a) (b := b) (by unfold emp at h1; omega)
    exact ⟨fun h => by omega, fun h => absurd h h1⟩
theorem emp_of (a b : Int) : emp (ofL a b) (ofH a b) ↔ emp a b := by
  rw [← none_iff, ← none_iff, (of_of a b).1, (of_of a b).2]
theorem clip_of {a b : Int} (h : ¬ emp a b) : clip (ofL a b) = clip a ∧ clip (ofH a b) = clip b := by
  rcases of_cases a b with ⟨h1, e1, e2⟩ | ⟨h1, e1, e2⟩
  · exact absurd h1 h
  · have ha := clip_in a
    have hb := clip_in b
    rw [e1, e2, clip_id ha.1 ha.2, clip_id hb.1 hb.2]; exact ⟨rfl, rfl⟩
/-- The join's ends, of any intervals. -/
theorem join_cases (a b c d : Int) : (emp a b ∧ jnL (ofL a b) (ofH a b) (ofL c d) (ofH c d) = ofL c d ∧ jnH (ofL a b) (ofH a b) (ofL c d) (ofH c d) = ofH c d) ∨
    (¬ emp a b ∧ emp c d ∧ jnL (ofL a b) (ofH a b) (ofL c d) (ofH c d) = ofL a b ∧ jnH (ofL a b) (ofH a b) (ofL c d) (ofH c d) = ofH a b) ∨
    (¬ emp a b ∧ ¬ emp c d ∧ jnL (ofL a b) (ofH a b) (ofL c d) (ofH c d) = min (clip a) (clip c) ∧ jnH (ofL a b) (ofH a b) (ofL c d) (ofH c d) = max (clip b) (clip d)) := by
  unfold jnL jnH
  by_cases h1 : emp a b
  · left; rw [if_pos ((none_iff a b).2 h1), if_pos ((none_iff a b).2 h1)]; exact ⟨h1, rfl, rfl⟩
  · rw [if_neg (fun h => h1 ((none_iff a b).1 h)), if_neg (fun h => h1 ((none_iff a b).1 h))]
    by_cases h2 : emp c d
    · right; left; rw [if_pos ((none_iff c d).2 h2), if_pos ((none_iff c d).2 h2)]; exact ⟨h1, h2, rfl, rfl⟩
    · right; right
      rw [if_neg (fun h => h2 ((none_iff c d).1 h)), if_neg (fun h => h2 ((none_iff c d).1 h)), (ofL_in h1).1, (ofL_in h1).2, (ofL_in h2).1, (ofL_in h2).2]
      exact ⟨h1, h2, rfl, rfl⟩
theorem leq_plain (a b c d : Int) : leqB (ofL a b) (ofH a b) c d = leqB a b c d := by
  rw [Bool.eq_iff_iff, leq_iff, leq_iff, emp_of]
  by_cases h : emp a b
  · simp [h]
  · rw [(clip_of h).1, (clip_of h).2]
theorem leq_plain2 (a b c d : Int) : leqB a b (ofL c d) (ofH c d) = leqB a b c d := by
  rw [Bool.eq_iff_iff, leq_iff, leq_iff, emp_of]
  by_cases h : emp c d
  · simp [h]
  · rw [(clip_of h).1, (clip_of h).2]
theorem join_leq (a b c d p q : Int) : leqB (jnL (ofL a b) (ofH a b) (ofL c d) (ofH c d)) (jnH (ofL a b) (ofH a b) (ofL c d) (ofH c d)) p q = (leqB a b p q && leqB c d p q) := by
  rw [Bool.eq_iff_iff, Bool.and_eq_true]
  rcases join_cases a b c d with ⟨h1, e1, e2⟩ | ⟨h1, h2, e1, e2⟩ | ⟨h1, h2, e1, e2⟩
  · rw [e1, e2, leq_plain, leq_iff a b]
    exact ⟨fun h => ⟨.inl h1, h⟩, fun h => h.2⟩
  · rw [e1, e2, leq_plain, leq_iff c d]
    exact ⟨fun h => ⟨h, .inl h2⟩, fun h => h.1⟩
  · rw [e1, e2, leq_iff, leq_iff, leq_iff]
    have hab := clip_le (a := a) (b := b) (by unfold emp at h1; omega)
    have ha := clip_in a
    have hb := clip_in b
    have hc := clip_in c
    have hd := clip_in d
    have he : ¬ emp (min (clip a) (clip c)) (max (clip b) (clip d)) := by unfold emp; omega
    rw [clip_id (n := min (clip a) (clip c)) (by omega) (by omega), clip_id (n := max (clip b) (clip d)) (by omega) (by omega)]
    constructor
    · intro h
      rcases h with h | ⟨_, h3, h4, h5⟩
      · exact absurd h he
      · exact ⟨.inr ⟨h1, h3, by omega, by omega⟩, .inr ⟨h2, h3, by omega, by omega⟩⟩
    · rintro ⟨h, k⟩
      rcases h with h | ⟨_, h3, h4, h5⟩
      · exact absurd h h1
      · rcases k with k | ⟨_, _, h6, h7⟩
        · exact absurd k h2
        · exact .inr ⟨he, h3, by omega, by omega⟩
theorem leq_meet (a b c d p q : Int) : leqB p q (ofL (max a c) (min b d)) (ofH (max a c) (min b d)) = (leqB p q a b && leqB p q c d) := by
  rw [leq_plain2, Bool.eq_iff_iff, Bool.and_eq_true, leq_iff, leq_iff, leq_iff, clip_max, clip_min]
  by_cases hpq : emp p q
  · exact ⟨fun _ => ⟨.inl hpq, .inl hpq⟩, fun _ => .inl hpq⟩
  · have k1 := clip_cases a
    have k2 := clip_cases b
    have k3 := clip_cases c
    have k4 := clip_cases d
    have k5 := clip_cases p
    have k6 := clip_cases q
    constructor
    · intro h
      rcases h with h | ⟨_, h3, h4, h5⟩
      · exact absurd h hpq
      · refine ⟨.inr ⟨hpq, ?_, by omega, by omega⟩, .inr ⟨hpq, ?_, by omega, by omega⟩⟩ <;> (unfold emp at *; omega)
    · rintro ⟨h, k⟩
      rcases h with h | ⟨_, h3, h4, h5⟩
      · exact absurd h hpq
      · rcases k with k | ⟨_, h8, h6, h7⟩
        · exact absurd k hpq
        · refine .inr ⟨hpq, ?_, by omega, by omega⟩
          unfold emp at *
          omega
theorem leq_same (a b c d : Int) : (leqB a b c d && leqB c d a b) = (ofL a b == ofL c d && ofH a b == ofH c d) := by
  rw [Bool.eq_iff_iff, Bool.and_eq_true, Bool.and_eq_true, leq_iff, leq_iff, beq_iff_eq, beq_iff_eq]
  rcases of_cases a b with ⟨h1, e1, e2⟩ | ⟨h1, e1, e2⟩ <;> rcases of_cases c d with ⟨h2, e3, e4⟩ | ⟨h2, e3, e4⟩ <;> rw [e1, e2, e3, e4]
  · exact ⟨fun _ => ⟨rfl, rfl⟩, fun _ => ⟨.inl h1, .inl h2⟩⟩
  · have hcd := clip_le (a := c) (b := d) (by unfold emp at h2; omega)
    constructor
    · rintro ⟨_, h | ⟨_, h, _⟩⟩
      · exact absurd h h2
      · exact absurd h1 h
    · intro h; omega
  · have hab := clip_le (a := a) (b := b) (by unfold emp at h1; omega)
    constructor
    · rintro ⟨h | ⟨_, h, _⟩, _⟩
      · exact absurd h h1
      · exact absurd h2 h
    · intro h; omega
  · constructor
    · rintro ⟨h | ⟨_, _, h3, h4⟩, k | ⟨_, _, h5, h6⟩⟩
      · exact absurd h h1
      · exact absurd h h1
      · exact absurd k h2
      · omega
    · intro h
      exact ⟨.inr ⟨h1, h2, by omega, by omega⟩, .inr ⟨h2, h1, by omega, by omega⟩⟩
end Go.Proofs.YthjpkbhgpjefpaaDoor
