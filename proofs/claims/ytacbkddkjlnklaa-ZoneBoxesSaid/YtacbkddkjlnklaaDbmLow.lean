/- Zones: how low the numbers of a phase become. -/
import Derived.Test.YtacbkddkjlnklaaDbmMath
namespace Go.Proofs.Ytacbkddkjlnklaa
set_option linter.unusedVariables false
set_option linter.unusedSimpArgs false

def lowF (k : Nat) (L : Int) (i j : Nat) : Int := if i = k ∧ j = k then 2 * L else if i = k ∨ j = k then 3 * L else 6 * L
theorem lowF_le (k : Nat) {L : Int} (hL : 0 ≤ L) (i j : Nat) : L ≤ lowF k L i j ∧ lowF k L i j ≤ 6 * L := by
  unfold lowF
  split
  · omega
  · split <;> omega
theorem thr_low {n k : Nat} (hk : k ≤ n) {d : List Int} (hl : d.length = (n + 1) * (n + 1)) {L : Int} (hL : 0 ≤ L) (h : ∀ i j, i ≤ n → j ≤ n → -L ≤ mat n d i j) : ∀ t, t ≤ (n + 1) * (n + 1) → ∀ i j, i ≤ n → j ≤ n →
    -(lowF k L i j) ≤ mat n (thr n k d t) i j ∧ (t ≤ i * (n + 1) + j → mat n (thr n k d t) i j = mat n d i j) := by
  intro t
  induction t with
  | zero =>
    intro _ i j hi hj
    have := h i j hi hj
    have := lowF_le k hL i j
    simp only [thr]
    exact ⟨by omega, fun _ => trivial⟩
  | succ t ih =>
    intro ht i j hi hj
    have h1 := ih (by omega)
    obtain ⟨q1, q2, q3⟩ := place_of (n := n) (t := t) (by omega)
    simp only [thr]
    rw [mat_set (by rw [thr_len]; exact hl) (by omega) _ hi hj]
    by_cases q : i = t / (n + 1) ∧ j = t % (n + 1)
    · rw [if_pos q]
      obtain ⟨rfl, rfl⟩ := q
      generalize hi' : t / (n + 1) = i at *
      generalize hj' : t % (n + 1) = j at *
      refine ⟨?_, by intro; omega⟩
      have e : (thr n k d t).getD t 0 = mat n (thr n k d t) i j := by unfold mat; rw [q3]
      rw [e, (h1 i j hi hj).2 (by omega)]
      have a1 := h i j hi hj
      have a2 := h1 i k hi hk
      have a3 := h1 k j hk hj
      have a4 := h i k hi hk
      have a5 := h k j hk hj
      by_cases hik : i = k
      · subst hik
        by_cases hjk : j = i
        · subst hjk
          rw [(h1 j j hi hj).2 (by omega)]
          unfold lowF
          rw [if_pos ⟨rfl, rfl⟩]
          omega
        · rw [(h1 i j hi hj).2 (by omega)]
          have a6 := a2.1
          unfold lowF at a6 ⊢
          rw [if_pos ⟨rfl, rfl⟩] at a6
          rw [if_neg (by rintro ⟨-, e⟩; exact hjk e), if_pos (.inl rfl)]
          omega
      · by_cases hjk : j = k
        · subst hjk
          rw [(h1 i j hi hj).2 (by omega)]
          have a6 := a3.1
          unfold lowF at a6 ⊢
          rw [if_pos ⟨rfl, rfl⟩] at a6
          rw [if_neg (by rintro ⟨e, -⟩; exact hik e), if_pos (.inr rfl)]
          omega
        · have a6 := a3.1
          have a7 := a2.1
          unfold lowF at a6 a7 ⊢
          rw [if_neg (by rintro ⟨-, e⟩; exact hjk e), if_pos (.inl rfl)] at a6
          rw [if_neg (by rintro ⟨e, -⟩; exact hik e), if_pos (.inr rfl)] at a7
          rw [if_neg (by rintro ⟨e, -⟩; exact hik e), if_neg (by rintro (e | e); exact hik e; exact hjk e)]
          omega
    · rw [if_neg q]
      refine ⟨(h1 i j hi hj).1, fun hle => (h1 i j hi hj).2 (by omega)⟩
/-- What the phases up to k have made of a matrix. -/
structure FwI (n : Nat) (M : List Int) (k : Nat) (d : List Int) : Prop where
  len : d.length = (n + 1) * (n + 1)
  run : fwRun n (n + 1 - k) k d = closedL n M
  diag : ∀ i, i ≤ n → mat n d i i ≤ 0
  zero : k = 0 ∨ ∀ i, i ≤ n → mat n d i i = 0
  low : ∀ i j, i ≤ n → j ≤ n → -(if k = 0 then 2199023255553 else 13194139533318 * 2 ^ k) ≤ mat n d i j
  high : ∀ i j, i ≤ n → j ≤ n → mat n d i j ≤ 2199023255552
theorem widestF_le (i j : Nat) : 0 ≤ widestF i j ∧ widestF i j ≤ 2199023255552 := by
  unfold widestF
  split
  · omega
  · split <;> omega
theorem clipF_in (n : Nat) (M : List Int) (i j : Nat) : -2199023255553 ≤ clipF n M i j ∧ clipF n M i j ≤ 2199023255552 := by
  have := widestF_le i j
  unfold clipF
  omega
theorem FwI.start (n : Nat) (M : List Int) : FwI n M 0 (clipL n M) := by
  refine ⟨clip_len _ _, rfl, fun i hi => clip_diag hi, .inl rfl, fun i j hi hj => ?_, fun i j hi hj => ?_⟩
  · unfold clipL
    rw [mat_matL _ hi hj, if_pos rfl]
    have := clipF_in n M i j
    omega
  · unfold clipL
    rw [mat_matL _ hi hj]
    exact (clipF_in n M i j).2
theorem FwI.bounds {n k : Nat} {M d : List Int} (h : FwI n M k d) (hn : n ≤ 8) (hk : k ≤ n) : ∀ t, t ≤ (n + 1) * (n + 1) → ∀ p, -2305843009213693952 ≤ (thr n k d t).getD p 0 ∧ (thr n k d t).getD p 0 ≤ 2305843009213693951 := by
  intro t ht p
  by_cases hp : p < (n + 1) * (n + 1)
  · obtain ⟨q1, q2, q3⟩ := place_of hp
    have e : (thr n k d t).getD p 0 = mat n (thr n k d t) (p / (n + 1)) (p % (n + 1)) := by unfold mat; rw [q3]
    rw [e]
    have hp2 : (2 : Int) ^ k ≤ 256 := by
      have : ∀ k : Nat, k ≤ 8 → (2 : Int) ^ k ≤ 256 := by decide
      exact this k (by omega)
    have hp3 : (0 : Int) ≤ 2 ^ k := Int.le_of_lt (Int.pow_pos (by decide))
    have hL : (0 : Int) ≤ (if k = 0 then 2199023255553 else 13194139533318 * 2 ^ k) := by split <;> omega
    have h1 := (thr_low hk h.len hL h.low t ht _ _ q1 q2).1
    have h2 := (lowF_le k hL (p / (n + 1)) (p % (n + 1))).2
    have h3 := thr_leq h.len t ht _ _ q1 q2 (k := k)
    have h4 := h.high _ _ q1 q2
    refine ⟨?_, by omega⟩
    split at h1 <;> rename_i hk0
    · rw [if_pos hk0] at h2; omega
    · rw [if_neg hk0] at h2; omega
  · have e : (thr n k d t).getD p 0 = 0 := by
      simp only [List.getD]
      rw [List.getElem?_eq_none (by rw [thr_len, h.len]; omega)]
      rfl
    rw [e]; omega
theorem FwI.out {n k : Nat} {M d : List Int} (h : FwI n M k d) (hk : k ≤ n) (hb : belowL n (thrAll n k d) = true) : closedL n M = [] := by
  rw [← h.run, show n + 1 - k = (n - k) + 1 by omega]
  simp only [fwRun]
  rw [if_pos hb]
theorem FwI.next {n k : Nat} {M d : List Int} (h : FwI n M k d) (hk : k ≤ n) (hb : belowL n (thrAll n k d) = false) : FwI n M (k + 1) (thrAll n k d) := by
  have hle : Leq n (mat n (thrAll n k d)) (mat n d) := thr_leq h.len _ (Nat.le_refl _)
  have hz : ∀ i, i ≤ n → mat n (thrAll n k d) i i = 0 := fun i hi => by
    have a := belowL_not hb hi
    have b := hle i i hi hi
    have c := h.diag i hi
    omega
  refine ⟨by unfold thrAll; rw [thr_len]; exact h.len, ?_, fun i hi => by rw [hz i hi]; omega, .inr hz, ?_, fun i j hi hj => Int.le_trans (hle i j hi hj) (h.high i j hi hj)⟩
  · rw [← h.run, show n + 1 - k = (n + 1 - (k + 1)) + 1 by omega]
    conv => rhs; simp only [fwRun]
    rw [if_neg (by rw [hb]; decide)]
  · intro i j hi hj
    rw [if_neg (by omega)]
    by_cases hk0 : k = 0
    · subst hk0
      have hL : (0 : Int) ≤ 2199023255553 := by decide
      have h1 := (thr_low hk h.len hL (fun i j hi hj => by have := h.low i j hi hj; rw [if_pos rfl] at this; exact this) _ (Nat.le_refl _) i j hi hj).1
      have h2 := (lowF_le 0 hL i j).2
      unfold thrAll
      simp only [Nat.zero_add, Int.pow_one] at *
      omega
    · rcases h.zero with h0 | h0
      · exact absurd h0 hk0
      rw [thrAll_at hk h.len (h0 k hk) hi hj]
      have a1 := h.low i j hi hj
      have a2 := h.low i k hi hk
      have a3 := h.low k j hk hj
      rw [if_neg hk0] at a1 a2 a3
      have hp3 : (0 : Int) ≤ 2 ^ k := Int.le_of_lt (Int.pow_pos (by decide))
      rw [Int.pow_succ]
      omega
theorem FwI.end_ {n : Nat} {M d : List Int} (h : FwI n M (n + 1) d) : d = closedL n M := by
  rw [← h.run, Nat.sub_self]; rfl

/- The document's way: how low it becomes. -/
theorem sq_in {n : Nat} {m : List Int} (hlo : ∀ i j, i ≤ n → j ≤ n → -2199023255553 ≤ mat n m i j) (hhi : ∀ i j, i ≤ n → j ≤ n → mat n m i j ≤ 2199023255552) : ∀ t i j, i ≤ n → j ≤ n → -(2199023255553 * 2 ^ t) ≤ mat n (sq n m t) i j ∧ mat n (sq n m t) i j ≤ 2199023255552 := by
  intro t
  induction t with
  | zero => intro i j hi hj; have := hlo i j hi hj; have := hhi i j hi hj; simp only [sq, Int.pow_zero]; omega
  | succ t ih =>
    intro i j hi hj
    rw [sq_at t hi hj]
    have h0 := sqF_le n (mat n (sq n m t)) i j
    have h1 := ih i j hi hj
    have hp3 : (0 : Int) ≤ 2 ^ t := Int.le_of_lt (Int.pow_pos (by decide))
    refine ⟨?_, by omega⟩
    rw [Int.pow_succ]
    rcases sqF_is n (mat n (sq n m t)) i j with q | ⟨k, hk, q⟩
    · omega
    · have a1 := ih i k hi hk
      have a2 := ih k j hk hj
      omega
theorem sq_bound {n : Nat} {M : List Int} {t : Nat} (ht : t ≤ 4) (p : Nat) : -100000000000000 ≤ (sq n (clipL n M) t).getD p 0 ∧ (sq n (clipL n M) t).getD p 0 ≤ 100000000000000 := by
  have hlo : ∀ i j, i ≤ n → j ≤ n → -2199023255553 ≤ mat n (clipL n M) i j := fun i j hi hj => by unfold clipL; rw [mat_matL _ hi hj]; exact (clipF_in n M i j).1
  have hhi : ∀ i j, i ≤ n → j ≤ n → mat n (clipL n M) i j ≤ 2199023255552 := fun i j hi hj => by unfold clipL; rw [mat_matL _ hi hj]; exact (clipF_in n M i j).2
  by_cases hp : p < (n + 1) * (n + 1)
  · obtain ⟨q1, q2, q3⟩ := place_of hp
    have e : (sq n (clipL n M) t).getD p 0 = mat n (sq n (clipL n M) t) (p / (n + 1)) (p % (n + 1)) := by unfold mat; rw [q3]
    rw [e]
    have h1 := sq_in hlo hhi t _ _ q1 q2
    have hp2 : (2 : Int) ^ t ≤ 16 := by
      have : ∀ k : Nat, k ≤ 4 → (2 : Int) ^ k ≤ 16 := by decide
      exact this t ht
    omega
  · have e : (sq n (clipL n M) t).getD p 0 = 0 := by
      simp only [List.getD]
      rw [List.getElem?_eq_none (by rw [sq_len (clip_len _ _)]; omega)]
      rfl
    rw [e]; omega
end Go.Proofs.Ytacbkddkjlnklaa
