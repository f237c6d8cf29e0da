/- The zone of intervals: the program's way and the document's, and what it has. -/
import Derived.Test.YtacbkddkjlnklaaZoneHasFacts
namespace Go.Proofs.Ytacbkddkjlnklaa
open Go.RowKit
set_option linter.unusedVariables false
set_option linter.unusedSimpArgs false

theorem ofP_in (a b : Int) : (-1099511627776 ≤ (ofP a b).1 ∧ (ofP a b).1 ≤ 1099511627776) ∧ (-1099511627776 ≤ (ofP a b).2 ∧ (ofP a b).2 ≤ 1099511627776) := by
  unfold ofP
  split
  · exact ⟨⟨by decide, by decide⟩, by decide, by decide⟩
  · exact ⟨clipV_in a, clipV_in b⟩
theorem ofP_has (a b x : Int) (hx : -1099511627776 ≤ x ∧ x ≤ 1099511627776) : ((ofP a b).1 ≤ x ∧ x ≤ (ofP a b).2) ↔ (a ≤ x ∧ x ≤ b) := by
  unfold ofP clipV
  split
  · simp only
    constructor
    · intro h; omega
    · intro h; omega
  · simp only
    constructor
    · intro h; split at h <;> split at h <;> (try split at h) <;> (try split at h) <;> omega
    · intro h; (repeat' split) <;> omega
theorem boxP_in (xs : List (Int × Int)) (k : Nat) : (-1099511627776 ≤ (boxP xs k).1 ∧ (boxP xs k).1 ≤ 1099511627776) ∧ (-1099511627776 ≤ (boxP xs k).2 ∧ (boxP xs k).2 ≤ 1099511627776) := ofP_in _ _
theorem boxK_leq {n : Nat} {D : Nat → Nat → Int} (xs : List (Int × Int)) : ∀ k, k ≤ n → (Leq n D (mat n (boxK n xs k)) ↔ Leq n D (mat n (allL n)) ∧ ∀ t, t < k → D (t + 1) 0 ≤ (boxP xs t).2 ∧ D 0 (t + 1) ≤ -(boxP xs t).1) := by
  intro k
  induction k with
  | zero =>
    intro _
    constructor
    · intro h; exact ⟨h, fun t ht => by omega⟩
    · intro h; exact h.1
  | succ k ih =>
    intro hk
    have h := ih (by omega)
    have hl := boxK_len n xs k
    have e : boxK n xs (k + 1) = limL n (limL n (boxK n xs k) (k + 1) 0 (boxP xs k).2) 0 (k + 1) (-(clipV (boxP xs k).1)) := rfl
    rw [e, lim_leqF (by rw [limL_len, hl]) (Nat.zero_le _) hk, lim_leqF hl hk (Nat.zero_le _), h, clipV_id (boxP_in xs k).1.1 (boxP_in xs k).1.2]
    constructor
    · rintro ⟨⟨⟨q1, q2⟩, q3⟩, q4⟩
      refine ⟨q1, fun t ht => ?_⟩
      by_cases e2 : t = k
      · subst e2; exact ⟨q3, q4⟩
      · exact q2 t (by omega)
    · rintro ⟨q1, q2⟩
      exact ⟨⟨⟨q1, fun t ht => q2 t (by omega)⟩, (q2 k (by omega)).1⟩, (q2 k (by omega)).2⟩
theorem allL_full {n : Nat} (hn : n ≤ 8) : Full n (allL n) := by
  have e : closedL n (allL n) = allL n := by
    refine closedL_fix (matL_len _ _) ⟨fun i hi => ?_, fun i j k hi hj hk => ?_⟩ (fun i j hi hj => ?_)
    · unfold allL; rw [mat_matL _ hi hi]; unfold widestF; rw [if_pos rfl]
    · unfold allL
      rw [mat_matL _ hi hj, mat_matL _ hi hk, mat_matL _ hk hj]
      unfold widestF
      (repeat' split) <;> omega
    · unfold allL; rw [mat_matL _ hi hj]; exact Int.le_refl _
  have hl : (allL n).length = sz n := matL_len _ _
  exact ⟨hn, hl, by intro q; rw [q] at hl; exact sz_pos n hl.symm, e.symm⟩
/-- The document's zone of intervals. -/
def rbxK (n : Nat) (xs : List (Int × Int)) : Nat → List Int
  | 0 => allL n
  | k + 1 => limitL n (limitL n (rbxK n xs k) (k + 1) 0 (boxP xs k).2) 0 (k + 1) (-(boxP xs k).1)
theorem rbxK_isz {n : Nat} (hn : n ≤ 8) (xs : List (Int × Int)) (k : Nat) : IsZ n (rbxK n xs k) := by
  cases k with
  | zero => exact ⟨hn, .inr (allL_full hn)⟩
  | succ k => exact limitL_isz hn _ _ _ _
theorem lies_rbx {n : Nat} (hn : n ≤ 8) (xs : List (Int × Int)) {D : List Int} (hD : Full n D) : ∀ k, k ≤ n → (Lies n D (rbxK n xs k) ↔ Lies n D (allL n) ∧ ∀ t, t < k → mat n D (t + 1) 0 ≤ (boxP xs t).2 ∧ mat n D 0 (t + 1) ≤ -(boxP xs t).1) := by
  intro k
  induction k with
  | zero =>
    intro _
    constructor
    · intro h; exact ⟨h, fun t ht => by omega⟩
    · intro h; exact h.1
  | succ k ih =>
    intro hk
    have h := ih (by omega)
    have e : rbxK n xs (k + 1) = limitL n (limitL n (rbxK n xs k) (k + 1) 0 (boxP xs k).2) 0 (k + 1) (-(boxP xs k).1) := rfl
    rw [e, lies_limit hD (limitL_isz hn _ _ _ _) (Nat.zero_le _) hk, lies_limit hD (rbxK_isz hn xs k) hk (Nat.zero_le _), h]
    constructor
    · rintro ⟨⟨⟨q1, q2⟩, q3⟩, q4⟩
      refine ⟨q1, fun t ht => ?_⟩
      by_cases e2 : t = k
      · subst e2; exact ⟨q3, q4⟩
      · exact q2 t (by omega)
    · rintro ⟨q1, q2⟩
      exact ⟨⟨⟨q1, fun t ht => q2 t (by omega)⟩, (q2 k (by omega)).1⟩, (q2 k (by omega)).2⟩
/-- The zone of intervals. -/
def boxL (n : Nat) (xs : List (Int × Int)) : List Int := closedL n (boxK n xs n)
theorem boxL_isz {n : Nat} (hn : n ≤ 8) (xs : List (Int × Int)) : IsZ n (boxL n xs) := by
  unfold boxL
  by_cases h : closedL n (boxK n xs n) = []
  · rw [h]; exact ⟨hn, .inl rfl⟩
  · exact ⟨hn, .inr (closed_full hn h)⟩
theorem box_both {n : Nat} (hn : n ≤ 8) (xs : List (Int × Int)) : boxL n xs = rbxK n xs n := by
  have hA := allL_full hn
  refine lies_ext (boxL_isz hn xs) (rbxK_isz hn xs n) (fun D hD => ?_)
  rw [lies_rbx hn xs hD n (Nat.le_refl _)]
  have e : boxL n xs = stepL n (fun _ => boxK n xs n) (allL n) := by unfold boxL stepL; rw [if_neg hA.ne]
  rw [e]
  exact lies_step hD ⟨hn, .inr hA⟩ _ _ (fun _ => boxK_leq xs n (Nat.le_refl _))
/-- Has an interval a value? -/
def itvB (p : Int × Int) (x : Int) : Bool := !farB x && (decide (p.1 ≤ x) && decide (x ≤ p.2))
def inK (n : Nat) (xs : List (Int × Int)) (v : List Int) (k : Nat) : Bool := decide (v.length = n) && (List.range k).all fun t => itvB (xs.getD t (0, 0)) (v.getD t 0)
theorem inK_next (n : Nat) (xs : List (Int × Int)) (v : List Int) (k : Nat) : inK n xs v (k + 1) = (inK n xs v k && itvB (xs.getD k (0, 0)) (v.getD k 0)) := by
  unfold inK
  rw [List.range_succ, List.all_append, Bool.and_assoc]
  simp
theorem box_has {n : Nat} (hn : n ≤ 8) (xs : List (Int × Int)) (v : List Int) : hasB n (boxL n xs) v = inK n xs v (min n v.length) := by
  by_cases hv : v.length = n
  · rw [hv, Nat.min_self, Bool.eq_iff_iff, has_iff (boxL_isz hn xs) hv]
    unfold boxL inK
    rw [has_closed, boxK_leq xs n (Nat.le_refl _), decide_eq_true hv, Bool.true_and, List.all_eq_true]
    constructor
    · rintro ⟨h1, -, h3⟩ t ht
      rw [List.mem_range] at ht
      have q := h3 t ht
      have b := val_in h1 (t + 1)
      unfold difF at q
      rw [valF_zero] at q
      have hvt : valF v (t + 1) = v.getD t 0 := by unfold valF; rw [if_neg (by omega), Nat.add_sub_cancel]
      rw [hvt] at q
      have := (ofP_has (xs.getD t (0, 0)).1 (xs.getD t (0, 0)).2 (v.getD t 0) (by rw [hvt] at b; exact b)).1 ⟨by unfold boxP at q; omega, by unfold boxP at q; omega⟩
      unfold itvB farB
      rw [hvt] at b
      simp only [Bool.and_eq_true, Bool.not_eq_true', Bool.or_eq_false_iff, decide_eq_false_iff_not, decide_eq_true_eq]
      omega
    · intro h
      have hf : v.any farB = false := by
        rw [far_iff]
        intro a ha0 ha
        have := h (a - 1) (List.mem_range.2 (by omega))
        unfold itvB farB at this
        simp at this
        unfold valF
        rw [if_neg (by omega)]
        simp [List.getD]
        omega
      refine ⟨hf, fun i j hi hj => ?_, fun t ht => ?_⟩
      · unfold allL
        rw [mat_matL _ hi hj]
        exact (dif_widest hf i j).1
      · have b := val_in hf (t + 1)
        have hvt : valF v (t + 1) = v.getD t 0 := by unfold valF; rw [if_neg (by omega), Nat.add_sub_cancel]
        have q := h t (List.mem_range.2 ht)
        unfold itvB at q
        rw [Bool.and_eq_true, Bool.and_eq_true, decide_eq_true_eq, decide_eq_true_eq] at q
        rw [hvt] at b
        have := (ofP_has (xs.getD t (0, 0)).1 (xs.getD t (0, 0)).2 (v.getD t 0) b).2 q.2
        unfold difF boxP
        rw [valF_zero, hvt]
        omega
  · have e1 : inK n xs v (min n v.length) = false := by unfold inK; rw [decide_eq_false hv, Bool.false_and]
    rw [e1]
    unfold hasB
    rw [decide_eq_false (show ¬ (v.length : Int) = (n : Int) by omega), Bool.false_and, Bool.and_false]
theorem box_itv {n : Nat} (hn : n ≤ 8) (xs : List (Int × Int)) (i : Nat) (hi : i < n) (h : boxL n xs ≠ []) : itvL n (boxL n xs) (i + 1) = boxP xs i := by
  have hF := (boxL_isz hn xs).2.resolve_left h
  have hle := (boxK_leq (D := mat n (boxL n xs)) xs n (Nat.le_refl _)).1 (by
    intro a b ha hb
    have h5 := (closedL_is (n := n) (M := boxK n xs n) h).2.2 a b ha hb
    unfold clipL at h5
    rw [mat_matL _ ha hb] at h5
    have l1 := hF.low ha hb
    have l2 := widestF_le b a
    change mat n (boxL n xs) a b ≤ _ at h5
    unfold clipF at h5
    omega)
  have hord : ∀ t, t < n → (boxP xs t).1 ≤ (boxP xs t).2 := by
    intro t ht
    have a := hle.2 t ht
    have b := hF.closed.tri (t + 1) (t + 1) 0 (by omega) (by omega) (by omega)
    rw [hF.closed.zero (t + 1) (by omega)] at b
    omega
  have key : ∀ x, (boxP xs i).1 ≤ x → x ≤ (boxP xs i).2 → Has n (boxL n xs) (withL ((List.range n).map fun t => (boxP xs t).1) (i + 1) x) := by
    intro x h1 h2
    have hl : ((List.range n).map fun t => (boxP xs t).1).length = n := by simp
    have hw : ∀ t, t < n → valF (withL ((List.range n).map fun t => (boxP xs t).1) (i + 1) x) (t + 1) = if t = i then x else (boxP xs t).1 := by
      intro t ht
      rw [withL_at (by omega) (by rw [hl]; omega)]
      by_cases e : t = i
      · rw [if_pos e, if_pos (by omega)]
      · rw [if_neg e, if_neg (by omega)]
        unfold valF
        rw [if_neg (by omega), Nat.add_sub_cancel]
        simp [List.getD, ht]
    have hb : ∀ t, t < n → (boxP xs t).1 ≤ valF (withL ((List.range n).map fun t => (boxP xs t).1) (i + 1) x) (t + 1) ∧ valF (withL ((List.range n).map fun t => (boxP xs t).1) (i + 1) x) (t + 1) ≤ (boxP xs t).2 := by
      intro t ht
      rw [hw t ht]
      split
      · rename_i e; subst e; exact ⟨h1, h2⟩
      · exact ⟨Int.le_refl _, hord t ht⟩
    have hf : (withL ((List.range n).map fun t => (boxP xs t).1) (i + 1) x).any farB = false := by
      rw [far_iff]
      intro a ha0 ha
      rw [withL_len, hl] at ha
      obtain ⟨t, rfl⟩ : ∃ t, a = t + 1 := ⟨a - 1, by omega⟩
      have q := hb t (by omega)
      have p := boxP_in xs t
      omega
    unfold boxL
    rw [has_closed, boxK_leq xs n (Nat.le_refl _)]
    refine ⟨hf, fun a b ha hb' => ?_, fun t ht => ?_⟩
    · unfold allL
      rw [mat_matL _ ha hb']
      exact (dif_widest hf a b).1
    · have q := hb t ht
      unfold difF
      rw [valF_zero]
      omega
  have hl : ((List.range n).map fun t => (boxP xs t).1).length = n := by simp
  have k1 := (key (boxP xs i).2 (hord i hi) (Int.le_refl _)).2.2 (i + 1) 0 (by omega) (by omega)
  have k2 := (key (boxP xs i).1 (Int.le_refl _) (hord i hi)).2.2 0 (i + 1) (by omega) (by omega)
  unfold difF at k1 k2
  rw [withL_at (by omega) (by rw [hl]; omega), valF_zero, if_pos rfl] at k1
  rw [valF_zero, withL_at (by omega) (by rw [hl]; omega), if_pos rfl] at k2
  have a := hle.2 i hi
  unfold itvL
  rw [if_neg h]
  have e1 : -(mat n (boxL n xs) 0 (i + 1)) = (boxP xs i).1 := by omega
  have e2 : mat n (boxL n xs) (i + 1) 0 = (boxP xs i).2 := by omega
  rw [e1, e2]
end Go.Proofs.Ytacbkddkjlnklaa
