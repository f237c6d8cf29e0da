/- Which valuations zones have that are made of zones: as the statements ask. -/
import Derived.Test.YtacbkddkjlnklaaZoneHasMath
namespace Go.Proofs.Ytacbkddkjlnklaa
open Go.RowKit
set_option linter.unusedVariables false
set_option linter.unusedSimpArgs false

theorem forgetL_isz {n : Nat} (hn : n ≤ 8) (l : List Int) (i : Nat) : IsZ n (forgetL n l i) := stepL_isz hn _ _
theorem limitL_isz {n : Nat} (hn : n ≤ 8) (l : List Int) (i j : Nat) (c : Int) : IsZ n (limitL n l i j c) := stepL_isz hn _ _
theorem fact_meet {n : Nat} {A B v : List Int} (hA : IsZ n A) (hB : IsZ n B) (hv : v.length = n) : hasB n (meetL n A B) v = (hasB n A v && hasB n B v) := by
  rw [Bool.eq_iff_iff, Bool.and_eq_true, has_iff (meetL_isz hA hB) hv, has_iff hA hv, has_iff hB hv]
  exact has_meet hA hB
theorem widenL_isz {n : Nat} {A B : List Int} (z1 : IsZ n A) (z2 : IsZ n B) : IsZ n (widenL n A B) := by
  unfold widenL
  split
  · exact z2
  · split
    · exact z1
    · by_cases h : closedL n (pw wid A B) = []
      · exact ⟨z1.1, .inl h⟩
      · exact ⟨z1.1, .inr (closed_full z1.1 h)⟩
theorem fact_join {n : Nat} {A B v : List Int} (hA : IsZ n A) (hB : IsZ n B) (hv : v.length = n) (h : (hasB n A v || hasB n B v) = true) : hasB n (joinL n A B) v = true := by
  rw [Bool.or_eq_true, has_iff hA hv, has_iff hB hv] at h
  exact (has_iff (joinL_isz hA hB) hv).2 (has_join hA hB h)
theorem fact_widen {n : Nat} {A B v : List Int} (hA : IsZ n A) (hB : IsZ n B) (hv : v.length = n) (h : (hasB n A v || hasB n B v) = true) : hasB n (widenL n A B) v = true := by
  rw [Bool.or_eq_true, has_iff hA hv, has_iff hB hv] at h
  exact (has_iff (widenL_isz hA hB) hv).2 (has_widen hA hB h)
theorem fact_limit {n : Nat} {A v : List Int} (hA : IsZ n A) (hv : v.length = n) {i j : Nat} (hi : i ≤ n) (hj : j ≤ n) (c : Int) : hasB n (limitL n A i j c) v = (hasB n A v && decide (valF v i - valF v j ≤ c)) := by
  rw [Bool.eq_iff_iff, Bool.and_eq_true, has_iff (limitL_isz hA.1 _ _ _ _) hv, has_iff hA hv, decide_eq_true_iff]
  exact has_limit hA hi hj c
theorem with_forget {n : Nat} {A v : List Int} (hA : IsZ n A) (hv : v.length = n) {i : Nat} (hi0 : 1 ≤ i) (hi : i ≤ n) (h : Has n (forgetL n A i) v) (x : Int) (hx : -1099511627776 ≤ x ∧ x ≤ 1099511627776) : Has n (forgetL n A i) (withL v i x) := by
  rw [has_forget hA hi] at h ⊢
  have hi' : i ≤ v.length := by omega
  obtain ⟨h1, h2, h3⟩ := h
  refine ⟨h1, ?_, fun a b ha hb hai hbi => ?_⟩
  · rw [far_iff] at h2 ⊢
    intro a ha0 ha
    rw [withL_len] at ha
    rw [withL_at hi0 hi']
    split
    · exact hx
    · exact h2 a ha0 ha
  · have q := h3 a b ha hb hai hbi
    unfold difF at q ⊢
    rw [withL_at hi0 hi', withL_at hi0 hi', if_neg hai, if_neg hbi]
    exact q
theorem has_for {n : Nat} {A v : List Int} (hA : IsZ n A) {i : Nat} (hi : i ≤ n) (h : Has n A v) : Has n (forgetL n A i) v :=
  (has_forget hA hi).2 ⟨h.1, h.2.1, fun a b ha hb _ _ => h.2.2 a b ha hb⟩
theorem fact_forget {n : Nat} {A v : List Int} (hA : IsZ n A) (hv : v.length = n) {i : Nat} (hi0 : 1 ≤ i) (hi : i ≤ n) (h : hasB n A v = true) (x : Int) (hx : -1099511627776 ≤ x ∧ x ≤ 1099511627776) : hasB n (forgetL n A i) (withL v i x) = true := by
  rw [has_iff hA hv] at h
  rw [has_iff (forgetL_isz hA.1 _ _) (by rw [withL_len]; exact hv)]
  exact with_forget hA hv hi0 hi (has_for hA hi h) x hx
theorem fact_itv {n : Nat} {A v : List Int} (hA : IsZ n A) (hv : v.length = n) {i : Nat} (hi0 : 1 ≤ i) (hi : i ≤ n) (h : hasB n A v = true) : itvL n (forgetL n A i) i = (-1099511627776, 1099511627776) := by
  rw [has_iff hA hv] at h
  have hf := has_for hA hi h
  have hi' : i ≤ v.length := by omega
  have a := with_forget hA hv hi0 hi hf 1099511627776 (by omega)
  have b := with_forget hA hv hi0 hi hf (-1099511627776) (by omega)
  have hF := (stepL_isz hA.1 (fun l => forL n l i) A).2.resolve_left a.1
  have p := a.2.2 i 0 hi (by omega)
  have q := b.2.2 0 i (by omega) hi
  unfold difF at p q
  rw [withL_at hi0 hi', withL_at hi0 hi', if_pos rfl, if_neg (by omega), valF_zero] at p q
  have u1 := hF.up hi (show 0 ≤ n by omega)
  have u2 := hF.up (show 0 ≤ n by omega) hi
  unfold widestF at u1 u2
  rw [if_neg (by omega), if_pos (by omega)] at u1 u2
  unfold itvL
  rw [if_neg a.1]
  change mat n (forgetL n A i) i 0 ≤ _ at u1
  change mat n (forgetL n A i) 0 i ≤ _ at u2
  rw [show mat n (forgetL n A i) 0 i = 1099511627776 by omega, show mat n (forgetL n A i) i 0 = 1099511627776 by omega]
theorem fact_let {n : Nat} {A v : List Int} (hA : IsZ n A) (hv : v.length = n) {i j : Nat} (hi0 : 1 ≤ i) (hi : i ≤ n) (hj : j ≤ n) (h : hasB n A v = true) (c : Int) : hasB n (letL n A i j c) (withL v i (valF v j + c)) = !farB (valF v j + c) := by
  rw [has_iff hA hv] at h
  have hi' : i ≤ v.length := by omega
  have hb : (!farB (valF v j + c)) = true ↔ (-1099511627776 ≤ valF v j + c ∧ valF v j + c ≤ 1099511627776) := by unfold farB; simp; omega
  have hw : (withL v i (valF v j + c)).any farB = false ↔ (-1099511627776 ≤ valF v j + c ∧ valF v j + c ≤ 1099511627776) := by
    rw [far_iff]
    constructor
    · intro q
      have := q i hi0 (by rw [withL_len]; exact hi')
      rw [withL_at hi0 hi', if_pos rfl] at this
      exact this
    · intro q a ha0 ha
      rw [withL_len] at ha
      rw [withL_at hi0 hi']
      split
      · exact q
      · exact far_iff.1 h.2.1 a ha0 ha
  rw [Bool.eq_iff_iff, hb, has_iff (letL_isz hA.1 A i j c) (by rw [withL_len]; exact hv), ← hw]
  unfold letL
  by_cases e : i = j
  · subst e
    rw [if_pos rfl, has_mov hA (by rw [withL_len]; exact hv) hi0 hi]
    refine ⟨fun q => q.1, fun q => ⟨q, ?_⟩⟩
    rw [withL_at hi0 hi', if_pos rfl]
    have e2 : withL (withL v i (valF v i + c)) i (valF v i + c - c) = v := by
      unfold withL
      rw [List.set_set, show valF v i + c - c = valF v i by omega]
      apply List.ext_getElem (by simp)
      intro k h1 h2
      rw [List.getElem_set]
      split
      · rename_i e3
        unfold valF
        rw [if_neg (by omega), e3]
        simp [List.getD, h2]
      · rfl
    rw [e2]
    exact h
  · rw [if_neg e, has_tie hA.1 hA hi hj]
    constructor
    · intro q; exact q.1.2.1
    · intro q
      refine ⟨with_forget hA hv hi0 hi (has_for hA hi h) _ (hw.1 q), ?_⟩
      unfold difF
      rw [withL_at hi0 hi', withL_at hi0 hi', if_pos rfl, if_neg (fun q => e q.symm)]
      omega
theorem fact_mov {n : Nat} {Z v : List Int} (hZ : IsZ n Z) (hv : v.length = n) {i : Nat} (hi0 : 1 ≤ i) (hi : i ≤ n) (c : Int) : hasB n (letL n Z i i c) v = (!farB (valF v i - c) && (!farB (valF v i) && hasB n Z (withL v i (valF v i - c)))) := by
  have hi' : i ≤ v.length := by omega
  rw [Bool.eq_iff_iff, Bool.and_eq_true, Bool.and_eq_true, has_iff (letL_isz hZ.1 Z i i c) hv, has_iff hZ (by rw [withL_len]; exact hv)]
  unfold letL
  rw [if_pos rfl, has_mov hZ hv hi0 hi]
  have hb : ∀ x : Int, (!farB x) = true ↔ (-1099511627776 ≤ x ∧ x ≤ 1099511627776) := by intro x; unfold farB; simp; omega
  rw [hb, hb]
  constructor
  · rintro ⟨h1, h2⟩
    have a := far_iff.1 h1 i hi0 hi'
    have b := far_iff.1 h2.2.1 i hi0 (by rw [withL_len]; exact hi')
    rw [withL_at hi0 hi', if_pos rfl] at b
    exact ⟨b, a, h2⟩
  · rintro ⟨h1, h2, h3⟩
    refine ⟨far_iff.2 fun a ha0 ha => ?_, h3⟩
    by_cases e : a = i
    · rw [e]; exact h2
    · have := far_iff.1 h3.2.1 a ha0 (by rw [withL_len]; exact ha)
      rw [withL_at hi0 hi', if_neg e] at this
      exact this
theorem fact_tie {n : Nat} {Z v : List Int} (hZ : IsZ n Z) (hv : v.length = n) {i j : Nat} (hi : i ≤ n) (hj : j ≤ n) (hij : i ≠ j) (c : Int) (h : hasB n (letL n Z i j c) v = true) : valF v i = valF v j + c ∧ hasB n (forgetL n Z i) v = true := by
  rw [has_iff (letL_isz hZ.1 Z i j c) hv] at h
  unfold letL at h
  rw [if_neg hij, has_tie hZ.1 hZ hi hj] at h
  refine ⟨?_, (has_iff (stepL_isz hZ.1 _ _) hv).2 h.1⟩
  have := h.2
  unfold difF at this
  omega
/-- The least value that a variable may have beside the others'. -/
def leastK (n : Nat) (Z v : List Int) (i : Nat) : Nat → Int
  | 0 => -1099511627776
  | k + 1 => if k ≠ i ∧ leastK n Z v i k < valF v k - mat n Z k i then valF v k - mat n Z k i else leastK n Z v i k
theorem leastK_le {n : Nat} {Z v : List Int} {i : Nat} (K : Nat) : ∀ k, k < K → k ≠ i → valF v k - mat n Z k i ≤ leastK n Z v i K := by
  induction K with
  | zero => intro k h; omega
  | succ K ih =>
    intro k hk hki
    unfold leastK
    by_cases e : k = K
    · subst e
      split
      · omega
      · rename_i q
        by_cases q2 : leastK n Z v i k < valF v k - mat n Z k i
        · exact absurd ⟨hki, q2⟩ q
        · omega
    · have := ih k (by omega) hki
      split
      · rename_i q; omega
      · exact this
theorem leastK_is {n : Nat} {Z v : List Int} {i : Nat} (K : Nat) : leastK n Z v i K = -1099511627776 ∨ ∃ k, k < K ∧ k ≠ i ∧ leastK n Z v i K = valF v k - mat n Z k i := by
  induction K with
  | zero => left; rfl
  | succ K ih =>
    unfold leastK
    split
    · rename_i q; exact .inr ⟨K, by omega, q.1, rfl⟩
    · rcases ih with h | ⟨k, h1, h2, h3⟩
      · exact .inl h
      · exact .inr ⟨k, by omega, h2, h3⟩
theorem leastK_lo {n : Nat} {Z v : List Int} {i : Nat} (K : Nat) : -1099511627776 ≤ leastK n Z v i K := by
  induction K with
  | zero => unfold leastK; omega
  | succ K ih =>
    unfold leastK
    split
    · rename_i q; omega
    · exact ih
theorem fact_least {n : Nat} {Z v : List Int} (hZ : IsZ n Z) (hv : v.length = n) {i : Nat} (hi0 : 1 ≤ i) (hi : i ≤ n) (h : hasB n (forgetL n Z i) v = true) : hasB n Z (withL v i (leastK n Z v i (n + 1))) = true := by
  rw [has_iff (forgetL_isz hZ.1 _ _) hv, has_forget hZ hi] at h
  have hi' : i ≤ v.length := by omega
  obtain ⟨h1, h2, h3⟩ := h
  have hF := hZ.2.resolve_left h1
  rw [has_iff hZ (by rw [withL_len]; exact hv)]
  have lo := leastK_lo (n := n) (Z := Z) (v := v) (i := i) (n + 1)
  have u0 := hF.up (show 0 ≤ n by omega) hi
  unfold widestF at u0
  rw [if_neg (by omega), if_pos (by omega)] at u0
  have l0 := leastK_le (n := n) (Z := Z) (v := v) (i := i) (n + 1) 0 (by omega) (by omega)
  rw [valF_zero] at l0
  have hex : ∃ k, k ≤ n ∧ k ≠ i ∧ leastK n Z v i (n + 1) = valF v k - mat n Z k i := by
    rcases leastK_is (n := n) (Z := Z) (v := v) (i := i) (n + 1) with e | ⟨k, a, b, c⟩
    · exact ⟨0, by omega, by omega, by rw [e, valF_zero]; omega⟩
    · exact ⟨k, by omega, b, c⟩
  obtain ⟨m, hm, hmi, hme⟩ := hex
  have hup : ∀ b, b ≤ n → b ≠ i → leastK n Z v i (n + 1) - valF v b ≤ mat n Z i b := by
    intro b hb hbi
    have t := hF.closed.tri m b i hm hb hi
    have q := h3 m b hm hb hmi hbi
    unfold difF at q
    have z1 := hF.closed.tri m b i hm hb hi
    omega
  have hL : Leq n (difF (withL v i (leastK n Z v i (n + 1)))) (mat n Z) := by
    intro a b ha hb
    unfold difF
    rw [withL_at hi0 hi', withL_at hi0 hi']
    by_cases e1 : a = i
    · rw [if_pos e1]
      by_cases e2 : b = i
      · rw [if_pos e2, e1, e2, hF.closed.zero i hi]; omega
      · rw [if_neg e2, e1]; exact hup b hb e2
    · rw [if_neg e1]
      by_cases e2 : b = i
      · rw [if_pos e2, e2]
        have := leastK_le (n := n) (Z := Z) (v := v) (i := i) (n + 1) a (by omega) e1
        omega
      · rw [if_neg e2]; exact h3 a b ha hb e1 e2
  refine ⟨h1, ?_, hL⟩
  rw [far_iff] at h2 ⊢
  intro a ha0 ha
  rw [withL_len] at ha
  rw [withL_at hi0 hi']
  split
  · have q := hup 0 (by omega) (by omega)
    rw [valF_zero] at q
    have u := hF.up hi (show 0 ≤ n by omega)
    unfold widestF at u
    rw [if_neg (by omega), if_pos (by omega)] at u
    omega
  · exact h2 a ha0 ha
end Go.Proofs.Ytacbkddkjlnklaa
