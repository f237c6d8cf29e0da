/- What was got is put as the bytes. Plain lists. -/
import Derived.Test.YtnjdgnlgdokddaaSectShift
import Derived.Test.YtnjdgnlgdokddaaSectRound
import Derived.Test.YtnjdgnlgdokddaaSectPut
namespace Go.Proofs.Ytnjdgnlgdokddaa
open Go.RowKit
set_option linter.unusedVariables false
set_option linter.unusedSimpArgs false

theorem word_back {D : List Int} (hB : Bs D) {q : Nat} (hq : q + 4 ≤ D.length) : wordB (wordAt D q) = (D.drop q).take 4 := by
  have r0 := hB.at (i := q) (by omega)
  have r1 := hB.at (i := q + 1) (by omega)
  have r2 := hB.at (i := q + 2) (by omega)
  have r3 := hB.at (i := q + 3) (by omega)
  have hg : ∀ i, i < 4 → (D.drop q)[i]? = some (D.getD (q + i) 0) := by
    intro i hi
    have : q + i < D.length := by omega
    simp [List.getD, this]
  have e : (D.drop q).take 4 = [D.getD q 0, D.getD (q + 1) 0, D.getD (q + 2) 0, D.getD (q + 3) 0] := by
    apply List.ext_getElem?
    intro i
    by_cases hi : i < 4
    · rw [List.getElem?_take_of_lt hi, hg i hi]
      obtain rfl | rfl | rfl | rfl : i = 0 ∨ i = 1 ∨ i = 2 ∨ i = 3 := by omega
      · rfl
      · rfl
      · rfl
      · rfl
    · rw [List.getElem?_eq_none (by simp; omega), List.getElem?_eq_none (by simp; omega)]
  rw [e]
  unfold wordB wordAt
  generalize D.getD q 0 = a at *
  generalize D.getD (q + 1) 0 = b at *
  generalize D.getD (q + 2) 0 = c at *
  generalize D.getD (q + 3) 0 = d at *
  have e0 : (a + 256 * b + 65536 * c + 16777216 * d) % 256 = a := by omega
  have e1 : (a + 256 * b + 65536 * c + 16777216 * d) / 256 % 256 = b := by omega
  have e2 : (a + 256 * b + 65536 * c + 16777216 * d) / 65536 % 256 = c := by omega
  have e3 : (a + 256 * b + 65536 * c + 16777216 * d) / 16777216 = d := by omega
  rw [e0, e1, e2, e3]
/-- A section that was read is put as its bytes. -/
theorem one_back {D : List Int} (hB : Bs D) (hl : D.length ≤ 1048608) {last : Int} {cnt : Nat} (h : oneE last cnt D = 0) :
    oneL (oneT D).1 (codes (oneX D).1) = D.take (oneW D).2.1 ∧ (codes (oneX D).1).length ≤ 1048576 ∧ last < (oneT D).1 ∧ (oneT D).1 ≤ 255 ∧ cnt < 16 := by
  have hbs : oneBs D = D := by unfold oneBs; exact List.take_of_length_le (by omega)
  unfold oneE at h
  by_cases h1 : (oneT D).2.2 ≠ 0
  · rw [if_pos h1] at h; exact absurd h h1
  rw [if_neg h1] at h
  by_cases h2 : (oneX D).2.2 ≠ 0
  · rw [if_pos h2] at h; exact absurd h h2
  rw [if_neg h2] at h
  by_cases h3 : (oneW D).2.2 ≠ 0
  · rw [if_pos h3] at h; exact absurd h h3
  rw [if_neg h3] at h
  by_cases h4 : ((csum 0 (D.take (oneX D).2.1) : Nat) : Int) = (oneW D).1
  rotate_left
  · rw [if_neg h4] at h; simp at h
  rw [if_pos h4] at h
  by_cases h5 : last < (oneT D).1 ∧ (oneT D).1 ≤ 255
  rotate_left
  · rw [if_neg h5] at h; simp at h
  rw [if_pos h5] at h
  by_cases h6 : cnt < 16
  rotate_left
  · rw [if_neg h6] at h; simp at h
  simp only [ne_eq, Decidable.not_not] at h1 h2 h3
  -- the tag
  have t1 : 1 ≤ D.length ∧ oneT D = (D.getD 0 0, 1, 0) := by
    unfold oneT at h1 ⊢
    rw [hbs] at h1 ⊢
    unfold byteO at h1 ⊢
    rw [if_pos rfl] at h1 ⊢
    by_cases q : 0 + 1 ≤ D.length
    · rw [if_pos q]; exact ⟨by omega, rfl⟩
    · rw [if_neg q] at h1; simp at h1
  obtain ⟨t1, t2⟩ := t1
  have tv := hB.at (i := 0) (by omega)
  -- the body
  have hX : oneX D = textO 1048576 D 1 0 := by unfold oneX; rw [hbs, t2]
  have hx : ∃ (n j : Nat), n ≤ 1048576 ∧ (D.drop 1).take j = leb n ∧ j ≤ (D.drop 1).length ∧ 1 + j + n ≤ D.length ∧ oneX D = (strOfNums ((D.drop (1 + j)).take n), 1 + j + n, 0) := by
    rw [hX] at h2 ⊢
    unfold textO at h2 ⊢
    by_cases c1 : (countO 1048576 D 1 0).2.2 = 0
    rotate_left
    · rw [if_neg c1] at h2; exact absurd h2 c1
    rw [if_pos c1] at h2 ⊢
    by_cases c2 : (countO 1048576 D 1 0).2.1 + (countO 1048576 D 1 0).1.toNat ≤ D.length
    rotate_left
    · rw [if_neg c2] at h2; simp at h2
    rw [if_pos c2]
    unfold countO at c1 c2 ⊢
    by_cases c3 : (0 : Int) = 0 ∧ (uO D 1 0).2.2 = 0 ∧ ((1048576 : Int) < 0 ∨ 1048576 < (uO D 1 0).1)
    · rw [if_pos c3] at c1; simp at c1
    rw [if_neg c3] at c1 c2 ⊢
    have hu : uO D 1 0 = ((getL 0 0 1 (D.drop 1)).1, 1 + (getL 0 0 1 (D.drop 1)).2.1.toNat, (getL 0 0 1 (D.drop 1)).2.2) := by unfold uO; rw [if_pos rfl]
    rcases getL_put0 (hB.drop 1) with g | g | ⟨n, j, g, g0, g1, g2, g3⟩
    · rw [hu, g] at c1; simp at c1
    · rw [hu, g] at c1; simp at c1
    · rw [hu, g] at c1 c2 c3 ⊢
      simp only [Int.toNat_natCast] at c2 c3 ⊢
      have hn : n ≤ 1048576 := by
        by_cases q : n ≤ 1048576
        · exact q
        · exact absurd (by simp; omega) c3
      exact ⟨n.toNat, j, by omega, g2, g3, by omega, rfl⟩
  obtain ⟨n, j, hn, hj, hjl, hlen, hxe⟩ := hx
  obtain ⟨b, hb⟩ : ∃ b, b = (D.drop (1 + j)).take n := ⟨_, rfl⟩
  have hbb : Bs b := by rw [hb]; exact (hB.drop _).take _
  have hbl : b.length = n := by rw [hb, List.length_take, List.length_drop]; omega
  rw [← hb] at hxe
  have hcd : codes (oneX D).1 = b := by rw [hxe]; exact codes_str hbb
  -- the sum
  have hW : oneW D = wordO D (1 + j + n) 0 := by unfold oneW; rw [hbs, hxe]
  have hw : 1 + j + n + 4 ≤ D.length ∧ oneW D = (wordAt D (1 + j + n), 1 + j + n + 4, 0) := by
    rw [hW] at h3 ⊢
    unfold wordO at h3 ⊢
    rw [if_pos rfl] at h3 ⊢
    by_cases q : 1 + j + n + 4 ≤ D.length
    · rw [if_pos q]; exact ⟨q, rfl⟩
    · rw [if_neg q] at h3; simp at h3
  obtain ⟨w1, w2⟩ := hw
  have hH : oneH (oneT D).1 b = D.take (1 + j + n) := by
    unfold oneH
    rw [t2, hbl, ← hj, List.take_add, List.take_add, hb, ← List.append_assoc]
    congr 1
    congr 1
    obtain ⟨d, D', rfl⟩ : ∃ d D', D = d :: D' := by
      cases D with
      | nil => simp at t1
      | cons d D' => exact ⟨d, D', rfl⟩
    simp [List.getD] at tv ⊢
    omega
  rw [hcd]
  refine ⟨?_, by rw [hbl]; exact hn, h5.1, h5.2, h6⟩
  unfold oneL
  rw [hH]
  rw [hxe, w2] at h4
  simp only at h4
  rw [h4, word_back hB w1, w2]
  simp only
  rw [List.take_add (i := 1 + j + n)]
theorem rises_snoc : ∀ (l : List Int) (a t : Int), risesL a l = true → l.getLast?.getD a < t → t ≤ 255 → risesL a (l ++ [t]) = true := by
  intro l
  induction l with
  | nil => intro a t h h1 h2; simp [risesL] at h1 ⊢; exact ⟨h1, h2⟩
  | cons x l ih =>
    intro a t h h1 h2
    simp only [risesL, Bool.and_eq_true] at h
    simp only [List.cons_append, risesL, Bool.and_eq_true]
    refine ⟨h.1, ih x t h.2 ?_ h2⟩
    rw [List.getLast?_cons] at h1
    simpa using h1
theorem lastA_map (acc : List (Int × List Int)) : lastA acc = (acc.map (·.1)).getLast?.getD 0 := by
  unfold lastA
  rw [List.getLast?_map]
  cases acc.getLast? <;> rfl
theorem head_back {B : List Int} (h : headBad B = none) : headL = B.take 5 ∧ 5 ≤ B.length := by
  have hk : headOk B 0 = true ∧ headOk B 1 = true ∧ headOk B 2 = true ∧ headOk B 3 = true ∧ headOk B 4 = true := by
    unfold headBad at h
    cases h0 : headOk B 0 <;> cases h1 : headOk B 1 <;> cases h2 : headOk B 2 <;> cases h3 : headOk B 3 <;> cases h4 : headOk B 4 <;> simp [h0, h1, h2, h3, h4] at h ⊢
  obtain ⟨k0, k1, k2, k3, k4⟩ := hk
  simp only [headOk, Bool.and_eq_true, decide_eq_true_eq, beq_iff_eq] at k0 k1 k2 k3 k4
  have h5 : 5 ≤ B.length := by omega
  refine ⟨?_, h5⟩
  match B, h5 with
  | b0 :: b1 :: b2 :: b3 :: b4 :: B', _ =>
    simp [headL, List.getD] at k0 k1 k2 k3 k4 ⊢
    simp [k0, k1, k2, k3, k4]
theorem getG_back {B : List Int} (hB : Bs B) (hl : B.length ≤ 1048608) : ∀ (f : Nat) (acc : List (Int × List Int)) (at_ : Nat), at_ ≤ B.length → headL ++ bodyL acc = B.take at_ → (∀ s ∈ acc, s.2.length ≤ 1048576) → acc.length ≤ 16 → risesL 0 (acc.map (·.1)) = true →
    (getG f acc at_ B).2.2 = 0 → checkL (getG f acc at_ B).1 = 0 ∧ putL (getG f acc at_ B).1 = B := by
  intro f
  induction f with
  | zero => intro acc at_ h1 h2 h3 h4 h5 h6; simp [getG] at h6
  | succ f ih =>
    intro acc at_ h1 h2 h3 h4 h5 h6
    rw [getG] at h6 ⊢
    by_cases hlt : at_ < B.length
    · rw [if_pos hlt] at h6 ⊢
      by_cases hE : oneE (lastA acc) acc.length (B.drop at_) = 0
      · rw [if_pos hE] at h6 ⊢
        obtain ⟨o1, o2, o3, o4, o5⟩ := one_back (hB.drop at_) (by simp; omega) hE
        obtain ⟨e1, e2, e3⟩ := oneE_ok hE
        rw [List.length_drop] at e2
        refine ih _ _ (by omega) ?_ ?_ (by simp; omega) ?_ h6
        · rw [List.take_add, ← h2, ← o1]
          simp [bodyL]
        · intro s hs
          rcases List.mem_append.1 hs with hs | hs
          · exact h3 s hs
          · simp at hs; subst hs; exact o2
        · rw [List.map_append]
          exact rises_snoc _ 0 _ h5 (by rw [← lastA_map]; exact o3) o4
      · rw [if_neg hE] at h6; exact absurd h6 hE
    · rw [if_neg hlt]
      refine ⟨?_, ?_⟩
      · unfold checkL
        rw [if_neg (by simp only; omega), if_neg, if_pos h5]
        rw [Bool.not_eq_true, List.any_eq_false]
        intro s hs
        have := h3 s hs
        simp; omega
      · show headL ++ bodyL acc = B
        rw [h2, List.take_of_length_le (by omega)]
theorem get_back {B : List Int} (hB : Bs B) (hl : B.length ≤ 1048608) (h : (getAll B).2.2 = 0) : checkL (getAll B).1 = 0 ∧ putL (getAll B).1 = B := by
  unfold getAll at h ⊢
  cases hh : headBad B with
  | some i => rw [hh] at h; simp at h
  | none =>
    rw [hh] at h
    simp only at h ⊢
    obtain ⟨h1, h2⟩ := head_back hh
    exact getG_back hB hl _ [] 5 h2 (by simpa [bodyL] using h1) (by simp) (by simp) (by simp [risesL]) h
end Go.Proofs.Ytnjdgnlgdokddaa
