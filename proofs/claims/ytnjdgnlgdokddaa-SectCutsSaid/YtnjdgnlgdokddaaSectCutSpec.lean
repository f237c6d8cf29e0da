/- Cut bytes of sections: what is got of them. Plain lists. -/
import Derived.Test.YtnjdgnlgdokddaaSectTurnSpec
namespace Go.Proofs.Ytnjdgnlgdokddaa
open Go.RowKit
set_option linter.unusedVariables false
set_option linter.unusedSimpArgs false

theorem getL_cut : ∀ (m k j : Nat) (acc p : Int), m < 128 ^ (9 - k) → j < (leb m).length → getL k acc p ((leb m).take j) = (0, 0, 10) := by
  intro m
  induction m using Nat.strongRecOn with
  | _ m ih =>
    intro k j acc p hm hj
    rcases j with _ | j
    · rw [List.take_zero]; rfl
    by_cases h128 : m < 128
    · rw [leb_small h128] at hj; simp at hj
    have hk : 9 - k = (9 - (k + 1)) + 1 := by
      rcases Nat.lt_or_ge k 9 with h | h
      · omega
      · rw [show 9 - k = 0 by omega] at hm; simp at hm; omega
    rw [leb_big (by omega)] at hj ⊢
    have hw : ¬ wrongB k (((m % 128 + 128 : Nat) : Int)) = true := by
      rw [wrongB_iff]
      omega
    rw [List.take_succ_cons, getL_more hw (by omega)]
    refine ih (m / 128) (by omega) (k + 1) j _ _ ?_ (by simpa using hj)
    rw [hk, Nat.pow_succ] at hm
    exact Nat.div_lt_of_lt_mul (by rw [Nat.mul_comm]; exact hm)
/-- A section that is cut is too short. -/
theorem oneE_cut {t : Int} {b : List Int} (hb : Bs b) (hbl : b.length ≤ 1048576) (j : Nat) (hj0 : 0 < j) (hj : j < (oneL t b).length) (last : Int) (cnt : Nat) :
    oneE last cnt ((oneL t b).take j) = 10 := by
  have hlen := (oneL_len t b (by omega)).1
  obtain ⟨X, hX⟩ : ∃ X, X = (oneL t b).take j := ⟨_, rfl⟩
  have hXl : X.length = j := by rw [hX, List.length_take]; omega
  have hX1 : oneBs X = X := by unfold oneBs; exact List.take_of_length_le (by omega)
  obtain ⟨wd, hwd⟩ : ∃ wd, wd = wordB ((csum 0 (oneH t b) : Nat) : Int) := ⟨_, rfl⟩
  have hwl : wd.length = 4 := by rw [hwd]; rfl
  have hfull : oneL t b = [t % 256] ++ (leb b.length ++ (b ++ wd)) := by rw [hwd]; simp [oneL, oneH]
  have hXc : X = [t % 256] ++ (leb b.length ++ (b ++ wd)).take (j - 1) := by
    rw [hX, hfull]
    obtain ⟨i, rfl⟩ : ∃ i, j = i + 1 := ⟨j - 1, by omega⟩
    simp
  have hLj : j < 1 + (leb b.length).length + b.length + 4 := by
    rw [hfull] at hj; simp only [List.length_append, List.length_singleton, hwl] at hj; omega
  have e1 : oneT X = (t % 256, 1, 0) := by
    unfold oneT
    rw [hX1]
    have := rd_byte (L := X) (p := 0) (n := t % 256) (rest := (leb b.length ++ (b ++ wd)).take (j - 1)) (by rw [List.drop_zero]; exact hXc)
    simpa using this
  have hd1 : X.drop 1 = (leb b.length ++ (b ++ wd)).take (j - 1) := by rw [hXc]; rfl
  have hE : (oneX X).2.2 = 10 ∨ ((oneX X).2.2 = 0 ∧ (oneW X).2.2 = 10) := by
    by_cases hc : j - 1 < (leb b.length).length
    · left
      have h9 : b.length < 128 ^ (9 - 0) := Nat.lt_of_le_of_lt hbl (by decide)
      have hu : uO X 1 0 = (0, 1 + (0 : Int).toNat, 10) := by
        unfold uO
        rw [if_pos rfl, hd1, List.take_append_of_le_length (by omega), getL_cut b.length 0 (j - 1) 0 1 h9 hc]
      have hcO : countO 1048576 X 1 0 = (0, 1 + (0 : Int).toNat, 10) := by
        unfold countO
        rw [hu, if_neg (by simp)]
      unfold oneX
      rw [hX1, e1]
      unfold textO
      rw [hcO]
      simp
    · have hu : uO X 1 0 = ((b.length : Int), 1 + (leb b.length).length, 0) := rd_u (n := b.length) (by omega) (rest := (b ++ wd).take (j - 1 - (leb b.length).length)) (by
        rw [hd1, List.take_append, List.take_of_length_le (by omega)])
      have hcO : countO 1048576 X 1 0 = ((b.length : Int), 1 + (leb b.length).length, 0) := by
        unfold countO
        rw [hu, if_neg]
        rintro ⟨-, -, h1 | h1⟩ <;> simp at h1 <;> omega
      by_cases hc2 : 1 + (leb b.length).length + b.length ≤ j
      · right
        have hoX : (oneX X).2 = (1 + (leb b.length).length + b.length, 0) := by
          unfold oneX
          rw [hX1, e1]
          unfold textO
          rw [hcO]
          simp only [Int.toNat_natCast, if_true]
          rw [if_pos (by omega)]
        refine ⟨by rw [hoX], ?_⟩
        unfold oneW
        rw [hX1, hoX]
        unfold wordO
        simp only [if_true]
        rw [if_neg (by omega)]
      · left
        unfold oneX
        rw [hX1, e1]
        unfold textO
        rw [hcO]
        simp only [Int.toNat_natCast, if_true]
        rw [if_neg (by omega)]
  rw [← hX]
  unfold oneE
  rw [e1]
  rcases hE with h | ⟨h1, h2⟩
  · simp [h]
  · simp [h1, h2]
theorem bodyL_app (a b : List (Int × List Int)) : bodyL (a ++ b) = bodyL a ++ bodyL b := by simp [bodyL]
theorem check_take {l : List (Int × List Int)} (h : checkL l = 0) (k : Nat) : checkL (l.take k) = 0 := by
  obtain ⟨h1, h2, h3⟩ := checkL_facts h
  unfold checkL
  rw [if_neg (by rw [List.length_take]; omega), if_neg, if_pos]
  · rw [List.map_take]
    refine rises_left _ ((l.map (·.1)).drop k) 0 ?_
    rw [List.take_append_drop]; exact h3
  · rw [Bool.not_eq_true, List.any_eq_false]
    intro s hs
    have := h2 s (List.mem_of_mem_take hs)
    simp; omega
/-- Where a cut falls. -/
theorem cut_at : ∀ (l : List (Int × List Int)) (n : Nat), n < (bodyL l).length → (∀ s ∈ l, s.2.length ≤ 1048576) →
    ∃ k, k < l.length ∧ (bodyL (l.take k)).length ≤ n ∧ n < (bodyL (l.take (k + 1))).length := by
  intro l
  induction l with
  | nil => intro n h; simp [bodyL] at h
  | cons s l ih =>
    intro n h hs
    have e : bodyL (s :: l) = oneL s.1 s.2 ++ bodyL l := by simp [bodyL]
    by_cases h1 : n < (oneL s.1 s.2).length
    · exact ⟨0, by simp, by simp [bodyL], by simpa [bodyL] using h1⟩
    · rw [e, List.length_append] at h
      obtain ⟨k, hk, h2, h3⟩ := ih (n - (oneL s.1 s.2).length) (by omega) (fun x hx => hs x (by simp [hx]))
      refine ⟨k + 1, by simpa using hk, ?_, ?_⟩
      · rw [List.take_succ_cons, show bodyL (s :: l.take k) = oneL s.1 s.2 ++ bodyL (l.take k) by simp [bodyL], List.length_append]; omega
      · rw [List.take_succ_cons, show bodyL (s :: l.take (k + 1)) = oneL s.1 s.2 ++ bodyL (l.take (k + 1)) by simp [bodyL], List.length_append]; omega
/-- Cut bytes: either whole sections, or too short. -/
theorem get_cut {l : List (Int × List Int)} (hb : ∀ s ∈ l, Bs s.2) (h : checkL l = 0) (n : Nat) (h5 : 5 ≤ n) (hn : n < (putL l).length) :
    ∃ k, k < l.length ∧ (putL (l.take k)).length ≤ n ∧ n < (putL (l.take (k + 1))).length ∧
      ((n = (putL (l.take k)).length ∧ getAll ((putL l).take n) = (l.take k, n, 0)) ∨ ((putL (l.take k)).length < n ∧ (getAll ((putL l).take n)).1 = [] ∧ (getAll ((putL l).take n)).2.2 = 10)) := by
  obtain ⟨c1, c2, c3⟩ := checkL_facts h
  have hpl : ∀ x, (putL x).length = 5 + (bodyL x).length := fun x => by unfold putL; rw [List.length_append]; rfl
  obtain ⟨k, hk, k1, k2⟩ := cut_at l (n - 5) (by rw [hpl] at hn; omega) c2
  refine ⟨k, hk, by rw [hpl]; omega, by rw [hpl]; omega, ?_⟩
  obtain ⟨s, hs⟩ : ∃ s, s = l[k] := ⟨_, rfl⟩
  have hsm : s ∈ l := by rw [hs]; exact List.getElem_mem hk
  have hsplit : l = l.take k ++ (s :: l.drop (k + 1)) := by
    rw [hs, ← List.drop_eq_getElem_cons hk, List.take_append_drop]
  have hput : putL l = (headL ++ bodyL (l.take k)) ++ (oneL s.1 s.2 ++ bodyL (l.drop (k + 1))) := by
    conv => lhs; rw [hsplit]
    unfold putL
    rw [bodyL_app, show bodyL (s :: l.drop (k + 1)) = oneL s.1 s.2 ++ bodyL (l.drop (k + 1)) by simp [bodyL], List.append_assoc]
  have hk2 : (bodyL (l.take (k + 1))).length = (bodyL (l.take k)).length + (oneL s.1 s.2).length := by
    have : l.take (k + 1) = l.take k ++ [s] := by rw [hs, List.take_append_getElem hk]
    rw [this, bodyL_app, List.length_append]; simp [bodyL]
  have hh : (headL ++ bodyL (l.take k)).length = 5 + (bodyL (l.take k)).length := by rw [List.length_append]; rfl
  by_cases he : n = (putL (l.take k)).length
  · left
    refine ⟨he, ?_⟩
    have : (putL l).take n = putL (l.take k) := by
      rw [hput, List.take_append_of_le_length (by rw [hh]; rw [hpl] at he; omega), List.take_of_length_le (by rw [hh]; rw [hpl] at he; omega)]
      rfl
    rw [this, get_put (fun x hx => hb x (List.mem_of_mem_take hx)) (check_take h k), he]
  · right
    rw [hpl] at he
    refine ⟨by rw [hpl]; omega, ?_⟩
    have hT : (putL l).take n = headL ++ (bodyL (l.take k) ++ (oneL s.1 s.2).take (n - 5 - (bodyL (l.take k)).length)) := by
      rw [hput, List.take_append, List.take_of_length_le (by rw [hh]; omega), hh, List.take_append_of_le_length (by omega), List.append_assoc, show n - (5 + (bodyL (l.take k)).length) = n - 5 - (bodyL (l.take k)).length by omega]
    obtain ⟨R, hR⟩ : ∃ R, R = (putL l).take n := ⟨_, rfl⟩
    have hRl : R.length = n := by rw [hR, List.length_take]; omega
    rw [← hR] at hT ⊢
    have hRd : R.drop 5 = bodyL (l.take k) ++ (oneL s.1 s.2).take (n - 5 - (bodyL (l.take k)).length) := by
      rw [hT, show (5 : Nat) = headL.length by rfl, List.drop_left]
    have hRd2 : R.drop (5 + (bodyL (l.take k)).length) = (oneL s.1 s.2).take (n - 5 - (bodyL (l.take k)).length) := by
      rw [← List.drop_drop, hRd, List.drop_left]
    have hhd : headBad R = none := by rw [hT]; exact head_put _
    have hini : (l.take k).length ≤ R.length := by
      have : ∀ x : List (Int × List Int), (∀ s ∈ x, s.2.length ≤ 1048576) → x.length ≤ (bodyL x).length := by
        intro x hx
        induction x with
        | nil => simp
        | cons s x ih =>
          have := ih (fun y hy => hx y (by simp [hy]))
          have h4 := oneL_len s.1 s.2 (by have := hx s (by simp); omega)
          simp [bodyL] at this ⊢; omega
      have := this (l.take k) (fun x hx => c2 x (List.mem_of_mem_take hx))
      omega
    obtain ⟨f, hf⟩ : ∃ f, R.length + 1 = (l.take k).length + (f + 1) := ⟨R.length - (l.take k).length, by omega⟩
    have hres : getAll R = ([], 5 + (bodyL (l.take k)).length, 10) := by
      unfold getAll
      rw [hhd]
      simp only
      rw [hf, getG_skip (l.take k) [] (f + 1) (fun x hx => ⟨hb x (List.mem_of_mem_take hx), c2 x (List.mem_of_mem_take hx)⟩) (by simp; omega) (checkL_facts (check_take h k)).2.2 (by simp [lastA]) R _ 5 hRd]
      rw [getG, if_pos (by omega), hRd2, oneE_cut (hb s hsm) (c2 s hsm) _ (by omega) (by omega)]
      simp
    rw [hres]
    exact ⟨rfl, rfl⟩
end Go.Proofs.Ytnjdgnlgdokddaa
