/- What is put as sections is got. Plain lists. -/
import Derived.Test.YtnjdgnlgdokddaaSectGet
namespace Go.Proofs.Ytnjdgnlgdokddaa
open Go.RowKit
set_option linter.unusedVariables false
set_option linter.unusedSimpArgs false

section
variable {L rest : List Int} {p : Nat}
theorem fit_at {l : List Int} (h : L.drop p = l ++ rest) (h0 : 0 < l.length) : p + l.length ≤ L.length := by
  have := congrArg List.length h
  simp at this
  omega
theorem at_drp {l : List Int} (h : L.drop p = l ++ rest) {i : Nat} (hi : i < l.length) : L.getD (p + i) 0 = l.getD i 0 := by
  have h1 : (L.drop p)[i]? = (l ++ rest)[i]? := by rw [h]
  rw [List.getElem?_drop, List.getElem?_append_left hi] at h1
  simp only [List.getD, h1]
theorem rd_byte {n : Int} (h : L.drop p = [n] ++ rest) : byteO L p 0 = (n, p + 1, 0) := by
  have hf := fit_at h (by simp)
  have e0 := at_drp h (i := 0) (by simp)
  simp only [List.length_singleton] at hf
  simp only [Nat.add_zero] at e0
  unfold byteO
  rw [if_pos rfl, if_pos hf, e0]
  simp
theorem rd_u {n : Nat} (h1 : n ≤ 9223372036854775807) (h : L.drop p = leb n ++ rest) : uO L p 0 = ((n : Int), p + (leb n).length, 0) := by
  unfold uO
  have := getL_leb0 (n := (n : Int)) (by omega) (by omega) rest
  simp only [Int.toNat_natCast] at this
  rw [if_pos rfl, h, this]
  simp
theorem rd_word {n : Int} (h0 : 0 ≤ n) (h1 : n ≤ 4294967295) (h : L.drop p = wordB n ++ rest) : wordO L p 0 = (n, p + 4, 0) := by
  have hf := fit_at h (by simp [wordB])
  have e0 := at_drp h (i := 0) (by simp [wordB])
  have e1 := at_drp h (i := 1) (by simp [wordB])
  have e2 := at_drp h (i := 2) (by simp [wordB])
  have e3 := at_drp h (i := 3) (by simp [wordB])
  rw [wordB_len] at hf
  unfold wordO wordAt
  simp only [Nat.add_zero] at e0
  rw [if_pos rfl, if_pos hf, e0, e1, e2, e3]
  simp [wordB]
  omega
theorem rd_text {b : List Int} {M : Nat} (hb : b.length ≤ M) (hM : M ≤ 1048576) (h : L.drop p = leb b.length ++ (b ++ rest)) : textO (M : Int) L p 0 = (strOfNums b, p + (leb b.length).length + b.length, 0) := by
  have hu := rd_u (n := b.length) (by omega) h
  have hc : countO (M : Int) L p 0 = ((b.length : Int), p + (leb b.length).length, 0) := by
    unfold countO
    rw [hu]
    rw [if_neg]
    rintro ⟨-, -, h1 | h1⟩ <;> omega
  have hd : L.drop (p + (leb b.length).length) = b ++ rest := by
    rw [← List.drop_drop, h, List.drop_left]
  have hf : p + (leb b.length).length + b.length ≤ L.length := by
    have := congrArg List.length h
    have := leb_pos b.length
    simp at *
    omega
  unfold textO
  rw [hc]
  simp only [Int.toNat_natCast, if_true]
  rw [if_pos hf, hd, List.take_append_of_le_length (by omega), List.take_of_length_le (by omega)]
end
theorem one_read {t : Int} {b rest : List Int} (ht : 0 ≤ t ∧ t ≤ 255) (hb : Bs b) (hbl : b.length ≤ 1048576) :
    oneT (oneL t b ++ rest) = (t, 1, 0) ∧ oneX (oneL t b ++ rest) = (strOfNums b, (oneH t b).length, 0) ∧ oneW (oneL t b ++ rest) = (((csum 0 (oneH t b) : Nat) : Int), (oneL t b).length, 0) ∧ (oneL t b ++ rest).take (oneH t b).length = oneH t b := by
  have hlen := oneL_len t b (by omega)
  have htm : t % 256 = t := by omega
  obtain ⟨r', hr'⟩ : ∃ r', oneBs (oneL t b ++ rest) = oneL t b ++ r' := ⟨rest.take (1048608 - (oneL t b).length), by
    unfold oneBs
    rw [List.take_append, List.take_of_length_le (by omega)]⟩
  have e1 : oneT (oneL t b ++ rest) = (t, 1, 0) := by
    unfold oneT
    rw [hr']
    have := rd_byte (L := oneL t b ++ r') (p := 0) (n := t) (rest := (leb b.length ++ b) ++ wordB ((csum 0 (oneH t b) : Nat) : Int) ++ r') (by simp [oneL, oneH, htm])
    simpa using this
  have e2 : oneX (oneL t b ++ rest) = (strOfNums b, (oneH t b).length, 0) := by
    unfold oneX
    rw [e1, hr']
    have := rd_text (L := oneL t b ++ r') (p := 1) (b := b) (M := 1048576) (rest := wordB ((csum 0 (oneH t b) : Nat) : Int) ++ r') hbl (by omega) (by simp [oneL, oneH, htm])
    rw [show ((1048576 : Nat) : Int) = 1048576 by rfl] at this
    rw [this]
    simp [oneH]; omega
  have e3 : oneW (oneL t b ++ rest) = (((csum 0 (oneH t b) : Nat) : Int), (oneL t b).length, 0) := by
    unfold oneW
    rw [e2, hr']
    have := rd_word (L := oneL t b ++ r') (p := (oneH t b).length) (n := ((csum 0 (oneH t b) : Nat) : Int)) (rest := r') (by omega) (csum_le (oneH_bs t hb)) (by
      unfold oneL
      rw [List.append_assoc, List.drop_left])
    rw [this]
    simp [oneL, wordB_len]
  refine ⟨e1, e2, e3, ?_⟩
  unfold oneL
  rw [List.append_assoc, List.take_left]
theorem oneE_read {t : Int} {b rest : List Int} (ht : 0 ≤ t ∧ t ≤ 255) (hb : Bs b) (hbl : b.length ≤ 1048576) (last : Int) (cnt : Nat) :
    oneE last cnt (oneL t b ++ rest) = if last < t ∧ t ≤ 255 then (if cnt < 16 then 0 else 3) else 41 := by
  obtain ⟨e1, e2, e3, e4⟩ := one_read (rest := rest) ht hb hbl
  unfold oneE
  rw [e1, e2, e3, e4]
  simp
theorem getG_read : ∀ (suf pre : List (Int × List Int)) (f : Nat), suf.length < f → (∀ s ∈ suf, Bs s.2 ∧ s.2.length ≤ 1048576) → pre.length + suf.length ≤ 16 → risesL (lastA pre) (suf.map (·.1)) = true → 0 ≤ lastA pre →
    ∀ B at_, at_ ≤ B.length → B.drop at_ = bodyL suf → getG f pre at_ B = (pre ++ suf, B.length, 0) := by
  intro suf
  induction suf with
  | nil =>
    intro pre f hf hs hn hr hl B at_ hat hB
    obtain ⟨f, rfl⟩ : ∃ g, f = g + 1 := ⟨f - 1, by omega⟩
    have : B.length ≤ at_ := by have := congrArg List.length hB; simp [bodyL] at this; omega
    rw [getG, if_neg (by omega)]
    simp
  | cons s suf ih =>
    intro pre f hf hs hn hr hl B at_ hat hB
    obtain ⟨f, rfl⟩ : ∃ g, f = g + 1 := ⟨f - 1, by omega⟩
    obtain ⟨hsb, hsl⟩ := hs s (by simp)
    have hB' : B.drop at_ = oneL s.1 s.2 ++ bodyL suf := by rw [hB]; simp [bodyL]
    have hr2 : (lastA pre < s.1 ∧ s.1 ≤ 255) ∧ risesL s.1 (suf.map (·.1)) = true := by
      simp only [List.map_cons, risesL, Bool.and_eq_true, decide_eq_true_eq] at hr
      exact hr
    have ht : 0 ≤ s.1 ∧ s.1 ≤ 255 := ⟨by have := hr2.1.1; omega, hr2.1.2⟩
    obtain ⟨e1, e2, e3, e4⟩ := one_read (rest := bodyL suf) ht hsb hsl
    have hlen := oneL_len s.1 s.2 (by omega)
    have hBl : at_ + (oneL s.1 s.2).length ≤ B.length := by have := congrArg List.length hB'; simp at this; omega
    simp only [List.length_cons] at hn
    rw [getG, if_pos (by omega), hB', oneE_read ht hsb hsl, if_pos hr2.1, if_pos (by omega), e1, e2, e3, codes_str hsb]
    have := ih (pre ++ [(s.1, s.2)]) f (by simp at hf; omega) (fun x hx => hs x (by simp [hx])) (by simp; omega) (by simpa [lastA] using hr2.2) (by simpa [lastA] using ht.1) B (at_ + (oneL s.1 s.2).length) hBl (by
      rw [← List.drop_drop, hB', List.drop_left])
    rw [this]
    simp
theorem head_put (x : List Int) : headBad (headL ++ x) = none := head_none (by
  intro j hj
  unfold headOk
  have h1 : j < (headL ++ x).length := by simp [headL]; omega
  rw [decide_eq_true h1, Bool.true_and]
  have : (headL ++ x).getD j 0 = headL.getD j 0 := by
    simp only [List.getD]; rw [List.getElem?_append_left (by simp [headL]; omega)]
  rw [this]; simp)
theorem checkL_facts {l : List (Int × List Int)} (h : checkL l = 0) : l.length ≤ 16 ∧ (∀ s ∈ l, s.2.length ≤ 1048576) ∧ risesL 0 (l.map (·.1)) = true := by
  unfold checkL at h
  by_cases h1 : 16 < l.length
  · rw [if_pos h1] at h; omega
  rw [if_neg h1] at h
  by_cases h2 : l.any (fun s => decide (1048576 < s.2.length)) = true
  · rw [if_pos h2] at h; omega
  rw [if_neg h2] at h
  refine ⟨by omega, fun s hs => ?_, ?_⟩
  · have h3 : l.any (fun s => decide (1048576 < s.2.length)) = false := by simpa only [Bool.not_eq_true] using h2
    rw [List.any_eq_false] at h3
    have := h3 s hs
    by_cases hx : s.2.length ≤ 1048576
    · exact hx
    · exact absurd (decide_eq_true (show 1048576 < s.2.length by omega)) this
  · by_cases h3 : risesL 0 (l.map (·.1)) = true
    · exact h3
    · rw [if_neg h3] at h; omega
/-- What is put is got. -/
theorem get_put {l : List (Int × List Int)} (hb : ∀ s ∈ l, Bs s.2) (h : checkL l = 0) : getAll (putL l) = (l, (putL l).length, 0) := by
  obtain ⟨h1, h2, h3⟩ := checkL_facts h
  unfold getAll putL
  rw [head_put]
  simp only
  have hln : l.length ≤ (bodyL l).length := by
    clear h h1 h3
    induction l with
    | nil => simp
    | cons s l ih =>
      have := ih (fun x hx => hb x (by simp [hx])) (fun x hx => h2 x (by simp [hx]))
      have h4 := oneL_len s.1 s.2 (by have := h2 s (by simp); omega)
      simp [bodyL] at this ⊢; omega
  have := getG_read l [] ((headL ++ bodyL l).length + 1) (by simp; omega) (fun s hs => ⟨hb s hs, h2 s hs⟩) (by simpa using h1) h3 (by simp [lastA]) (headL ++ bodyL l) 5 (by simp [headL]) (by
    rw [show (5 : Nat) = headL.length by rfl, List.drop_left])
  rw [this]
  simp
end Go.Proofs.Ytnjdgnlgdokddaa
