/- Bits turned in the last section's body and sum: what is got has the wrong sum. Plain lists. -/
import Derived.Test.YtnjdgnlgdokddaaSectTurnMath
namespace Go.Proofs.Ytnjdgnlgdokddaa
open Go.RowKit
set_option linter.unusedVariables false
set_option linter.unusedSimpArgs false

theorem flip_app (P Q : List Int) (p : Nat) : flip (P ++ Q) (8 * P.length + p) = P ++ flip Q p := by
  unfold flip
  rw [show (8 * P.length + p) / 8 = P.length + p / 8 by omega, show (8 * P.length + p) % 8 = p % 8 by omega]
  have : (P ++ Q).getD (P.length + p / 8) 0 = Q.getD (p / 8) 0 := by
    simp only [List.getD]
    rw [List.getElem?_append_right (by omega), Nat.add_sub_cancel_left]
  rw [this, List.set_append_right _ _ (by omega), Nat.add_sub_cancel_left]
theorem turned_app (P Q : List Int) (s t : Nat) : ∀ k, turned (P ++ Q) (8 * P.length + s) t k = P ++ turned Q s t k := by
  intro k
  induction k with
  | zero => rfl
  | succ k ih =>
    simp only [turned]
    by_cases h : (t / 2 ^ k) % 2 = 1
    · rw [if_pos h, if_pos h, ih, Nat.add_assoc, flip_app]
    · rw [if_neg h, if_neg h, ih]
theorem four_word {l : List Int} (h : l.length = 4) (hb : Bs l) : ∃ n : Nat, n < 4294967296 ∧ l = wordB (n : Int) := by
  match l, h with
  | [a, b, c, d], _ =>
    have ha := hb a (by simp)
    have hb1 := hb b (by simp)
    have hc := hb c (by simp)
    have hd := hb d (by simp)
    refine ⟨(a + 256 * b + 65536 * c + 16777216 * d).toNat, by omega, ?_⟩
    unfold wordB
    rw [Int.toNat_of_nonneg (by omega)]
    simp only [List.cons.injEq, and_true]
    omega
/-- What one section becomes. -/
theorem turned_one (tg : Int) {bd : List Int} (hb : Bs bd) (hl : bd.length ≤ 1048576) (s t : Nat) (hs : s + 32 ≤ 8 * (bd.length + 4)) (h0 : t ≠ 0) (h1 : t < 4294967296) :
    ∃ (b' : List Int) (n : Nat), n < 4294967296 ∧ Bs b' ∧ b'.length = bd.length ∧ csum 0 (oneH tg b') ≠ n ∧
      turned (oneL tg bd) (8 * (1 + (leb bd.length).length) + s) t 32 = oneH tg b' ++ wordB (n : Int) := by
  obtain ⟨C, hC⟩ : ∃ C : Int, C = ((csum 0 (oneH tg bd) : Nat) : Int) := ⟨_, rfl⟩
  have hCb : Bs (wordB C) := by rw [hC]; exact wordB_bs (by omega) (csum_le (oneH_bs tg hb))
  have hbw : Bs (bd ++ wordB C) := by
    intro x hx
    rcases List.mem_append.1 hx with hx | hx
    · exact hb x hx
    · exact hCb x hx
  have hT := turned_bs hbw s t 32
  have hTl : (turned (bd ++ wordB C) s t 32).length = bd.length + 4 := by rw [turned_length]; simp [wordB_len]
  obtain ⟨T, hTe⟩ : ∃ T, T = turned (bd ++ wordB C) s t 32 := ⟨_, rfl⟩
  rw [← hTe] at hT hTl
  obtain ⟨n, hn, hnw⟩ := four_word (l := T.drop bd.length) (by simp [hTl]) (fun x hx => hT x (List.mem_of_mem_drop hx))
  have hbl : (T.take bd.length).length = bd.length := by rw [List.length_take]; omega
  have hB' : Bs (T.take bd.length) := fun x hx => hT x (List.mem_of_mem_take hx)
  have he : turned (oneL tg bd) (8 * (1 + (leb bd.length).length) + s) t 32 = oneH tg (T.take bd.length) ++ wordB (n : Int) := by
    have e1 : oneL tg bd = ([tg % 256] ++ leb bd.length) ++ (bd ++ wordB C) := by rw [hC]; simp [oneL, oneH]
    have e2 : 1 + (leb bd.length).length = ([tg % 256] ++ leb bd.length).length := by simp; omega
    rw [e1, e2, turned_app, ← hTe]
    unfold oneH
    rw [hbl, ← hnw]
    conv => lhs; rw [← List.take_append_drop bd.length T]
    simp
  refine ⟨T.take bd.length, n, hn, hB', hbl, ?_, he⟩
  refine turned_bad (H := oneH tg bd) (oneH_bs tg hb) (8 * (1 + (leb bd.length).length) + s) t ?_ h0 h1 hn (oneH_bs tg hB') he
  simp only [oneH, List.length_append, List.length_singleton]
  omega
/-- One section whose sum is not its own. -/
theorem oneE_bad {t : Int} {b rest : List Int} (hb : Bs b) (hbl : b.length ≤ 1048576) {n : Nat} (hn : n < 4294967296) (hne : csum 0 (oneH t b) ≠ n) (last : Int) (cnt : Nat) :
    oneE last cnt (oneH t b ++ wordB (n : Int) ++ rest) = 42 := by
  have hlen : (oneH t b ++ wordB (n : Int)).length ≤ 1048608 := by
    have := oneH_len t b (by omega)
    simp only [List.length_append, wordB_len]; omega
  obtain ⟨r', hr'⟩ : ∃ r', oneBs (oneH t b ++ wordB (n : Int) ++ rest) = oneH t b ++ wordB (n : Int) ++ r' := ⟨rest.take (1048608 - (oneH t b ++ wordB (n : Int)).length), by
    unfold oneBs
    rw [List.take_append, List.take_of_length_le (by omega)]⟩
  have e1 : oneT (oneH t b ++ wordB (n : Int) ++ rest) = (t % 256, 1, 0) := by
    unfold oneT
    rw [hr']
    have := rd_byte (L := oneH t b ++ wordB (n : Int) ++ r') (p := 0) (n := t % 256) (rest := (leb b.length ++ b) ++ wordB (n : Int) ++ r') (by simp [oneH])
    simpa using this
  have e2 : oneX (oneH t b ++ wordB (n : Int) ++ rest) = (strOfNums b, (oneH t b).length, 0) := by
    unfold oneX
    rw [e1, hr']
    have := rd_text (L := oneH t b ++ wordB (n : Int) ++ r') (p := 1) (b := b) (M := 1048576) (rest := wordB (n : Int) ++ r') hbl (by omega) (by simp [oneH])
    rw [show ((1048576 : Nat) : Int) = 1048576 by rfl] at this
    rw [this]
    simp [oneH]; omega
  have e3 : oneW (oneH t b ++ wordB (n : Int) ++ rest) = ((n : Int), (oneH t b).length + 4, 0) := by
    unfold oneW
    rw [e2, hr']
    exact rd_word (L := oneH t b ++ wordB (n : Int) ++ r') (p := (oneH t b).length) (n := (n : Int)) (rest := r') (by omega) (by omega) (by rw [List.append_assoc, List.drop_left])
  have e4 : (oneH t b ++ wordB (n : Int) ++ rest).take (oneH t b).length = oneH t b := by rw [List.append_assoc, List.take_left]
  unfold oneE
  rw [e1, e2, e3, e4]
  simp only [ne_eq, not_true_eq_false, if_false]
  rw [if_neg (by exact_mod_cast hne)]
theorem rises_left : ∀ (l m : List Int) (a : Int), risesL a (l ++ m) = true → risesL a l = true := by
  intro l
  induction l with
  | nil => intro m a h; rfl
  | cons x l ih =>
    intro m a h
    simp only [List.cons_append, risesL, Bool.and_eq_true] at h ⊢
    exact ⟨h.1, ih m x h.2⟩
/-- The sections ahead are got. -/
theorem getG_skip : ∀ (suf pre : List (Int × List Int)) (f : Nat), (∀ s ∈ suf, Bs s.2 ∧ s.2.length ≤ 1048576) → pre.length + suf.length ≤ 16 → risesL (lastA pre) (suf.map (·.1)) = true → 0 ≤ lastA pre →
    ∀ (B rest : List Int) at_, B.drop at_ = bodyL suf ++ rest → getG (suf.length + f) pre at_ B = getG f (pre ++ suf) (at_ + (bodyL suf).length) B := by
  intro suf
  induction suf with
  | nil => intro pre f hs hn hr hl B rest at_ hB; simp [bodyL]
  | cons s suf ih =>
    intro pre f hs hn hr hl B rest at_ hB
    obtain ⟨hsb, hsl⟩ := hs s (by simp)
    have hB' : B.drop at_ = oneL s.1 s.2 ++ (bodyL suf ++ rest) := by rw [hB]; simp [bodyL]
    have hr2 : (lastA pre < s.1 ∧ s.1 ≤ 255) ∧ risesL s.1 (suf.map (·.1)) = true := by
      simp only [List.map_cons, risesL, Bool.and_eq_true, decide_eq_true_eq] at hr
      exact hr
    have ht : 0 ≤ s.1 ∧ s.1 ≤ 255 := ⟨by have := hr2.1.1; omega, hr2.1.2⟩
    obtain ⟨e1, e2, e3, e4⟩ := one_read (rest := bodyL suf ++ rest) ht hsb hsl
    have hlen := oneL_len s.1 s.2 (by omega)
    have hBl : at_ + (oneL s.1 s.2).length ≤ B.length := fit_at hB' (by omega)
    simp only [List.length_cons] at hn
    rw [show (s :: suf).length + f = (suf.length + f) + 1 by simp; omega, getG, if_pos (by omega), hB', oneE_read ht hsb hsl, if_pos hr2.1, if_pos (by omega), e1, e2, e3, codes_str hsb]
    have := ih (pre ++ [(s.1, s.2)]) f (fun x hx => hs x (by simp [hx])) (by simp; omega) (by simpa [lastA] using hr2.2) (by simpa [lastA] using ht.1) B rest (at_ + (oneL s.1 s.2).length) (by
      rw [← List.drop_drop, hB', List.drop_left])
    simp only [if_true] at this ⊢
    rw [this]
    have e5 : (bodyL (s :: suf)).length = (oneL s.1 s.2).length + (bodyL suf).length := by simp [bodyL]
    rw [e5, ← Nat.add_assoc]
    simp
/-- Bits turned in the last section: the sum is told wrong. -/
theorem get_turned {ini : List (Int × List Int)} {tg : Int} {bd : List Int} (hb : ∀ s ∈ ini ++ [(tg, bd)], Bs s.2) (h : checkL (ini ++ [(tg, bd)]) = 0) (s t : Nat) (hs : s + 32 ≤ 8 * (bd.length + 4)) (h0 : t ≠ 0) (h1 : t < 4294967296) :
    (getAll (turned (putL (ini ++ [(tg, bd)])) (8 * (putL (ini ++ [(tg, bd)])).length - 8 * (bd.length + 4) + s) t 32)).2.2 = 42 := by
  obtain ⟨c1, c2, c3⟩ := checkL_facts h
  have hbb := hb (tg, bd) (by simp)
  have hbl := c2 (tg, bd) (by simp)
  simp only at hbb hbl
  obtain ⟨b', n, hn, hb', hl', hne, he⟩ := turned_one tg hbb hbl s t hs h0 h1
  have hp : putL (ini ++ [(tg, bd)]) = (headL ++ bodyL ini) ++ oneL tg bd := by simp [putL, bodyL]
  have hln : (oneL tg bd).length = 1 + (leb bd.length).length + (bd.length + 4) := by
    simp only [oneL, oneH, List.length_append, List.length_singleton, wordB_len]; omega
  have hk : 8 * (putL (ini ++ [(tg, bd)])).length - 8 * (bd.length + 4) + s = 8 * (headL ++ bodyL ini).length + (8 * (1 + (leb bd.length).length) + s) := by
    rw [hp, show ((headL ++ bodyL ini) ++ oneL tg bd).length = (headL ++ bodyL ini).length + (oneL tg bd).length from List.length_append, hln]; omega
  rw [hk, hp, turned_app, he]
  have hini : ini.length ≤ (bodyL ini).length := by
    have c2' : ∀ s ∈ ini, s.2.length ≤ 1048576 := fun x hx => c2 x (by simp [hx])
    clear hk hp he c1 c3 c2 h hb
    induction ini with
    | nil => simp
    | cons s l ih =>
      have := ih (fun x hx => c2' x (by simp [hx]))
      have h4 := oneL_len s.1 s.2 (by have := c2' s (by simp); omega)
      simp [bodyL] at this ⊢; omega
  obtain ⟨R, hR⟩ : ∃ R, R = headL ++ bodyL ini ++ (oneH tg b' ++ wordB (n : Int)) := ⟨_, rfl⟩
  have hRl : (headL ++ bodyL ini).length + 5 ≤ R.length := by
    rw [hR]; simp only [List.length_append, wordB_len, oneH, List.length_singleton]; omega
  have hRd : R.drop 5 = bodyL ini ++ (oneH tg b' ++ wordB (n : Int)) := by
    rw [hR, List.append_assoc, show (5 : Nat) = headL.length by rfl, List.drop_left]
  have hRd2 : R.drop (5 + (bodyL ini).length) = oneH tg b' ++ wordB (n : Int) ++ [] := by
    rw [← List.drop_drop, hRd, List.drop_left]; simp
  have hhd : headBad R = none := by rw [hR, List.append_assoc]; exact head_put _
  have hhl : (headL ++ bodyL ini).length = 5 + (bodyL ini).length := by rw [List.length_append]; rfl
  rw [← hR]
  obtain ⟨f, hf⟩ : ∃ f, R.length + 1 = ini.length + (f + 1) := ⟨R.length - ini.length, by omega⟩
  unfold getAll
  rw [hhd]
  simp only
  rw [hf, getG_skip ini [] (f + 1) (fun x hx => ⟨hb x (by simp [hx]), c2 x (by simp [hx])⟩) (by simp at c1 ⊢; omega) (rises_left _ [tg] 0 (by simpa [lastA] using c3)) (by simp [lastA]) R _ 5 hRd]
  rw [getG, if_pos (by omega), hRd2, oneE_bad hb' (by omega) hn hne]
  simp
end Go.Proofs.Ytnjdgnlgdokddaa
