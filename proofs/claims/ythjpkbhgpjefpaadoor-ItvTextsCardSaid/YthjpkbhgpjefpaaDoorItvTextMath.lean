/- What an interval's text is, and where its comma stands. -/
import Derived.Test.YthjpkbhgpjefpaaDoorItvParse
namespace Go.Proofs.YthjpkbhgpjefpaaDoor
open Go.RowKit
set_option linter.unusedVariables false

def formI (a b : Int) : List UInt8 := [91] ++ showV a ++ [44, 32] ++ showV b ++ [93]
theorem itoa_no {v : Int} : ∀ c ∈ Lib.itoa v, isDig c ∨ c = 45 := by
  intro c hc
  have hd := fun u => (show_val u).2.1.2.1
  unfold Lib.itoa at hc
  split at hc
  · rcases List.mem_cons.1 hc with h | h
    · exact .inr h
    · exact .inl (hd _ c h)
  · exact .inl (hd _ c hc)
theorem dig_no {c : UInt8} (h : isDig c) : c ≠ 44 ∧ c ≠ 93 := by
  unfold isDig at h
  constructor
  · intro e; subst e; have : (44 : UInt8).toNat = 44 := rfl; omega
  · intro e; subst e; have : (93 : UInt8).toNat = 93 := rfl; omega
theorem showV_no {v : Int} : ∀ c ∈ showV v, c ≠ 44 := by
  intro c hc
  unfold showV at hc
  split at hc
  · revert c; decide
  · split at hc
    · revert c; decide
    · rcases itoa_no c hc with h | h
      · exact (dig_no h).1
      · subst h; decide
theorem form_len (a b : Int) : (formI a b).length = (showV a).length + (showV b).length + 4 := by simp [formI]; omega
theorem form_comma (a b : Int) : (formI a b)[1 + (showV a).length]? = some 44 := by
  unfold formI
  rw [List.append_assoc, List.append_assoc, List.append_assoc, List.getElem?_append_right (by simp), List.getElem?_append_right (by simp)]
  simp
theorem form_before (a b : Int) (j : Nat) (h1 : 1 ≤ j) (h2 : j < 1 + (showV a).length) : ∃ c, (formI a b)[j]? = some c ∧ c ≠ 44 := by
  have hj : j - 1 < (showV a).length := by omega
  refine ⟨(showV a)[j - 1], ?_, showV_no _ (List.getElem_mem hj)⟩
  unfold formI
  rw [List.append_assoc, List.append_assoc, List.append_assoc, List.getElem?_append_right (by simpa using h1), List.getElem?_append_left (by simpa using hj)]
  simp [List.getElem?_eq_getElem hj]
theorem form_first {a b : Int} {k : Nat} (h1 : 1 ≤ k) (hk : (formI a b)[k]? = some 44) (hb : ∀ j, 1 ≤ j → j < k → (formI a b)[j]? ≠ some 44) : k = 1 + (showV a).length := by
  rcases Nat.lt_trichotomy k (1 + (showV a).length) with h | h | h
  · obtain ⟨c, e1, e2⟩ := form_before a b k h1 h
    rw [e1] at hk; exact absurd (Option.some.inj hk) e2
  · exact h
  · exact absurd (form_comma a b) (hb _ (by omega) h)
theorem form_left (a b : Int) : ((formI a b).take (1 + (showV a).length)).drop 1 = showV a := by
  unfold formI
  rw [List.append_assoc, List.append_assoc, List.append_assoc, show 1 + (showV a).length = (showV a).length + 1 by omega]
  simp
theorem form_right (a b : Int) : ((formI a b).take ((formI a b).length - 1)).drop (1 + (showV a).length + 2) = showV b := by
  rw [form_len]
  unfold formI
  rw [List.append_assoc, List.append_assoc, List.append_assoc, show (showV a).length + (showV b).length + 4 - 1 = ([91] ++ (showV a ++ ([44, 32] ++ showV b))).length by simp; omega,
    show [91] ++ (showV a ++ ([44, 32] ++ (showV b ++ [93]))) = ([91] ++ (showV a ++ ([44, 32] ++ showV b))) ++ [93] by simp, List.take_left,
    show [91] ++ (showV a ++ ([44, 32] ++ showV b)) = ([91] ++ showV a ++ [44, 32]) ++ showV b by simp, show 1 + (showV a).length + 2 = ([91] ++ showV a ++ [44, 32]).length by simp; omega, List.drop_left]
theorem form_parts (a b : Int) : partsI (formI a b) = (showV a, showV b, true) := by
  have e1 : Lib.trimPrefix (formI a b) [91] = (showV a ++ ([44, 32] ++ showV b)) ++ [93] := by
    unfold Lib.trimPrefix Lib.hasPrefix formI
    simp
  have e2 : Lib.trimSuffix ((showV a ++ ([44, 32] ++ showV b)) ++ [93]) [93] = showV a ++ ([44, 32] ++ showV b) := by
    unfold Lib.trimSuffix
    rw [if_pos (by unfold Lib.hasSuffix; rw [List.isSuffixOf_iff_suffix]; exact List.suffix_append _ _)]
    rw [List.length_append, show ([93] : List UInt8).length = 1 from rfl, Nat.add_sub_cancel, List.take_left]
  have e3 : Lib.index (showV a ++ ([44, 32] ++ showV b)) [44, 32] = (showV a).length := by
    refine Lib.index_first (by simp) ?_ ?_
    · unfold Lib.occAt; rw [List.drop_left]; rw [List.isPrefixOf_iff_prefix]; exact List.prefix_append _ _
    · intro j hj
      cases h : Lib.occAt (showV a ++ ([44, 32] ++ showV b)) [44, 32] j with
      | false => rfl
      | true =>
        have h2 := Lib.occAt_head rfl h
        rw [List.getElem?_append_left hj, List.getElem?_eq_getElem hj] at h2
        exact absurd (Option.some.inj h2) (showV_no _ (List.getElem_mem hj))
  unfold partsI
  rw [e1, e2]
  unfold Lib.cut
  rw [e3, if_pos (by omega), show ((showV a).length : Int).toNat = (showV a).length by omega, List.take_left, ← List.append_assoc, show (showV a).length + ([44, 32] : List UInt8).length = (showV a ++ ([44, 32] : List UInt8)).length by simp, List.drop_left]
/-- The plain intervals that have a value. -/
def PlainI (a b : Int) : Prop := -1099511627776 ≤ a ∧ a ≤ b ∧ b ≤ 1099511627776
theorem plain_of {a b : Int} (h : PlainI a b) : ofL a b = a ∧ ofH a b = b := by
  unfold PlainI at h
  obtain ⟨e1, e2⟩ := ofL_in (a := a) (b := b) (by omega)
  rw [e1, e2, clip_id (by omega) (by omega), clip_id (by omega) (by omega)]; exact ⟨rfl, rfl⟩
theorem show_form {a b : Int} (h : PlainI a b) : showI (ofL a b) (ofH a b) = formI a b := by
  rw [(plain_of h).1, (plain_of h).2]
  unfold showI formI PlainI at *
  rw [if_neg]
  intro e
  rw [Bool.and_eq_true, beq_iff_eq, beq_iff_eq] at e
  omega
theorem form_not_none (a b : Int) : formI a b ≠ [110, 111, 110, 101] := by unfold formI; intro h; exact absurd (congrArg List.head? h) (by simp)
theorem parse_showV {v : Int} (h0 : -1099511627776 ≤ v) (h1 : v ≤ 1099511627776) : parseN (showV v) = v ∧ parseE (showV v) = 0 ∧ (parseV (showV v)).isSome = true := by
  have h := parseV_show h0 h1
  unfold parseN parseE; rw [h]; exact ⟨rfl, rfl, rfl⟩
theorem parse_in {s : List UInt8} (h : (parseV s).isSome = true) : -1099511627776 ≤ parseN s ∧ parseN s ≤ 1099511627776 := by
  cases e : parseV s with
  | none => rw [e] at h; exact absurd h (by simp)
  | some v => unfold parseN; rw [e]; exact ((parseV_iff s v).1 e).1
theorem parseE_iff (s : List UInt8) : parseE s = 0 ↔ (parseV s).isSome = true := by unfold parseE; split <;> simp_all
/-- What parses and is shown so is plain. -/
theorem shown_plain {a b : Int} {s : List UInt8} (hn : s ≠ [110, 111, 110, 101]) (ha : -1099511627776 ≤ a ∧ a ≤ 1099511627776) (hb : -1099511627776 ≤ b ∧ b ≤ 1099511627776) (h : showI (ofL a b) (ofH a b) = s) : PlainI a b ∧ s = formI a b := by
  by_cases hp : a ≤ b
  · have h2 : PlainI a b := ⟨ha.1, hp, hb.2⟩
    exact ⟨h2, by rw [← h, show_form h2]⟩
  · obtain ⟨e1, e2⟩ := ofL_out (a := a) (b := b) (.inl (by omega))
    rw [e1, e2] at h
    exact absurd h.symm hn
theorem prE_form {a b : Int} (h : PlainI a b) : prE (formI a b) = 0 ∧ prL (formI a b) = a ∧ prH (formI a b) = b := by
  have h2 := h
  unfold PlainI at h2
  have p1 := parse_showV (v := a) (by omega) (by omega)
  have p2 := parse_showV (v := b) (by omega) (by omega)
  have e : prE (formI a b) = 0 := by
    unfold prE
    rw [form_parts]
    rw [if_pos]
    show parseE (showV a) = 0 ∧ parseE (showV b) = 0 ∧ showI (ofL (parseN (showV a)) (parseN (showV b))) (ofH (parseN (showV a)) (parseN (showV b))) = formI a b
    rw [p1.1, p2.1]
    exact ⟨p1.2.1, p2.2.1, show_form h⟩
  obtain ⟨e1, e2⟩ := prE_yes e
  rw [form_parts] at e1 e2
  exact ⟨e, e1.trans p1.1, e2.trans p2.1⟩
theorem prE_cases (s : List UInt8) : prE s = 0 ∨ prE s = 70 := by unfold prE; split <;> simp
theorem prE_plain {s : List UInt8} (hn : s ≠ [110, 111, 110, 101]) (h : prE s = 0) : ∃ a b, PlainI a b ∧ s = formI a b := by
  unfold prE at h
  split at h
  case isTrue hc =>
    obtain ⟨h1, h2, h3⟩ := hc
    obtain ⟨k1, k2⟩ := shown_plain hn (parse_in ((parseE_iff _).1 h1)) (parse_in ((parseE_iff _).1 h2)) h3
    exact ⟨_, _, k1, k2⟩
  case isFalse hc => omega
/-- No comma, or nothing behind it: none's text. -/
theorem pr_none {s : List UInt8} (hn : s ≠ [110, 111, 110, 101]) (h : ∀ a b, PlainI a b → s ≠ formI a b) : prE s = 70 ∧ prL s = 0 ∧ prH s = 0 := by
  rcases prE_cases s with e | e
  · obtain ⟨a, b, h1, h2⟩ := prE_plain hn e
    exact absurd h2 (h a b h1)
  · exact ⟨e, prE_no e⟩
/-- At the first comma: what the text is. -/
theorem pr_comma {s : List UInt8} (hn : s ≠ [110, 111, 110, 101]) {k : Nat} (h1 : 1 ≤ k) (hk : s[k]? = some 44) (hb : ∀ j, 1 ≤ j → j < k → s[j]? ≠ some 44) :
    (s.length - 1 < k + 2 → prE s = 70 ∧ prL s = 0 ∧ prH s = 0) ∧
    (∀ x y, x = (s.take k).drop 1 → y = (s.take (s.length - 1)).drop (k + 2) →
      ((parseV x).isSome = true ∧ (parseV y).isSome = true ∧ showI (ofL (parseN x) (parseN y)) (ofH (parseN x) (parseN y)) = s → prE s = 0 ∧ prL s = parseN x ∧ prH s = parseN y) ∧
      (¬ ((parseV x).isSome = true ∧ (parseV y).isSome = true ∧ showI (ofL (parseN x) (parseN y)) (ofH (parseN x) (parseN y)) = s) → prE s = 70 ∧ prL s = 0 ∧ prH s = 0)) := by
  refine ⟨fun hl => pr_none hn fun a b hp e => ?_, fun x y hx hy => ⟨fun ⟨q1, q2, q3⟩ => ?_, fun hc => pr_none hn fun a b hp e => ?_⟩⟩
  · subst e
    have := form_first h1 hk hb
    rw [form_len] at hl
    omega
  · obtain ⟨k1, k2⟩ := shown_plain hn (parse_in q1) (parse_in q2) q3
    have := prE_form k1
    rw [← k2] at this
    exact this
  · subst e
    have e1 := form_first h1 hk hb
    rw [e1, form_left] at hx
    rw [e1, form_right] at hy
    subst hx hy
    have hp2 := hp
    unfold PlainI at hp2
    have p1 := parse_showV (v := a) (by omega) (by omega)
    have p2 := parse_showV (v := b) (by omega) (by omega)
    refine hc ⟨p1.2.2, p2.2.2, ?_⟩
    rw [p1.1, p2.1]
    exact show_form hp
theorem pr_end {s : List UInt8} (hn : s ≠ [110, 111, 110, 101]) (hb : ∀ j, 1 ≤ j → j + 1 < s.length → s[j]? ≠ some 44) : prE s = 70 ∧ prL s = 0 ∧ prH s = 0 := by
  refine pr_none hn fun a b hp e => ?_
  subst e
  exact hb (1 + (showV a).length) (by omega) (by rw [form_len]; omega) (form_comma a b)
/-- What is shown is parsed. -/
theorem pI_show (a b : Int) : pIE (showI (ofL a b) (ofH a b)) = 0 ∧ pIL (showI (ofL a b) (ofH a b)) = ofL a b ∧ pIH (showI (ofL a b) (ofH a b)) = ofH a b := by
  by_cases h : b < a ∨ 1099511627776 < a ∨ b < -1099511627776
  · obtain ⟨e1, e2⟩ := ofL_out h
    rw [e1, e2]
    refine ⟨?_, ?_, ?_⟩ <;> decide +kernel
  · obtain ⟨e1, e2⟩ := ofL_in h
    have hp : PlainI (clip a) (clip b) := by
      have h1 := clip_in a
      have h2 := clip_in b
      refine ⟨h1.1, ?_, h2.2⟩
      unfold clip; (repeat' split) <;> omega
    have e3 : showI (ofL a b) (ofH a b) = formI (clip a) (clip b) := by
      have h3 := show_form hp
      rw [(plain_of hp).1, (plain_of hp).2] at h3
      rw [e1, e2]; exact h3
    have h4 := prE_form hp
    have h5 := form_not_none (clip a) (clip b)
    rw [e3]
    unfold pIE pIL pIH
    rw [if_neg h5, if_neg h5, if_neg h5, e1, e2]
    exact h4
theorem showI_len (a b : Int) : (showI (ofL a b) (ofH a b)).length ≤ 46 := by
  have hi := of_in a b
  have h1 := showV_len (v := ofL a b) (by omega)
  have h2 := showV_len (v := ofH a b) (by omega)
  unfold showI
  split
  · decide
  · simp; omega
end Go.Proofs.YthjpkbhgpjefpaaDoor
