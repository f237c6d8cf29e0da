/- Plain mathematics of numbers' texts: no program. -/
import Derived.Lib.ItoaMem
import Derived.Lib.ItoaLen
import Derived.Lib.Strings
namespace Go.Proofs.YtpbminoefmpmpaaDoor
open Go.Lib
set_option linter.unusedVariables false

def MX : Int := 1099511627776
def clip (n : Int) : Int := if 1099511627776 < n then 1099511627776 else if n < -1099511627776 then -1099511627776 else n
theorem clip_in (n : Int) : -1099511627776 ≤ clip n ∧ clip n ≤ 1099511627776 := by unfold clip; split <;> (try split) <;> omega
theorem clip_id {n : Int} (h0 : -1099511627776 ≤ n) (h1 : n ≤ 1099511627776) : clip n = n := by unfold clip; rw [if_neg (by omega), if_neg (by omega)]

def infT : List UInt8 := [105, 110, 102]
def ninfT : List UInt8 := [45, 105, 110, 102]
/-- A value's text. -/
def showV (v : Int) : List UInt8 := if v = 1099511627776 then infT else if v = -1099511627776 then ninfT else itoa v

def isDig (c : UInt8) : Prop := 48 ≤ c.toNat ∧ c.toNat ≤ 57
instance (c : UInt8) : Decidable (isDig c) := by unfold isDig; infer_instance
/-- What digits say. -/
def val10 (l : List UInt8) : Nat := l.foldl (fun a c => 10 * a + (c.toNat - 48)) 0
theorem val10_snoc (l : List UInt8) (c : UInt8) : val10 (l ++ [c]) = 10 * val10 l + (c.toNat - 48) := by simp [val10]
theorem val10_app_le (l r : List UInt8) : val10 l ≤ val10 (l ++ r) := by
  induction r generalizing l with
  | nil => simp
  | cons c r ih =>
    have h1 := ih (l ++ [c])
    rw [val10_snoc] at h1
    rw [show l ++ c :: r = l ++ [c] ++ r by simp]
    omega
/-- Digits as a number is shown. -/
def canon (l : List UInt8) : Prop := l ≠ [] ∧ (∀ c ∈ l, isDig c) ∧ (l.head? = some 48 → l = [48])
instance (l : List UInt8) : Decidable (canon l) := by unfold canon; infer_instance

theorem dig_back {c : UInt8} (h : isDig c) : UInt8.ofNat (48 + (c.toNat - 48)) = c := by
  rw [show 48 + (c.toNat - 48) = c.toNat by have := h.1; omega]
  exact UInt8.ofNat_toNat
theorem dig_of {d : Nat} (h : d < 10) : isDig (UInt8.ofNat (48 + d)) ∧ (UInt8.ofNat (48 + d)).toNat - 48 = d := by
  have e : (UInt8.ofNat (48 + d)).toNat = 48 + d := by
    rw [UInt8.toNat_ofNat']; omega
  unfold isDig
  rw [e]; omega

theorem val10_pos {l : List UInt8} (h0 : l ≠ []) (hd : ∀ c ∈ l, isDig c) (hh : l.head? ≠ some 48) : 0 < val10 l := by
  cases l with
  | nil => exact absurd rfl h0
  | cons c r =>
    have h1 := val10_app_le [c] r
    have hc := hd c (by simp)
    have : c.toNat ≠ 48 := by
      intro e
      apply hh
      simp only [List.head?_cons, Option.some.injEq]
      apply UInt8.toNat_inj.1
      rw [e]; rfl
    have e2 : val10 [c] = c.toNat - 48 := by simp [val10]
    have := hc.1
    rw [show c :: r = [c] ++ r by rfl]
    omega

/-- Digits as a number is shown, are shown. -/
theorem canon_show {l : List UInt8} (h : canon l) : decDigits (val10 l) = l := by
  suffices H : ∀ (n : Nat) (l : List UInt8), l.length = n → canon l → decDigits (val10 l) = l from H _ l rfl h
  intro n
  induction n with
  | zero => intro l hl hc; exact absurd (List.eq_nil_of_length_eq_zero hl) hc.1
  | succ n ih =>
    intro l hl hc
    obtain ⟨p, c, rfl⟩ : ∃ p c, l = p ++ [c] := ⟨l.dropLast, l.getLast hc.1, (List.dropLast_concat_getLast hc.1).symm⟩
    have hp : p.length = n := by simp at hl; omega
    have hcd : isDig c := hc.2.1 c (by simp)
    have hlt : c.toNat - 48 < 10 := by have := hcd.1; have := hcd.2; omega
    rw [val10_snoc]
    by_cases hpe : p = []
    · subst hpe
      rw [show val10 [] = 0 from rfl, Nat.mul_zero, Nat.zero_add, decDigits, dif_pos hlt, dig_back hcd]
      rfl
    · have hph : p.head? ≠ some 48 := by
        intro e
        have h2 := hc.2.2 (by rw [List.head?_append, e]; rfl)
        have h3 := congrArg List.length h2
        simp at h3
        exact hpe h3
      have hpd : ∀ x ∈ p, isDig x := fun x hx => hc.2.1 x (by simp [hx])
      have hpos := val10_pos hpe hpd hph
      rw [decDigits, dif_neg (by omega), show (10 * val10 p + (c.toNat - 48)) / 10 = val10 p by omega, show (10 * val10 p + (c.toNat - 48)) % 10 = c.toNat - 48 by omega, dig_back hcd]
      rw [ih p hp ⟨hpe, hpd, fun e => absurd e hph⟩]

theorem show_val (u : Nat) : val10 (decDigits u) = u ∧ canon (decDigits u) ∧ (0 < u → (decDigits u).head? ≠ some 48) := by
  induction u using Nat.strongRecOn with
  | ind u ih =>
    by_cases h : u < 10
    · rw [decDigits, dif_pos h]
      have := dig_of h
      refine ⟨by simpa [val10] using this.2, ⟨by simp, by simpa using this.1, ?_⟩, ?_⟩
      · intro e; simp at e; simp [e]
      · intro h0 e
        simp only [List.head?_cons, Option.some.injEq] at e
        rw [e] at this
        simp at this
        omega
    · obtain ⟨h1, h2, h3⟩ := ih (u / 10) (by omega)
      have hd := dig_of (d := u % 10) (by omega)
      rw [decDigits, dif_neg h]
      have hh : (decDigits (u / 10) ++ [UInt8.ofNat (48 + u % 10)]).head? ≠ some 48 := by
        intro e
        rw [List.head?_append] at e
        have h4 := h3 (by omega)
        cases hx : (decDigits (u / 10)).head? with
        | none => rw [List.head?_eq_none_iff] at hx; exact h2.1 hx
        | some x => rw [hx] at e h4; simp at e; exact h4 (by rw [e])
      refine ⟨by rw [val10_snoc, h1, hd.2]; omega, ⟨by simp, ?_, fun e => absurd e hh⟩, fun _ => hh⟩
      intro c hc
      rcases List.mem_append.1 hc with hc | hc
      · exact h2.2.1 c hc
      · rw [List.mem_singleton] at hc; subst hc; exact hd.1

/-- What a text without a sign says. -/
def sizeV (l : List UInt8) : Option Nat := if l = infT then some 1099511627776 else if canon l ∧ val10 l < 1099511627776 then some (val10 l) else none
/-- What a text says. -/
def parseV (s : List UInt8) : Option Int :=
  if hasPrefix s [45] then (match sizeV (s.drop 1) with | some n => if 0 < n then some (-(n : Int)) else none | none => none)
  else (match sizeV s with | some n => some (n : Int) | none => none)

theorem canon_not_inf {l : List UInt8} (h : canon l) : l ≠ infT := by
  rintro rfl
  have := h.2.1 105 (by simp [infT])
  revert this; decide
theorem canon_no_sign {l : List UInt8} (h : canon l) : hasPrefix l [45] = false := by
  cases l with
  | nil => exact absurd rfl h.1
  | cons c r =>
    have := h.2.1 c (by simp)
    have hc : (45 == c) = false := by
      rw [beq_eq_false_iff_ne]
      rintro rfl
      revert this; decide
    simp [hasPrefix, List.isPrefixOf, hc]
theorem sizeV_show {u : Nat} (h : u < 1099511627776) : sizeV (decDigits u) = some u := by
  obtain ⟨h1, h2, _⟩ := show_val u
  unfold sizeV
  rw [if_neg (canon_not_inf h2), if_pos ⟨h2, by omega⟩, h1]
theorem sizeV_some {l : List UInt8} {n : Nat} (h : sizeV l = some n) : (l = infT ∧ n = 1099511627776) ∨ (n < 1099511627776 ∧ l = decDigits n) := by
  unfold sizeV at h
  split at h
  · next e => left; exact ⟨e, (Option.some.inj h).symm⟩
  · split at h
    · next e => right; have := Option.some.inj h; subst this; exact ⟨e.2, (canon_show e.1).symm⟩
    · cases h

theorem parseV_iff (s : List UInt8) (v : Int) : parseV s = some v ↔ (-1099511627776 ≤ v ∧ v ≤ 1099511627776) ∧ showV v = s := by
  constructor
  · intro h
    unfold parseV at h
    split at h
    · next hp =>
      cases s with
      | nil => simp [hasPrefix, List.isPrefixOf] at hp
      | cons c r =>
        have hc : c = 45 := by simp [hasPrefix, List.isPrefixOf] at hp; exact hp.symm
        subst hc
        rw [List.drop_one, List.tail_cons] at h
        split at h
        · next n hn =>
          split at h
          · next h0 =>
            have := Option.some.inj h
            subst this
            rcases sizeV_some hn with ⟨rfl, rfl⟩ | ⟨hlt, rfl⟩
            · exact ⟨by omega, rfl⟩
            · refine ⟨by omega, ?_⟩
              unfold showV
              rw [if_neg (by omega), if_neg (by omega), itoa_neg n (by omega)]
          · cases h
        · cases h
    · split at h
      · next n hn =>
        have := Option.some.inj h
        subst this
        rcases sizeV_some hn with ⟨rfl, rfl⟩ | ⟨hlt, rfl⟩
        · exact ⟨by omega, rfl⟩
        · refine ⟨by omega, ?_⟩
          unfold showV
          rw [if_neg (by omega), if_neg (by omega), itoa_nonneg n]
      · cases h
  · rintro ⟨⟨h0, h1⟩, rfl⟩
    unfold showV
    split
    · next e => subst e; decide +kernel
    · split
      · next e => subst e; decide +kernel
      · by_cases hn : v < 0
        · obtain ⟨n, rfl⟩ : ∃ n : Nat, v = -(n : Int) := ⟨v.natAbs, by omega⟩
          rw [itoa_neg n (by omega)]
          unfold parseV
          rw [if_pos (by simp [hasPrefix, List.isPrefixOf]), List.drop_one, List.tail_cons, sizeV_show (by omega)]
          simp; omega
        · obtain ⟨n, rfl⟩ := Int.eq_ofNat_of_zero_le (show 0 ≤ v by omega)
          rw [itoa_nonneg n]
          unfold parseV
          rw [if_neg (by rw [canon_no_sign (show_val n).2.1]; decide), sizeV_show (by omega)]
theorem parseV_show {v : Int} (h0 : -1099511627776 ≤ v) (h1 : v ≤ 1099511627776) : parseV (showV v) = some v := (parseV_iff _ v).2 ⟨⟨h0, h1⟩, rfl⟩

/-- The loop of 'size', a digit further. -/
theorem canon_len {l : List UInt8} (h : canon l) (hl : val10 l < 1099511627776) : l.length ≤ 13 := by
  have h1 : l = decDigits (val10 l) := (canon_show h).symm
  rw [h1, decDigits_length]
  have : ∀ k u, u < 10 ^ (k + 1) → nDigits u ≤ k + 1 := by
    intro k
    induction k with
    | zero => intro u hu; rw [nDigits_small (by omega)]; omega
    | succ k ih =>
      intro u hu
      by_cases h10 : u < 10
      · rw [nDigits_small h10]; omega
      · have := ih (u / 10) (by rw [Nat.pow_succ] at hu; omega)
        rw [nDigits, dif_neg h10]; omega
  have := this 12 (val10 l) (by omega)
  omega
end Go.Proofs.YtpbminoefmpmpaaDoor
