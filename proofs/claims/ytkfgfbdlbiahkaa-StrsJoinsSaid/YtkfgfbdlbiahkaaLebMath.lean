/- Plain mathematics of numbers as bytes (LEB128): no program, no walk. -/
import Derived.Test.YtkfgfbdlbiahkaaKit
namespace Go.Proofs.Ytkfgfbdlbiahkaa
set_option linter.unusedVariables false

/-- A number's bytes. -/
def leb (n : Nat) : List Int := if n < 128 then [(n : Int)] else ((n % 128 + 128 : Nat) : Int) :: leb (n / 128)
termination_by n
decreasing_by omega

theorem leb_small {n : Nat} (h : n < 128) : leb n = [(n : Int)] := by rw [leb]; simp [h]
theorem leb_big {n : Nat} (h : 128 ≤ n) : leb n = ((n % 128 + 128 : Nat) : Int) :: leb (n / 128) := by rw [leb]; simp [show ¬ n < 128 by omega]

/-- A u64, as the walk's bounds; behind a name, so that the walk does not look at the numeral. -/
def U64 (n : Int) : Prop := 0 ≤ n ∧ n ≤ 18446744073709551615

theorem leb_len (k : Nat) : ∀ n, n < 128 ^ (k + 1) → (leb n).length ≤ k + 1 := by
  induction k with
  | zero => intro n h; rw [leb_small (by simpa using h)]; simp
  | succ k ih =>
    intro n h
    by_cases hn : n < 128
    · rw [leb_small hn]; simp
    · rw [leb_big (by omega)]
      have := ih (n / 128) (by rw [Nat.div_lt_iff_lt_mul (by omega)]; rw [Nat.pow_succ] at h; exact h)
      simp; omega
theorem leb_len64 {n : Nat} (h : n ≤ 18446744073709551615) : (leb n).length ≤ 10 := leb_len 9 n (by omega)

theorem leb_int {m : Int} (h : 128 ≤ m) : leb m.toNat = (m % 128 + 128) :: leb (m / 128).toNat := by
  rw [leb_big (by omega)]
  rw [show m.toNat / 128 = (m / 128).toNat by omega, show ((m.toNat % 128 + 128 : Nat) : Int) = m % 128 + 128 by omega]
theorem leb_int_len {m : Int} (h : 128 ≤ m) : (leb m.toNat).length = (leb (m / 128).toNat).length + 1 := by rw [leb_int h]; simp
theorem leb_int_small {m : Int} (h0 : 0 ≤ m) (h : m < 128) : leb m.toNat = [m] := by rw [leb_small (by omega)]; simp; omega
theorem leb_pos (n : Nat) : 1 ≤ (leb n).length := by
  rw [leb]; split <;> simp
theorem U64.le10 {n : Int} (h : U64 n) : (leb n.toNat).length ≤ 10 := leb_len64 (by unfold U64 at h; omega)
/-- A byte that can not stand at place i: one bit too many, or one byte. -/
def wrongB (i : Nat) (c : Int) : Bool := (i == 9 && decide (1 < c)) || (decide (0 < i) && c == 0)
theorem wrongB_iff {i : Nat} {c : Int} : wrongB i c = true ↔ (i = 9 ∧ 1 < c) ∨ (0 < i ∧ c = 0) := by simp [wrongB]
/-- What is read from place i on, when acc was read and the next seven bits count p each. -/
def getL (i : Nat) (acc p : Int) : List Int → Int × Int × Int
  | [] => (0, 0, 10)
  | c :: r => if wrongB i c = true then (0, 0, 11) else if c < 128 then (acc + p * (c % 128), (i : Int) + 1, 0) else getL (i + 1) (acc + p * (c % 128)) (p * 128) r
theorem getL_wrong {i : Nat} {acc p c : Int} {r : List Int} (h : wrongB i c = true) : getL i acc p (c :: r) = (0, 0, 11) := by unfold getL; exact if_pos h
theorem getL_last {i : Nat} {acc p c : Int} {r : List Int} (h : ¬ wrongB i c = true) (hc : c < 128) : getL i acc p (c :: r) = (acc + p * (c % 128), (i : Int) + 1, 0) := by
  unfold getL; rw [if_neg h, if_pos hc]
theorem getL_more {i : Nat} {acc p c : Int} {r : List Int} (h : ¬ wrongB i c = true) (hc : ¬ c < 128) : getL i acc p (c :: r) = getL (i + 1) (acc + p * (c % 128)) (p * 128) r := by
  rw [getL]; rw [if_neg h, if_neg hc]


theorem leb_bytes (n : Nat) : Bs (leb n) := by
  induction n using Nat.strongRecOn with
  | _ n ih =>
    by_cases h : n < 128
    · rw [leb_small h]; intro x hx; simp at hx; omega
    · rw [leb_big (by omega)]
      intro x hx
      rcases List.mem_cons.1 hx with rfl | hx
      · omega
      · exact ih (n / 128) (by omega) x hx

theorem pow_cases {k : Nat} (hk : k ≤ 9) (P : Nat → Prop) (h : P 0 ∧ P 1 ∧ P 2 ∧ P 3 ∧ P 4 ∧ P 5 ∧ P 6 ∧ P 7 ∧ P 8 ∧ P 9) : P k := by
  have : k = 0 ∨ k = 1 ∨ k = 2 ∨ k = 3 ∨ k = 4 ∨ k = 5 ∨ k = 6 ∨ k = 7 ∨ k = 8 ∨ k = 9 := by omega
  obtain ⟨h0, h1, h2, h3, h4, h5, h6, h7, h8, h9⟩ := h
  rcases this with rfl | rfl | rfl | rfl | rfl | rfl | rfl | rfl | rfl | rfl <;> assumption

theorem pow_succ7 (k : Nat) : (2 : Int) ^ (7 * (k + 1)) = 2 ^ (7 * k) * 128 := by rw [show 7 * (k + 1) = 7 * k + 7 by omega, Int.pow_add]; rfl

/-- A number's bytes are got, whatever stands behind them. -/
theorem getL_leb (rest : List Int) : ∀ (m k : Nat) (acc : Int), k ≤ 9 → 0 ≤ acc → acc < 2 ^ (7 * k) → acc + 2 ^ (7 * k) * m ≤ 18446744073709551615 → (0 < k → 1 ≤ m) →
    getL k acc (2 ^ (7 * k)) (leb m ++ rest) = (acc + 2 ^ (7 * k) * m, ((k + (leb m).length : Nat) : Int), 0) := by
  intro m
  induction m using Nat.strongRecOn with
  | _ m ih =>
    intro k acc hk h0 h1 h2 h3
    by_cases hm : m < 128
    · rw [leb_small hm]
      have hw : ¬ wrongB k (m : Int) = true := by
        rw [wrongB_iff]
        rintro (⟨rfl, h⟩ | ⟨hk0, hz⟩)
        · simp at h2; omega
        · have := h3 hk0; omega
      rw [List.singleton_append, getL_last hw (by omega)]
      rw [show ((m : Int) % 128) = m by omega]
      simp
    · have hk8 : k ≤ 8 := by
        rcases Nat.lt_or_ge k 9 with h | h
        · omega
        · have : k = 9 := by omega
          subst this
          simp at h2; omega
      rw [leb_big (by omega)]
      have hw : ¬ wrongB k (((m % 128 + 128 : Nat) : Int)) = true := by
        rw [wrongB_iff]
        omega
      rw [List.cons_append, getL_more hw (by omega)]
      have e : (((m % 128 + 128 : Nat) : Int)) % 128 = ((m % 128 : Nat) : Int) := by omega
      rw [e, ← pow_succ7]
      have hmm : (m : Int) = 128 * ((m / 128 : Nat) : Int) + ((m % 128 : Nat) : Int) := by omega
      have hsum : acc + 2 ^ (7 * k) * ((m % 128 : Nat) : Int) + 2 ^ (7 * (k + 1)) * ((m / 128 : Nat) : Int) = acc + 2 ^ (7 * k) * (m : Int) := by
        rw [pow_succ7]
        generalize (2 : Int) ^ (7 * k) = q
        rw [hmm, Int.mul_add, Int.mul_assoc]
        omega
      have hpos : (0 : Int) < 2 ^ (7 * k) := Int.pow_pos (by omega)
      have hlt : acc + 2 ^ (7 * k) * ((m % 128 : Nat) : Int) < 2 ^ (7 * (k + 1)) := by
        rw [pow_succ7]
        have : (2 : Int) ^ (7 * k) * ((m % 128 : Nat) : Int) ≤ 2 ^ (7 * k) * 127 := Int.mul_le_mul_of_nonneg_left (by omega) (by omega)
        generalize (2 : Int) ^ (7 * k) = q at *
        omega
      have hge : 0 ≤ acc + 2 ^ (7 * k) * ((m % 128 : Nat) : Int) := by
        have := Int.mul_nonneg (Int.le_of_lt hpos) (show (0 : Int) ≤ ((m % 128 : Nat) : Int) by omega)
        omega
      rw [ih (m / 128) (by omega) (k + 1) _ (by omega) hge hlt (by rw [hsum]; exact h2) (by omega), hsum]
      simp; omega

/-- What is got is a number; what is got of bytes is put as these bytes. -/
theorem getL_put : ∀ (l : List Int) (k : Nat) (acc : Int), Bs l → k ≤ 9 → 0 ≤ acc → acc < 2 ^ (7 * k) →
    (getL k acc (2 ^ (7 * k)) l = (0, 0, 10) ∨ getL k acc (2 ^ (7 * k)) l = (0, 0, 11) ∨
      ∃ (m j : Nat), getL k acc (2 ^ (7 * k)) l = (acc + 2 ^ (7 * k) * m, ((k + j : Nat) : Int), 0) ∧ l.take j = leb m ∧ j ≤ l.length ∧ acc + 2 ^ (7 * k) * m ≤ 18446744073709551615 ∧ (0 < k → 1 ≤ m)) := by
  intro l
  induction l with
  | nil => intro k acc _ _ _ _; left; rfl
  | cons c r ih =>
    intro k acc hb hk h0 h1
    obtain ⟨hc0, hc1⟩ := hb c (by simp)
    by_cases hw : wrongB k c = true
    · right; left; exact getL_wrong hw
    · have hw' := hw
      rw [wrongB_iff] at hw'
      by_cases hc : c < 128
      · right; right
        refine ⟨c.toNat, 1, ?_, ?_, by simp, ?_, by omega⟩
        · rw [getL_last hw hc, show c % 128 = (c.toNat : Int) by omega]; simp
        · rw [leb_small (by omega)]; simp; omega
        · rw [show (c.toNat : Int) = c by omega]
          revert h1 hw'
          refine pow_cases hk (fun k => acc < 2 ^ (7 * k) → ¬((k = 9 ∧ 1 < c) ∨ 0 < k ∧ c = 0) → acc + 2 ^ (7 * k) * c ≤ 18446744073709551615) ?_
          refine ⟨?_, ?_, ?_, ?_, ?_, ?_, ?_, ?_, ?_, ?_⟩ <;> intro h1 h <;> simp at h h1 ⊢ <;> omega
      · have hk8 : k + 1 ≤ 9 := by omega
        rw [getL_more hw hc, ← pow_succ7]
        have hpos : (0 : Int) < 2 ^ (7 * k) := Int.pow_pos (by omega)
        have hlt : acc + 2 ^ (7 * k) * (c % 128) < 2 ^ (7 * (k + 1)) := by
          rw [pow_succ7]
          have : (2 : Int) ^ (7 * k) * (c % 128) ≤ 2 ^ (7 * k) * 127 := Int.mul_le_mul_of_nonneg_left (by omega) (by omega)
          generalize (2 : Int) ^ (7 * k) = q at *
          omega
        have hge : 0 ≤ acc + 2 ^ (7 * k) * (c % 128) := by
          have := Int.mul_nonneg (Int.le_of_lt hpos) (show (0 : Int) ≤ c % 128 by omega)
          omega
        rcases ih (k + 1) _ (fun x hx => hb x (by simp [hx])) hk8 hge hlt with h | h | ⟨m, j, h, ht, hj, hm, hk1⟩
        · exact .inl h
        · exact .inr (.inl h)
        · right; right
          have hm1 := hk1 (by omega)
          have hsum : acc + 2 ^ (7 * k) * (c % 128) + 2 ^ (7 * (k + 1)) * (m : Int) = acc + 2 ^ (7 * k) * (((128 * m + (c % 128).toNat : Nat)) : Int) := by
            rw [pow_succ7]
            generalize (2 : Int) ^ (7 * k) = q
            rw [show (((128 * m + (c % 128).toNat : Nat)) : Int) = 128 * (m : Int) + c % 128 by omega, Int.mul_add, Int.mul_assoc]
            omega
          refine ⟨128 * m + (c % 128).toNat, j + 1, ?_, ?_, by simp; omega, by rw [← hsum]; exact hm, by omega⟩
          · rw [h, hsum]; simp; omega
          · rw [leb_big (by omega), List.take_succ_cons, ht, show (128 * m + (c % 128).toNat) / 128 = m by omega]
            congr 1
            omega

theorem getL_leb0 {n : Int} (h0 : 0 ≤ n) (h1 : n ≤ 18446744073709551615) (rest : List Int) : getL 0 0 1 (leb n.toNat ++ rest) = (n, ((leb n.toNat).length : Int), 0) := by
  have := getL_leb rest n.toNat 0 0 (by omega) (by omega) (by simp) (by simp; omega) (by omega)
  simp at this
  rw [this, show max n 0 = n by omega]

theorem getL_put0 {l : List Int} (hb : Bs l) : (getL 0 0 1 l = (0, 0, 10) ∨ getL 0 0 1 l = (0, 0, 11) ∨
      ∃ (n : Int) (j : Nat), getL 0 0 1 l = (n, (j : Int), 0) ∧ 0 ≤ n ∧ n ≤ 18446744073709551615 ∧ l.take j = leb n.toNat ∧ j ≤ l.length) := by
  rcases getL_put l 0 0 hb (by omega) (by omega) (by simp) with h | h | ⟨m, j, h, ht, hj, hm, _⟩
  · exact .inl (by simpa using h)
  · exact .inr (.inl (by simpa using h))
  · right; right
    simp at h hm
    exact ⟨m, j, h, by omega, by omega, by simpa using ht, hj⟩

theorem leb_mono : ∀ (n m : Nat), n ≤ m → (leb n).length ≤ (leb m).length := by
  intro n
  induction n using Nat.strongRecOn with
  | _ n ih =>
    intro m h
    by_cases hn : n < 128
    · rw [leb_small hn]; exact leb_pos m
    · rw [leb_big (by omega), leb_big (n := m) (by omega)]
      have := ih (n / 128) (by omega) (m / 128) (Nat.div_le_div_right h)
      simp; exact this

/-- No number's bytes are the beginning of another one's. -/
theorem leb_prefix {n m : Int} (h0 : 0 ≤ n) (h1 : n ≤ 18446744073709551615) (g0 : 0 ≤ m) (g1 : m ≤ 18446744073709551615) (h : (leb m.toNat).take (leb n.toNat).length = leb n.toNat) : n = m := by
  have e1 := getL_leb0 h0 h1 ((leb m.toNat).drop (leb n.toNat).length)
  have e2 := getL_leb0 g0 g1 []
  have e3 : leb n.toNat ++ (leb m.toNat).drop (leb n.toNat).length = leb m.toNat := by
    conv => lhs; arg 1; rw [← h]
    exact List.take_append_drop _ _
  rw [e3] at e1
  rw [List.append_nil, e1] at e2
  exact (Prod.mk.inj e2).1
end Go.Proofs.Ytkfgfbdlbiahkaa
