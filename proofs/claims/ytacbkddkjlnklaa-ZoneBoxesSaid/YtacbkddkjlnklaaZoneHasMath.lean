/- Which valuations zones have that are made of zones. -/
import Derived.Test.YtacbkddkjlnklaaZoneLetBoth
import Derived.Test.YtacbkddkjlnklaaZoneLeastMath
namespace Go.Proofs.Ytacbkddkjlnklaa
open Go.RowKit
set_option linter.unusedVariables false
set_option linter.unusedSimpArgs false

/-- A valuation that a zone has. -/
def Has (n : Nat) (l v : List Int) : Prop := l ≠ [] ∧ v.any farB = false ∧ Leq n (difF v) (mat n l)
theorem has_iff {n : Nat} {l v : List Int} (hz : IsZ n l) (hv : v.length = n) : hasB n l v = true ↔ Has n l v := by
  have ht : (((n : Nat) : Int)).toNat = n := by omega
  unfold hasB Has
  rcases hz.2 with e | hF
  · rw [e]; unfold fullB; simp
  · rw [hF.is, hv, ht, decide_eq_true rfl, Bool.true_and, Bool.true_and, Bool.and_eq_true, cells_iff]
    constructor
    · rintro ⟨h1, h2⟩; exact ⟨hF.ne, by simpa using h1, h2⟩
    · rintro ⟨-, h1, h2⟩; exact ⟨by rw [h1]; rfl, h2⟩
theorem has_closed {n : Nat} {m v : List Int} : Has n (closedL n m) v ↔ v.any farB = false ∧ Leq n (difF v) (mat n m) := by
  constructor
  · rintro ⟨h1, h2, h3⟩
    refine ⟨h2, (dif_clip h2).1 fun i j hi hj => ?_⟩
    exact Int.le_trans (h3 i j hi hj) ((closedL_is h1).2.2 i j hi hj)
  · rintro ⟨h1, h2⟩
    obtain ⟨q1, q2⟩ := closedL_max (dif_closed n v) ((dif_clip h1).2 h2)
    exact ⟨closedL_ne q1, h1, q2⟩
theorem has_step {n : Nat} {X v : List Int} (f : List Int → List Int) : Has n (stepL n f X) v ↔ X ≠ [] ∧ v.any farB = false ∧ Leq n (difF v) (mat n (f X)) := by
  unfold stepL
  by_cases e : X = []
  · rw [if_pos e]
    constructor
    · intro h; exact absurd rfl h.1
    · intro h; exact absurd e h.1
  · rw [if_neg e, has_closed]
    constructor
    · intro h; exact ⟨e, h⟩
    · intro h; exact h.2
theorem lim_leqF {n : Nat} {D : Nat → Nat → Int} {l : List Int} (hl : l.length = sz n) {i j : Nat} (hi : i ≤ n) (hj : j ≤ n) (c : Int) : Leq n D (mat n (limL n l i j c)) ↔ Leq n D (mat n l) ∧ D i j ≤ c := by
  constructor
  · intro h
    refine ⟨fun a b ha hb => ?_, ?_⟩
    · have q := h a b ha hb
      rw [limL_at hl hi hj c ha hb] at q
      split at q
      · rename_i e; obtain ⟨rfl, rfl⟩ := e; omega
      · exact q
    · have q := h i j hi hj
      rw [limL_at hl hi hj c hi hj, if_pos ⟨rfl, rfl⟩] at q
      omega
  · rintro ⟨h1, h2⟩ a b ha hb
    have q := h1 a b ha hb
    rw [limL_at hl hi hj c ha hb]
    split
    · rename_i e; obtain ⟨rfl, rfl⟩ := e; omega
    · exact q
theorem has_limit {n : Nat} {X v : List Int} (hX : IsZ n X) {i j : Nat} (hi : i ≤ n) (hj : j ≤ n) (c : Int) : Has n (limitL n X i j c) v ↔ Has n X v ∧ difF v i j ≤ c := by
  unfold limitL
  rw [has_step]
  unfold Has
  constructor
  · rintro ⟨h1, h2, h3⟩
    have := (lim_leqF (hX.2.resolve_left h1).len hi hj c).1 h3
    exact ⟨⟨h1, h2, this.1⟩, this.2⟩
  · rintro ⟨⟨h1, h2, h3⟩, h4⟩
    exact ⟨h1, h2, (lim_leqF (hX.2.resolve_left h1).len hi hj c).2 ⟨h3, h4⟩⟩
theorem far_iff {v : List Int} : v.any farB = false ↔ ∀ a, 1 ≤ a → a ≤ v.length → -1099511627776 ≤ valF v a ∧ valF v a ≤ 1099511627776 := by
  constructor
  · intro h a _ _; exact val_in h a
  · intro h
    rw [List.any_eq_false]
    intro x hx
    obtain ⟨k, hk, rfl⟩ := List.getElem_of_mem hx
    have := h (k + 1) (by omega) (by omega)
    unfold valF at this
    rw [if_neg (by omega)] at this
    simp only [Nat.add_sub_cancel, List.getD, List.getElem?_eq_getElem hk, Option.getD_some] at this
    unfold farB
    simp
    omega
/-- A valuation with another value of a variable. -/
def withL (v : List Int) (i : Nat) (x : Int) : List Int := v.set (i - 1) x
theorem withL_len (v : List Int) (i : Nat) (x : Int) : (withL v i x).length = v.length := by simp [withL]
theorem withL_at {v : List Int} {i : Nat} (hi0 : 1 ≤ i) (hi : i ≤ v.length) (x : Int) (a : Nat) : valF (withL v i x) a = if a = i then x else valF v a := by
  unfold valF withL
  by_cases h0 : a = 0
  · subst h0; rw [if_pos rfl, if_neg (by omega), if_pos rfl]
  · rw [if_neg h0]
    by_cases e : a = i
    · subst e
      rw [if_pos rfl]
      have : a - 1 < v.length := by omega
      simp [List.getD, this]
    · rw [if_neg e, if_neg h0]
      have : i - 1 ≠ a - 1 := by omega
      simp [List.getD, List.getElem?_set, this]
theorem valF_zero (v : List Int) : valF v 0 = 0 := by unfold valF; rw [if_pos rfl]
theorem forL_at {n i : Nat} (hi : i ≤ n) {l : List Int} (hl : l.length = sz n) {a b : Nat} (ha : a ≤ n) (hb : b ≤ n) : mat n (forL n l i) a b = if a = i ∧ b ≠ i then 4398046511104 else if b = i ∧ a ≠ i then 4398046511104 else mat n l a b := by
  unfold forL
  rw [othK_at hi hl (n + 1) (Nat.le_refl _) a b ha hb]
  by_cases h1 : a = i ∧ b ≠ i
  · rw [if_pos ⟨h1.1, h1.2, by omega⟩, if_pos h1]
  · rw [if_neg (fun q => h1 ⟨q.1, q.2.1⟩), if_neg h1]
    by_cases h2 : b = i ∧ a ≠ i
    · rw [if_pos ⟨h2.1, h2.2, by omega⟩, if_pos h2]
    · rw [if_neg (fun q => h2 ⟨q.1, q.2.1⟩), if_neg h2]
theorem movL_at {n i : Nat} (hi : i ≤ n) {l : List Int} (hl : l.length = sz n) (c : Int) {a b : Nat} (ha : a ≤ n) (hb : b ≤ n) : mat n (movL n l i c) a b = if a = i ∧ b ≠ i then mat n l a b + c else if b = i ∧ a ≠ i then mat n l a b - c else mat n l a b := by
  unfold movL
  rw [othK_at hi hl (n + 1) (Nat.le_refl _) a b ha hb]
  by_cases h1 : a = i ∧ b ≠ i
  · rw [if_pos ⟨h1.1, h1.2, by omega⟩, if_pos h1]
  · rw [if_neg (fun q => h1 ⟨q.1, q.2.1⟩), if_neg h1]
    by_cases h2 : b = i ∧ a ≠ i
    · rw [if_pos ⟨h2.1, h2.2, by omega⟩, if_pos h2]
    · rw [if_neg (fun q => h2 ⟨q.1, q.2.1⟩), if_neg h2]
theorem has_forget {n : Nat} {X v : List Int} (hX : IsZ n X) {i : Nat} (hi : i ≤ n) : Has n (forgetL n X i) v ↔ X ≠ [] ∧ v.any farB = false ∧ ∀ a b, a ≤ n → b ≤ n → a ≠ i → b ≠ i → difF v a b ≤ mat n X a b := by
  unfold forgetL
  rw [has_step]
  refine and_congr_right fun h1 => and_congr_right fun h2 => ?_
  have hF := hX.2.resolve_left h1
  constructor
  · intro h a b ha hb hai hbi
    have q := h a b ha hb
    rw [forL_at hi hF.len ha hb, if_neg (fun e => hai e.1), if_neg (fun e => hbi e.1)] at q
    exact q
  · intro h a b ha hb
    rw [forL_at hi hF.len ha hb]
    have q := dif_widest h2 a b
    have q2 := widestF_le a b
    by_cases e1 : a = i
    · by_cases e2 : b = i
      · rw [if_neg (fun e => e.2 e2), if_neg (fun e => e.2 e1), e1, e2, hF.closed.zero i hi]
        unfold difF; omega
      · rw [if_pos ⟨e1, e2⟩]; omega
    · rw [if_neg (fun e => e1 e.1)]
      by_cases e2 : b = i
      · rw [if_pos ⟨e2, e1⟩]; omega
      · rw [if_neg (fun e => e2 e.1)]; exact h a b ha hb e1 e2
theorem has_meet {n : Nat} {A B v : List Int} (hA : IsZ n A) (hB : IsZ n B) : Has n (meetL n A B) v ↔ Has n A v ∧ Has n B v := by
  unfold meetL
  by_cases e1 : A = []
  · rw [if_pos e1]
    constructor
    · intro h; exact absurd rfl h.1
    · intro h; exact absurd e1 h.1.1
  · rw [if_neg e1]
    by_cases e2 : B = []
    · rw [if_pos e2]
      constructor
      · intro h; exact absurd rfl h.1
      · intro h; exact absurd e2 h.2.1
    · rw [if_neg e2, has_closed]
      have h1 := hA.2.resolve_left e1
      unfold Has
      constructor
      · rintro ⟨q1, q2⟩
        refine ⟨⟨e1, q1, fun i j hi hj => ?_⟩, e2, q1, fun i j hi hj => ?_⟩
        · have a := q2 i j hi hj
          rw [pw_mat h1 hi hj] at a; omega
        · have a := q2 i j hi hj
          rw [pw_mat h1 hi hj] at a; omega
      · rintro ⟨⟨-, q1, q2⟩, -, -, q3⟩
        refine ⟨q1, fun i j hi hj => ?_⟩
        have a := q2 i j hi hj
        have b := q3 i j hi hj
        rw [pw_mat h1 hi hj]; omega
theorem has_join {n : Nat} {A B v : List Int} (hA : IsZ n A) (hB : IsZ n B) (h : Has n A v ∨ Has n B v) : Has n (joinL n A B) v := by
  unfold joinL
  by_cases e1 : A = []
  · rw [if_pos e1]
    exact h.resolve_left fun q => q.1 e1
  · rw [if_neg e1]
    by_cases e2 : B = []
    · rw [if_pos e2]
      exact h.resolve_right fun q => q.1 e2
    · rw [if_neg e2, has_closed]
      have h1 := hA.2.resolve_left e1
      rcases h with ⟨-, q1, q2⟩ | ⟨-, q1, q2⟩
      · refine ⟨q1, fun i j hi hj => ?_⟩
        have a := q2 i j hi hj
        rw [pw_mat h1 hi hj]; omega
      · refine ⟨q1, fun i j hi hj => ?_⟩
        have a := q2 i j hi hj
        rw [pw_mat h1 hi hj]; omega
theorem has_widen {n : Nat} {A B v : List Int} (hA : IsZ n A) (hB : IsZ n B) (h : Has n A v ∨ Has n B v) : Has n (widenL n A B) v := by
  unfold widenL
  by_cases e1 : A = []
  · rw [if_pos e1]
    exact h.resolve_left fun q => q.1 e1
  · rw [if_neg e1]
    by_cases e2 : B = []
    · rw [if_pos e2]
      exact h.resolve_right fun q => q.1 e2
    · rw [if_neg e2, has_closed]
      have h1 := hA.2.resolve_left e1
      have hv : v.any farB = false := by rcases h with q | q <;> exact q.2.1
      refine ⟨hv, fun i j hi hj => ?_⟩
      have d := dif_widest hv i j
      have d2 := widestF_le i j
      rw [pw_mat h1 hi hj]
      unfold wid
      rcases h with ⟨-, q1, q2⟩ | ⟨-, q1, q2⟩
      · have a := q2 i j hi hj
        split <;> omega
      · have a := q2 i j hi hj
        split <;> omega
theorem has_tie {n : Nat} {X v : List Int} (hn : n ≤ 8) (hX : IsZ n X) {i j : Nat} (hi : i ≤ n) (hj : j ≤ n) (c : Int) : Has n (letTieL n X i j c) v ↔ Has n (forgetL n X i) v ∧ difF v i j = c := by
  have hX1 : IsZ n (forgetL n X i) := stepL_isz hn _ _
  have hY : IsZ n (limitL n (forgetL n X i) i j c) := stepL_isz hn _ _
  rw [tie_both hn X hi hj, has_limit hY hj hi, has_limit hX1 hi hj, and_assoc]
  refine and_congr_right fun _ => ?_
  unfold difF
  omega
theorem has_mov {n : Nat} {X v : List Int} (hX : IsZ n X) (hv : v.length = n) {i : Nat} (hi0 : 1 ≤ i) (hi : i ≤ n) (c : Int) : Has n (letMovL n X i c) v ↔ v.any farB = false ∧ Has n X (withL v i (valF v i - c)) := by
  unfold letMovL
  rw [has_step]
  have hi' : i ≤ v.length := by omega
  unfold Has
  constructor
  · rintro ⟨h1, h2, h3⟩
    have hF := hX.2.resolve_left h1
    have hL : Leq n (difF (withL v i (valF v i - c))) (mat n X) := by
      intro a b ha hb
      have q := h3 a b ha hb
      rw [movL_at hi hF.len c ha hb] at q
      unfold difF at q ⊢
      rw [withL_at hi0 hi', withL_at hi0 hi']
      by_cases e1 : a = i
      · rw [if_pos e1]
        subst e1
        by_cases e2 : b = a
        · subst e2
          rw [if_pos rfl, hF.closed.zero b hi]; omega
        · rw [if_neg e2]; rw [if_pos ⟨rfl, e2⟩] at q; omega
      · rw [if_neg e1]
        rw [if_neg (fun e => e1 e.1)] at q
        by_cases e2 : b = i
        · rw [if_pos e2]; rw [if_pos ⟨e2, e1⟩] at q; subst e2; omega
        · rw [if_neg e2]; rw [if_neg (fun e => e2 e.1)] at q; exact q
    refine ⟨h2, h1, ?_, hL⟩
    rw [far_iff] at h2 ⊢
    intro a ha0 ha
    rw [withL_len] at ha
    rw [withL_at hi0 hi']
    by_cases e : a = i
    · rw [if_pos e]
      have q1 := hL i 0 hi (by omega)
      have q2 := hL 0 i (by omega) hi
      have u1 := hF.up hi (show 0 ≤ n by omega)
      have u2 := hF.up (show 0 ≤ n by omega) hi
      unfold widestF at u1 u2
      rw [if_neg (by omega), if_pos (by omega)] at u1 u2
      unfold difF at q1 q2
      rw [withL_at hi0 hi', withL_at hi0 hi', if_pos rfl, if_neg (by omega), valF_zero] at q1 q2
      omega
    · rw [if_neg e]; exact h2 a ha0 ha
  · rintro ⟨h2, h1, -, hL⟩
    have hF := hX.2.resolve_left h1
    refine ⟨h1, h2, fun a b ha hb => ?_⟩
    have q := hL a b ha hb
    rw [movL_at hi hF.len c ha hb]
    unfold difF at q ⊢
    rw [withL_at hi0 hi', withL_at hi0 hi'] at q
    by_cases e1 : a = i
    · rw [if_pos e1] at q
      subst e1
      by_cases e2 : b = a
      · subst e2
        rw [if_neg (fun e => e.2 rfl), if_neg (fun e => e.2 rfl), hF.closed.zero b hi]; omega
      · rw [if_neg e2] at q; rw [if_pos ⟨rfl, e2⟩]; omega
    · rw [if_neg e1] at q
      rw [if_neg (fun e => e1 e.1)]
      by_cases e2 : b = i
      · rw [if_pos e2] at q; rw [if_pos ⟨e2, e1⟩]; subst e2; omega
      · rw [if_neg e2] at q; rw [if_neg (fun e => e2 e.1)]; exact q
end Go.Proofs.Ytacbkddkjlnklaa
