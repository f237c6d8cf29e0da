import Derived.Test.YtplgmmjppmpnoaaDoorQ02
import Derived.Test.YtplgmmjppmpnoaaDoorQ09
/- Which valuations zones have that are made of zones. -/
namespace Go.Proofs.YtplgmmjppmpnoaaDoor
open Go.RowKit
set_option linter.unusedVariables false
set_option linter.unusedSimpArgs false

/-- A valuation that a zone has. -/
def Has (n : Nat) (l v : List Int) : Prop := l ≠ [] ∧ v.any farB = false ∧ Leq n (difF v) (mat n l)
theorem has_iff {n : Nat} {l v : List Int} (hz : IsZ n l) (hv : v.length = n) : hasB n l v = true ↔ Has n l v := by
  have ht : (((n : Nat) : Int)).toNat = n := by omega
  unfold hasB Has
  rcases hz.2 with e | hF
  · rw [e]; unfold fullB; simp
  · rw [hF.is, hv, ht, decide_eq_true rfl, Bool.true_and, Bool.true_and, Bool.and_eq_true, cells_iff]
    constructor
    · rintro ⟨h1, h2⟩; exact ⟨hF.ne, by simpa using h1, h2⟩
    · rintro ⟨-, h1, h2⟩; exact ⟨by rw [h1]; rfl, h2⟩
theorem has_closed {n : Nat} {m v : List Int} : Has n (closedL n m) v ↔ v.any farB = false ∧ Leq n (difF v) (mat n m) := by
  constructor
  · rintro ⟨h1, h2, h3⟩
    refine ⟨h2, (dif_clip h2).1 fun i j hi hj => ?_⟩
    exact Int.le_trans (h3 i j hi hj) ((closedL_is h1).2.2 i j hi hj)
  · rintro ⟨h1, h2⟩
    obtain ⟨q1, q2⟩ := closedL_max (dif_closed n v) ((dif_clip h1).2 h2)
    exact ⟨closedL_ne q1, h1, q2⟩
theorem has_step {n : Nat} {X v : List Int} (f : List Int → List Int) : Has n (stepL n f X) v ↔ X ≠ [] ∧ v.any farB = false ∧ Leq n (difF v) (mat n (f X)) := by
  unfold stepL
  by_cases e : X = []
  · rw [if_pos e]
    constructor
    · intro h; exact absurd rfl h.1
    · intro h; exact absurd e h.1
  · rw [if_neg e, has_closed]
    constructor
    · intro h; exact ⟨e, h⟩
    · intro h; exact h.2
theorem lim_leqF {n : Nat} {D : Nat → Nat → Int} {l : List Int} (hl : l.length = sz n) {i j : Nat} (hi : i ≤ n) (hj : j ≤ n) (c : Int) : Leq n D (mat n (limL n l i j c)) ↔ Leq n D (mat n l) ∧ D i j ≤ c := by
  constructor
  · intro h
    refine ⟨fun a b ha hb => ?_, ?_⟩
    · have q := h a b ha hb
      rw [limL_at hl hi hj c ha hb] at q
      split at q
      · rename_i e; obtain ⟨rfl, rfl⟩ := e; omega
      · exact q
    · have q := h i j hi hj
      rw [limL_at hl hi hj c hi hj, if_pos ⟨rfl, rfl⟩] at q
      omega
  · rintro ⟨h1, h2⟩ a b ha hb
    have q := h1 a b ha hb
    rw [limL_at hl hi hj c ha hb]
    split
    · rename_i e; obtain ⟨rfl, rfl⟩ := e; omega
    · exact q
theorem has_limit {n : Nat} {X v : List Int} (hX : IsZ n X) {i j : Nat} (hi : i ≤ n) (hj : j ≤ n) (c : Int) : Has n (limitL n X i j c) v ↔ Has n X v ∧ difF v i j ≤ c := by
  unfold limitL
  rw [has_step]
  unfold Has
  constructor
  · rintro ⟨h1, h2, h3⟩
    have := (lim_leqF (hX.2.resolve_left h1).len hi hj c).1 h3
    exact ⟨⟨h1, h2, this.1⟩, this.2⟩
  · rintro ⟨⟨h1, h2, h3⟩, h4⟩
    exact ⟨h1, h2, (lim_leqF (hX.2.resolve_left h1).len hi hj c).2 ⟨h3, h4⟩⟩
theorem far_iff {v : List Int} : v.any farB = false ↔ ∀ a, 1 ≤ a → a ≤ v.length → -1099511627776 ≤ valF v a ∧ valF v a ≤ 1099511627776 := by
  constructor
  · intro h a _ _; exact val_in h a
  · intro h
    rw [List.any_eq_false]
    intro x hx
    obtain ⟨k, hk, rfl⟩ := List.getElem_of_mem hx
    have := h (k + 1) (by omega) (by omega)
    unfold valF at this
    rw [if_neg (by omega)] at this
    simp only [Nat.add_sub_cancel, List.getD, List.getElem?_eq_getElem hk, Option.getD_some] at this
    unfold farB
    simp
    omega
/-- A valuation with another value of a variable. -/
def withL (v : List Int) (i : Nat) (x : Int) : List Int := v.set (i - 1) x
theorem withL_len (v : List Int) (i : Nat) (x : Int) : (withL v i x).length = v.length := by simp [withL]
theorem withL_at {v : List Int} {i : Nat} (hi0 : 1 ≤ i) (hi : i ≤ v.length) (x : Int) (a : Nat) : valF (withL v i x) a = if a = i then x else valF v a := by
  unfold valF withL
  by_cases h0 : a = 0
  · subst h0; rw [if_pos rfl, if_neg (by omega), if_pos rfl]
  · rw [if_neg h0]
    by_cases e : a = i
    · subst e
      rw [if_pos rfl]
      have : a - 1 < v.length := by omega
      simp [List.getD, this]
    · rw [if_neg e, if_neg h0]
      have : i - 1 ≠ a - 1 := by omega
      simp [List.getD, List.getElem?_set, this]
theorem valF_zero (v : List Int) : valF v 0 = 0 := by unfold valF; rw [if_pos rfl]
theorem forL_at {n i : Nat} (hi : i ≤ n) {l : List Int} (hl : l.length = sz n) {a b : Nat} (ha : a ≤ n) (hb : b ≤ n) : mat n (forL n l i) a b = if a = i ∧ b ≠ i then 4398046511104 else if b = i ∧ a ≠ i then 4398046511104 else mat n l a b := by
  unfold forL
  rw [othK_at hi hl (n + 1) (Nat.le_refl _) a b ha hb]
  by_cases h1 : a = i ∧ b ≠ i
  · rw [if_pos ⟨h1.1, h1.2, by omega⟩, if_pos h1]
  · rw [if_neg (fun q => h1 ⟨q.1, q.2.1⟩), if_neg h1]
    by_cases h2 : b = i ∧ a ≠ i
    · rw [if_pos ⟨h2.1, h2.2, by omega⟩, if_pos h2]
    · rw [if_neg (fun q => h2 ⟨q.1, q.2.1⟩), if_neg h2]
theorem movL_at {n i : Nat} (hi : i ≤ n) {l : List Int} (hl : l.length = sz n) (c : Int) {a b : Nat} (ha : a ≤ n) (hb : b ≤ n) : mat n (movL n l i c) a b = if a = i ∧ b ≠ i then mat n l a b + c else if b = i ∧ a ≠ i then mat n l a b - c else mat n l a b := by
  unfold movL
  rw [othK_at hi hl (n + 1) (Nat.le_refl _) a b ha hb]
  by_cases h1 : a = i ∧ b ≠ i
  · rw [if_pos ⟨h1.1, h1.2, by omega⟩, if_pos h1]
  · rw [if_neg (fun q => h1 ⟨q.1, q.2.1⟩), if_neg h1]
    by_cases h2 : b = i ∧ a ≠ i
    · rw [if_pos ⟨h2.1, h2.2, by omega⟩, if_pos h2]
    · rw [if_neg (fun q => h2 ⟨q.1, q.2.1⟩), if_neg h2]
theorem has_forget {n : Nat} {X v : List Int} (hX : IsZ n X) {i : Nat} (hi : i ≤ n) : Has n (forgetL n X i) v ↔ X ≠ [] ∧ v.any farB = false ∧ ∀ a b, a ≤ n → b ≤ n → a ≠ i → b ≠ i → difF v a b ≤ mat n X a b := by
  unfold forgetL
  rw [has_step]
  refine and_congr_right fun h1 => and_congr_right fun h2 => ?_
  have hF := hX.2.resolve_left h1
  constructor
  · intro h a b ha hb hai hbi
    have q := h a b ha hb
    rw [forL_at hi hF.len ha hb, if_neg (fun e => hai e.1), if_neg (fun e => hbi e.1)] at q
    exact q
  · intro h a b ha hb
    rw [forL_at hi hF.len ha hb]
    have q := dif_widest h2 a b
    have q2 := widestF_le a b
    by_cases e1 : a = i
    · by_cases e2 : b = i
      · rw [if_neg (fun e => e.2 e2), if_neg (fun e => e.2 e1), e1, e2, hF.closed.zero i hi]
        unfold difF; omega
      · rw [if_pos ⟨e1, e2⟩]; omega
    · rw [if_neg (fun e => e1 e.1)]
      by_cases e2 : b = i
      · rw [if_pos ⟨e2, e1⟩]; omega
      · rw [if_neg (fun e => e2 e.1)]; exact h a b ha hb e1 e2
theorem has_meet {n : Nat} {A B v : List Int} (hA : IsZ n A) (hB : IsZ n B) : Has n (meetL n A B) v ↔ Has n A v ∧ Has n B v := by
  unfold meetL
  by_cases e1 : A = []
  · rw [if_pos e1]
    constructor
    · intro h; exact absurd rfl h.1
    · intro h; exact absurd e1 h.1.1
  · rw [if_neg e1]
    by_cases e2 : B = []
    · rw [if_pos e2]
      constructor
      · intro h; exact absurd rfl h.1
      · intro h; exact absurd e2 h.2.1
    · rw [if_neg e2, has_closed]
      have h1 := hA.2.resolve_left e1
      unfold Has
      constructor
      · rintro ⟨q1, q2⟩
        refine ⟨⟨e1, q1, fun i j hi hj => ?_⟩, e2, q1, fun i j hi hj => ?_⟩
        · have a := q2 i j hi hj
          rw [pw_mat h1 hi hj] at a; omega
        · have a := q2 i j hi hj
          rw [pw_mat h1 hi hj] at a; omega
      · rintro ⟨⟨-, q1, q2⟩, -, -, q3⟩
        refine ⟨q1, fun i j hi hj => ?_⟩
        have a := q2 i j hi hj
        have b := q3 i j hi hj
        rw [pw_mat h1 hi hj]; omega
theorem has_join {n : Nat} {A B v : List Int} (hA : IsZ n A) (hB : IsZ n B) (h : Has n A v ∨ Has n B v) : Has n (joinL n A B) v := by
  unfold joinL
  by_cases e1 : A = []
  · rw [if_pos e1]
    exact h.resolve_left fun q => q.1 e1
  · rw [if_neg e1]
    by_cases e2 : B = []
    · rw [if_pos e2]
      exact h.resolve_right fun q => q.1 e2
    · rw [if_neg e2, has_closed]
      have h1 := hA.2.resolve_left e1
      rcases h with ⟨-, q1, q2⟩ | ⟨-, q1, q2⟩
      · refine ⟨q1, fun i j hi hj => ?_⟩
        have a := q2 i j hi hj
        rw [pw_mat h1 hi hj]; omega
      · refine ⟨q1, fun i j hi hj => ?_⟩
        have a := q2 i j hi hj
        rw [pw_mat h1 hi hj]; omega
theorem has_widen {n : Nat} {A B v : List Int} (hA : IsZ n A) (hB : IsZ n B) (h : Has n A v ∨ Has n B v) : Has n (widenL n A B) v := by
  unfold widenL
  by_cases e1 : A = []
  · rw [if_pos e1]
    exact h.resolve_left fun q => q.1 e1
  · rw [if_neg e1]
    by_cases e2 : B = []
    · rw [if_pos e2]
      exact h.resolve_right fun q => q.1 e2
    · rw [if_neg e2, has_closed]
      have h1 := hA.2.resolve_left e1
      have hv : v.any farB = false := by rcases h with q | q <;> exact q.2.1
      refine ⟨hv, fun i j hi hj => ?_⟩
      have d := dif_widest hv i j
      have d2 := widestF_le i j
      rw [pw_mat h1 hi hj]
      unfold wid
      rcases h with ⟨-, q1, q2⟩ | ⟨-, q1, q2⟩
      · have a := q2 i j hi hj
        split <;> omega
      · have a := q2 i j hi hj
        split <;> omega
theorem has_tie {n : Nat} {X v : List Int} (hn : n ≤ 8) (hX : IsZ n X) {i j : Nat} (hi : i ≤ n) (hj : j ≤ n) (c : Int) : Has n (letTieL n X i j c) v ↔ Has n (forgetL n X i) v ∧ difF v i j = c := by
  have hX1 : IsZ n (forgetL n X i) := stepL_isz hn _ _
  have hY : IsZ n (limitL n (forgetL n X i) i j c) := stepL_isz hn _ _
  rw [tie_both hn X hi hj, has_limit hY hj hi, has_limit hX1 hi hj, and_assoc]
  refine and_congr_right fun _ => ?_
  unfold difF
  omega
theorem has_mov {n : Nat} {X v : List Int} (hX : IsZ n X) (hv : v.length = n) {i : Nat} (hi0 : 1 ≤ i) (hi : i ≤ n) (c : Int) : Has n (letMovL n X i c) v ↔ v.any farB = false ∧ Has n X (withL v i (valF v i - c)) := by
  unfold letMovL
  rw [has_step]
  have hi' : i ≤ v.length := by omega
  unfold Has
  constructor
  · rintro ⟨h1, h2, h3⟩
    have hF := hX.2.resolve_left h1
    have hL : Leq n (difF (withL v i (valF v i - c))) (mat n X) := by
      intro a b ha hb
      have q := h3 a b ha hb
      rw [movL_at hi hF.len c ha hb] at q
      unfold difF at q ⊢
      rw [withL_at hi0 hi', withL_at hi0 hi']
      by_cases e1 : a = i
      · rw [if_pos e1]
        subst e1
        by_cases e2 : b = a
        · subst e2
          rw [if_pos rfl, hF.closed.zero b hi]; omega
        · rw [if_neg e2]; rw [if_pos ⟨rfl, e2⟩] at q; omega
      · rw [if_neg e1]
        rw [if_neg (fun e => e1 e.1)] at q
        by_cases e2 : b = i
        · rw [if_pos e2]; rw [if_pos ⟨e2, e1⟩] at q; subst e2; omega
        · rw [if_neg e2]; rw [if_neg (fun e => e2 e.1)] at q; exact q
    refine ⟨h2, h1, ?_, hL⟩
    rw [far_iff] at h2 ⊢
    intro a ha0 ha
    rw [withL_len] at ha
    rw [withL_at hi0 hi']
    by_cases e : a = i
    · rw [if_pos e]
      have q1 := hL i 0 hi (by omega)
      have q2 := hL 0 i (by omega) hi
      have u1 := hF.up hi (show 0 ≤ n by omega)
      have u2 := hF.up (show 0 ≤ n by omega) hi
      unfold widestF at u1 u2
      rw [if_neg (by omega), if_pos (by omega)] at u1 u2
      unfold difF at q1 q2
      rw [withL_at hi0 hi', withL_at hi0 hi', if_pos rfl, if_neg (by omega), valF_zero] at q1 q2
      omega
    · rw [if_neg e]; exact h2 a ha0 ha
  · rintro ⟨h2, h1, -, hL⟩
    have hF := hX.2.resolve_left h1
    refine ⟨h1, h2, fun a b ha hb => ?_⟩
    have q := hL a b ha hb
    rw [movL_at hi hF.len c ha hb]
    unfold difF at q ⊢
    rw [withL_at hi0 hi', withL_at hi0 hi'] at q
    by_cases e1 : a = i
    · rw [if_pos e1] at q
      subst e1
      by_cases e2 : b = a
      · subst e2
        rw [if_neg (fun e => e.2 rfl), if_neg (fun e => e.2 rfl), hF.closed.zero b hi]; omega
      · rw [if_neg e2] at q; rw [if_pos ⟨rfl, e2⟩]; omega
    · rw [if_neg e1] at q
      rw [if_neg (fun e => e1 e.1)]
      by_cases e2 : b = i
      · rw [if_pos e2] at q; rw [if_pos ⟨e2, e1⟩]; subst e2; omega
      · rw [if_neg e2] at q; rw [if_neg (fun e => e2 e.1)]; exact q
end Go.Proofs.YtplgmmjppmpnoaaDoor
/- Which valuations zones have that are made of zones: as the statements ask. -/
namespace Go.Proofs.YtplgmmjppmpnoaaDoor
open Go.RowKit
set_option linter.unusedVariables false
set_option linter.unusedSimpArgs false

theorem forgetL_isz {n : Nat} (hn : n ≤ 8) (l : List Int) (i : Nat) : IsZ n (forgetL n l i) := stepL_isz hn _ _
theorem limitL_isz {n : Nat} (hn : n ≤ 8) (l : List Int) (i j : Nat) (c : Int) : IsZ n (limitL n l i j c) := stepL_isz hn _ _
theorem fact_meet {n : Nat} {A B v : List Int} (hA : IsZ n A) (hB : IsZ n B) (hv : v.length = n) : hasB n (meetL n A B) v = (hasB n A v && hasB n B v) := by
  rw [Bool.eq_iff_iff, Bool.and_eq_true, has_iff (meetL_isz hA hB) hv, has_iff hA hv, has_iff hB hv]
  exact has_meet hA hB
theorem widenL_isz {n : Nat} {A B : List Int} (z1 : IsZ n A) (z2 : IsZ n B) : IsZ n (widenL n A B) := by
  unfold widenL
  split
  · exact z2
  · split
    · exact z1
    · by_cases h : closedL n (pw wid A B) = []
      · exact ⟨z1.1, .inl h⟩
      · exact ⟨z1.1, .inr (closed_full z1.1 h)⟩
theorem fact_join {n : Nat} {A B v : List Int} (hA : IsZ n A) (hB : IsZ n B) (hv : v.length = n) (h : (hasB n A v || hasB n B v) = true) : hasB n (joinL n A B) v = true := by
  rw [Bool.or_eq_true, has_iff hA hv, has_iff hB hv] at h
  exact (has_iff (joinL_isz hA hB) hv).2 (has_join hA hB h)
theorem fact_widen {n : Nat} {A B v : List Int} (hA : IsZ n A) (hB : IsZ n B) (hv : v.length = n) (h : (hasB n A v || hasB n B v) = true) : hasB n (widenL n A B) v = true := by
  rw [Bool.or_eq_true, has_iff hA hv, has_iff hB hv] at h
  exact (has_iff (widenL_isz hA hB) hv).2 (has_widen hA hB h)
theorem fact_limit {n : Nat} {A v : List Int} (hA : IsZ n A) (hv : v.length = n) {i j : Nat} (hi : i ≤ n) (hj : j ≤ n) (c : Int) : hasB n (limitL n A i j c) v = (hasB n A v && decide (valF v i - valF v j ≤ c)) := by
  rw [Bool.eq_iff_iff, Bool.and_eq_true, has_iff (limitL_isz hA.1 _ _ _ _) hv, has_iff hA hv, decide_eq_true_iff]
  exact has_limit hA hi hj c
theorem with_forget {n : Nat} {A v : List Int} (hA : IsZ n A) (hv : v.length = n) {i : Nat} (hi0 : 1 ≤ i) (hi : i ≤ n) (h : Has n (forgetL n A i) v) (x : Int) (hx : -1099511627776 ≤ x ∧ x ≤ 1099511627776) : Has n (forgetL n A i) (withL v i x) := by
  rw [has_forget hA hi] at h ⊢
  have hi' : i ≤ v.length := by omega
  obtain ⟨h1, h2, h3⟩ := h
  refine ⟨h1, ?_, fun a b ha hb hai hbi => ?_⟩
  · rw [far_iff] at h2 ⊢
    intro a ha0 ha
    rw [withL_len] at ha
    rw [withL_at hi0 hi']
    split
    · exact hx
    · exact h2 a ha0 ha
  · have q := h3 a b ha hb hai hbi
    unfold difF at q ⊢
    rw [withL_at hi0 hi', withL_at hi0 hi', if_neg hai, if_neg hbi]
    exact q
theorem has_for {n : Nat} {A v : List Int} (hA : IsZ n A) {i : Nat} (hi : i ≤ n) (h : Has n A v) : Has n (forgetL n A i) v :=
  (has_forget hA hi).2 ⟨h.1, h.2.1, fun a b ha hb _ _ => h.2.2 a b ha hb⟩
theorem fact_forget {n : Nat} {A v : List Int} (hA : IsZ n A) (hv : v.length = n) {i : Nat} (hi0 : 1 ≤ i) (hi : i ≤ n) (h : hasB n A v = true) (x : Int) (hx : -1099511627776 ≤ x ∧ x ≤ 1099511627776) : hasB n (forgetL n A i) (withL v i x) = true := by
  rw [has_iff hA hv] at h
  rw [has_iff (forgetL_isz hA.1 _ _) (by rw [withL_len]; exact hv)]
  exact with_forget hA hv hi0 hi (has_for hA hi h) x hx
theorem fact_itv {n : Nat} {A v : List Int} (hA : IsZ n A) (hv : v.length = n) {i : Nat} (hi0 : 1 ≤ i) (hi : i ≤ n) (h : hasB n A v = true) : itvL n (forgetL n A i) i = (-1099511627776, 1099511627776) := by
  rw [has_iff hA hv] at h
  have hf := has_for hA hi h
  have hi' : i ≤ v.length := by omega
  have a := with_forget hA hv hi0 hi hf 1099511627776 (by omega)
  have b := with_forget hA hv hi0 hi hf (-1099511627776) (by omega)
  have hF := (stepL_isz hA.1 (fun l => forL n l i) A).2.resolve_left a.1
  have p := a.2.2 i 0 hi (by omega)
  have q := b.2.2 0 i (by omega) hi
  unfold difF at p q
  rw [withL_at hi0 hi', withL_at hi0 hi', if_pos rfl, if_neg (by omega), valF_zero] at p q
  have u1 := hF.up hi (show 0 ≤ n by omega)
  have u2 := hF.up (show 0 ≤ n by omega) hi
  unfold widestF at u1 u2
  rw [if_neg (by omega), if_pos (by omega)] at u1 u2
  unfold itvL
  rw [if_neg a.1]
  change mat n (forgetL n A i) i 0 ≤ _ at u1
  change mat n (forgetL n A i) 0 i ≤ _ at u2
  rw [show mat n (forgetL n A i) 0 i = 1099511627776 by omega, show mat n (forgetL n A i) i 0 = 1099511627776 by omega]
theorem fact_let {n : Nat} {A v : List Int} (hA : IsZ n A) (hv : v.length = n) {i j : Nat} (hi0 : 1 ≤ i) (hi : i ≤ n) (hj : j ≤ n) (h : hasB n A v = true) (c : Int) : hasB n (letL n A i j c) (withL v i (valF v j + c)) = !farB (valF v j + c) := by
  rw [has_iff hA hv] at h
  have hi' : i ≤ v.length := by omega
  have hb : (!farB (valF v j + c)) = true ↔ (-1099511627776 ≤ valF v j + c ∧ valF v j + c ≤ 1099511627776) := by unfold farB; simp; omega
  have hw : (withL v i (valF v j + c)).any farB = false ↔ (-1099511627776 ≤ valF v j + c ∧ valF v j + c ≤ 1099511627776) := by
    rw [far_iff]
    constructor
    · intro q
      have := q i hi0 (by rw [withL_len]; exact hi')
      rw [withL_at hi0 hi', if_pos rfl] at this
      exact this
    · intro q a ha0 ha
      rw [withL_len] at ha
      rw [withL_at hi0 hi']
      split
      · exact q
      · exact far_iff.1 h.2.1 a ha0 ha
  rw [Bool.eq_iff_iff, hb, has_iff (letL_isz hA.1 A i j c) (by rw [withL_len]; exact hv), ← hw]
  unfold letL
  by_cases e : i = j
  · subst e
    rw [if_pos rfl, has_mov hA (by rw [withL_len]; exact hv) hi0 hi]
    refine ⟨fun q => q.1, fun q => ⟨q, ?_⟩⟩
    rw [withL_at hi0 hi', if_pos rfl]
    have e2 : withL (withL v i (valF v i + c)) i (valF v i + c - c) = v := by
      unfold withL
      rw [List.set_set, show valF v i + c - c = valF v i by omega]
      apply List.ext_getElem (by simp)
      intro k h1 h2
      rw [List.getElem_set]
      split
      · rename_i e3
        unfold valF
        rw [if_neg (by omega), e3]
        simp [List.getD, h2]
      · rfl
    rw [e2]
    exact h
  · rw [if_neg e, has_tie hA.1 hA hi hj]
    constructor
    · intro q; exact q.1.2.1
    · intro q
      refine ⟨with_forget hA hv hi0 hi (has_for hA hi h) _ (hw.1 q), ?_⟩
      unfold difF
      rw [withL_at hi0 hi', withL_at hi0 hi', if_pos rfl, if_neg (fun q => e q.symm)]
      omega
theorem fact_mov {n : Nat} {Z v : List Int} (hZ : IsZ n Z) (hv : v.length = n) {i : Nat} (hi0 : 1 ≤ i) (hi : i ≤ n) (c : Int) : hasB n (letL n Z i i c) v = (!farB (valF v i - c) && (!farB (valF v i) && hasB n Z (withL v i (valF v i - c)))) := by
  have hi' : i ≤ v.length := by omega
  rw [Bool.eq_iff_iff, Bool.and_eq_true, Bool.and_eq_true, has_iff (letL_isz hZ.1 Z i i c) hv, has_iff hZ (by rw [withL_len]; exact hv)]
  unfold letL
  rw [if_pos rfl, has_mov hZ hv hi0 hi]
  have hb : ∀ x : Int, (!farB x) = true ↔ (-1099511627776 ≤ x ∧ x ≤ 1099511627776) := by intro x; unfold farB; simp; omega
  rw [hb, hb]
  constructor
  · rintro ⟨h1, h2⟩
    have a := far_iff.1 h1 i hi0 hi'
    have b := far_iff.1 h2.2.1 i hi0 (by rw [withL_len]; exact hi')
    rw [withL_at hi0 hi', if_pos rfl] at b
    exact ⟨b, a, h2⟩
  · rintro ⟨h1, h2, h3⟩
    refine ⟨far_iff.2 fun a ha0 ha => ?_, h3⟩
    by_cases e : a = i
    · rw [e]; exact h2
    · have := far_iff.1 h3.2.1 a ha0 (by rw [withL_len]; exact ha)
      rw [withL_at hi0 hi', if_neg e] at this
      exact this
theorem fact_tie {n : Nat} {Z v : List Int} (hZ : IsZ n Z) (hv : v.length = n) {i j : Nat} (hi : i ≤ n) (hj : j ≤ n) (hij : i ≠ j) (c : Int) (h : hasB n (letL n Z i j c) v = true) : valF v i = valF v j + c ∧ hasB n (forgetL n Z i) v = true := by
  rw [has_iff (letL_isz hZ.1 Z i j c) hv] at h
  unfold letL at h
  rw [if_neg hij, has_tie hZ.1 hZ hi hj] at h
  refine ⟨?_, (has_iff (stepL_isz hZ.1 _ _) hv).2 h.1⟩
  have := h.2
  unfold difF at this
  omega
/-- The least value that a variable may have beside the others'. -/
def leastK (n : Nat) (Z v : List Int) (i : Nat) : Nat → Int
  | 0 => -1099511627776
  | k + 1 => if k ≠ i ∧ leastK n Z v i k < valF v k - mat n Z k i then valF v k - mat n Z k i else leastK n Z v i k
theorem leastK_le {n : Nat} {Z v : List Int} {i : Nat} (K : Nat) : ∀ k, k < K → k ≠ i → valF v k - mat n Z k i ≤ leastK n Z v i K := by
  induction K with
  | zero => intro k h; omega
  | succ K ih =>
    intro k hk hki
    unfold leastK
    by_cases e : k = K
    · subst e
      split
      · omega
      · rename_i q
        by_cases q2 : leastK n Z v i k < valF v k - mat n Z k i
        · exact absurd ⟨hki, q2⟩ q
        · omega
    · have := ih k (by omega) hki
      split
      · rename_i q; omega
      · exact this
theorem leastK_is {n : Nat} {Z v : List Int} {i : Nat} (K : Nat) : leastK n Z v i K = -1099511627776 ∨ ∃ k, k < K ∧ k ≠ i ∧ leastK n Z v i K = valF v k - mat n Z k i := by
  induction K with
  | zero => left; rfl
  | succ K ih =>
    unfold leastK
    split
    · rename_i q; exact .inr ⟨K, by omega, q.1, rfl⟩
    · rcases ih with h | ⟨k, h1, h2, h3⟩
      · exact .inl h
      · exact .inr ⟨k, by omega, h2, h3⟩
theorem leastK_lo {n : Nat} {Z v : List Int} {i : Nat} (K : Nat) : -1099511627776 ≤ leastK n Z v i K := by
  induction K with
  | zero => unfold leastK; omega
  | succ K ih =>
    unfold leastK
    split
    · rename_i q; omega
    · exact ih
theorem fact_least {n : Nat} {Z v : List Int} (hZ : IsZ n Z) (hv : v.length = n) {i : Nat} (hi0 : 1 ≤ i) (hi : i ≤ n) (h : hasB n (forgetL n Z i) v = true) : hasB n Z (withL v i (leastK n Z v i (n + 1))) = true := by
  rw [has_iff (forgetL_isz hZ.1 _ _) hv, has_forget hZ hi] at h
  have hi' : i ≤ v.length := by omega
  obtain ⟨h1, h2, h3⟩ := h
  have hF := hZ.2.resolve_left h1
  rw [has_iff hZ (by rw [withL_len]; exact hv)]
  have lo := leastK_lo (n := n) (Z := Z) (v := v) (i := i) (n + 1)
  have u0 := hF.up (show 0 ≤ n by omega) hi
  unfold widestF at u0
  rw [if_neg (by omega), if_pos (by omega)] at u0
  have l0 := leastK_le (n := n) (Z := Z) (v := v) (i := i) (n + 1) 0 (by omega) (by omega)
  rw [valF_zero] at l0
  have hex : ∃ k, k ≤ n ∧ k ≠ i ∧ leastK n Z v i (n + 1) = valF v k - mat n Z k i := by
    rcases leastK_is (n := n) (Z := Z) (v := v) (i := i) (n + 1) with e | ⟨k, a, b, c⟩
    · exact ⟨0, by omega, by omega, by rw [e, valF_zero]; omega⟩
    · exact ⟨k, by omega, b, c⟩
  obtain ⟨m, hm, hmi, hme⟩ := hex
  have hup : ∀ b, b ≤ n → b ≠ i → leastK n Z v i (n + 1) - valF v b ≤ mat n Z i b := by
    intro b hb hbi
    have t := hF.closed.tri m b i hm hb hi
    have q := h3 m b hm hb hmi hbi
    unfold difF at q
    have z1 := hF.closed.tri m b i hm hb hi
    omega
  have hL : Leq n (difF (withL v i (leastK n Z v i (n + 1)))) (mat n Z) := by
    intro a b ha hb
    unfold difF
    rw [withL_at hi0 hi', withL_at hi0 hi']
    by_cases e1 : a = i
    · rw [if_pos e1]
      by_cases e2 : b = i
      · rw [if_pos e2, e1, e2, hF.closed.zero i hi]; omega
      · rw [if_neg e2, e1]; exact hup b hb e2
    · rw [if_neg e1]
      by_cases e2 : b = i
      · rw [if_pos e2, e2]
        have := leastK_le (n := n) (Z := Z) (v := v) (i := i) (n + 1) a (by omega) e1
        omega
      · rw [if_neg e2]; exact h3 a b ha hb e1 e2
  refine ⟨h1, ?_, hL⟩
  rw [far_iff] at h2 ⊢
  intro a ha0 ha
  rw [withL_len] at ha
  rw [withL_at hi0 hi']
  split
  · have q := hup 0 (by omega) (by omega)
    rw [valF_zero] at q
    have u := hF.up hi (show 0 ≤ n by omega)
    unfold widestF at u
    rw [if_neg (by omega), if_pos (by omega)] at u
    omega
  · exact h2 a ha0 ha
end Go.Proofs.YtplgmmjppmpnoaaDoor
/- What is behind statements, and at fault. (Written by gen-post.py.) -/
namespace Go.Proofs.YtplgmmjppmpnoaaDoor
open Go.RowKit
set_option linter.unusedVariables false
set_option linter.unusedSimpArgs false

/-- A zone, a statement, what is handed back, in memory. -/
structure P3 (w W : World) (zn zm : Value) (st : Array Value) (rn rm : Value) : Prop where
  bl : Below w.heap.size w W
  z : ZH W w.heap.size zn zm
  s : Holds W (w.heap.size + 1) 26 st
  r : ZH W (w.heap.size + 2) rn rm
theorem P3.on {w W W' : World} {zn zm rn rm : Value} {st : Array Value} (h : P3 w W zn zm st rn rm) (hb : Below W.heap.size W W') : P3 w W' zn zm st rn rm :=
  ⟨h.bl.trans (hb.mono h.bl.size), h.z.below hb h.z.lt, h.s.below hb h.s.lt, h.r.below hb h.r.lt⟩
theorem p3_new (w : World) (zn zm : Value) (st : Array Value) : P3 w (((w.alloc (.cells #[zn, zm] 24)).alloc (.cells st 26)).alloc (.cells #[.int .i64 0, .slice none 0 0] 24)) zn zm st (.int .i64 0) (.slice none 0 0) := by
  refine ⟨((box_below _ _ _).alloc (by simp) _).alloc (by simp; omega) _, ((Holds.new w _ _).alloc _).alloc _, ?_, ?_⟩
  · have := (Holds.new (w.alloc (.cells #[zn, zm] 24)) 26 st).alloc (.cells #[.int .i64 0, .slice none 0 0] 24)
    simpa using this
  · have := Holds.new ((w.alloc (.cells #[zn, zm] 24)).alloc (.cells st 26)) 24 #[.int .i64 0, .slice none 0 0]
    simpa using this
/-- The zone's block is written anew. -/
theorem P3.setz {w W : World} {zn zm rn rm : Value} {st : Array Value} (h : P3 w W zn zm st rn rm) (u v : Value) : P3 w ((W.setCell ⟨w.heap.size, 0, none⟩ u).setCell ⟨w.heap.size, 1, none⟩ v) u v st rn rm :=
  ⟨(h.bl.setCell (p := ⟨w.heap.size, 0, none⟩) (Nat.le_refl _) _).setCell (p := ⟨w.heap.size, 1, none⟩) (Nat.le_refl _) _, zh_set h.z _ _, (h.s.far (p := ⟨w.heap.size, 0, none⟩) (by simp) _).far (p := ⟨w.heap.size, 1, none⟩) (by simp) _, (h.r.far (p := ⟨w.heap.size, 0, none⟩) (by simp) _).far (p := ⟨w.heap.size, 1, none⟩) (by simp) _⟩
set_option maxRecDepth 100000 in
set_option maxHeartbeats 400000 in
theorem let_any (n : Nat) (l : List Int) (hz : IsZ n l) (k x y c d : Int) (X Y : Nat) (ex : x = X) (ey : y = Y) (hx0 : 1 ≤ X) (hx : X ≤ n) (hy : Y ≤ n) (a : Option Addr) (m ca : Nat) (w : World) (h : SL w a m ca l) : Calls Tryd.prog 32 #[.agg #[.int .i64 n, .slice a m ca], .agg #[.int .i64 k, .int .i64 x, .int .i64 y, .int .i64 c, .int .i64 d]] w (ZoneE n (letL n l X Y c) 0 w) := by
  obtain ⟨W1, hW1⟩ : ∃ W1, W1 = ((w.alloc (.cells #[.int .i64 n, .slice a m ca] 24)).alloc (.cells #[.int .i64 k, .int .i64 x, .int .i64 y, .int .i64 c, .int .i64 d] 26)).alloc (.cells #[.int .i64 0, .slice none 0 0] 24) := ⟨_, rfl⟩
  have X1 : P3 w W1 (.int .i64 n) (.slice a m ca) #[.int .i64 k, .int .i64 x, .int .i64 y, .int .i64 c, .int .i64 d] (.int .i64 0) (.slice none 0 0) := by rw [hW1]; exact p3_new _ _ _ _
  have hW1' := Lib.hid hW1
  have XP := Lib.hid X1
  have k0 := X1.z.cell 0
  have k1 := X1.z.cell 1
  have s1 := X1.s.cell 1
  have s2 := X1.s.cell 2
  have s3 := X1.s.cell 3
  have s4 := X1.s.cell 4
  subst ex ey
  have q := Lib.hid ((fun W hs => zlet_ok n l hz X Y hx0 hx hy c a m ca W hs) W1 (h.below X1.bl))
  clear hW1 X1 h hz
  generalize (letL n l X Y c) = R at *
  go_enter Tryd.func32, Tryd.ntmps32
  go_wp2_with fail
  rw [← hW1'.out]
  refine q.out.mono ?_
  rintro e w7 ⟨a7, c7, rfl, hc7, s7, b7, nw7⟩
  have Zd := XP.out.r.below b7 XP.out.r.lt
  have y0 := Zd.cell 0
  have y1 := Zd.cell 1
  have f0 := Zd.free 0
  have f1 := Zd.free 1
  have hfin := Lib.hid (zone_put (n := n) (err := 0) XP.out.bl (by omega) XP.out.r hc7 s7 b7 nw7)
  clear Zd q k0 k1 s1 s2 s3 s4 hW1'
  go_wp2
  exact zone_ret2 hfin.out.1 hfin.out.2.1 _ _ 4 5 rfl rfl rfl rfl
set_option maxRecDepth 100000 in
set_option maxHeartbeats 400000 in
theorem plimit_any (n : Nat) (l : List Int) (hz : IsZ n l) (k x y c d : Int) (X Y : Nat) (ex : x = X) (ey : y = Y) (hx : X ≤ n) (hy : Y ≤ n) (a : Option Addr) (m ca : Nat) (w : World) (h : SL w a m ca l) : Calls Tryd.prog 34 #[.agg #[.int .i64 n, .slice a m ca], .agg #[.int .i64 k, .int .i64 x, .int .i64 y, .int .i64 c, .int .i64 d]] w (ZoneE n (limitL n l X Y c) 0 w) := by
  obtain ⟨W1, hW1⟩ : ∃ W1, W1 = ((w.alloc (.cells #[.int .i64 n, .slice a m ca] 24)).alloc (.cells #[.int .i64 k, .int .i64 x, .int .i64 y, .int .i64 c, .int .i64 d] 26)).alloc (.cells #[.int .i64 0, .slice none 0 0] 24) := ⟨_, rfl⟩
  have X1 : P3 w W1 (.int .i64 n) (.slice a m ca) #[.int .i64 k, .int .i64 x, .int .i64 y, .int .i64 c, .int .i64 d] (.int .i64 0) (.slice none 0 0) := by rw [hW1]; exact p3_new _ _ _ _
  have hW1' := Lib.hid hW1
  have XP := Lib.hid X1
  have k0 := X1.z.cell 0
  have k1 := X1.z.cell 1
  have s1 := X1.s.cell 1
  have s2 := X1.s.cell 2
  have s3 := X1.s.cell 3
  have s4 := X1.s.cell 4
  subst ex ey
  have q := Lib.hid ((fun W hs => zlimit_ok n l hz X Y hx hy c a m ca W hs) W1 (h.below X1.bl))
  clear hW1 X1 h hz
  generalize (limitL n l X Y c) = R at *
  go_enter Tryd.func34, Tryd.ntmps34
  go_wp2_with fail
  rw [← hW1'.out]
  refine q.out.mono ?_
  rintro e w7 ⟨a7, c7, rfl, hc7, s7, b7, nw7⟩
  have Zd := XP.out.r.below b7 XP.out.r.lt
  have y0 := Zd.cell 0
  have y1 := Zd.cell 1
  have f0 := Zd.free 0
  have f1 := Zd.free 1
  have hfin := Lib.hid (zone_put (n := n) (err := 0) XP.out.bl (by omega) XP.out.r hc7 s7 b7 nw7)
  clear Zd q k0 k1 s1 s2 s3 s4 hW1'
  go_wp2
  exact zone_ret2 hfin.out.1 hfin.out.2.1 _ _ 4 5 rfl rfl rfl rfl
set_option maxRecDepth 100000 in
set_option maxHeartbeats 400000 in
theorem beyond_any (n : Nat) (l : List Int) (hz : IsZ n l) (k x y c d : Int) (X Y : Nat) (ex : x = X) (ey : y = Y) (hx : X ≤ n) (hy : Y ≤ n) (hc : -1099511627776 ≤ c ∧ c ≤ 1099511627776) (a : Option Addr) (m ca : Nat) (w : World) (h : SL w a m ca l) : Calls Tryd.prog 36 #[.agg #[.int .i64 n, .slice a m ca], .agg #[.int .i64 k, .int .i64 x, .int .i64 y, .int .i64 c, .int .i64 d]] w (ZoneE n (limitL n l Y X (-c - 1)) 0 w) := by
  obtain ⟨W1, hW1⟩ : ∃ W1, W1 = ((w.alloc (.cells #[.int .i64 n, .slice a m ca] 24)).alloc (.cells #[.int .i64 k, .int .i64 x, .int .i64 y, .int .i64 c, .int .i64 d] 26)).alloc (.cells #[.int .i64 0, .slice none 0 0] 24) := ⟨_, rfl⟩
  have X1 : P3 w W1 (.int .i64 n) (.slice a m ca) #[.int .i64 k, .int .i64 x, .int .i64 y, .int .i64 c, .int .i64 d] (.int .i64 0) (.slice none 0 0) := by rw [hW1]; exact p3_new _ _ _ _
  have hW1' := Lib.hid hW1
  have XP := Lib.hid X1
  have k0 := X1.z.cell 0
  have k1 := X1.z.cell 1
  have s1 := X1.s.cell 1
  have s2 := X1.s.cell 2
  have s3 := X1.s.cell 3
  have s4 := X1.s.cell 4
  subst ex ey
  have wr1 : IntKind.i64.wrap (-c) = -c := by simp [IntKind.wrap, IntKind.bits, IntKind.signed]; omega
  have wr2 : IntKind.i64.wrap (-c - 1) = -c - 1 := by simp [IntKind.wrap, IntKind.bits, IntKind.signed]; omega
  have q := Lib.hid ((fun W hs => zlimit_ok n l hz Y X hy hx (-c - 1) a m ca W hs) W1 (h.below X1.bl))
  clear hW1 X1 h hz
  generalize (limitL n l Y X (-c - 1)) = R at *
  go_enter Tryd.func36, Tryd.ntmps36
  go_wp2_with fail
  rw [← hW1'.out]
  refine q.out.mono ?_
  rintro e w7 ⟨a7, c7, rfl, hc7, s7, b7, nw7⟩
  have Zd := XP.out.r.below b7 XP.out.r.lt
  have y0 := Zd.cell 0
  have y1 := Zd.cell 1
  have f0 := Zd.free 0
  have f1 := Zd.free 1
  have hfin := Lib.hid (zone_put (n := n) (err := 0) XP.out.bl (by omega) XP.out.r hc7 s7 b7 nw7)
  clear Zd q k0 k1 s1 s2 s3 s4 hW1'
  go_wp2
  exact zone_ret2 hfin.out.1 hfin.out.2.1 _ _ 4 5 rfl rfl rfl rfl
theorem never_any (n k x y c d : Int) (a : Option Addr) (m ca : Nat) (w : World) : Calls Tryd.prog 35 #[.agg #[.int .i64 n, .slice a m ca], .agg #[.int .i64 k, .int .i64 x, .int .i64 y, .int .i64 c, .int .i64 d]] w (ZoneE n [] 0 w) := by
  obtain ⟨W1, hW1⟩ : ∃ W1, W1 = ((w.alloc (.cells #[.int .i64 n, .slice a m ca] 24)).alloc (.cells #[.int .i64 k, .int .i64 x, .int .i64 y, .int .i64 c, .int .i64 d] 26)).alloc (.cells #[.int .i64 0, .slice none 0 0] 24) := ⟨_, rfl⟩
  have X1 : P3 w W1 (.int .i64 n) (.slice a m ca) #[.int .i64 k, .int .i64 x, .int .i64 y, .int .i64 c, .int .i64 d] (.int .i64 0) (.slice none 0 0) := by rw [hW1]; exact p3_new _ _ _ _
  have hW1' := Lib.hid hW1
  have XP := Lib.hid X1
  have k0 := X1.z.cell 0
  have k1 := X1.z.cell 1
  have s1 := X1.s.cell 1
  have s2 := X1.s.cell 2
  have s3 := X1.s.cell 3
  have s4 := X1.s.cell 4
  have y0 := X1.r.cell 0
  have y1 := X1.r.cell 1
  have f0 := X1.r.free 0
  have f1 := X1.r.free 1
  have hfin := Lib.hid (zone_none X1.bl (by omega : w.heap.size ≤ w.heap.size + 2) X1.r n 0)
  clear X1 hW1
  go_enter Tryd.func35, Tryd.ntmps35
  go_wp2_with (rw [← hW1'.out])
  exact zone_ret2 hfin.out.1 hfin.out.2.1 _ _ 4 5 rfl rfl rfl rfl
set_option maxRecDepth 100000 in
set_option maxHeartbeats 400000 in
theorem pskip_any (n : Nat) (l : List Int) (hz : IsZ n l) (k x y c d : Int) (a : Option Addr) (m ca : Nat) (w : World) (h : SL w a m ca l) : Calls Tryd.prog 31 #[.agg #[.int .i64 n, .slice a m ca], .agg #[.int .i64 k, .int .i64 x, .int .i64 y, .int .i64 c, .int .i64 d]] w (ZoneE n l 0 w) := by
  obtain ⟨W1, hW1⟩ : ∃ W1, W1 = ((w.alloc (.cells #[.int .i64 n, .slice a m ca] 24)).alloc (.cells #[.int .i64 k, .int .i64 x, .int .i64 y, .int .i64 c, .int .i64 d] 26)).alloc (.cells #[.int .i64 0, .slice none 0 0] 24) := ⟨_, rfl⟩
  have X1 : P3 w W1 (.int .i64 n) (.slice a m ca) #[.int .i64 k, .int .i64 x, .int .i64 y, .int .i64 c, .int .i64 d] (.int .i64 0) (.slice none 0 0) := by rw [hW1]; exact p3_new _ _ _ _
  have hW1' := Lib.hid hW1
  have XP := Lib.hid X1
  have k0 := X1.z.cell 0
  have k1 := X1.z.cell 1
  have s1 := X1.s.cell 1
  have s2 := X1.s.cell 2
  have s3 := X1.s.cell 3
  have s4 := X1.s.cell 4
  have hsm := hz.small
  have hcl := Lib.hid (fun W (hW : Below w.heap.size w W) => iclone_any a l m ca h.len (by omega) W ((h.below hW).sees))
  have f0 : ∀ W, (Below w.heap.size w W ∧ ZH W w.heap.size (.int .i64 n) (.slice a m ca)) → W.cell? ⟨w.heap.size, 0, none⟩ = some (.int .i64 n) := fun W hW => hW.2.cell 0
  have f1 : ∀ W, (Below w.heap.size w W ∧ ZH W w.heap.size (.int .i64 n) (.slice a m ca)) → W.cell? ⟨w.heap.size, 1, none⟩ = some (.slice a m ca) := fun W hW => hW.2.cell 1
  clear hW1 X1 h hz k0 k1 s1 s2 s3 s4 hsm
  go_enter Tryd.func31, Tryd.ntmps31
  go_wp2
  rw [← hW1'.out]
  refine wp_drawn_on (fun W => Below w.heap.size w W ∧ ZH W w.heap.size (.int .i64 n) (.slice a m ca)) (by kernel_rfl) (⟨XP.out.bl.drew, XP.out.z.drew⟩) (fun hHeld => ?_)
  refine wpAnyH_take (i := 0) (oi := { dst := some 6, op := Go.Op.fieldAddr 24 (Go.Operand.tmp 2) 0, type := 0, pos := "post.go:39", after := #[], guard := none }) (v := ?v1) rfl (by kernel_rfl) (by kernel_rfl) (by kernel_rfl) (fun _ _ _ h => h) (Or.inl ⟨by kernel_rfl, ?h1⟩) (by assumption) ?r1
  case h1 => (intro w hSw; (try dsimp only at hSw); go_simp; try with_reducible rfl)
  try simp only [Act.put, List.setIfInBounds_toArray, List.set_cons_zero, List.set_cons_succ]
  refine wpAnyH_take (i := 1) (oi := { dst := some 7, op := Go.Op.load 3 (Go.Operand.tmp 6), type := 3, pos := "post.go:39", after := #[{ on := 0, ground := Go.Ground.data }], guard := none }) (v := ?v2) rfl (by kernel_rfl) (by kernel_rfl) (by kernel_rfl) (fun _ _ _ h => h) (Or.inl ⟨by kernel_rfl, ?h2⟩) (by assumption) ?r2
  case h2 => (intro w hSw; (try dsimp only at hSw); go_simp; try with_reducible rfl)
  try simp only [Act.put, List.setIfInBounds_toArray, List.set_cons_zero, List.set_cons_succ]
  refine wpAnyH_take (i := 2) (oi := { dst := some 8, op := Go.Op.fieldAddr 24 (Go.Operand.tmp 2) 1, type := 0, pos := "post.go:39", after := #[], guard := none }) (v := ?v3) rfl (by kernel_rfl) (by kernel_rfl) (by kernel_rfl) (fun _ _ _ h => h) (Or.inl ⟨by kernel_rfl, ?h3⟩) (by assumption) ?r3
  case h3 => (intro w hSw; (try dsimp only at hSw); go_simp; try with_reducible rfl)
  try simp only [Act.put, List.setIfInBounds_toArray, List.set_cons_zero, List.set_cons_succ]
  refine wpAnyH_take (i := 3) (oi := { dst := some 9, op := Go.Op.load 22 (Go.Operand.tmp 8), type := 22, pos := "post.go:39", after := #[{ on := 2, ground := Go.Ground.data }], guard := none }) (v := ?v4) rfl (by kernel_rfl) (by kernel_rfl) (by kernel_rfl) (fun _ _ _ h => h) (Or.inl ⟨by kernel_rfl, ?h4⟩) (by assumption) ?r4
  case h4 => (intro w hSw; (try dsimp only at hSw); go_simp; try with_reducible rfl)
  try simp only [Act.put, List.setIfInBounds_toArray, List.set_cons_zero, List.set_cons_succ]
  refine wpAnyH_ready (rs := [4]) (by kernel_rfl) (by simp) ?_
  refine AllReadyH.cons (o := { dst := some 10, op := Go.Op.call { callee := Go.Callee.value (Go.Operand.func 45), args := #[Go.Operand.tmp 9], argTypes := #[22] }, type := 22, pos := "post.go:39", after := #[{ on := 3, ground := Go.Ground.data }], guard := none }) rfl (fun K hK => ?_) AllReadyH.nil
  go_simp
  refine (hcl.out _ hHeld.1).mono ?_
  intro e u4 hm
  have b4 : Below W1.drew.heap.size W1.drew u4 := by obtain ⟨_, _, _, hb⟩ := hm; exact hb
  obtain ⟨a4, c4, rfl, hz4, hfin4⟩ := zone_end hHeld.1 (by omega : w.heap.size ≤ w.heap.size + 2) XP.out.r.drew hm
  have hx4 := And.intro (hHeld.1.trans (b4.mono hHeld.1.size)) (hHeld.2.below b4 hHeld.2.lt)
  have y0 := hz4.cell 0
  have y1 := hz4.cell 1
  have g0 := hz4.free 0
  have g1 := hz4.free 1
  go_simp
  refine hK.out _ _ (hx4) (fun hHeld => ?_)
  clear hK K
  try simp only [Act.put, List.setIfInBounds_toArray, List.set_cons_zero, List.set_cons_succ]
  refine wpAnyH_take (i := 5) (oi := { dst := some 11, op := Go.Op.build 24 #[(0, Go.Operand.tmp 7), (1, Go.Operand.tmp 10)], type := 24, pos := "post.go:39", after := #[{ on := 1, ground := Go.Ground.data }, { on := 4, ground := Go.Ground.data }], guard := none }) (v := ?v5) rfl (by kernel_rfl) (by kernel_rfl) (by kernel_rfl) (fun _ _ _ h => h) (Or.inl ⟨by kernel_rfl, ?h5⟩) (by assumption) ?r5
  case h5 => (intro w hSw; (try dsimp only at hSw); go_simp; try with_reducible rfl)
  try simp only [Act.put, List.setIfInBounds_toArray, List.set_cons_zero, List.set_cons_succ]
  refine wpAnyH_ready (rs := [6]) (by kernel_rfl) (by simp) ?_
  refine AllReadyH.cons (o := { dst := none, op := Go.Op.store 24 (Go.Operand.tmp 4) (Go.Operand.tmp 11), type := 0, pos := "post.go:39", after := #[{ on := 5, ground := Go.Ground.data }, { on := 4, ground := Go.Ground.chain }, { on := 0, ground := Go.Ground.phase }, { on := 1, ground := Go.Ground.phase }, { on := 2, ground := Go.Ground.phase }, { on := 3, ground := Go.Ground.phase }, { on := 4, ground := Go.Ground.phase }, { on := 5, ground := Go.Ground.phase }], guard := none }) rfl (fun K hK => ?_) AllReadyH.nil
  go_simp
  have hx6 := And.intro ((hHeld.1.setCell (p := ⟨w.heap.size + 2, 0, none⟩) (by show w.heap.size ≤ w.heap.size + 2; omega) (.int .i64 n)).setCell (p := ⟨w.heap.size + 2, 1, none⟩) (by show w.heap.size ≤ w.heap.size + 2; omega) (.slice a4 l.length c4)) ((hHeld.2.far (p := ⟨w.heap.size + 2, 0, none⟩) (by simp) (.int .i64 n)).far (p := ⟨w.heap.size + 2, 1, none⟩) (by simp) (.slice a4 l.length c4))
  refine hK.out _ _ (hx6) (fun hHeld => ?_)
  clear hK K
  try simp only [Act.put, List.setIfInBounds_toArray, List.set_cons_zero, List.set_cons_succ]
  refine wpAnyH_take (i := 7) (oi := { dst := some 5, op := Go.Op.assign (Go.Operand.const (Go.Value.int Go.IntKind.i64 0)), type := 29, pos := "post.go:39", after := #[{ on := 6, ground := Go.Ground.chain }, { on := 0, ground := Go.Ground.phase }, { on := 1, ground := Go.Ground.phase }, { on := 2, ground := Go.Ground.phase }, { on := 3, ground := Go.Ground.phase }, { on := 4, ground := Go.Ground.phase }, { on := 5, ground := Go.Ground.phase }, { on := 6, ground := Go.Ground.phase }], guard := none }) (v := ?v6) rfl (by kernel_rfl) (by kernel_rfl) (by kernel_rfl) (fun _ _ _ h => h) (Or.inl ⟨by kernel_rfl, ?h6⟩) (by assumption) ?r6
  case h6 => (intro w hSw; (try dsimp only at hSw); go_simp; try with_reducible rfl)
  try simp only [Act.put, List.setIfInBounds_toArray, List.set_cons_zero, List.set_cons_succ]
  refine wpAnyH_done (by kernel_rfl) ?_ _
  have hfin := Lib.hid (hfin4 n 0)
  clear hfin4 hz4 hm hx4 hx6 hHeld y0 y1 g0 g1 f0 f1
  go_wp2
  exact zone_ret2 hfin.out.1 hfin.out.2.1 _ _ 4 5 rfl rfl rfl rfl
set_option maxRecDepth 100000 in
set_option maxHeartbeats 1000000 in
theorem ppick_any (n : Nat) (l : List Int) (hz : IsZ n l) (k x y c d : Int) (X : Nat) (ex : x = X) (hx0 : 1 ≤ X) (hx : X ≤ n) (hc : -1099511627776 ≤ c ∧ c ≤ 1099511627776) (a : Option Addr) (m ca : Nat) (w : World) (h : SL w a m ca l) : Calls Tryd.prog 33 #[.agg #[.int .i64 n, .slice a m ca], .agg #[.int .i64 k, .int .i64 x, .int .i64 y, .int .i64 c, .int .i64 d]] w (ZoneE n (limitL n (limitL n (forgetL n l X) X 0 d) 0 X (-c)) 0 w) := by
  obtain ⟨W1, hW1⟩ : ∃ W1, W1 = ((w.alloc (.cells #[.int .i64 n, .slice a m ca] 24)).alloc (.cells #[.int .i64 k, .int .i64 x, .int .i64 y, .int .i64 c, .int .i64 d] 26)).alloc (.cells #[.int .i64 0, .slice none 0 0] 24) := ⟨_, rfl⟩
  have X1 : P3 w W1 (.int .i64 n) (.slice a m ca) #[.int .i64 k, .int .i64 x, .int .i64 y, .int .i64 c, .int .i64 d] (.int .i64 0) (.slice none 0 0) := by rw [hW1]; exact p3_new _ _ _ _
  have hW1' := Lib.hid hW1
  have XP := Lib.hid X1
  have k0 := X1.z.cell 0
  have k1 := X1.z.cell 1
  have s1 := X1.s.cell 1
  have s2 := X1.s.cell 2
  have s3 := X1.s.cell 3
  have s4 := X1.s.cell 4
  subst ex
  have hn := hz.1
  have wr1 : IntKind.i64.wrap (-c) = -c := by simp [IntKind.wrap, IntKind.bits, IntKind.signed]; omega
  have hSL := Lib.hid (h.below X1.bl)
  have hF := Lib.hid (fun W aa mm cc hs => zforget_ok n l hz X hx0 hx aa mm cc W hs)
  have hL1 := Lib.hid (fun W aa mm cc hs => zlimit_ok n (forgetL n l X) (forgetL_isz hn l X) X 0 hx (Nat.zero_le _) d aa mm cc W hs)
  have hL2 := Lib.hid (fun W aa mm cc hs => zlimit_ok n (limitL n (forgetL n l X) X 0 d) (limitL_isz hn _ _ _ _) 0 X (Nat.zero_le _) hx (-c) aa mm cc W hs)
  rw [show ((0 : Nat) : Int) = 0 from rfl] at hL1 hL2
  clear hW1 X1 h hz hc
  go_enter Tryd.func33, Tryd.ntmps33
  have q1 := Lib.hid (hF.out W1 a m ca hSL.out)
  go_wp2_with fail
  rw [← hW1'.out]
  refine q1.out.mono ?_
  rintro e u1 ⟨a1, c1, rfl, hc1, t1, b1, nw1⟩
  have hlen1 : (forgetL n l X).length ≤ 81 := stepL_small n hn _ _
  have P := XP.out.on b1
  have y01 := P.z.cell 0
  have y11 := P.z.cell 1
  have g01 := P.z.free 0
  have g11 := P.z.free 1
  have p11 := P.s.cell 1
  have p31 := P.s.cell 3
  have p41 := P.s.cell 4
  have glt : w.heap.size < W1.heap.size := XP.out.z.lt
  obtain ⟨V1, hV1⟩ : ∃ V, V = (u1.setCell ⟨w.heap.size, 0, none⟩ (.int .i64 n)).setCell ⟨w.heap.size, 1, none⟩ (.slice a1 (forgetL n l X).length c1) := ⟨_, rfl⟩
  have X1 := Lib.hid (show P3 w V1 _ _ _ _ _ by rw [hV1]; exact P.setz _ _)
  have S1 := Lib.hid (show SL V1 a1 (forgetL n l X).length c1 (forgetL n l X) by rw [hV1]; exact sl_set ⟨rfl, hc1, by omega, t1⟩ _ (.inr (fun p hp => by have := nw1 p hp; omega)) _ _)
  have hV1' := Lib.hid hV1
  clear b1 nw1 t1 hc1 hlen1 P glt hV1 q1 k0 k1 s1 s2 s3 s4 hW1'

  have q2 := Lib.hid (hL1.out V1 a1 _ c1 S1.out)
  go_wp2_with fail
  rw [← hV1'.out]
  refine q2.out.mono ?_
  rintro e u2 ⟨a2, c2, rfl, hc2, t2, b2, nw2⟩
  have hlen2 : (limitL n (forgetL n l X) X 0 d).length ≤ 81 := stepL_small n hn _ _
  have P := X1.out.on b2
  have y02 := P.z.cell 0
  have y12 := P.z.cell 1
  have g02 := P.z.free 0
  have g12 := P.z.free 1
  have p12 := P.s.cell 1
  have p32 := P.s.cell 3
  have p42 := P.s.cell 4
  have glt : w.heap.size < V1.heap.size := X1.out.z.lt
  obtain ⟨V2, hV2⟩ : ∃ V, V = (u2.setCell ⟨w.heap.size, 0, none⟩ (.int .i64 n)).setCell ⟨w.heap.size, 1, none⟩ (.slice a2 (limitL n (forgetL n l X) X 0 d).length c2) := ⟨_, rfl⟩
  have X2 := Lib.hid (show P3 w V2 _ _ _ _ _ by rw [hV2]; exact P.setz _ _)
  have S2 := Lib.hid (show SL V2 a2 (limitL n (forgetL n l X) X 0 d).length c2 (limitL n (forgetL n l X) X 0 d) by rw [hV2]; exact sl_set ⟨rfl, hc2, by omega, t2⟩ _ (.inr (fun p hp => by have := nw2 p hp; omega)) _ _)
  have hV2' := Lib.hid hV2
  clear b2 nw2 t2 hc2 hlen2 P glt hV2 q2 y01 y11 g01 g11 p11 p31 p41
  have q := Lib.hid (hL2.out V2 a2 _ c2 S2.out)
  go_wp2_with fail
  rw [← hV2'.out]
  refine q.out.mono ?_
  rintro e w7 ⟨a7, c7, rfl, hc7, s7, b7, nw7⟩
  have Zd := X2.out.r.below b7 X2.out.r.lt
  have y0 := Zd.cell 0
  have y1 := Zd.cell 1
  have f0 := Zd.free 0
  have f1 := Zd.free 1
  have hfin := Lib.hid (zone_put (n := n) (err := 0) X2.out.bl (by omega) X2.out.r hc7 s7 b7 nw7)
  clear Zd q
  go_wp2
  exact zone_ret2 hfin.out.1 hfin.out.2.1 _ _ 4 5 rfl rfl rfl rfl
end Go.Proofs.YtplgmmjppmpnoaaDoor
