/- Zones changed: to close once, or between two limits, comes to the same. -/
import Derived.Test.YtacbkddkjlnklaaZoneRef6
namespace Go.Proofs.Ytacbkddkjlnklaa
open Go.RowKit
set_option linter.unusedVariables false
set_option linter.unusedSimpArgs false

theorem limL_at {n : Nat} {l : List Int} (hl : l.length = sz n) {i j : Nat} (hi : i ≤ n) (hj : j ≤ n) (c : Int) {a b : Nat} (ha : a ≤ n) (hb : b ≤ n) : mat n (limL n l i j c) a b = if a = i ∧ b = j then min (mat n l i j) c else mat n l a b := by
  have hp : i * (n + 1) + j < l.length := by rw [hl]; exact place_lt hi hj
  by_cases e : a = i ∧ b = j
  · obtain ⟨rfl, rfl⟩ := e
    rw [if_pos ⟨rfl, rfl⟩]
    unfold mat limL
    simp [List.getD, hp]
  · rw [if_neg e]
    have hne : i * (n + 1) + j ≠ a * (n + 1) + b := by
      intro h
      have h1 := congrArg (fun x => x % (n + 1)) h
      have h2 := congrArg (fun x => x / (n + 1)) h
      simp only [place_mod hj, place_mod hb] at h1
      simp only [place_div hj, place_div hb] at h2
      exact e ⟨h2.symm, h1.symm⟩
    unfold mat limL
    simp [List.getD, List.getElem?_set, hne]
/-- A zone with valuations lies in another. -/
def Lies (n : Nat) (D A : List Int) : Prop := A ≠ [] ∧ Leq n (mat n D) (mat n A)
theorem lies_ext {n : Nat} {A B : List Int} (hA : IsZ n A) (hB : IsZ n B) (h : ∀ D, Full n D → (Lies n D A ↔ Lies n D B)) : A = B := by
  rcases hA.2 with eA | fA
  · rcases hB.2 with eB | fB
    · rw [eA, eB]
    · have := ((h B fB).2 ⟨fB.ne, fun i j _ _ => Int.le_refl _⟩).1
      exact absurd eA this
  · have h1 := (h A fA).1 ⟨fA.ne, fun i j _ _ => Int.le_refl _⟩
    have fB := hB.2.resolve_left h1.1
    have h2 := (h B fB).2 ⟨fB.ne, fun i j _ _ => Int.le_refl _⟩
    exact mat_ext fA.len fB.len (fun i j hi hj => Int.le_antisymm (h1.2 i j hi hj) (h2.2 i j hi hj))
theorem full_in {n : Nat} {D : List Int} (hD : Full n D) {i j : Nat} (hi : i ≤ n) (hj : j ≤ n) : mat n D i j ≤ widestF i j ∧ -2199023255552 ≤ mat n D i j := by
  have a := hD.up hi hj
  have b := hD.low hi hj
  have c := widestF_le j i
  omega
theorem lies_step {n : Nat} {D X : List Int} (hD : Full n D) (hX : IsZ n X) (f : List Int → List Int) (P : Prop) (hf : X ≠ [] → ((∀ i j, i ≤ n → j ≤ n → mat n D i j ≤ mat n (f X) i j) ↔ Leq n (mat n D) (mat n X) ∧ P)) : Lies n D (stepL n f X) ↔ Lies n D X ∧ P := by
  unfold stepL
  by_cases e : X = []
  · rw [if_pos e]
    constructor
    · intro h; exact absurd rfl h.1
    · intro h; exact absurd e h.1.1
  · rw [if_neg e]
    have hc : Leq n (mat n D) (mat n (clipL n (f X))) ↔ ∀ i j, i ≤ n → j ≤ n → mat n D i j ≤ mat n (f X) i j := by
      constructor
      · intro h i j hi hj
        have a := h i j hi hj
        unfold clipL at a
        rw [mat_matL _ hi hj] at a
        unfold clipF at a
        have := full_in hD hi hj
        omega
      · intro h i j hi hj
        have a := h i j hi hj
        have := full_in hD hi hj
        unfold clipL
        rw [mat_matL _ hi hj]
        unfold clipF
        omega
    constructor
    · intro h
      obtain ⟨-, -, h5⟩ := closedL_is h.1
      obtain ⟨q1, q2⟩ := (hf e).1 (hc.1 (fun i j hi hj => Int.le_trans (h.2 i j hi hj) (h5 i j hi hj)))
      exact ⟨⟨e, q1⟩, q2⟩
    · rintro ⟨⟨-, h1⟩, h2⟩
      obtain ⟨q1, q2⟩ := closedL_max hD.closed (hc.2 ((hf e).2 ⟨h1, h2⟩))
      exact ⟨closedL_ne q1, q2⟩
theorem lim_leq {n : Nat} {D l : List Int} (hl : l.length = sz n) {i j : Nat} (hi : i ≤ n) (hj : j ≤ n) (c : Int) : (∀ a b, a ≤ n → b ≤ n → mat n D a b ≤ mat n (limL n l i j c) a b) ↔ Leq n (mat n D) (mat n l) ∧ mat n D i j ≤ c := by
  constructor
  · intro h
    refine ⟨fun a b ha hb => ?_, ?_⟩
    · have q := h a b ha hb
      rw [limL_at hl hi hj c ha hb] at q
      split at q
      · rename_i e; obtain ⟨rfl, rfl⟩ := e; omega
      · exact q
    · have q := h i j hi hj
      rw [limL_at hl hi hj c hi hj, if_pos ⟨rfl, rfl⟩] at q
      omega
  · rintro ⟨h1, h2⟩ a b ha hb
    have q := h1 a b ha hb
    rw [limL_at hl hi hj c ha hb]
    split
    · rename_i e; obtain ⟨rfl, rfl⟩ := e; omega
    · exact q
theorem lies_limit {n : Nat} {D X : List Int} (hD : Full n D) (hX : IsZ n X) {i j : Nat} (hi : i ≤ n) (hj : j ≤ n) (c : Int) : Lies n D (limitL n X i j c) ↔ Lies n D X ∧ mat n D i j ≤ c :=
  lies_step hD hX _ _ (fun e => lim_leq (hX.2.resolve_left e).len hi hj c)
theorem lies_tie {n : Nat} {D X : List Int} (hD : Full n D) (hX : IsZ n X) {i j : Nat} (hi : i ≤ n) (hj : j ≤ n) (c : Int) : Lies n D (stepL n (fun l => tieL n l i j c) X) ↔ Lies n D X ∧ mat n D i j ≤ c ∧ mat n D j i ≤ -c :=
  lies_step hD hX _ _ (fun e => by
    have hl := (hX.2.resolve_left e).len
    show (∀ a b, a ≤ n → b ≤ n → mat n D a b ≤ mat n (limL n (limL n X i j c) j i (-c)) a b) ↔ _
    rw [lim_leq (by rw [limL_len, hl]) hj hi (-c), ← and_assoc]
    refine and_congr_left fun _ => ?_
    exact lim_leq hl hi hj c)
/-- Let of another variable: the program's way and the document's. -/
theorem tie_both {n : Nat} (hn : n ≤ 8) (l : List Int) {i j : Nat} (hi : i ≤ n) (hj : j ≤ n) (c : Int) : letTieL n l i j c = limitL n (limitL n (forgetL n l i) i j c) j i (-c) := by
  have hX : IsZ n (forgetL n l i) := stepL_isz hn _ _
  have hY : IsZ n (limitL n (forgetL n l i) i j c) := stepL_isz hn _ _
  refine lies_ext (stepL_isz hn _ _) (stepL_isz hn _ _) (fun D hD => ?_)
  rw [lies_limit hD hY hj hi, lies_limit hD hX hi hj, and_assoc]
  exact lies_tie hD hX hi hj c
/-- A number further off than two variables may lie makes nothing. -/
theorem tie_far {n : Nat} (hn : n ≤ 8) (l : List Int) {i j : Nat} (hi : i ≤ n) (hj : j ≤ n) (c : Int) (hc : 2199023255552 < c ∨ c < -2199023255552) : letTieL n l i j c = [] := by
  have hX : IsZ n (forgetL n l i) := stepL_isz hn _ _
  have hA : IsZ n (letTieL n l i j c) := stepL_isz hn _ _
  rcases hA.2 with e | fA
  · exact e
  · have h := (lies_tie fA hX hi hj c).1 ⟨fA.ne, fun a b _ _ => Int.le_refl _⟩
    have h1 := full_in fA hi hj
    have h2 := full_in fA hj hi
    have h3 := widestF_le i j
    have h4 := widestF_le j i
    obtain ⟨-, r1, r2⟩ := h
    omega
end Go.Proofs.Ytacbkddkjlnklaa
