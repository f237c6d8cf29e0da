/- A reader's answers, told of the bytes from a place on. Plain lists. -/
import Derived.Test.YtnjdgnlgdokddaaSectGet
namespace Go.Proofs.Ytnjdgnlgdokddaa
open Go.RowKit
set_option linter.unusedVariables false
set_option linter.unusedSimpArgs false

def shiftO {α : Type} (k : Nat) (o : α × Nat × Int) : α × Nat × Int := (o.1, k + o.2.1, o.2.2)
theorem byteO_shift (B : List Int) (k p : Nat) (e : Int) : byteO B (k + p) e = shiftO k (byteO (B.drop k) p e) := by
  unfold byteO shiftO
  by_cases he : e = 0
  · by_cases h : p + 1 ≤ (B.drop k).length
    · have h2 : k + p + 1 ≤ B.length := by rw [List.length_drop] at h; omega
      rw [if_pos he, if_pos he, if_pos h, if_pos h2]
      simp [Nat.add_assoc]
    · have h2 : ¬ k + p + 1 ≤ B.length := by rw [List.length_drop] at h; omega
      rw [if_pos he, if_pos he, if_neg h, if_neg h2]
  · rw [if_neg he, if_neg he]
theorem uO_shift (B : List Int) (k p : Nat) (e : Int) : uO B (k + p) e = shiftO k (uO (B.drop k) p e) := by
  unfold uO shiftO
  by_cases he : e = 0
  · rw [if_pos he, if_pos he, List.drop_drop]
    simp [Nat.add_assoc]
  · rw [if_neg he, if_neg he]
theorem countO_shift (m : Int) (B : List Int) (k p : Nat) (e : Int) : countO m B (k + p) e = shiftO k (countO m (B.drop k) p e) := by
  unfold countO
  rw [uO_shift]
  by_cases h : e = 0 ∧ (uO (B.drop k) p e).2.2 = 0 ∧ (m < 0 ∨ m < (uO (B.drop k) p e).1)
  · rw [if_pos h, if_pos (by simpa [shiftO] using h)]; rfl
  · rw [if_neg h, if_neg (by simpa [shiftO] using h)]
theorem textO_shift (m : Int) (B : List Int) (k : Nat) (hk : k ≤ B.length) (p : Nat) (e : Int) : textO m B (k + p) e = shiftO k (textO m (B.drop k) p e) := by
  unfold textO
  rw [countO_shift]
  have e1 : (shiftO k (countO m (B.drop k) p e)).1 = (countO m (B.drop k) p e).1 := rfl
  have e2 : (shiftO k (countO m (B.drop k) p e)).2.1 = k + (countO m (B.drop k) p e).2.1 := rfl
  have e3 : (shiftO k (countO m (B.drop k) p e)).2.2 = (countO m (B.drop k) p e).2.2 := rfl
  rw [e1, e2, e3]
  generalize countO m (B.drop k) p e = c
  by_cases h : c.2.2 = 0
  · rw [if_pos h, if_pos h]
    by_cases h2 : c.2.1 + c.1.toNat ≤ (B.drop k).length
    · have h3 : k + c.2.1 + c.1.toNat ≤ B.length := by rw [List.length_drop] at h2; omega
      rw [if_pos h2, if_pos h3, List.drop_drop]; simp [shiftO, Nat.add_assoc]
    · have h3 : ¬ k + c.2.1 + c.1.toNat ≤ B.length := by rw [List.length_drop] at h2; omega
      rw [if_neg h2, if_neg h3]; rfl
  · rw [if_neg h, if_neg h]; rfl
theorem wordO_shift (B : List Int) (k p : Nat) (e : Int) : wordO B (k + p) e = shiftO k (wordO (B.drop k) p e) := by
  unfold wordO
  by_cases he : e = 0
  · rw [if_pos he, if_pos he]
    by_cases h : p + 4 ≤ (B.drop k).length
    · have h2 : k + p + 4 ≤ B.length := by rw [List.length_drop] at h; omega
      rw [if_pos h, if_pos h2]
      have hg : ∀ i, (B.drop k).getD i 0 = B.getD (k + i) 0 := by intro i; simp [List.getD]
      unfold wordAt shiftO
      simp [hg, Nat.add_assoc]
    · have h2 : ¬ k + p + 4 ≤ B.length := by rw [List.length_drop] at h; omega
      rw [if_neg h, if_neg h2]; rfl
  · rw [if_neg he, if_neg he]; rfl
theorem textO_err (m : Int) (bs : List Int) (p : Nat) (e : Int) (he : e ≠ 0) : (textO m bs p e).2.2 = e := by
  have hu : uO bs p e = (0, p, e) := by unfold uO; rw [if_neg he]
  have hc : countO m bs p e = (0, p, e) := by unfold countO; rw [if_neg (fun h => he h.1), hu]
  unfold textO
  rw [hc]
  simp [he]
theorem wordO_err (bs : List Int) (p : Nat) (e : Int) (he : e ≠ 0) : (wordO bs p e).2.2 = e := by unfold wordO; rw [if_neg he]

/-- What the document's reader tells of a section, as sect's own does. -/
structure RefOne (B : List Int) (at_ : Nat) (last : Int) (cnt : Nat) (tg : Int) (sx : ByteArray) (p2 : Nat) (wv : Int) (p3 : Nat) (e3 : Int) : Prop where
  bad : e3 ≠ 0 → oneE last cnt (B.drop at_) = e3
  good : e3 = 0 → (oneT (B.drop at_)).1 = tg ∧ (oneX (B.drop at_)).1 = sx ∧ at_ + (oneW (B.drop at_)).2.1 = p3 ∧ at_ ≤ p2 ∧ p2 ≤ p3 ∧ p3 ≤ B.length ∧ at_ < p3 ∧ 0 ≤ tg ∧ tg ≤ 255 ∧ 0 ≤ wv ∧ wv ≤ 4294967295 ∧
    oneE last cnt (B.drop at_) = (if ((csum 0 ((B.drop at_).take (p2 - at_)) : Nat) : Int) = wv then (if last < tg then (if cnt < 16 then 0 else 3) else 41) else 42)

theorem one_ref {B : List Int} (hB : Bs B) (hl : B.length ≤ 1048608) {at_ : Nat} (hat : at_ ≤ B.length) (last : Int) (cnt : Nat) :
    RefOne B at_ last cnt (byteO B at_ 0).1 (textO 1048576 B (byteO B at_ 0).2.1 (byteO B at_ 0).2.2).1 (textO 1048576 B (byteO B at_ 0).2.1 (byteO B at_ 0).2.2).2.1
      (wordO B (textO 1048576 B (byteO B at_ 0).2.1 (byteO B at_ 0).2.2).2.1 (textO 1048576 B (byteO B at_ 0).2.1 (byteO B at_ 0).2.2).2.2).1
      (wordO B (textO 1048576 B (byteO B at_ 0).2.1 (byteO B at_ 0).2.2).2.1 (textO 1048576 B (byteO B at_ 0).2.1 (byteO B at_ 0).2.2).2.2).2.1
      (wordO B (textO 1048576 B (byteO B at_ 0).2.1 (byteO B at_ 0).2.2).2.1 (textO 1048576 B (byteO B at_ 0).2.1 (byteO B at_ 0).2.2).2.2).2.2 := by
  obtain ⟨D, hD⟩ : ∃ D, D = B.drop at_ := ⟨_, rfl⟩
  have hDl : D.length = B.length - at_ := by rw [hD, List.length_drop]
  have hDb : Bs D := by rw [hD]; exact hB.drop at_
  have hbs : oneBs D = D := by unfold oneBs; exact List.take_of_length_le (by omega)
  have t1 : byteO B at_ 0 = shiftO at_ (oneT D) := by
    have := byteO_shift B at_ 0 0
    rw [← hD] at this
    unfold oneT
    rw [hbs]
    simpa using this
  have hT : (oneT D).2.1 ≤ D.length := by unfold oneT; rw [hbs]; exact byteO_at (by omega) 0
  by_cases e1 : (oneT D).2.2 = 0
  · have t2 : textO 1048576 B (byteO B at_ 0).2.1 (byteO B at_ 0).2.2 = shiftO at_ (oneX D) := by
      rw [t1]
      show textO 1048576 B (at_ + (oneT D).2.1) (oneT D).2.2 = _
      rw [e1, textO_shift _ _ _ hat, ← hD]
      unfold oneX
      rw [hbs]
    have hX : (oneX D).2.1 ≤ D.length := by unfold oneX; rw [hbs]; exact textO_at hT _ 0
    rw [t2]
    have s1 : (shiftO at_ (oneX D)).1 = (oneX D).1 := rfl
    have s2 : (shiftO at_ (oneX D)).2.1 = at_ + (oneX D).2.1 := rfl
    have s3 : (shiftO at_ (oneX D)).2.2 = (oneX D).2.2 := rfl
    rw [s1, s2, s3, t1]
    by_cases e2 : (oneX D).2.2 = 0
    · have t3 : wordO B (at_ + (oneX D).2.1) (oneX D).2.2 = shiftO at_ (oneW D) := by
        rw [e2, wordO_shift, ← hD]
        unfold oneW
        rw [hbs]
      rw [t3]
      have hW : (oneW D).2.1 ≤ D.length := by unfold oneW; rw [hbs]; exact wordO_at hX 0
      constructor
      · intro h
        have h' : (oneW D).2.2 ≠ 0 := h
        rw [← hD]
        unfold oneE
        rw [if_neg (by simp [e1]), if_neg (by simp [e2]), if_pos h']; rfl
      · intro h
        have h' : (oneW D).2.2 = 0 := h
        have hv : 0 ≤ (oneT D).1 ∧ (oneT D).1 ≤ 255 := by unfold oneT; rw [hbs]; exact byteO_val hDb 0
        have hw : (oneX D).2.1 + 4 = (oneW D).2.1 ∧ 0 ≤ (oneW D).1 ∧ (oneW D).1 ≤ 4294967295 := by
          unfold oneW at h' ⊢
          rw [hbs] at h' ⊢
          unfold wordO at h' ⊢
          rw [if_pos rfl] at h' ⊢
          by_cases hq : (oneX D).2.1 + 4 ≤ D.length
          · rw [if_pos hq]
            refine ⟨rfl, ?_⟩
            show 0 ≤ wordAt D (oneX D).2.1 ∧ wordAt D (oneX D).2.1 ≤ 4294967295
            have r0 := hDb.at (i := (oneX D).2.1) (by omega)
            have r1 := hDb.at (i := (oneX D).2.1 + 1) (by omega)
            have r2 := hDb.at (i := (oneX D).2.1 + 2) (by omega)
            have r3 := hDb.at (i := (oneX D).2.1 + 3) (by omega)
            unfold wordAt
            omega
          · rw [if_neg hq] at h'
            simp at h'
        rw [← hD]
        refine ⟨rfl, rfl, rfl, by omega, ?_, ?_, ?_, hv.1, hv.2, hw.2.1, hw.2.2, ?_⟩
        · show at_ + (oneX D).2.1 ≤ at_ + (oneW D).2.1; omega
        · show at_ + (oneW D).2.1 ≤ B.length; omega
        · show at_ < at_ + (oneW D).2.1; omega
        · unfold oneE
          rw [if_neg (by simp [e1]), if_neg (by simp [e2]), if_neg (by simp [h'])]
          have q1 : (shiftO at_ (oneW D)).1 = (oneW D).1 := rfl
          have q2 : (shiftO at_ (oneT D)).1 = (oneT D).1 := rfl
          rw [q1, q2, Nat.add_sub_cancel_left]
          have q3 : (last < (oneT D).1 ∧ (oneT D).1 ≤ 255) ↔ last < (oneT D).1 := ⟨fun h => h.1, fun h => ⟨h, hv.2⟩⟩
          simp only [q3]
    · have t3 : (wordO B (at_ + (oneX D).2.1) (oneX D).2.2).2.2 = (oneX D).2.2 := wordO_err _ _ _ e2
      rw [t3]
      constructor
      · intro h
        rw [← hD]
        unfold oneE
        rw [if_neg (by simp [e1]), if_pos e2]
      · intro h; exact absurd h e2
  · have q0 : (byteO B at_ 0).2.2 = (oneT D).2.2 := by rw [t1]; rfl
    have q1 : (textO 1048576 B (byteO B at_ 0).2.1 (byteO B at_ 0).2.2).2.2 = (oneT D).2.2 := by rw [textO_err _ _ _ _ (by rw [q0]; exact e1), q0]
    have q2 : (wordO B (textO 1048576 B (byteO B at_ 0).2.1 (byteO B at_ 0).2.2).2.1 (textO 1048576 B (byteO B at_ 0).2.1 (byteO B at_ 0).2.2).2.2).2.2 = (oneT D).2.2 := by rw [wordO_err _ _ _ (by rw [q1]; exact e1), q1]
    rw [q2]
    constructor
    · intro h
      rw [← hD]
      unfold oneE
      rw [if_pos e1]
    · intro h; exact absurd h e1
end Go.Proofs.Ytnjdgnlgdokddaa
