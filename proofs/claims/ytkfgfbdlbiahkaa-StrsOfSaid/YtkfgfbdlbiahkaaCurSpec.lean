/- What a reader's calls tell, as plain functions of its bytes, its place, its error. -/
import Derived.Test.YtkfgfbdlbiahkaaCurData
namespace Go.Proofs.Ytkfgfbdlbiahkaa
open Go.RowKit
set_option linter.unusedVariables false

/-- Four bytes as a number. -/
def wordAt (bs : List Int) (p : Nat) : Int := bs.getD p 0 + 256 * bs.getD (p + 1) 0 + 65536 * bs.getD (p + 2) 0 + 16777216 * bs.getD (p + 3) 0

def uO (bs : List Int) (p : Nat) (e : Int) : Int × Nat × Int := if e = 0 then ((getL 0 0 1 (bs.drop p)).1, p + (getL 0 0 1 (bs.drop p)).2.1.toNat, (getL 0 0 1 (bs.drop p)).2.2) else (0, p, e)
def iO (bs : List Int) (p : Nat) (e : Int) : Int × Nat × Int := (zag (uO bs p e).1, (uO bs p e).2)
def byteO (bs : List Int) (p : Nat) (e : Int) : Int × Nat × Int := if e = 0 then (if p + 1 ≤ bs.length then (bs.getD p 0, p + 1, 0) else (0, p, 10)) else (0, p, e)
def wordO (bs : List Int) (p : Nat) (e : Int) : Int × Nat × Int := if e = 0 then (if p + 4 ≤ bs.length then (wordAt bs p, p + 4, 0) else (0, p, 10)) else (0, p, e)
def countO (m : Int) (bs : List Int) (p : Nat) (e : Int) : Int × Nat × Int := if e = 0 ∧ (uO bs p e).2.2 = 0 ∧ (m < 0 ∨ m < (uO bs p e).1) then (0, p, 3) else uO bs p e
def textO (m : Int) (bs : List Int) (p : Nat) (e : Int) : ByteArray × Nat × Int :=
  if (countO m bs p e).2.2 = 0 then (if (countO m bs p e).2.1 + (countO m bs p e).1.toNat ≤ bs.length then (strOfNums ((bs.drop (countO m bs p e).2.1).take (countO m bs p e).1.toNat), (countO m bs p e).2.1 + (countO m bs p e).1.toNat, 0) else (⟨#[]⟩, p, 10))
  else (⟨#[]⟩, p, (countO m bs p e).2.2)
def failO (x : Int) (e : Int) : Int := if e = 0 then (if x = 0 then 1 else x) else e
def endO (bs : List Int) (p : Nat) (e : Int) : Int := if e = 0 ∧ p < bs.length then 3 else e

/-- What a number's reading comes to. -/
theorem uO_cases {bs : List Int} (hb : Bs bs) {p : Nat} (hp : p ≤ bs.length) : (uO bs p 0 = (0, p, 10) ∧ getL 0 0 1 (bs.drop p) = (0, 0, 10)) ∨ (uO bs p 0 = (0, p, 11) ∧ getL 0 0 1 (bs.drop p) = (0, 0, 11)) ∨
    ∃ (n : Int) (j : Nat), uO bs p 0 = (n, p + j, 0) ∧ getL 0 0 1 (bs.drop p) = (n, (j : Int), 0) ∧ 0 ≤ n ∧ n ≤ 18446744073709551615 ∧ p + j ≤ bs.length := by
  unfold uO
  rcases got_put0 (hb.drop p) with h | h | ⟨n, j, h, h0, h1, h2⟩
  · left; rw [h]; exact ⟨rfl, rfl⟩
  · right; left; rw [h]; exact ⟨rfl, rfl⟩
  · right; right; refine ⟨n, j, ?_, h, h0, h1, ?_⟩
    · rw [h]; rfl
    · simp at h2; omega
theorem uO_at {bs : List Int} (hb : Bs bs) {p : Nat} (hp : p ≤ bs.length) (e : Int) : (uO bs p e).2.1 ≤ bs.length := by
  by_cases he : e = 0
  · subst he
    rcases uO_cases hb hp with ⟨h, _⟩ | ⟨h, _⟩ | ⟨n, j, h, _, _, _, h2⟩ <;> rw [h] <;> simp <;> omega
  · simp [uO, he, hp]
theorem iO_at {bs : List Int} (hb : Bs bs) {p : Nat} (hp : p ≤ bs.length) (e : Int) : (iO bs p e).2.1 ≤ bs.length := uO_at hb hp e
theorem byteO_at {bs : List Int} {p : Nat} (hp : p ≤ bs.length) (e : Int) : (byteO bs p e).2.1 ≤ bs.length := by unfold byteO; (repeat' split) <;> simp <;> omega
theorem wordO_at {bs : List Int} {p : Nat} (hp : p ≤ bs.length) (e : Int) : (wordO bs p e).2.1 ≤ bs.length := by unfold wordO; (repeat' split) <;> simp <;> omega
theorem countO_at {bs : List Int} (hb : Bs bs) {p : Nat} (hp : p ≤ bs.length) (m e : Int) : (countO m bs p e).2.1 ≤ bs.length := by
  unfold countO; split
  · exact hp
  · exact uO_at hb hp e
theorem textO_at {bs : List Int} {p : Nat} (hp : p ≤ bs.length) (m e : Int) : (textO m bs p e).2.1 ≤ bs.length := by unfold textO; (repeat' split) <;> simp <;> omega
end Go.Proofs.Ytkfgfbdlbiahkaa
