/- What is read where numbers, words, texts lie. Plain lists. -/
import Derived.Test.YtkfgfbdlbiahkaaCurPens
namespace Go.Proofs.Ytkfgfbdlbiahkaa
open Go.RowKit
set_option linter.unusedVariables false
set_option linter.unusedSimpArgs false

theorem below_box (w : World) (v1 : Array Value) (t1 : TypeId) : Below w.heap.size w (w.alloc (.cells v1 t1)) := (Below.refl _ _).alloc (Nat.le_refl _) _
theorem wordB_len (n : Int) : (wordB n).length = 4 := rfl
theorem Turns.allS {W w w' : World} {F F' : List Nat} (h : Turns F F' w w') (hb : Below W.heap.size W w) (hF : ∀ x ∈ F, W.heap.size ≤ x) : Below W.heap.size W w' ∧ ∀ x ∈ F', W.heap.size ≤ x :=
  ⟨hb.trans ((h.1.mono hb.size).toBelow hF), fun x hx => (h.2 x hx).elim (hF x) (fun h => Nat.le_trans hb.size h)⟩
section
variable {L rest : List Int} {p : Nat}
theorem fit_at {l : List Int} (h : L.drop p = l ++ rest) (h0 : 0 < l.length) : p + l.length ≤ L.length := by
  have := congrArg List.length h
  simp at this
  omega
theorem at_drp {l : List Int} (h : L.drop p = l ++ rest) {i : Nat} (hi : i < l.length) : L.getD (p + i) 0 = l.getD i 0 := by
  have h1 : (L.drop p)[i]? = (l ++ rest)[i]? := by rw [h]
  rw [List.getElem?_drop, List.getElem?_append_left hi] at h1
  simp only [List.getD, h1]
theorem rd_byte {n : Int} (h : L.drop p = [n] ++ rest) : byteO L p 0 = (n, p + 1, 0) := by
  have hf := fit_at h (by simp)
  have e0 := at_drp h (i := 0) (by simp)
  simp only [List.length_singleton] at hf
  simp only [Nat.add_zero] at e0
  unfold byteO
  rw [if_pos rfl, if_pos hf, e0]
  simp
theorem rd_u {n : Nat} (h1 : n ≤ 9223372036854775807) (h : L.drop p = leb n ++ rest) : uO L p 0 = ((n : Int), p + (leb n).length, 0) := by
  unfold uO
  have := getL_leb0 (n := (n : Int)) (by omega) (by omega) rest
  simp only [Int.toNat_natCast] at this
  rw [if_pos rfl, h, this]
  simp
theorem rd_word {n : Int} (h0 : 0 ≤ n) (h1 : n ≤ 4294967295) (h : L.drop p = wordB n ++ rest) : wordO L p 0 = (n, p + 4, 0) := by
  have hf := fit_at h (by simp [wordB])
  have e0 := at_drp h (i := 0) (by simp [wordB])
  have e1 := at_drp h (i := 1) (by simp [wordB])
  have e2 := at_drp h (i := 2) (by simp [wordB])
  have e3 := at_drp h (i := 3) (by simp [wordB])
  rw [wordB_len] at hf
  unfold wordO wordAt
  simp only [Nat.add_zero] at e0
  rw [if_pos rfl, if_pos hf, e0, e1, e2, e3]
  simp [wordB]
  omega
theorem rd_text {b : List Int} {M : Nat} (hb : b.length ≤ M) (hM : M ≤ 1048576) (h : L.drop p = leb b.length ++ (b ++ rest)) : textO (M : Int) L p 0 = (strOfNums b, p + (leb b.length).length + b.length, 0) := by
  have hu := rd_u (n := b.length) (by omega) h
  have hc : countO (M : Int) L p 0 = ((b.length : Int), p + (leb b.length).length, 0) := by
    unfold countO
    rw [hu]
    rw [if_neg]
    rintro ⟨-, -, h1 | h1⟩ <;> omega
  have hd : L.drop (p + (leb b.length).length) = b ++ rest := by
    rw [← List.drop_drop, h, List.drop_left]
  have hf : p + (leb b.length).length + b.length ≤ L.length := by
    have := congrArg List.length h
    have := leb_pos b.length
    simp at *
    omega
  unfold textO
  rw [hc]
  simp only [Int.toNat_natCast, if_true]
  rw [if_pos hf, hd, List.take_append_of_le_length (by omega), List.take_of_length_le (by omega)]
end
end Go.Proofs.Ytkfgfbdlbiahkaa
