/- What was written, call by call, and what is read of it. -/
import Derived.Test.YtnojapdcdjpebaaCurPuts
namespace Go.Proofs.Ytnojapdcdjpebaa
open Go.RowKit
set_option linter.unusedVariables false

/-- The bytes of the first k calls. -/
def cat (K M : Nat → Int) (Z : Nat → ByteArray) : Nat → List Int
  | 0 => []
  | k + 1 => cat K M Z k ++ opB (K k) (M k) (Z k)
theorem cat_more (K M : Nat → Int) (Z : Nat → ByteArray) (k : Nat) : ∀ n, ∃ rest, cat K M Z (k + n) = cat K M Z k ++ rest := by
  intro n
  induction n with
  | zero => exact ⟨[], by simp⟩
  | succ n ih =>
    obtain ⟨rest, h⟩ := ih
    exact ⟨rest ++ opB (K (k + n)) (M (k + n)) (Z (k + n)), by rw [show k + (n + 1) = (k + n) + 1 by omega, cat, h, List.append_assoc]⟩
theorem cat_at (K M : Nat → Int) (Z : Nat → ByteArray) {k len : Nat} (h : k < len) : ∃ rest, (cat K M Z len).drop (cat K M Z k).length = opB (K k) (M k) (Z k) ++ rest := by
  obtain ⟨rest, hr⟩ := cat_more K M Z (k + 1) (len - (k + 1))
  rw [show k + 1 + (len - (k + 1)) = len by omega, cat] at hr
  exact ⟨rest, by rw [hr, List.append_assoc, List.drop_left]⟩
theorem cat_bs (K M : Nat → Int) (Z : Nat → ByteArray) : ∀ k, Bs (cat K M Z k)
  | 0 => fun x hx => by simp [cat] at hx
  | k + 1 => fun x hx => by
    rcases List.mem_append.1 hx with h | h
    · exact cat_bs K M Z k x h
    · exact opB_bs _ _ _ x h
theorem cat_le (K M : Nat → Int) (Z : Nat → ByteArray) {k len : Nat} (h : k ≤ len) : (cat K M Z k).length ≤ (cat K M Z len).length := by
  obtain ⟨rest, hr⟩ := cat_more K M Z k (len - k)
  rw [show k + (len - k) = len by omega] at hr
  rw [hr]; simp

section
variable {L rest : List Int} {p : Nat}
theorem fit_of {l : List Int} (h : L.drop p = l ++ rest) (h0 : 0 < l.length) : p + l.length ≤ L.length := by
  have := congrArg List.length h
  simp at this
  omega
theorem read_u {n : Int} (h0 : 0 ≤ n) (h1 : n ≤ 18446744073709551615) (h : L.drop p = leb n.toNat ++ rest) : uO L p 0 = (n, p + (leb n.toNat).length, 0) := by
  unfold uO
  rw [if_pos rfl, h, getL_leb0 h0 h1 rest]
  simp
theorem read_i {n : Int} (hn : (Lit.int .i64 n).wf = true) (h : L.drop p = leb (zig n).toNat ++ rest) : iO L p 0 = (n, p + (leb (zig n).toNat).length, 0) := by
  have hz := zig_u64 hn
  unfold iO
  rw [read_u hz.1 (by have := hz.2; unfold U64 at this; omega) h]
  simp [zag_zig]
theorem at_drop {l : List Int} (h : L.drop p = l ++ rest) {i : Nat} (hi : i < l.length) : L.getD (p + i) 0 = l.getD i 0 := by
  have h1 : (L.drop p).getD i 0 = L.getD (p + i) 0 := by simp [List.getD, List.getElem?_drop]
  rw [← h1, h]
  simp [List.getD, List.getElem?_append, hi]
theorem read_byte {n : Int} (h : L.drop p = [n % 256] ++ rest) : byteO L p 0 = (n % 256, p + [n % 256].length, 0) := by
  have hf := fit_of h (by simp)
  have h1 := at_drop h (i := 0) (by simp)
  simp only [List.length_singleton] at hf
  unfold byteO
  rw [if_pos rfl, if_pos hf]
  simp only [Nat.add_zero] at h1
  rw [h1]; simp
theorem read_word {n : Int} (h0 : 0 ≤ n) (h1 : n ≤ 4294967295) (h : L.drop p = wordB n ++ rest) : wordO L p 0 = (n, p + (wordB n).length, 0) := by
  have hf := fit_of h (by simp [wordB])
  have e0 := at_drop h (i := 0) (by simp [wordB])
  have e1 := at_drop h (i := 1) (by simp [wordB])
  have e2 := at_drop h (i := 2) (by simp [wordB])
  have e3 := at_drop h (i := 3) (by simp [wordB])
  have hl : (wordB n).length = 4 := rfl
  rw [hl] at hf ⊢
  unfold wordO wordAt
  simp only [Nat.add_zero] at e0
  rw [if_pos rfl, if_pos hf, e0, e1, e2, e3]
  simp [wordB]
  omega
theorem read_text {s : ByteArray} (hs : s.size ≤ 1000) (h : L.drop p = leb s.size ++ codes s ++ rest) : textO (s.size : Int) L p 0 = (s, p + (leb s.size ++ codes s).length, 0) := by
  have hu : uO L p 0 = ((s.size : Int), p + (leb s.size).length, 0) := by
    rw [List.append_assoc] at h
    have := read_u (n := (s.size : Int)) (by omega) (by omega) (rest := codes s ++ rest) (by simpa using h)
    simpa using this
  have hc : countO (s.size : Int) L p 0 = ((s.size : Int), p + (leb s.size).length, 0) := by
    unfold countO
    rw [hu]
    simp
  have hd : L.drop (p + (leb s.size).length) = codes s ++ rest := by
    rw [← List.drop_drop, h, List.append_assoc, List.drop_left]
  have hlen := codes_length s
  have hf : p + (leb s.size).length + s.size ≤ L.length := by
    have := congrArg List.length h
    simp at this
    by_cases hz : 0 < (leb s.size).length
    · omega
    · have := leb_pos s.size
      omega
  unfold textO
  rw [hc]
  simp only [Int.toNat_natCast, if_true]
  rw [if_pos hf, hd, List.take_append_of_le_length (by omega), List.take_of_length_le (by omega), str_codes]
  simp [hlen, Nat.add_assoc]
end
end Go.Proofs.Ytnojapdcdjpebaa
