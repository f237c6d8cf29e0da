/- The bytes of a table of texts, and the table of bytes. Plain lists. -/
import Derived.Test.YtkfgfbdlbiahkaaStrsCheck
import Derived.Test.YtkfgfbdlbiahkaaCurSpec
namespace Go.Proofs.Ytkfgfbdlbiahkaa
open Go.RowKit
set_option linter.unusedVariables false
set_option linter.unusedSimpArgs false

/-- What stands ahead of the k-th text. -/
def lastT (l : List ByteArray) : ByteArray := l.getLast?.getD e0
def tailT (s : ByteArray) (k : Nat) : ByteArray := s.extract k s.size
theorem tail_codes (s : ByteArray) (k : Nat) : codes (tailT s k) = (codes s).drop k := by
  unfold tailT codes
  rw [ByteArray.data_extract, Array.toList_extract, List.extract_eq_take_drop]
  have : s.data.toList.length = s.size := by simp
  rw [List.take_of_length_le (by simp)]
  rw [List.map_drop]
theorem tail_size (s : ByteArray) (k : Nat) : (tailT s k).size = s.size - k := by
  rw [← codes_length, tail_codes, List.length_drop, codes_length]
def txtL (s : ByteArray) : List Int := leb s.size ++ codes s
def oneT (last s : ByteArray) : List Int := leb (alikeL (byt last) (byt s)) ++ txtL (tailT s (alikeL (byt last) (byt s)))
def bodyT : ByteArray → List ByteArray → List Int
  | _, [] => []
  | last, s :: r => oneT last s ++ bodyT s r
def putT (l : List ByteArray) : List Int := leb l.length ++ bodyT e0 l
theorem body_snoc : ∀ (l : List ByteArray) (last s : ByteArray), bodyT last (l ++ [s]) = bodyT last l ++ oneT (l.getLast?.getD last) s
  | [], last, s => by simp [bodyT]
  | x :: r, last, s => by
    rw [List.cons_append, bodyT, bodyT, body_snoc r x s, List.append_assoc]
    congr 3
    cases r with
    | nil => rfl
    | cons y r => rw [List.getLast?_cons_cons, List.getLast?_eq_some_getLast (List.cons_ne_nil _ _)]; rfl
theorem take_snoc {l : List ByteArray} {k : Nat} (hk : k < l.length) : l.take (k + 1) = l.take k ++ [l.getD k e0] := by
  rw [List.take_succ_eq_append_getElem hk]; simp [List.getD, hk]
theorem body_step {l : List ByteArray} {k : Nat} (hk : k < l.length) : bodyT e0 (l.take (k + 1)) = bodyT e0 (l.take k) ++ oneT (lastT (l.take k)) (l.getD k e0) := by
  rw [take_snoc hk, body_snoc]; rfl
theorem last_step {l : List ByteArray} {k : Nat} (hk : k < l.length) : lastT (l.take (k + 1)) = l.getD k e0 := by
  rw [take_snoc hk]; simp [lastT]
theorem alike_sz (a b : ByteArray) : alikeL (byt a) (byt b) ≤ a.size ∧ alikeL (byt a) (byt b) ≤ b.size := by
  have := alike_le (byt a) (byt b); rwa [byt_len, byt_len] at this
theorem txt_len {s : ByteArray} (h : s.size ≤ 9223372036854775807) : (txtL s).length ≤ s.size + 10 ∧ s.size + 1 ≤ (txtL s).length := by
  have h1 := leb_len64 (n := s.size) (by omega)
  have h2 := leb_pos s.size
  have h3 := codes_length s
  simp only [txtL, List.length_append]; omega
theorem one_len {last s : ByteArray} (h : s.size ≤ 9223372036854775807) : (oneT last s).length ≤ s.size + 20 ∧ 2 ≤ (oneT last s).length := by
  have h0 := alike_sz last s
  have h1 := leb_len64 (n := alikeL (byt last) (byt s)) (by omega)
  have h2 := leb_pos (alikeL (byt last) (byt s))
  have h4 := tail_size s (alikeL (byt last) (byt s))
  have h3 := txt_len (s := tailT s (alikeL (byt last) (byt s))) (by omega)
  simp only [oneT, List.length_append]; omega
theorem body_len (M : Nat) (hM : M ≤ 100000000) : ∀ {l : List ByteArray} (last : ByteArray), (∀ s ∈ l, s.size ≤ M) → (bodyT last l).length ≤ l.length * (M + 20)
  | [], last, h => by simp [bodyT]
  | s :: l, last, h => by
    have h1 := body_len M hM (l := l) s (fun x hx => h x (by simp [hx]))
    have h3 := h s (by simp)
    have h2 := (one_len (last := last) (s := s) (by omega)).1
    rw [bodyT, List.length_append, List.length_cons, Nat.add_mul]
    omega
theorem txt_bs (s : ByteArray) : Bs (txtL s) := by
  intro x hx
  rcases List.mem_append.1 hx with hx | hx
  · exact leb_bytes _ x hx
  · exact codes_bs _ x hx
theorem one_bs (last s : ByteArray) : Bs (oneT last s) := by
  intro x hx
  rcases List.mem_append.1 hx with hx | hx
  · exact leb_bytes _ x hx
  · exact txt_bs _ x hx
theorem body_bs : ∀ (l : List ByteArray) (last : ByteArray), Bs (bodyT last l)
  | [], _ => by intro x hx; simp [bodyT] at hx
  | s :: l, last => by
    intro x hx
    rcases List.mem_append.1 hx with hx | hx
    · exact one_bs _ _ x hx
    · exact body_bs l s x hx
theorem put_bs (l : List ByteArray) : Bs (putT l) := by
  intro x hx
  rcases List.mem_append.1 hx with hx | hx
  · exact leb_bytes _ x hx
  · exact body_bs l _ x hx
theorem check_small {l : List ByteArray} (h : checkT l = 0) : l.length ≤ 4096 ∧ (∀ s ∈ l, s.size ≤ 256) ∧ ascB l = true := by
  unfold checkT at h
  split at h
  · omega
  · rename_i h1
    rw [not_or] at h1
    refine ⟨by omega, fun s hs => ?_, ?_⟩
    · have h2 : longB l = false := by simpa using h1.2
      unfold longB at h2
      rw [List.any_eq_false] at h2
      have := h2 s hs
      simpa using this
    · split at h
      · assumption
      · omega
/-- What one text's reading comes to. -/
def tN (bs : List Int) (p : Nat) : Int × Nat × Int := countO 256 bs p 0
def tX (bs : List Int) (p : Nat) : ByteArray × Nat × Int := textO 256 bs (tN bs p).2.1 (tN bs p).2.2
def joinT (a : ByteArray) (n : Nat) (r : ByteArray) : ByteArray := a.extract 0 n ++ r
def tS (a : ByteArray) (bs : List Int) (p : Nat) : ByteArray := joinT a (tN bs p).1.toNat (tX bs p).1
def tE (first : Bool) (a : ByteArray) (bs : List Int) (p : Nat) : Int :=
  if (tX bs p).2.2 ≠ 0 then (tX bs p).2.2 else if (a.size : Int) < (tN bs p).1 then 50
  else if (!first && !lt8 (byt a) (byt (tS a bs p))) = true ∨ (tN bs p).1 < (alikeL (byt a) (byt (tS a bs p)) : Nat) then 50 else if 256 < (tS a bs p).size then 3 else 0
def tP (bs : List Int) (p : Nat) : Nat := if (tX bs p).2.2 ≠ 0 then (tN bs p).2.1 else p
def goT (bs : List Int) : Nat → List ByteArray → Nat → List ByteArray × Nat × Int
  | 0, acc, p => (acc, p, 0)
  | k + 1, acc, p => if tE (decide (acc.length = 0)) (lastT acc) bs p = 0 then goT bs k (acc ++ [tS (lastT acc) bs p]) (tX bs p).2.1 else ([], tP bs p, tE (decide (acc.length = 0)) (lastT acc) bs p)
def endT (bs : List Int) (r : List ByteArray × Nat × Int) : List ByteArray × Nat × Int := if r.2.2 ≠ 0 then ([], r.2.1, r.2.2) else if r.2.1 < bs.length then ([], r.2.1, 3) else r
def getT (bs : List Int) : List ByteArray × Nat × Int :=
  if (countO 4096 bs 0 0).2.2 ≠ 0 then ([], 0, (countO 4096 bs 0 0).2.2) else endT bs (goT bs (countO 4096 bs 0 0).1.toNat [] (countO 4096 bs 0 0).2.1)
end Go.Proofs.Ytkfgfbdlbiahkaa
