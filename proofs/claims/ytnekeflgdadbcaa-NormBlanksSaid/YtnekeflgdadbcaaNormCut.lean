/- Cuts of a text; rows of texts of one's own. -/
import Derived.Test.YtnekeflgdadbcaaNormMath
import Derived.Test.YtnekeflgdadbcaaNormName
import Derived.Test.YtnekeflgdadbcaaTexts
namespace Go.Proofs.Ytnekeflgdadbcaa
open Go.RowKit
set_option linter.unusedVariables false
set_option linter.unusedSimpArgs false

theorem cut_codes (s : ByteArray) (i j : Nat) : s.extract i j = strOfNums (((codes s).take j).drop i) := by
  apply ByteArray.ext
  apply Array.toList_inj.1
  rw [ByteArray.data_extract, Array.toList_extract, List.extract_eq_take_drop, strOfNums_data]
  unfold codes
  rw [← List.map_take, ← List.map_drop, List.map_map]
  conv => lhs; rw [← List.map_id ((s.data.toList.drop i).take (j - i))]
  rw [List.drop_take]
  apply List.map_congr_left
  intro b _
  simp
theorem cut_lh (s : ByteArray) (i j : Nat) (h1 : i ≤ j) (h2 : j ≤ s.size) (W : World) : (Instr.slice 9 (.string s) (some (.int .i64 (i : Int))) (some (.int .i64 (j : Int))) none).run Try.prog W = .ok (.string (strOfNums (((codes s).take j).drop i))) W := by
  rw [← cut_codes]
  have := run_slice_string W 9 s .i64 .i64 (i : Int) (j : Int) Try.underlying9 (by omega) (by omega) (by omega)
  simpa using this
theorem cut_l (s : ByteArray) (i : Nat) (h1 : i ≤ s.size) (W : World) : (Instr.slice 9 (.string s) (some (.int .i64 (i : Int))) none none).run Try.prog W = .ok (.string (strOfNums ((codes s).drop i))) W := by
  have := run_slice_string_l W 9 s Try.underlying9 .i64 (i : Int) (by omega) (by omega)
  rw [this]
  simp only [Int.toNat_natCast]
  rw [cut_codes, List.take_of_length_le (by rw [codes_length]; exact Nat.le_refl _)]

/-- A row of texts of one's own, with what it tells of a list of numbers. -/
def TRow (w : World) (B : Nat) (v : Value) (out : List (List Int)) : Prop := w.ownsRow 0 9 1 v (out.map strOfNums).length (txts (out.map strOfNums)) ∧ ∀ k, v.ownBlock = some k → B ≤ k
def GivesT (ls : List (List Int)) (w : World) (e : Ending) (w' : World) : Prop := ∃ v, e = .returned v ∧ TRow w' w.heap.size v ls ∧ Below w.heap.size w w'

end Go.Proofs.Ytnekeflgdadbcaa
