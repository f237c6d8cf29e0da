/- One byte of a text, as a text. -/
import Derived.Test.YtplgfghffeijcaaLexRight
namespace Go.Proofs.Ytplgfghffeijcaa
open Go.RowKit
set_option linter.unusedVariables false
set_option linter.unusedSimpArgs false

theorem byte_cut (s : ByteArray) (k : Nat) (h : k < s.size) (W : World) : (Instr.slice 9 (.string s) (some (.int .i64 (k : Int))) (some (.int .i64 ((k : Int) + 1))) none).run Try.prog W = .ok (.string (strOfNums [((s[k]'h).toNat : Int)])) W := by
  have := run_slice_string W 9 s .i64 .i64 (k : Int) ((k : Int) + 1) Try.underlying9 (by omega) (by omega) (by omega)
  rw [this]
  congr 2
  have e1 : ((k : Int)).toNat = k := by omega
  have e2 : ((k : Int) + 1).toNat = k + 1 := by omega
  rw [e1, e2]
  have h1 : (codes (s.extract k (k + 1))).length = 1 := by rw [codes_length, ByteArray.size_extract]; omega
  have h2 : (s.extract k (k + 1)).size = 1 := by rw [ByteArray.size_extract]; omega
  have h3 := codes_at (s.extract k (k + 1)) 0 (by omega)
  rw [ByteArray.getElem_extract] at h3
  have e : codes (s.extract k (k + 1)) = [((s[k]'h).toNat : Int)] := by
    match hc : codes (s.extract k (k + 1)), h1 with
    | [x], _ => rw [hc] at h3; simp at h3; rw [h3]
  rw [← e, str_codes]
end Go.Proofs.Ytplgfghffeijcaa
