/- leb.Size: how many bytes a number has. -/
import Derived.Test.YtkfgfbdlbiahkaaRows
import Derived.Test.YtkfgfbdlbiahkaaLebMath
import Derived.Test.YtkfgfbdlbiahkaaKit
namespace Go.Proofs.Ytkfgfbdlbiahkaa
open Go.RowKit
set_option linter.unusedVariables false
set_option maxHeartbeats 400000 in
theorem size_any (n : Int) (w : World) (h0 : 0 ≤ n) (h1 : U64 n) :
    Calls Try.prog 57 #[.int .u64 n] w fun e w' => e = .returned (.int .i64 (leb n.toNat).length) ∧ w = w' := by
  have hten := h1.le10
  go_enter Try.func57, Try.ntmps57
  go_wp2
  go_loop [0, 3] (fun x s => ∃ (m : Int) (k : Nat), 0 ≤ m ∧ m ≤ n ∧ k ≤ 10 ∧ (leb n.toNat).length + 1 = k + (leb m.toNat).length ∧ x = .int .u64 m ∧ s = .int .i64 k) (fun x _ => (intOf x).toNat)
  case atStart => exact ⟨n, 1, h0, by omega, by omega, by omega, rfl, rfl⟩
  case round =>
    obtain ⟨m, k, hm0, hmn, hk, hl, rfl, rfl⟩ := hrel
    have hp := leb_pos m.toNat
    by_cases hm : m < 128
    · have H : k = (leb n.toNat).length := by rw [leb_int_small hm0 hm] at hl; simp at hl; omega
      have H' := Lib.hid H
      clear H
      go_wp2
      go_ret
      exact ⟨by rw [← H'.out]; rfl, rfl⟩
    · have hs := leb_int_len (m := m) (by omega)
      have hp2 := leb_pos (m / 128).toNat
      have hk' : k + 1 ≤ 10 := by omega
      have hl' : (leb n.toNat).length + 1 = k + 1 + (leb (m / 128).toNat).length := by omega
      have hl2 := Lib.hid hl'
      clear hl hs hp hp2 hl'
      go_wp2
      go_round
      case rel => exact ⟨m / 128, k + 1, by omega, by omega, hk', hl2.out, rfl, by go_num⟩
      case measure => simp [intOf]; omega
end Go.Proofs.Ytkfgfbdlbiahkaa
