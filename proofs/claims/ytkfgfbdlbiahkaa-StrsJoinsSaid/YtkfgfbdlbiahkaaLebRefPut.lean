/- The document's Put: the same bytes. -/
import Derived.Test.YtkfgfbdlbiahkaaLebPut
namespace Go.Proofs.Ytkfgfbdlbiahkaa
open Go.RowKit
set_option linter.unusedVariables false
set_option maxRecDepth 100000 in
set_option maxHeartbeats 1000000 in
theorem refput_any (n : Int) (w : World) (h0 : 0 ≤ n) (h1 : U64 n) :
    Calls Try.prog 53 #[.int .u64 n] w (Made 5 .u8 w (leb n.toNat)) := by
  obtain ⟨i0, hi, hz0, hz1, hz2⟩ := info_parts infoU8
  have hten := h1.le10
  go_enter Try.func53, Try.ntmps53
  go_wp2_with fail
  go_loopw [0, 3] (fun x v wr => ∃ (m : Int) (pre : List Int), 0 ≤ m ∧ m ≤ n ∧ Hid (leb n.toNat = pre ++ leb m.toNat) ∧ x = .int .u64 m ∧ wr.ownsRow w.heap.size 5 1 v pre.length (nums .u8 pre) ∧ Below w.heap.size w wr) (fun x _ _ => (intOf x).toNat)
  case atStart => exact ⟨n, [], h0, by omega, Lib.hid rfl, rfl, World.ownsRow_nil _ _ _ _, Below.refl _ _⟩
  case round =>
    obtain ⟨m, pre, hm0, hmn, hl, rfl, hown, hb⟩ := hrel
    have hpl : pre.length ≤ 10 := by have := hl.out; rw [this] at hten; simp at hten; omega
    by_cases hm : m < 128
    · go_wp2_with (first
        | (at_builtin; refine wpList_append1 _ rfl _ _ 25 rfl w 5 i0 (.int .u8 0) 1 Try.underlying25 hi hz0 hz1 hz2 rfl .u8 m _ _ hown hb rfl rfl (by omega) (by omega) ?_; intro v' w' hown' hb'))
      go_ret
      have e : leb n.toNat = pre ++ [m] := by rw [hl.out, leb_int_small hm0 hm]
      exact ⟨_, rfl, by rw [e]; exact hown', hb'⟩
    · have e2 : IntKind.u64.wrap (m.tdiv 128) = m / 128 := u64_quo hm0 (by unfold U64 at h1; omega) (by omega)
      go_wp2_with (first
        | (at_builtin; refine wpList_append1 _ rfl _ _ 25 rfl w 5 i0 (.int .u8 0) 1 Try.underlying25 hi hz0 hz1 hz2 rfl .u8 (m % 128 + 128) _ _ hown hb rfl rfl (by omega) (by omega) ?_; intro v' w' hown' hb'))
      go_roundw
      case rel => exact ⟨m / 128, pre ++ [m % 128 + 128], by omega, by omega, Lib.hid (by rw [hl.out, leb_int (by omega)]; simp), rfl, hown', hb'⟩
      case measure => simp [intOf]; omega
end Go.Proofs.Ytkfgfbdlbiahkaa
