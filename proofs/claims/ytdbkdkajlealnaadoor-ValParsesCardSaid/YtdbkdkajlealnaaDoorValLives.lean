/- 'lives' of the statements on val. -/
import Derived.Test.YtdbkdkajlealnaaDoorValRefParse
namespace Go.Proofs.YtdbkdkajlealnaaDoor
open Go.RowKit
set_option linter.unusedVariables false
set_option linter.unusedSimpArgs false

theorem on2 {w a b : World} (h : Below w.heap.size w a) (k : Below a.heap.size a b) : Below w.heap.size w b := h.trans (k.mono h.size)
theorem v_17 : parseN [45, 49, 55] = -17 ∧ parseE [45, 49, 55] = 0 := by decide +kernel
theorem v_007 : parseN [48, 48, 55] = 0 ∧ parseE [48, 48, 55] = 60 := by decide +kernel
theorem v_inf : strB (showV (clip 1125899906842624)) = ⟨#[105, 110, 102]⟩ := by decide +kernel
theorem v_m3 : strB (showV (clip (-3))) = ⟨#[45, 51]⟩ := by decide +kernel

set_option maxRecDepth 100000 in
set_option maxHeartbeats 2000000 in
theorem lives_any (w : World) (ht : Tab w) : Calls Tryd.prog 9 #[] w (Gives (.bool true) w) := by
  have s1 := fun w => add_any 3 (-5) w
  rw [show addN 3 (-5) = -2 by decide, show isV (clip 3 + clip (-5)) = true by decide] at s1
  have s2 := fun w => add_any 1099511627776 1 w
  rw [show addN 1099511627776 1 = 0 by decide, show isV (clip 1099511627776 + clip 1) = false by decide] at s2
  have s3 := fun w => parse_any ⟨#[45, 49, 55]⟩ (by decide) w
  rw [show (⟨#[45, 49, 55]⟩ : ByteArray).data.toList = [45, 49, 55] from rfl, v_17.1, v_17.2] at s3
  have s4 := fun w => parse_any ⟨#[48, 48, 55]⟩ (by decide) w
  rw [show (⟨#[48, 48, 55]⟩ : ByteArray).data.toList = [48, 48, 55] from rfl, v_007.1, v_007.2] at s4
  have s5 := fun w => clip_any 1125899906842624 w
  rw [show clip 1125899906842624 = 1099511627776 by decide] at s5
  have s6 := fun w => sum_any 1099511627776 1 w
  rw [show clip (clip 1099511627776 + clip 1) = 1099511627776 by decide] at s6
  have s7 := fun w ht => show_any 1125899906842624 w ht
  rw [v_inf] at s7
  have s8 := fun w ht => show_any (-3) w ht
  rw [v_m3] at s8
  have s9 := fun w => neg_any 4 w
  rw [show -clip 4 = -4 by decide] at s9
  have s10 := fun w => is_any 0 w
  rw [show isV 0 = true by decide] at s10
  have s11 := fun w => is_any 1099511627777 w
  rw [show isV 1099511627777 = false by decide] at s11
  have s1' := Lib.hid s1
  have s2' := Lib.hid s2
  have s3' := Lib.hid s3
  have s4' := Lib.hid s4
  have s5' := Lib.hid s5
  have s6' := Lib.hid s6
  have s7' := Lib.hid s7
  have s8' := Lib.hid s8
  have s9' := Lib.hid s9
  have s10' := Lib.hid s10
  have s11' := Lib.hid s11
  clear s1 s2 s3 s4 s5 s6 s7 s8 s9 s10 s11
  go_enter Tryd.func9, Tryd.ntmps9
  have hb0 : Below w.heap.size w w := Below.refl _ _
  go_wp2_with fail
  refine (s1'.out _).mono ?_
  rintro e w' ⟨rfl, rfl⟩
  go_wp2_with fail
  refine (s2'.out _).mono ?_
  rintro e w' ⟨rfl, rfl⟩
  go_wp2_with fail
  refine (s3'.out _).mono ?_
  rintro e w1 ⟨rfl, h1⟩
  have hb1 := on2 hb0 h1
  go_wp2_with fail
  refine (s4'.out _).mono ?_
  rintro e w2 ⟨rfl, h2⟩
  have hb2 := on2 hb1 h2
  go_wp2_with fail
  refine (s5'.out _).mono ?_
  rintro e w' ⟨rfl, rfl⟩
  go_wp2_with fail
  refine (s6'.out _).mono ?_
  rintro e w' ⟨rfl, rfl⟩
  go_wp2_with fail
  refine (s7'.out _ (ht.on hb2)).mono ?_
  rintro e w3 ⟨rfl, h3⟩
  have hb3 := on2 hb2 h3
  go_wp2_with fail
  refine (s8'.out _ (ht.on hb3)).mono ?_
  rintro e w4 ⟨rfl, h4⟩
  have hb4 := on2 hb3 h4
  go_wp2_with fail
  refine (s9'.out _).mono ?_
  rintro e w' ⟨rfl, rfl⟩
  go_wp2_with fail
  refine (s10'.out _).mono ?_
  rintro e w' ⟨rfl, rfl⟩
  go_wp2_with fail
  refine (s11'.out _).mono ?_
  rintro e w' ⟨rfl, rfl⟩
  go_wp2
  go_ret
  exact ⟨rfl, hb4⟩
end Go.Proofs.YtdbkdkajlealnaaDoor
