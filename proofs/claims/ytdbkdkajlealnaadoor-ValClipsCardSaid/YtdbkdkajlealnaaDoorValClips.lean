/- ValClips: the walk of the statement's function. -/
import Derived.Test.YtdbkdkajlealnaaDoorValLives
namespace Go.Proofs.YtdbkdkajlealnaaDoor
open Go.RowKit
set_option linter.unusedVariables false
set_option linter.unusedSimpArgs false
theorem clip_mono {a b : Int} (h : a ≤ b) : clip a ≤ clip b := by unfold clip; (repeat' split) <;> omega
theorem clip_clip (a : Int) : clip (clip a) = clip a := clip_id (clip_in a).1 (clip_in a).2
set_option maxRecDepth 100000 in
set_option maxHeartbeats 2000000 in
theorem valClips_walk (w : World) (ht : Tab w) (a : Int) (haw : (Lit.int .i64 a).wf = true) (b : Int) (hbw : (Lit.int .i64 b).wf = true) :
    Calls Tryd.prog 3 #[.int .i64 a, .int .i64 b] w (Gives (.bool true) w) := by
  have hL := Lib.hid (fun w ht => lives_any w ht)
  have hx := clip_in a
  have hy := clip_in b
  have hm := fun h => clip_mono (a := a) (b := b) h
  have c1 := fun w => refclip_any a w
  have c2 := fun w => refclip_any b w
  have c3 := fun w => add_any a b w
  have c4 := fun w => clip_any a w
  have c5 := fun w => is_any a w
  have c6 := fun w => refis_any a w
  have c7 := fun w => sum_any a b w
  have c8 := fun w => refclip_any (clip a + clip b) w
  have c9 := fun w => neg_any a w
  have c10 := fun w => refis_any (clip a + clip b) w
  have c11 := fun w => clip_any (clip a) w
  rw [clip_clip] at c11
  have c12 := fun w => clip_any b w
  have hA : Hid (addN a b = if isV (clip a + clip b) then clip a + clip b else 0) := Lib.hid rfl
  generalize addN a b = n at *
  generalize clip (clip a + clip b) = s at *
  generalize isV (clip a + clip b) = I at *
  generalize isV a = J at *
  generalize clip a = x at *
  generalize clip b = y at *
  have d1 := Lib.hid c1
  have d2 := Lib.hid c2
  have d3 := Lib.hid c3
  have d4 := Lib.hid c4
  have d5 := Lib.hid c5
  have d6 := Lib.hid c6
  have d7 := Lib.hid c7
  have d8 := Lib.hid c8
  have d9 := Lib.hid c9
  have d10 := Lib.hid c10
  have d11 := Lib.hid c11
  have d12 := Lib.hid c12
  clear c1 c2 c3 c4 c5 c6 c7 c8 c9 c10 c11 c12
  have hb0 : Below w.heap.size w w := Below.refl _ _
  cases I
  · obtain rfl : n = 0 := by rw [hA.out]; rfl
    by_cases hab : b < a
    · have hd : decide (b < a) = true := by simpa using hab
      clear hm hA
      go_enter Tryd.func3, Tryd.ntmps3
      go_wp2_with fail
      refine (d1.out _).mono ?_
      rintro e w' ⟨rfl, rfl⟩
      go_wp2_with fail
      refine (d2.out _).mono ?_
      rintro e w' ⟨rfl, rfl⟩
      go_wp2_with fail
      refine (d3.out _).mono ?_
      rintro e w' ⟨rfl, rfl⟩
      go_wp2_with fail
      refine (hL.out _ (ht.on hb0)).mono ?_
      rintro e v1 ⟨rfl, g1⟩
      have hb0_1 := on2 hb0 g1
      go_wp2_with fail
      refine (d4.out _).mono ?_
      rintro e w' ⟨rfl, rfl⟩
      go_wp2_with fail
      refine (d5.out _).mono ?_
      rintro e w' ⟨rfl, rfl⟩
      go_wp2_with fail
      refine (d6.out _).mono ?_
      rintro e w' ⟨rfl, rfl⟩
      go_wp2_with fail
      refine (d7.out _).mono ?_
      rintro e w' ⟨rfl, rfl⟩
      go_wp2_with fail
      refine (d8.out _).mono ?_
      rintro e w' ⟨rfl, rfl⟩
      go_wp2_with fail
      refine (d9.out _).mono ?_
      rintro e w' ⟨rfl, rfl⟩
      go_wp2_with fail
      refine (d10.out _).mono ?_
      rintro e w' ⟨rfl, rfl⟩
      go_wp2_with fail
      refine (d4.out _).mono ?_
      rintro e w' ⟨rfl, rfl⟩
      go_wp2_with fail
      refine (d11.out _).mono ?_
      rintro e w' ⟨rfl, rfl⟩
      go_wp2
      go_ret
      exact ⟨rfl, hb0_1⟩
    · have hd : decide (b < a) = false := by simpa using hab
      have hxy : decide (x ≤ y) = true := by simpa using hm (by omega)
      clear hm hA hab
      go_enter Tryd.func3, Tryd.ntmps3
      go_wp2_with fail
      refine (d1.out _).mono ?_
      rintro e w' ⟨rfl, rfl⟩
      go_wp2_with fail
      refine (d2.out _).mono ?_
      rintro e w' ⟨rfl, rfl⟩
      go_wp2_with fail
      refine (d3.out _).mono ?_
      rintro e w' ⟨rfl, rfl⟩
      go_wp2_with fail
      refine (hL.out _ (ht.on hb0)).mono ?_
      rintro e v1 ⟨rfl, g1⟩
      have hb0_1 := on2 hb0 g1
      go_wp2_with fail
      refine (d4.out _).mono ?_
      rintro e w' ⟨rfl, rfl⟩
      go_wp2_with fail
      refine (d5.out _).mono ?_
      rintro e w' ⟨rfl, rfl⟩
      go_wp2_with fail
      refine (d6.out _).mono ?_
      rintro e w' ⟨rfl, rfl⟩
      go_wp2_with fail
      refine (d7.out _).mono ?_
      rintro e w' ⟨rfl, rfl⟩
      go_wp2_with fail
      refine (d8.out _).mono ?_
      rintro e w' ⟨rfl, rfl⟩
      go_wp2_with fail
      refine (d9.out _).mono ?_
      rintro e w' ⟨rfl, rfl⟩
      go_wp2_with fail
      refine (d10.out _).mono ?_
      rintro e w' ⟨rfl, rfl⟩
      go_wp2_with fail
      refine (d4.out _).mono ?_
      rintro e w' ⟨rfl, rfl⟩
      go_wp2_with fail
      refine (d11.out _).mono ?_
      rintro e w' ⟨rfl, rfl⟩
      go_wp2_with fail
      refine (d4.out _).mono ?_
      rintro e w' ⟨rfl, rfl⟩
      go_wp2_with fail
      refine (d12.out _).mono ?_
      rintro e w' ⟨rfl, rfl⟩
      go_wp2
      go_ret
      exact ⟨rfl, hb0_1⟩
  · obtain rfl : n = x + y := by rw [hA.out]; rfl
    by_cases hab : b < a
    · have hd : decide (b < a) = true := by simpa using hab
      clear hm hA
      go_enter Tryd.func3, Tryd.ntmps3
      go_wp2_with fail
      refine (d1.out _).mono ?_
      rintro e w' ⟨rfl, rfl⟩
      go_wp2_with fail
      refine (d2.out _).mono ?_
      rintro e w' ⟨rfl, rfl⟩
      go_wp2_with fail
      refine (d3.out _).mono ?_
      rintro e w' ⟨rfl, rfl⟩
      go_wp2_with fail
      refine (hL.out _ (ht.on hb0)).mono ?_
      rintro e v1 ⟨rfl, g1⟩
      have hb0_1 := on2 hb0 g1
      go_wp2_with fail
      refine (d4.out _).mono ?_
      rintro e w' ⟨rfl, rfl⟩
      go_wp2_with fail
      refine (d5.out _).mono ?_
      rintro e w' ⟨rfl, rfl⟩
      go_wp2_with fail
      refine (d6.out _).mono ?_
      rintro e w' ⟨rfl, rfl⟩
      go_wp2_with fail
      refine (d7.out _).mono ?_
      rintro e w' ⟨rfl, rfl⟩
      go_wp2_with fail
      refine (d8.out _).mono ?_
      rintro e w' ⟨rfl, rfl⟩
      go_wp2_with fail
      refine (d9.out _).mono ?_
      rintro e w' ⟨rfl, rfl⟩
      go_wp2_with fail
      refine (d10.out _).mono ?_
      rintro e w' ⟨rfl, rfl⟩
      go_wp2_with fail
      refine (d4.out _).mono ?_
      rintro e w' ⟨rfl, rfl⟩
      go_wp2_with fail
      refine (d11.out _).mono ?_
      rintro e w' ⟨rfl, rfl⟩
      go_wp2
      go_ret
      exact ⟨rfl, hb0_1⟩
    · have hd : decide (b < a) = false := by simpa using hab
      have hxy : decide (x ≤ y) = true := by simpa using hm (by omega)
      clear hm hA hab
      go_enter Tryd.func3, Tryd.ntmps3
      go_wp2_with fail
      refine (d1.out _).mono ?_
      rintro e w' ⟨rfl, rfl⟩
      go_wp2_with fail
      refine (d2.out _).mono ?_
      rintro e w' ⟨rfl, rfl⟩
      go_wp2_with fail
      refine (d3.out _).mono ?_
      rintro e w' ⟨rfl, rfl⟩
      go_wp2_with fail
      refine (hL.out _ (ht.on hb0)).mono ?_
      rintro e v1 ⟨rfl, g1⟩
      have hb0_1 := on2 hb0 g1
      go_wp2_with fail
      refine (d4.out _).mono ?_
      rintro e w' ⟨rfl, rfl⟩
      go_wp2_with fail
      refine (d5.out _).mono ?_
      rintro e w' ⟨rfl, rfl⟩
      go_wp2_with fail
      refine (d6.out _).mono ?_
      rintro e w' ⟨rfl, rfl⟩
      go_wp2_with fail
      refine (d7.out _).mono ?_
      rintro e w' ⟨rfl, rfl⟩
      go_wp2_with fail
      refine (d8.out _).mono ?_
      rintro e w' ⟨rfl, rfl⟩
      go_wp2_with fail
      refine (d9.out _).mono ?_
      rintro e w' ⟨rfl, rfl⟩
      go_wp2_with fail
      refine (d10.out _).mono ?_
      rintro e w' ⟨rfl, rfl⟩
      go_wp2_with fail
      refine (d4.out _).mono ?_
      rintro e w' ⟨rfl, rfl⟩
      go_wp2_with fail
      refine (d11.out _).mono ?_
      rintro e w' ⟨rfl, rfl⟩
      go_wp2_with fail
      refine (d4.out _).mono ?_
      rintro e w' ⟨rfl, rfl⟩
      go_wp2_with fail
      refine (d12.out _).mono ?_
      rintro e w' ⟨rfl, rfl⟩
      go_wp2
      go_ret
      exact ⟨rfl, hb0_1⟩
end Go.Proofs.YtdbkdkajlealnaaDoor
