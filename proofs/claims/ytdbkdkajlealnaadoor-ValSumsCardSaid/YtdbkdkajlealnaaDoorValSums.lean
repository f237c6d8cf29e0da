/- ValSums: the walk of the statement's function. -/
import Derived.Test.YtdbkdkajlealnaaDoorValLives
namespace Go.Proofs.YtdbkdkajlealnaaDoor
open Go.RowKit
set_option linter.unusedVariables false
set_option linter.unusedSimpArgs false
theorem neg_neg_clip (a : Int) : -clip (-clip a) = clip a := by have h := clip_in a; rw [clip_id (by omega) (by omega)]; omega
theorem clip_mono {a b : Int} (h : a ≤ b) : clip a ≤ clip b := by unfold clip; (repeat' split) <;> omega
theorem add_back {x b : Int} (h : isV (x + clip b) = true) (hx : -1099511627776 ≤ x ∧ x ≤ 1099511627776) : addN (x + clip b) (-clip b) = x ∧ isV (clip (x + clip b) + clip (-clip b)) = true := by
  have hb := clip_in b
  have hi := (isV_iff _).1 h
  unfold addN
  rw [clip_id hi.1 hi.2, clip_id (n := -clip b) (by omega) (by omega), show x + clip b + -clip b = x by omega]
  have : isV x = true := (isV_iff x).2 hx
  rw [this]; exact ⟨rfl, rfl⟩
set_option maxRecDepth 100000 in
set_option maxHeartbeats 2000000 in
theorem valSums_walk (w : World) (ht : Tab w) (a : Int) (haw : (Lit.int .i64 a).wf = true) (b : Int) (hbw : (Lit.int .i64 b).wf = true) (c : Int) (hcw : (Lit.int .i64 c).wf = true) :
    Calls Tryd.prog 6 #[.int .i64 a, .int .i64 b, .int .i64 c] w (Gives (.bool true) w) := by
  have hL := Lib.hid (fun w ht => lives_any w ht)
  have hx := clip_in a
  have hm : a ≤ c → clip (clip a + clip b) ≤ clip (clip c + clip b) := fun h => clip_mono (by have := clip_mono h; omega)
  have hback := fun h => add_back (x := clip a) (b := b) h hx
  have c1 := fun w => add_any a b w
  have c2 := fun w => neg_any b w
  have c3 := fun n w => add_any n (-clip b) w
  have c4 := fun w => sum_any a b w
  have c5 := fun w => sum_any b a w
  rw [show clip b + clip a = clip a + clip b by omega] at c5
  have c6 := fun w => sum_any c b w
  have c7 := fun w => clip_any a w
  have c8 := fun w => neg_any a w
  have c9 := fun w => neg_any (-clip a) w
  rw [neg_neg_clip] at c9
  have hA : Hid (addN a b = if isV (clip a + clip b) then clip a + clip b else 0) := Lib.hid rfl
  generalize addN a b = n at *
  generalize clip (clip c + clip b) = s2 at *
  generalize hI : isV (clip a + clip b) = I at *
  have hy := clip_in b
  have hb0 : Below w.heap.size w w := Below.refl _ _
  cases I
  · obtain rfl : n = 0 := by rw [hA.out]; rfl
    have c3 := c3 0
    obtain ⟨N2, hN2⟩ : ∃ N, addN 0 (-clip b) = N := ⟨_, rfl⟩
    obtain ⟨I2, hI2⟩ : ∃ N, isV (clip 0 + clip (-clip b)) = N := ⟨_, rfl⟩
    rw [hN2, hI2] at c3
    clear hback hN2 hI2
    generalize clip (clip a + clip b) = s at *
    generalize clip a = x at *
    generalize clip b = y at *
    have d1 := Lib.hid c1
    have d2 := Lib.hid c2
    have d3 := Lib.hid c3
    have d4 := Lib.hid c4
    have d5 := Lib.hid c5
    have d6 := Lib.hid c6
    have d7 := Lib.hid c7
    have d8 := Lib.hid c8
    have d9 := Lib.hid c9
    clear c1 c2 c3 c4 c5 c6 c7 c8 c9 hI hA
    by_cases hab : c < a
    · have hd : decide (c < a) = true := by simpa using hab
      clear hm
      go_enter Tryd.func6, Tryd.ntmps6
      go_wp2_with fail
      refine (d1.out _).mono ?_
      rintro e w' ⟨rfl, rfl⟩
      go_wp2_with fail
      refine (d2.out _).mono ?_
      rintro e w' ⟨rfl, rfl⟩
      go_wp2_with fail
      refine (d3.out _).mono ?_
      rintro e w' ⟨rfl, rfl⟩
      go_wp2_with fail
      refine (hL.out _ (ht.on hb0)).mono ?_
      rintro e v1 ⟨rfl, g1⟩
      have hb0_1 := on2 hb0 g1
      go_wp2_with fail
      refine (d4.out _).mono ?_
      rintro e w' ⟨rfl, rfl⟩
      go_wp2_with fail
      refine (d5.out _).mono ?_
      rintro e w' ⟨rfl, rfl⟩
      go_wp2_with fail
      refine (d8.out _).mono ?_
      rintro e w' ⟨rfl, rfl⟩
      go_wp2_with fail
      refine (d9.out _).mono ?_
      rintro e w' ⟨rfl, rfl⟩
      go_wp2_with fail
      refine (d7.out _).mono ?_
      rintro e w' ⟨rfl, rfl⟩
      go_wp2
      go_ret
      exact ⟨rfl, hb0_1⟩
    · have hd : decide (c < a) = false := by simpa using hab
      have hxy : decide (s ≤ s2) = true := by simpa using hm (by omega)
      clear hm hab
      go_enter Tryd.func6, Tryd.ntmps6
      go_wp2_with fail
      refine (d1.out _).mono ?_
      rintro e w' ⟨rfl, rfl⟩
      go_wp2_with fail
      refine (d2.out _).mono ?_
      rintro e w' ⟨rfl, rfl⟩
      go_wp2_with fail
      refine (d3.out _).mono ?_
      rintro e w' ⟨rfl, rfl⟩
      go_wp2_with fail
      refine (hL.out _ (ht.on hb0)).mono ?_
      rintro e v1 ⟨rfl, g1⟩
      have hb0_1 := on2 hb0 g1
      go_wp2_with fail
      refine (d4.out _).mono ?_
      rintro e w' ⟨rfl, rfl⟩
      go_wp2_with fail
      refine (d5.out _).mono ?_
      rintro e w' ⟨rfl, rfl⟩
      go_wp2_with fail
      refine (d4.out _).mono ?_
      rintro e w' ⟨rfl, rfl⟩
      go_wp2_with fail
      refine (d6.out _).mono ?_
      rintro e w' ⟨rfl, rfl⟩
      go_wp2_with fail
      refine (d8.out _).mono ?_
      rintro e w' ⟨rfl, rfl⟩
      go_wp2_with fail
      refine (d9.out _).mono ?_
      rintro e w' ⟨rfl, rfl⟩
      go_wp2_with fail
      refine (d7.out _).mono ?_
      rintro e w' ⟨rfl, rfl⟩
      go_wp2
      go_ret
      exact ⟨rfl, hb0_1⟩
  · obtain rfl : n = clip a + clip b := by rw [hA.out]; rfl
    have c3 := c3 (clip a + clip b)
    rw [(hback rfl).1, (hback rfl).2] at c3
    clear hback
    generalize clip (clip a + clip b) = s at *
    generalize clip a = x at *
    generalize clip b = y at *
    have d1 := Lib.hid c1
    have d2 := Lib.hid c2
    have d3 := Lib.hid c3
    have d4 := Lib.hid c4
    have d5 := Lib.hid c5
    have d6 := Lib.hid c6
    have d7 := Lib.hid c7
    have d8 := Lib.hid c8
    have d9 := Lib.hid c9
    clear c1 c2 c3 c4 c5 c6 c7 c8 c9 hI hA
    by_cases hab : c < a
    · have hd : decide (c < a) = true := by simpa using hab
      clear hm
      go_enter Tryd.func6, Tryd.ntmps6
      go_wp2_with fail
      refine (d1.out _).mono ?_
      rintro e w' ⟨rfl, rfl⟩
      go_wp2_with fail
      refine (d2.out _).mono ?_
      rintro e w' ⟨rfl, rfl⟩
      go_wp2_with fail
      refine (d3.out _).mono ?_
      rintro e w' ⟨rfl, rfl⟩
      go_wp2_with fail
      refine (hL.out _ (ht.on hb0)).mono ?_
      rintro e v1 ⟨rfl, g1⟩
      have hb0_1 := on2 hb0 g1
      go_wp2_with fail
      refine (d4.out _).mono ?_
      rintro e w' ⟨rfl, rfl⟩
      go_wp2_with fail
      refine (d5.out _).mono ?_
      rintro e w' ⟨rfl, rfl⟩
      go_wp2_with fail
      refine (d7.out _).mono ?_
      rintro e w' ⟨rfl, rfl⟩
      go_wp2_with fail
      refine (d8.out _).mono ?_
      rintro e w' ⟨rfl, rfl⟩
      go_wp2_with fail
      refine (d9.out _).mono ?_
      rintro e w' ⟨rfl, rfl⟩
      go_wp2_with fail
      refine (d7.out _).mono ?_
      rintro e w' ⟨rfl, rfl⟩
      go_wp2
      go_ret
      exact ⟨rfl, hb0_1⟩
    · have hd : decide (c < a) = false := by simpa using hab
      have hxy : decide (s ≤ s2) = true := by simpa using hm (by omega)
      clear hm hab
      go_enter Tryd.func6, Tryd.ntmps6
      go_wp2_with fail
      refine (d1.out _).mono ?_
      rintro e w' ⟨rfl, rfl⟩
      go_wp2_with fail
      refine (d2.out _).mono ?_
      rintro e w' ⟨rfl, rfl⟩
      go_wp2_with fail
      refine (d3.out _).mono ?_
      rintro e w' ⟨rfl, rfl⟩
      go_wp2_with fail
      refine (hL.out _ (ht.on hb0)).mono ?_
      rintro e v1 ⟨rfl, g1⟩
      have hb0_1 := on2 hb0 g1
      go_wp2_with fail
      refine (d4.out _).mono ?_
      rintro e w' ⟨rfl, rfl⟩
      go_wp2_with fail
      refine (d5.out _).mono ?_
      rintro e w' ⟨rfl, rfl⟩
      go_wp2_with fail
      refine (d4.out _).mono ?_
      rintro e w' ⟨rfl, rfl⟩
      go_wp2_with fail
      refine (d6.out _).mono ?_
      rintro e w' ⟨rfl, rfl⟩
      go_wp2_with fail
      refine (d7.out _).mono ?_
      rintro e w' ⟨rfl, rfl⟩
      go_wp2_with fail
      refine (d8.out _).mono ?_
      rintro e w' ⟨rfl, rfl⟩
      go_wp2_with fail
      refine (d9.out _).mono ?_
      rintro e w' ⟨rfl, rfl⟩
      go_wp2_with fail
      refine (d7.out _).mono ?_
      rintro e w' ⟨rfl, rfl⟩
      go_wp2
      go_ret
      exact ⟨rfl, hb0_1⟩
end Go.Proofs.YtdbkdkajlealnaaDoor
