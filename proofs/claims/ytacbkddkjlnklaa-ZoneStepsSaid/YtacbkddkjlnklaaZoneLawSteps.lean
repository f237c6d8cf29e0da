/- ZoneSteps: its gates. (Written by gen-zone-steps.py.) -/
import Derived.Test.YtacbkddkjlnklaaZoneHasOps
namespace Go.Proofs.Ytacbkddkjlnklaa
open Go.RowKit
set_option linter.unusedVariables false
set_option linter.unusedSimpArgs false

set_option maxRecDepth 100000 in
set_option maxHeartbeats 8000000 in
theorem steps_g1 (n1 i j c : Int) (a1 av : Option Addr) (m1 mv c1 cv : Nat) (l1 v : List Int) (w : World) (h1 : SL w a1 m1 c1 l1) (hv : SL w av mv cv v) (g1 : 200 < m1) : Calls Try.prog 7 #[.agg #[.int .i64 n1, .slice a1 m1 c1], .slice av mv cv, .int .i64 i, .int .i64 j, .int .i64 c] w (Gives (.bool true) w) := by
  obtain ⟨W1, hW1⟩ : ∃ W1, W1 = w.alloc (.cells #[.int .i64 n1, .slice a1 m1 c1] 24) := ⟨_, rfl⟩
  have Z1 : Hid (Holds W1 (w.heap.size) 24 #[.int .i64 n1, .slice a1 m1 c1]) := Lib.hid (by rw [hW1]; exact Holds.new w _ _)
  have BL := Lib.hid (show Below w.heap.size w W1 by rw [hW1]; exact box_below _ _ _)
  have S1 := Lib.hid (h1.below BL.out)
  have SV := Lib.hid (hv.below BL.out)
  have hW1' := Lib.hid hW1
  clear hW1
  clear h1 hv
  go_enter Try.func7, Try.ntmps7
  have k1 := Z1.out.cell 0
  have k2 := Z1.out.cell 1
  have q := Lib.hid (by have := large_any a1 m1 c1 S1.out.max W1; rwa [decide_eq_true (show (200 : Int) < (m1 : Int) by omega)] at this)
  go_wp2_with fail
  rw [← hW1'.out]
  with_reducible refine q.out.mono ?_
  rintro e u1 ⟨rfl, rfl⟩
  clear hW1'
  clear q
  have q := Lib.hid (zlivesAt w _ BL.out)
  go_wp2_with fail
  refine q.out.mono ?_
  rintro e w9 ⟨rfl, b9, bw9⟩
  have bw := Lib.hid bw9
  clear b9 bw9 q
  clear k1 k2
  go_wp2
  go_ret
  exact ⟨rfl, bw.out⟩
set_option maxRecDepth 100000 in
set_option maxHeartbeats 8000000 in
theorem steps_g2 (n1 i j c : Int) (a1 av : Option Addr) (m1 mv c1 cv : Nat) (l1 v : List Int) (w : World) (h1 : SL w a1 m1 c1 l1) (hv : SL w av mv cv v) (g1 : ¬ 200 < m1) (g2 : 8 < mv) : Calls Try.prog 7 #[.agg #[.int .i64 n1, .slice a1 m1 c1], .slice av mv cv, .int .i64 i, .int .i64 j, .int .i64 c] w (Gives (.bool true) w) := by
  have g2i : (8 : Int) < (mv : Int) := by omega
  obtain ⟨W1, hW1⟩ : ∃ W1, W1 = w.alloc (.cells #[.int .i64 n1, .slice a1 m1 c1] 24) := ⟨_, rfl⟩
  have Z1 : Hid (Holds W1 (w.heap.size) 24 #[.int .i64 n1, .slice a1 m1 c1]) := Lib.hid (by rw [hW1]; exact Holds.new w _ _)
  have BL := Lib.hid (show Below w.heap.size w W1 by rw [hW1]; exact box_below _ _ _)
  have S1 := Lib.hid (h1.below BL.out)
  have SV := Lib.hid (hv.below BL.out)
  have hW1' := Lib.hid hW1
  clear hW1
  clear h1 hv
  go_enter Try.func7, Try.ntmps7
  have k1 := Z1.out.cell 0
  have k2 := Z1.out.cell 1
  have q := Lib.hid (by have := large_any a1 m1 c1 S1.out.max W1; rwa [decide_eq_false (show ¬ (200 : Int) < (m1 : Int) by omega)] at this)
  go_wp2_with fail
  rw [← hW1'.out]
  with_reducible refine q.out.mono ?_
  rintro e u1 ⟨rfl, rfl⟩
  clear hW1'
  clear q
  have q := Lib.hid (zlivesAt w _ BL.out)
  go_wp2_with fail
  refine q.out.mono ?_
  rintro e w9 ⟨rfl, b9, bw9⟩
  have bw := Lib.hid bw9
  clear b9 bw9 q
  clear k1 k2
  go_wp2
  go_ret
  exact ⟨rfl, bw.out⟩
set_option maxRecDepth 100000 in
set_option maxHeartbeats 8000000 in
theorem steps_g3 (n1 i j c : Int) (a1 av : Option Addr) (m1 mv c1 cv : Nat) (l1 v : List Int) (w : World) (h1 : SL w a1 m1 c1 l1) (hv : SL w av mv cv v) (g1 : ¬ 200 < m1) (g2 : ¬ 8 < mv) (g3 : checkB n1 l1 = false) : Calls Try.prog 7 #[.agg #[.int .i64 n1, .slice a1 m1 c1], .slice av mv cv, .int .i64 i, .int .i64 j, .int .i64 c] w (Gives (.bool true) w) := by
  have g2i : ¬ (8 : Int) < (mv : Int) := by omega
  have hck := Lib.hid g3
  clear g3
  obtain ⟨W1, hW1⟩ : ∃ W1, W1 = w.alloc (.cells #[.int .i64 n1, .slice a1 m1 c1] 24) := ⟨_, rfl⟩
  have Z1 : Hid (Holds W1 (w.heap.size) 24 #[.int .i64 n1, .slice a1 m1 c1]) := Lib.hid (by rw [hW1]; exact Holds.new w _ _)
  have BL := Lib.hid (show Below w.heap.size w W1 by rw [hW1]; exact box_below _ _ _)
  have S1 := Lib.hid (h1.below BL.out)
  have SV := Lib.hid (hv.below BL.out)
  have hW1' := Lib.hid hW1
  clear hW1
  clear h1 hv
  go_enter Try.func7, Try.ntmps7
  have k1 := Z1.out.cell 0
  have k2 := Z1.out.cell 1
  have q := Lib.hid (by have := large_any a1 m1 c1 S1.out.max W1; rwa [decide_eq_false (show ¬ (200 : Int) < (m1 : Int) by omega)] at this)
  go_wp2_with fail
  rw [← hW1'.out]
  with_reducible refine q.out.mono ?_
  rintro e u1 ⟨rfl, rfl⟩
  clear hW1'
  clear q
  have q := Lib.hid (by have := rcheck_any n1 a1 m1 c1 l1 W1 S1.out; rwa [hck.out] at this)
  go_wp2_with fail
  with_reducible refine q.out.mono ?_
  rintro e u2 ⟨rfl, b2⟩
  clear k1 k2
  clear q
  have k3 : u2.cell? ⟨w.heap.size, 0, none⟩ = some (.int .i64 n1) := (Z1.out.below b2 Z1.out.lt).cell 0
  have k4 : u2.cell? ⟨w.heap.size, 1, none⟩ = some (.slice a1 m1 c1) := (Z1.out.below b2 Z1.out.lt).cell 1
  replace Z1 := Lib.hid (Z1.out.below b2 Z1.out.lt)
  replace BL := Lib.hid (BL.out.trans (b2.mono BL.out.size))
  replace S1 := Lib.hid (S1.out.below b2)
  replace SV := Lib.hid (SV.out.below b2)
  clear b2
  have q := Lib.hid (zlivesAt w _ BL.out)
  go_wp2_with fail
  refine q.out.mono ?_
  rintro e w9 ⟨rfl, b9, bw9⟩
  have bw := Lib.hid bw9
  clear b9 bw9 q
  clear k3 k4
  go_wp2
  go_ret
  exact ⟨rfl, bw.out⟩
set_option maxRecDepth 100000 in
set_option maxHeartbeats 8000000 in
theorem steps_g4 (n : Nat) (i j c : Int) (a1 av : Option Addr) (m1 mv c1 cv : Nat) (l1 v : List Int) (w : World) (h1 : SL w a1 m1 c1 l1) (hv : SL w av mv cv v) (g1 : ¬ 200 < m1) (g2 : ¬ 8 < mv)  (z1 : IsZ n l1) (g4 : mv ≠ n) : Calls Try.prog 7 #[.agg #[.int .i64 n, .slice a1 m1 c1], .slice av mv cv, .int .i64 i, .int .i64 j, .int .i64 c] w (Gives (.bool true) w) := by
  have g2i : ¬ (8 : Int) < (mv : Int) := by omega
  have hck := Lib.hid z1.check
  clear z1
  have g4i : (mv == n) = false := by simpa using g4
  obtain ⟨W1, hW1⟩ : ∃ W1, W1 = w.alloc (.cells #[.int .i64 n, .slice a1 m1 c1] 24) := ⟨_, rfl⟩
  have Z1 : Hid (Holds W1 (w.heap.size) 24 #[.int .i64 n, .slice a1 m1 c1]) := Lib.hid (by rw [hW1]; exact Holds.new w _ _)
  have BL := Lib.hid (show Below w.heap.size w W1 by rw [hW1]; exact box_below _ _ _)
  have S1 := Lib.hid (h1.below BL.out)
  have SV := Lib.hid (hv.below BL.out)
  have hW1' := Lib.hid hW1
  clear hW1
  clear h1 hv
  go_enter Try.func7, Try.ntmps7
  have k1 := Z1.out.cell 0
  have k2 := Z1.out.cell 1
  have q := Lib.hid (by have := large_any a1 m1 c1 S1.out.max W1; rwa [decide_eq_false (show ¬ (200 : Int) < (m1 : Int) by omega)] at this)
  go_wp2_with fail
  rw [← hW1'.out]
  with_reducible refine q.out.mono ?_
  rintro e u1 ⟨rfl, rfl⟩
  clear hW1'
  clear q
  have q := Lib.hid (by have := rcheck_any n a1 m1 c1 l1 W1 S1.out; rwa [hck.out] at this)
  go_wp2_with fail
  with_reducible refine q.out.mono ?_
  rintro e u2 ⟨rfl, b2⟩
  clear k1 k2
  clear q
  have k3 : u2.cell? ⟨w.heap.size, 0, none⟩ = some (.int .i64 n) := (Z1.out.below b2 Z1.out.lt).cell 0
  have k4 : u2.cell? ⟨w.heap.size, 1, none⟩ = some (.slice a1 m1 c1) := (Z1.out.below b2 Z1.out.lt).cell 1
  replace Z1 := Lib.hid (Z1.out.below b2 Z1.out.lt)
  replace BL := Lib.hid (BL.out.trans (b2.mono BL.out.size))
  replace S1 := Lib.hid (S1.out.below b2)
  replace SV := Lib.hid (SV.out.below b2)
  clear b2
  have q := Lib.hid (zlivesAt w _ BL.out)
  go_wp2_with fail
  refine q.out.mono ?_
  rintro e w9 ⟨rfl, b9, bw9⟩
  have bw := Lib.hid bw9
  clear b9 bw9 q
  clear k3 k4
  go_wp2
  go_ret
  exact ⟨rfl, bw.out⟩
set_option maxRecDepth 100000 in
set_option maxHeartbeats 8000000 in
theorem steps_g5 (n : Nat) (i j c : Int) (a1 av : Option Addr) (m1 mv c1 cv : Nat) (l1 v : List Int) (w : World) (h1 : SL w a1 m1 c1 l1) (hv : SL w av mv cv v) (g1 : ¬ 200 < m1) (g2 : ¬ 8 < mv)  (g4 : mv = n) (z1 : IsZ n l1) (g5 : i < 1 ∨ n < i) : Calls Try.prog 7 #[.agg #[.int .i64 n, .slice a1 m1 c1], .slice av mv cv, .int .i64 i, .int .i64 j, .int .i64 c] w (Gives (.bool true) w) := by
  have g2i : ¬ (8 : Int) < (mv : Int) := by omega
  have hck := Lib.hid z1.check
  clear z1
  subst g4
  have hvar : Hid ((decide (1 ≤ i) && decide (i ≤ (mv : Int))) = false) := Lib.hid (by simp; omega)
  obtain ⟨W1, hW1⟩ : ∃ W1, W1 = w.alloc (.cells #[.int .i64 mv, .slice a1 m1 c1] 24) := ⟨_, rfl⟩
  have Z1 : Hid (Holds W1 (w.heap.size) 24 #[.int .i64 mv, .slice a1 m1 c1]) := Lib.hid (by rw [hW1]; exact Holds.new w _ _)
  have BL := Lib.hid (show Below w.heap.size w W1 by rw [hW1]; exact box_below _ _ _)
  have S1 := Lib.hid (h1.below BL.out)
  have SV := Lib.hid (hv.below BL.out)
  have hW1' := Lib.hid hW1
  clear hW1
  clear h1 hv
  go_enter Try.func7, Try.ntmps7
  have k1 := Z1.out.cell 0
  have k2 := Z1.out.cell 1
  have q := Lib.hid (by have := large_any a1 m1 c1 S1.out.max W1; rwa [decide_eq_false (show ¬ (200 : Int) < (m1 : Int) by omega)] at this)
  go_wp2_with fail
  rw [← hW1'.out]
  with_reducible refine q.out.mono ?_
  rintro e u1 ⟨rfl, rfl⟩
  clear hW1'
  clear q
  have q := Lib.hid (by have := rcheck_any mv a1 m1 c1 l1 W1 S1.out; rwa [hck.out] at this)
  go_wp2_with fail
  with_reducible refine q.out.mono ?_
  rintro e u2 ⟨rfl, b2⟩
  clear k1 k2
  clear q
  have k3 : u2.cell? ⟨w.heap.size, 0, none⟩ = some (.int .i64 mv) := (Z1.out.below b2 Z1.out.lt).cell 0
  have k4 : u2.cell? ⟨w.heap.size, 1, none⟩ = some (.slice a1 m1 c1) := (Z1.out.below b2 Z1.out.lt).cell 1
  replace Z1 := Lib.hid (Z1.out.below b2 Z1.out.lt)
  replace BL := Lib.hid (BL.out.trans (b2.mono BL.out.size))
  replace S1 := Lib.hid (S1.out.below b2)
  replace SV := Lib.hid (SV.out.below b2)
  clear b2
  have q := Lib.hid (by have := rvar_any mv i a1 m1 c1 u2; rwa [hvar.out] at this)
  go_wp2_with fail
  with_reducible refine q.out.mono ?_
  rintro e u3 ⟨rfl, b3⟩
  clear k3 k4
  clear q
  have k5 : u3.cell? ⟨w.heap.size, 0, none⟩ = some (.int .i64 mv) := (Z1.out.below b3 Z1.out.lt).cell 0
  have k6 : u3.cell? ⟨w.heap.size, 1, none⟩ = some (.slice a1 m1 c1) := (Z1.out.below b3 Z1.out.lt).cell 1
  replace Z1 := Lib.hid (Z1.out.below b3 Z1.out.lt)
  replace BL := Lib.hid (BL.out.trans (b3.mono BL.out.size))
  replace S1 := Lib.hid (S1.out.below b3)
  replace SV := Lib.hid (SV.out.below b3)
  clear b3
  have q := Lib.hid (zlivesAt w _ BL.out)
  go_wp2_with fail
  refine q.out.mono ?_
  rintro e w9 ⟨rfl, b9, bw9⟩
  have bw := Lib.hid bw9
  clear b9 bw9 q
  clear k5 k6
  go_wp2
  go_ret
  exact ⟨rfl, bw.out⟩
set_option maxRecDepth 100000 in
set_option maxHeartbeats 8000000 in
theorem steps_g6 (n : Nat) (i j c : Int) (a1 av : Option Addr) (m1 mv c1 cv : Nat) (l1 v : List Int) (w : World) (h1 : SL w a1 m1 c1 l1) (hv : SL w av mv cv v) (g1 : ¬ 200 < m1) (g2 : ¬ 8 < mv)  (g4 : mv = n) (g5 : 1 ≤ i ∧ i ≤ n) (z1 : IsZ n l1) (g6 : j < 0 ∨ n < j) : Calls Try.prog 7 #[.agg #[.int .i64 n, .slice a1 m1 c1], .slice av mv cv, .int .i64 i, .int .i64 j, .int .i64 c] w (Gives (.bool true) w) := by
  have g2i : ¬ (8 : Int) < (mv : Int) := by omega
  have hck := Lib.hid z1.check
  clear z1
  subst g4
  have hvar : Hid ((decide (1 ≤ i) && decide (i ≤ (mv : Int))) = true) := Lib.hid (by simp; omega)
  have hor : Hid ((decide (0 ≤ j) && decide (j ≤ (mv : Int))) = false) := Lib.hid (by simp; omega)
  obtain ⟨W1, hW1⟩ : ∃ W1, W1 = w.alloc (.cells #[.int .i64 mv, .slice a1 m1 c1] 24) := ⟨_, rfl⟩
  have Z1 : Hid (Holds W1 (w.heap.size) 24 #[.int .i64 mv, .slice a1 m1 c1]) := Lib.hid (by rw [hW1]; exact Holds.new w _ _)
  have BL := Lib.hid (show Below w.heap.size w W1 by rw [hW1]; exact box_below _ _ _)
  have S1 := Lib.hid (h1.below BL.out)
  have SV := Lib.hid (hv.below BL.out)
  have hW1' := Lib.hid hW1
  clear hW1
  clear h1 hv
  go_enter Try.func7, Try.ntmps7
  have k1 := Z1.out.cell 0
  have k2 := Z1.out.cell 1
  have q := Lib.hid (by have := large_any a1 m1 c1 S1.out.max W1; rwa [decide_eq_false (show ¬ (200 : Int) < (m1 : Int) by omega)] at this)
  go_wp2_with fail
  rw [← hW1'.out]
  with_reducible refine q.out.mono ?_
  rintro e u1 ⟨rfl, rfl⟩
  clear hW1'
  clear q
  have q := Lib.hid (by have := rcheck_any mv a1 m1 c1 l1 W1 S1.out; rwa [hck.out] at this)
  go_wp2_with fail
  with_reducible refine q.out.mono ?_
  rintro e u2 ⟨rfl, b2⟩
  clear k1 k2
  clear q
  have k3 : u2.cell? ⟨w.heap.size, 0, none⟩ = some (.int .i64 mv) := (Z1.out.below b2 Z1.out.lt).cell 0
  have k4 : u2.cell? ⟨w.heap.size, 1, none⟩ = some (.slice a1 m1 c1) := (Z1.out.below b2 Z1.out.lt).cell 1
  replace Z1 := Lib.hid (Z1.out.below b2 Z1.out.lt)
  replace BL := Lib.hid (BL.out.trans (b2.mono BL.out.size))
  replace S1 := Lib.hid (S1.out.below b2)
  replace SV := Lib.hid (SV.out.below b2)
  clear b2
  have q := Lib.hid (by have := rvar_any mv i a1 m1 c1 u2; rwa [hvar.out] at this)
  go_wp2_with fail
  with_reducible refine q.out.mono ?_
  rintro e u3 ⟨rfl, b3⟩
  clear k3 k4
  clear q
  have k5 : u3.cell? ⟨w.heap.size, 0, none⟩ = some (.int .i64 mv) := (Z1.out.below b3 Z1.out.lt).cell 0
  have k6 : u3.cell? ⟨w.heap.size, 1, none⟩ = some (.slice a1 m1 c1) := (Z1.out.below b3 Z1.out.lt).cell 1
  replace Z1 := Lib.hid (Z1.out.below b3 Z1.out.lt)
  replace BL := Lib.hid (BL.out.trans (b3.mono BL.out.size))
  replace S1 := Lib.hid (S1.out.below b3)
  replace SV := Lib.hid (SV.out.below b3)
  clear b3
  have q := Lib.hid (by have := ror0_any mv j a1 m1 c1 u3; rwa [hor.out] at this)
  go_wp2_with fail
  with_reducible refine q.out.mono ?_
  rintro e u4 ⟨rfl, b4⟩
  clear k5 k6
  clear q
  have k7 : u4.cell? ⟨w.heap.size, 0, none⟩ = some (.int .i64 mv) := (Z1.out.below b4 Z1.out.lt).cell 0
  have k8 : u4.cell? ⟨w.heap.size, 1, none⟩ = some (.slice a1 m1 c1) := (Z1.out.below b4 Z1.out.lt).cell 1
  replace Z1 := Lib.hid (Z1.out.below b4 Z1.out.lt)
  replace BL := Lib.hid (BL.out.trans (b4.mono BL.out.size))
  replace S1 := Lib.hid (S1.out.below b4)
  replace SV := Lib.hid (SV.out.below b4)
  clear b4
  have q := Lib.hid (zlivesAt w _ BL.out)
  go_wp2_with fail
  refine q.out.mono ?_
  rintro e w9 ⟨rfl, b9, bw9⟩
  have bw := Lib.hid bw9
  clear b9 bw9 q
  clear k7 k8
  go_wp2
  go_ret
  exact ⟨rfl, bw.out⟩
set_option maxRecDepth 100000 in
set_option maxHeartbeats 8000000 in
theorem steps_g7 (n : Nat) (i j c : Int) (a1 av : Option Addr) (m1 mv c1 cv : Nat) (l1 v : List Int) (w : World) (h1 : SL w a1 m1 c1 l1) (hv : SL w av mv cv v) (g1 : ¬ 200 < m1) (g2 : ¬ 8 < mv)  (g4 : mv = n) (g5 : 1 ≤ i ∧ i ≤ n) (g6 : 0 ≤ j ∧ j ≤ n) (z1 : IsZ n l1) (g7 : farB c = true) : Calls Try.prog 7 #[.agg #[.int .i64 n, .slice a1 m1 c1], .slice av mv cv, .int .i64 i, .int .i64 j, .int .i64 c] w (Gives (.bool true) w) := by
  have g2i : ¬ (8 : Int) < (mv : Int) := by omega
  have hck := Lib.hid z1.check
  clear z1
  subst g4
  have hvar : Hid ((decide (1 ≤ i) && decide (i ≤ (mv : Int))) = true) := Lib.hid (by simp; omega)
  have hor : Hid ((decide (0 ≤ j) && decide (j ≤ (mv : Int))) = true) := Lib.hid (by simp; omega)
  have his : Hid ((!farB c) = false) := Lib.hid (by rw [g7]; rfl)
  obtain ⟨W1, hW1⟩ : ∃ W1, W1 = w.alloc (.cells #[.int .i64 mv, .slice a1 m1 c1] 24) := ⟨_, rfl⟩
  have Z1 : Hid (Holds W1 (w.heap.size) 24 #[.int .i64 mv, .slice a1 m1 c1]) := Lib.hid (by rw [hW1]; exact Holds.new w _ _)
  have BL := Lib.hid (show Below w.heap.size w W1 by rw [hW1]; exact box_below _ _ _)
  have S1 := Lib.hid (h1.below BL.out)
  have SV := Lib.hid (hv.below BL.out)
  have hW1' := Lib.hid hW1
  clear hW1
  clear h1 hv
  go_enter Try.func7, Try.ntmps7
  have k1 := Z1.out.cell 0
  have k2 := Z1.out.cell 1
  have q := Lib.hid (by have := large_any a1 m1 c1 S1.out.max W1; rwa [decide_eq_false (show ¬ (200 : Int) < (m1 : Int) by omega)] at this)
  go_wp2_with fail
  rw [← hW1'.out]
  with_reducible refine q.out.mono ?_
  rintro e u1 ⟨rfl, rfl⟩
  clear hW1'
  clear q
  have q := Lib.hid (by have := rcheck_any mv a1 m1 c1 l1 W1 S1.out; rwa [hck.out] at this)
  go_wp2_with fail
  with_reducible refine q.out.mono ?_
  rintro e u2 ⟨rfl, b2⟩
  clear k1 k2
  clear q
  have k3 : u2.cell? ⟨w.heap.size, 0, none⟩ = some (.int .i64 mv) := (Z1.out.below b2 Z1.out.lt).cell 0
  have k4 : u2.cell? ⟨w.heap.size, 1, none⟩ = some (.slice a1 m1 c1) := (Z1.out.below b2 Z1.out.lt).cell 1
  replace Z1 := Lib.hid (Z1.out.below b2 Z1.out.lt)
  replace BL := Lib.hid (BL.out.trans (b2.mono BL.out.size))
  replace S1 := Lib.hid (S1.out.below b2)
  replace SV := Lib.hid (SV.out.below b2)
  clear b2
  have q := Lib.hid (by have := rvar_any mv i a1 m1 c1 u2; rwa [hvar.out] at this)
  go_wp2_with fail
  with_reducible refine q.out.mono ?_
  rintro e u3 ⟨rfl, b3⟩
  clear k3 k4
  clear q
  have k5 : u3.cell? ⟨w.heap.size, 0, none⟩ = some (.int .i64 mv) := (Z1.out.below b3 Z1.out.lt).cell 0
  have k6 : u3.cell? ⟨w.heap.size, 1, none⟩ = some (.slice a1 m1 c1) := (Z1.out.below b3 Z1.out.lt).cell 1
  replace Z1 := Lib.hid (Z1.out.below b3 Z1.out.lt)
  replace BL := Lib.hid (BL.out.trans (b3.mono BL.out.size))
  replace S1 := Lib.hid (S1.out.below b3)
  replace SV := Lib.hid (SV.out.below b3)
  clear b3
  have q := Lib.hid (by have := ror0_any mv j a1 m1 c1 u3; rwa [hor.out] at this)
  go_wp2_with fail
  with_reducible refine q.out.mono ?_
  rintro e u4 ⟨rfl, b4⟩
  clear k5 k6
  clear q
  have k7 : u4.cell? ⟨w.heap.size, 0, none⟩ = some (.int .i64 mv) := (Z1.out.below b4 Z1.out.lt).cell 0
  have k8 : u4.cell? ⟨w.heap.size, 1, none⟩ = some (.slice a1 m1 c1) := (Z1.out.below b4 Z1.out.lt).cell 1
  replace Z1 := Lib.hid (Z1.out.below b4 Z1.out.lt)
  replace BL := Lib.hid (BL.out.trans (b4.mono BL.out.size))
  replace S1 := Lib.hid (S1.out.below b4)
  replace SV := Lib.hid (SV.out.below b4)
  clear b4
  have q := Lib.hid (by have := is_any c u4; rwa [his.out] at this)
  go_wp2_with fail
  with_reducible refine q.out.mono ?_
  rintro e u1 ⟨rfl, rfl⟩
  clear q
  have q := Lib.hid (zlivesAt w _ BL.out)
  go_wp2_with fail
  refine q.out.mono ?_
  rintro e w9 ⟨rfl, b9, bw9⟩
  have bw := Lib.hid bw9
  clear b9 bw9 q
  clear k7 k8
  go_wp2
  go_ret
  exact ⟨rfl, bw.out⟩
end Go.Proofs.Ytacbkddkjlnklaa
