/- ZoneHas: its gates. (Written by gen-zone-has.py.) -/
import Derived.Test.YtacbkddkjlnklaaZoneHasOps
import Derived.Deep.DeepCutAuto
namespace Go.Proofs.Ytacbkddkjlnklaa
open Go.RowKit
set_option linter.unusedVariables false
set_option linter.unusedSimpArgs false

set_option maxRecDepth 100000 in
set_option maxHeartbeats 8000000 in
theorem has_g1 (n1 n2 i j c : Int) (a1 a2 av : Option Addr) (m1 m2 mv c1 c2 cv : Nat) (l1 l2 v : List Int) (w : World) (h1 : SL w a1 m1 c1 l1) (h2 : SL w a2 m2 c2 l2) (hv : SL w av mv cv v) (g1 : 200 < m1) : Calls Try.prog 6 #[.agg #[.int .i64 n1, .slice a1 m1 c1], .agg #[.int .i64 n2, .slice a2 m2 c2], .slice av mv cv, .int .i64 i, .int .i64 j, .int .i64 c] w (Gives (.bool true) w) := by
  obtain ⟨W1, hW1⟩ : ∃ W1, W1 = (w.alloc (.cells #[.int .i64 n1, .slice a1 m1 c1] 24)).alloc (.cells #[.int .i64 n2, .slice a2 m2 c2] 24) := ⟨_, rfl⟩
  have Z1 : Hid (Holds W1 (w.heap.size) 24 #[.int .i64 n1, .slice a1 m1 c1]) := Lib.hid (by rw [hW1]; exact (Holds.new w _ _).alloc _)
  have Z2 : Hid (Holds W1 (w.heap.size + 1) 24 #[.int .i64 n2, .slice a2 m2 c2]) := Lib.hid (by rw [hW1]; have := Holds.new (w.alloc (.cells #[.int .i64 n1, .slice a1 m1 c1] 24)) 24 #[.int .i64 n2, .slice a2 m2 c2]; simpa using this)
  have BL := Lib.hid (show Below w.heap.size w W1 by rw [hW1]; exact box2_below _ _ _ _ _)
  have S1 := Lib.hid (h1.below BL.out)
  have S2 := Lib.hid (h2.below BL.out)
  have SV := Lib.hid (hv.below BL.out)
  have hW1' := Lib.hid hW1
  clear hW1
  clear h1 h2 hv
  go_enter Try.func6, Try.ntmps6
  have k1 := Z1.out.cell 0
  have k2 := Z1.out.cell 1
  have q := Lib.hid (by have := large_any a1 m1 c1 S1.out.max W1; rwa [decide_eq_true (show (200 : Int) < (m1 : Int) by omega)] at this)
  go_wp2_with fail
  rw [← hW1'.out]
  refine q.out.mono ?_
  rintro e u1 ⟨rfl, rfl⟩
  clear hW1'
  clear q
  have q := Lib.hid (zlivesAt w _ BL.out)
  go_wp2_with fail
  refine q.out.mono ?_
  rintro e w9 ⟨rfl, b9, bw9⟩
  have bw := Lib.hid bw9
  clear b9 bw9 q
  clear k1 k2
  go_wp2
  go_ret
  exact ⟨rfl, bw.out⟩
set_option maxRecDepth 100000 in
set_option maxHeartbeats 8000000 in
theorem has_g2 (n1 n2 i j c : Int) (a1 a2 av : Option Addr) (m1 m2 mv c1 c2 cv : Nat) (l1 l2 v : List Int) (w : World) (h1 : SL w a1 m1 c1 l1) (h2 : SL w a2 m2 c2 l2) (hv : SL w av mv cv v) (g1 : ¬ 200 < m1) (g2 : 200 < m2) : Calls Try.prog 6 #[.agg #[.int .i64 n1, .slice a1 m1 c1], .agg #[.int .i64 n2, .slice a2 m2 c2], .slice av mv cv, .int .i64 i, .int .i64 j, .int .i64 c] w (Gives (.bool true) w) := by
  obtain ⟨W1, hW1⟩ : ∃ W1, W1 = (w.alloc (.cells #[.int .i64 n1, .slice a1 m1 c1] 24)).alloc (.cells #[.int .i64 n2, .slice a2 m2 c2] 24) := ⟨_, rfl⟩
  have Z1 : Hid (Holds W1 (w.heap.size) 24 #[.int .i64 n1, .slice a1 m1 c1]) := Lib.hid (by rw [hW1]; exact (Holds.new w _ _).alloc _)
  have Z2 : Hid (Holds W1 (w.heap.size + 1) 24 #[.int .i64 n2, .slice a2 m2 c2]) := Lib.hid (by rw [hW1]; have := Holds.new (w.alloc (.cells #[.int .i64 n1, .slice a1 m1 c1] 24)) 24 #[.int .i64 n2, .slice a2 m2 c2]; simpa using this)
  have BL := Lib.hid (show Below w.heap.size w W1 by rw [hW1]; exact box2_below _ _ _ _ _)
  have S1 := Lib.hid (h1.below BL.out)
  have S2 := Lib.hid (h2.below BL.out)
  have SV := Lib.hid (hv.below BL.out)
  have hW1' := Lib.hid hW1
  clear hW1
  clear h1 h2 hv
  go_enter Try.func6, Try.ntmps6
  have k1 := Z1.out.cell 0
  have k2 := Z1.out.cell 1
  have q := Lib.hid (by have := large_any a1 m1 c1 S1.out.max W1; rwa [decide_eq_false (show ¬ (200 : Int) < (m1 : Int) by omega)] at this)
  go_wp2_with fail
  rw [← hW1'.out]
  refine q.out.mono ?_
  rintro e u1 ⟨rfl, rfl⟩
  clear hW1'
  clear q
  clear k1 k2
  have k3 := Z2.out.cell 0
  have k4 := Z2.out.cell 1
  have q := Lib.hid (by have := large_any a2 m2 c2 S2.out.max W1; rwa [decide_eq_true (show (200 : Int) < (m2 : Int) by omega)] at this)
  go_wp2_with fail
  refine q.out.mono ?_
  rintro e u1 ⟨rfl, rfl⟩
  clear q
  have q := Lib.hid (zlivesAt w _ BL.out)
  go_wp2_with fail
  refine q.out.mono ?_
  rintro e w9 ⟨rfl, b9, bw9⟩
  have bw := Lib.hid bw9
  clear b9 bw9 q
  clear k3 k4
  go_wp2
  go_ret
  exact ⟨rfl, bw.out⟩
set_option maxRecDepth 100000 in
set_option maxHeartbeats 8000000 in
theorem has_g3 (n1 n2 i j c : Int) (a1 a2 av : Option Addr) (m1 m2 mv c1 c2 cv : Nat) (l1 l2 v : List Int) (w : World) (h1 : SL w a1 m1 c1 l1) (h2 : SL w a2 m2 c2 l2) (hv : SL w av mv cv v) (g1 : ¬ 200 < m1) (g2 : ¬ 200 < m2) (g3 : 8 < mv) : Calls Try.prog 6 #[.agg #[.int .i64 n1, .slice a1 m1 c1], .agg #[.int .i64 n2, .slice a2 m2 c2], .slice av mv cv, .int .i64 i, .int .i64 j, .int .i64 c] w (Gives (.bool true) w) := by
  have g3i : (8 : Int) < (mv : Int) := by omega
  obtain ⟨W1, hW1⟩ : ∃ W1, W1 = (w.alloc (.cells #[.int .i64 n1, .slice a1 m1 c1] 24)).alloc (.cells #[.int .i64 n2, .slice a2 m2 c2] 24) := ⟨_, rfl⟩
  have Z1 : Hid (Holds W1 (w.heap.size) 24 #[.int .i64 n1, .slice a1 m1 c1]) := Lib.hid (by rw [hW1]; exact (Holds.new w _ _).alloc _)
  have Z2 : Hid (Holds W1 (w.heap.size + 1) 24 #[.int .i64 n2, .slice a2 m2 c2]) := Lib.hid (by rw [hW1]; have := Holds.new (w.alloc (.cells #[.int .i64 n1, .slice a1 m1 c1] 24)) 24 #[.int .i64 n2, .slice a2 m2 c2]; simpa using this)
  have BL := Lib.hid (show Below w.heap.size w W1 by rw [hW1]; exact box2_below _ _ _ _ _)
  have S1 := Lib.hid (h1.below BL.out)
  have S2 := Lib.hid (h2.below BL.out)
  have SV := Lib.hid (hv.below BL.out)
  have hW1' := Lib.hid hW1
  clear hW1
  clear h1 h2 hv
  go_enter Try.func6, Try.ntmps6
  have k1 := Z1.out.cell 0
  have k2 := Z1.out.cell 1
  have q := Lib.hid (by have := large_any a1 m1 c1 S1.out.max W1; rwa [decide_eq_false (show ¬ (200 : Int) < (m1 : Int) by omega)] at this)
  go_wp2_with fail
  rw [← hW1'.out]
  refine q.out.mono ?_
  rintro e u1 ⟨rfl, rfl⟩
  clear hW1'
  clear q
  clear k1 k2
  have k3 := Z2.out.cell 0
  have k4 := Z2.out.cell 1
  have q := Lib.hid (by have := large_any a2 m2 c2 S2.out.max W1; rwa [decide_eq_false (show ¬ (200 : Int) < (m2 : Int) by omega)] at this)
  go_wp2_with fail
  refine q.out.mono ?_
  rintro e u1 ⟨rfl, rfl⟩
  clear q
  clear k3 k4
  have q := Lib.hid (zlivesAt w _ BL.out)
  go_wp2_with fail
  refine q.out.mono ?_
  rintro e w9 ⟨rfl, b9, bw9⟩
  have bw := Lib.hid bw9
  clear b9 bw9 q
  go_wp2
  go_ret
  exact ⟨rfl, bw.out⟩
set_option maxRecDepth 100000 in
set_option maxHeartbeats 8000000 in
theorem has_g4 (n1 n2 i j c : Int) (a1 a2 av : Option Addr) (m1 m2 mv c1 c2 cv : Nat) (l1 l2 v : List Int) (w : World) (h1 : SL w a1 m1 c1 l1) (h2 : SL w a2 m2 c2 l2) (hv : SL w av mv cv v) (g1 : ¬ 200 < m1) (g2 : ¬ 200 < m2) (g3 : ¬ 8 < mv) (hne : twoE n1 l1 n2 l2 ≠ 0) : Calls Try.prog 6 #[.agg #[.int .i64 n1, .slice a1 m1 c1], .agg #[.int .i64 n2, .slice a2 m2 c2], .slice av mv cv, .int .i64 i, .int .i64 j, .int .i64 c] w (Gives (.bool true) w) := by
  have g3i : ¬ (8 : Int) < (mv : Int) := by omega
  obtain ⟨E, hE⟩ : ∃ E, twoE n1 l1 n2 l2 = E := ⟨_, rfl⟩
  rw [hE] at hne
  have hE1 : (E != 0) = true := by simpa using hne
  obtain ⟨W1, hW1⟩ : ∃ W1, W1 = (w.alloc (.cells #[.int .i64 n1, .slice a1 m1 c1] 24)).alloc (.cells #[.int .i64 n2, .slice a2 m2 c2] 24) := ⟨_, rfl⟩
  have Z1 : Hid (Holds W1 (w.heap.size) 24 #[.int .i64 n1, .slice a1 m1 c1]) := Lib.hid (by rw [hW1]; exact (Holds.new w _ _).alloc _)
  have Z2 : Hid (Holds W1 (w.heap.size + 1) 24 #[.int .i64 n2, .slice a2 m2 c2]) := Lib.hid (by rw [hW1]; have := Holds.new (w.alloc (.cells #[.int .i64 n1, .slice a1 m1 c1] 24)) 24 #[.int .i64 n2, .slice a2 m2 c2]; simpa using this)
  have BL := Lib.hid (show Below w.heap.size w W1 by rw [hW1]; exact box2_below _ _ _ _ _)
  have S1 := Lib.hid (h1.below BL.out)
  have S2 := Lib.hid (h2.below BL.out)
  have SV := Lib.hid (hv.below BL.out)
  have hW1' := Lib.hid hW1
  clear hW1
  clear h1 h2 hv
  go_enter Try.func6, Try.ntmps6
  have k1 := Z1.out.cell 0
  have k2 := Z1.out.cell 1
  have q := Lib.hid (by have := large_any a1 m1 c1 S1.out.max W1; rwa [decide_eq_false (show ¬ (200 : Int) < (m1 : Int) by omega)] at this)
  go_wp2_with fail
  rw [← hW1'.out]
  refine q.out.mono ?_
  rintro e u1 ⟨rfl, rfl⟩
  clear hW1'
  clear q
  clear k1 k2
  have k3 := Z2.out.cell 0
  have k4 := Z2.out.cell 1
  have q := Lib.hid (by have := large_any a2 m2 c2 S2.out.max W1; rwa [decide_eq_false (show ¬ (200 : Int) < (m2 : Int) by omega)] at this)
  go_wp2_with fail
  refine q.out.mono ?_
  rintro e u1 ⟨rfl, rfl⟩
  clear q
  clear k3 k4
  have k5 := Z1.out.cell 0
  have k6 := Z1.out.cell 1
  have k7 := Z2.out.cell 0
  have k8 := Z2.out.cell 1
  have q := Lib.hid (by have := rtwo_any n1 n2 a1 a2 m1 m2 c1 c2 l1 l2 W1 S1.out S2.out; rwa [hE] at this)
  go_wp2_with fail
  refine q.out.mono ?_
  rintro e u2 ⟨rfl, b2⟩
  clear k5 k6 k7 k8
  clear q
  have k9 : u2.cell? ⟨w.heap.size, 0, none⟩ = some (.int .i64 n1) := (Z1.out.below b2 Z1.out.lt).cell 0
  have k10 : u2.cell? ⟨w.heap.size, 1, none⟩ = some (.slice a1 m1 c1) := (Z1.out.below b2 Z1.out.lt).cell 1
  replace Z1 := Lib.hid (Z1.out.below b2 Z1.out.lt)
  replace Z2 := Lib.hid (Z2.out.below b2 Z2.out.lt)
  replace BL := Lib.hid (BL.out.trans (b2.mono BL.out.size))
  replace S1 := Lib.hid (S1.out.below b2)
  replace S2 := Lib.hid (S2.out.below b2)
  replace SV := Lib.hid (SV.out.below b2)
  clear b2
  have q := Lib.hid (zlivesAt w _ BL.out)
  go_wp2_with fail
  refine q.out.mono ?_
  rintro e w9 ⟨rfl, b9, bw9⟩
  have bw := Lib.hid bw9
  clear b9 bw9 q
  clear k9 k10
  go_wp2
  go_ret
  exact ⟨rfl, bw.out⟩
set_option maxRecDepth 100000 in
set_option maxHeartbeats 8000000 in
theorem has_g5 (n : Nat) (i j c : Int) (a1 a2 av : Option Addr) (m1 m2 mv c1 c2 cv : Nat) (l1 l2 v : List Int) (w : World) (h1 : SL w a1 m1 c1 l1) (h2 : SL w a2 m2 c2 l2) (hv : SL w av mv cv v) (g1 : ¬ 200 < m1) (g2 : ¬ 200 < m2) (g3 : ¬ 8 < mv)  (z1 : IsZ n l1) (z2 : IsZ n l2) (g5 : mv ≠ n) : Calls Try.prog 6 #[.agg #[.int .i64 n, .slice a1 m1 c1], .agg #[.int .i64 n, .slice a2 m2 c2], .slice av mv cv, .int .i64 i, .int .i64 j, .int .i64 c] w (Gives (.bool true) w) := by
  have g3i : ¬ (8 : Int) < (mv : Int) := by omega
  have htwo := Lib.hid (z1.two z2)
  clear z1 z2
  have g5i : (mv == n) = false := by simpa using g5
  obtain ⟨W1, hW1⟩ : ∃ W1, W1 = (w.alloc (.cells #[.int .i64 n, .slice a1 m1 c1] 24)).alloc (.cells #[.int .i64 n, .slice a2 m2 c2] 24) := ⟨_, rfl⟩
  have Z1 : Hid (Holds W1 (w.heap.size) 24 #[.int .i64 n, .slice a1 m1 c1]) := Lib.hid (by rw [hW1]; exact (Holds.new w _ _).alloc _)
  have Z2 : Hid (Holds W1 (w.heap.size + 1) 24 #[.int .i64 n, .slice a2 m2 c2]) := Lib.hid (by rw [hW1]; have := Holds.new (w.alloc (.cells #[.int .i64 n, .slice a1 m1 c1] 24)) 24 #[.int .i64 n, .slice a2 m2 c2]; simpa using this)
  have BL := Lib.hid (show Below w.heap.size w W1 by rw [hW1]; exact box2_below _ _ _ _ _)
  have S1 := Lib.hid (h1.below BL.out)
  have S2 := Lib.hid (h2.below BL.out)
  have SV := Lib.hid (hv.below BL.out)
  have hW1' := Lib.hid hW1
  clear hW1
  clear h1 h2 hv
  go_enter Try.func6, Try.ntmps6
  have k1 := Z1.out.cell 0
  have k2 := Z1.out.cell 1
  have q := Lib.hid (by have := large_any a1 m1 c1 S1.out.max W1; rwa [decide_eq_false (show ¬ (200 : Int) < (m1 : Int) by omega)] at this)
  go_wp2_with fail
  rw [← hW1'.out]
  refine q.out.mono ?_
  rintro e u1 ⟨rfl, rfl⟩
  clear hW1'
  clear q
  clear k1 k2
  have k3 := Z2.out.cell 0
  have k4 := Z2.out.cell 1
  have q := Lib.hid (by have := large_any a2 m2 c2 S2.out.max W1; rwa [decide_eq_false (show ¬ (200 : Int) < (m2 : Int) by omega)] at this)
  go_wp2_with fail
  refine q.out.mono ?_
  rintro e u1 ⟨rfl, rfl⟩
  clear q
  clear k3 k4
  have k5 := Z1.out.cell 0
  have k6 := Z1.out.cell 1
  have k7 := Z2.out.cell 0
  have k8 := Z2.out.cell 1
  have q := Lib.hid (by have := rtwo_any n n a1 a2 m1 m2 c1 c2 l1 l2 W1 S1.out S2.out; rwa [htwo.out] at this)
  go_wp2_with fail
  refine q.out.mono ?_
  rintro e u2 ⟨rfl, b2⟩
  clear k5 k6 k7 k8
  clear q
  have k9 : u2.cell? ⟨w.heap.size, 0, none⟩ = some (.int .i64 n) := (Z1.out.below b2 Z1.out.lt).cell 0
  have k10 : u2.cell? ⟨w.heap.size, 1, none⟩ = some (.slice a1 m1 c1) := (Z1.out.below b2 Z1.out.lt).cell 1
  replace Z1 := Lib.hid (Z1.out.below b2 Z1.out.lt)
  replace Z2 := Lib.hid (Z2.out.below b2 Z2.out.lt)
  replace BL := Lib.hid (BL.out.trans (b2.mono BL.out.size))
  replace S1 := Lib.hid (S1.out.below b2)
  replace S2 := Lib.hid (S2.out.below b2)
  replace SV := Lib.hid (SV.out.below b2)
  clear b2
  have q := Lib.hid (zlivesAt w _ BL.out)
  go_wp2_with fail
  refine q.out.mono ?_
  rintro e w9 ⟨rfl, b9, bw9⟩
  have bw := Lib.hid bw9
  clear b9 bw9 q
  clear k9 k10
  go_wp2
  go_ret
  exact ⟨rfl, bw.out⟩
set_option maxRecDepth 100000 in
set_option maxHeartbeats 8000000 in
theorem has_g6 (n : Nat) (i j c : Int) (a1 a2 av : Option Addr) (m1 m2 mv c1 c2 cv : Nat) (l1 l2 v : List Int) (w : World) (h1 : SL w a1 m1 c1 l1) (h2 : SL w a2 m2 c2 l2) (hv : SL w av mv cv v) (g1 : ¬ 200 < m1) (g2 : ¬ 200 < m2) (g3 : ¬ 8 < mv)  (g5 : mv = n) (z1 : IsZ n l1) (z2 : IsZ n l2) (g6 : i < 1 ∨ n < i) : Calls Try.prog 6 #[.agg #[.int .i64 n, .slice a1 m1 c1], .agg #[.int .i64 n, .slice a2 m2 c2], .slice av mv cv, .int .i64 i, .int .i64 j, .int .i64 c] w (Gives (.bool true) w) := by
  have g3i : ¬ (8 : Int) < (mv : Int) := by omega
  have htwo := Lib.hid (z1.two z2)
  clear z1 z2
  subst g5
  have hvar : Hid ((decide (1 ≤ i) && decide (i ≤ (mv : Int))) = false) := Lib.hid (by simp; omega)
  obtain ⟨W1, hW1⟩ : ∃ W1, W1 = (w.alloc (.cells #[.int .i64 mv, .slice a1 m1 c1] 24)).alloc (.cells #[.int .i64 mv, .slice a2 m2 c2] 24) := ⟨_, rfl⟩
  have Z1 : Hid (Holds W1 (w.heap.size) 24 #[.int .i64 mv, .slice a1 m1 c1]) := Lib.hid (by rw [hW1]; exact (Holds.new w _ _).alloc _)
  have Z2 : Hid (Holds W1 (w.heap.size + 1) 24 #[.int .i64 mv, .slice a2 m2 c2]) := Lib.hid (by rw [hW1]; have := Holds.new (w.alloc (.cells #[.int .i64 mv, .slice a1 m1 c1] 24)) 24 #[.int .i64 mv, .slice a2 m2 c2]; simpa using this)
  have BL := Lib.hid (show Below w.heap.size w W1 by rw [hW1]; exact box2_below _ _ _ _ _)
  have S1 := Lib.hid (h1.below BL.out)
  have S2 := Lib.hid (h2.below BL.out)
  have SV := Lib.hid (hv.below BL.out)
  have hW1' := Lib.hid hW1
  clear hW1
  clear h1 h2 hv
  go_enter Try.func6, Try.ntmps6
  have k1 := Z1.out.cell 0
  have k2 := Z1.out.cell 1
  have q := Lib.hid (by have := large_any a1 m1 c1 S1.out.max W1; rwa [decide_eq_false (show ¬ (200 : Int) < (m1 : Int) by omega)] at this)
  go_wp2_with fail
  rw [← hW1'.out]
  refine q.out.mono ?_
  rintro e u1 ⟨rfl, rfl⟩
  clear hW1'
  clear q
  clear k1 k2
  have k3 := Z2.out.cell 0
  have k4 := Z2.out.cell 1
  have q := Lib.hid (by have := large_any a2 m2 c2 S2.out.max W1; rwa [decide_eq_false (show ¬ (200 : Int) < (m2 : Int) by omega)] at this)
  go_wp2_with fail
  refine q.out.mono ?_
  rintro e u1 ⟨rfl, rfl⟩
  clear q
  clear k3 k4
  have k5 := Z1.out.cell 0
  have k6 := Z1.out.cell 1
  have k7 := Z2.out.cell 0
  have k8 := Z2.out.cell 1
  have q := Lib.hid (by have := rtwo_any mv mv a1 a2 m1 m2 c1 c2 l1 l2 W1 S1.out S2.out; rwa [htwo.out] at this)
  go_wp2_with fail
  refine q.out.mono ?_
  rintro e u2 ⟨rfl, b2⟩
  clear k5 k6 k7 k8
  clear q
  have k9 : u2.cell? ⟨w.heap.size, 0, none⟩ = some (.int .i64 mv) := (Z1.out.below b2 Z1.out.lt).cell 0
  have k10 : u2.cell? ⟨w.heap.size, 1, none⟩ = some (.slice a1 m1 c1) := (Z1.out.below b2 Z1.out.lt).cell 1
  replace Z1 := Lib.hid (Z1.out.below b2 Z1.out.lt)
  replace Z2 := Lib.hid (Z2.out.below b2 Z2.out.lt)
  replace BL := Lib.hid (BL.out.trans (b2.mono BL.out.size))
  replace S1 := Lib.hid (S1.out.below b2)
  replace S2 := Lib.hid (S2.out.below b2)
  replace SV := Lib.hid (SV.out.below b2)
  clear b2
  have q := Lib.hid (by have := rvar_any mv i a1 m1 c1 u2; rwa [hvar.out] at this)
  go_wp2_with fail
  refine q.out.mono ?_
  rintro e u3 ⟨rfl, b3⟩
  clear k9 k10
  clear q
  have k11 : u3.cell? ⟨w.heap.size, 0, none⟩ = some (.int .i64 mv) := (Z1.out.below b3 Z1.out.lt).cell 0
  have k12 : u3.cell? ⟨w.heap.size, 1, none⟩ = some (.slice a1 m1 c1) := (Z1.out.below b3 Z1.out.lt).cell 1
  replace Z1 := Lib.hid (Z1.out.below b3 Z1.out.lt)
  replace Z2 := Lib.hid (Z2.out.below b3 Z2.out.lt)
  replace BL := Lib.hid (BL.out.trans (b3.mono BL.out.size))
  replace S1 := Lib.hid (S1.out.below b3)
  replace S2 := Lib.hid (S2.out.below b3)
  replace SV := Lib.hid (SV.out.below b3)
  clear b3
  have q := Lib.hid (zlivesAt w _ BL.out)
  go_wp2_with fail
  refine q.out.mono ?_
  rintro e w9 ⟨rfl, b9, bw9⟩
  have bw := Lib.hid bw9
  clear b9 bw9 q
  clear k11 k12
  go_wp2
  go_ret
  exact ⟨rfl, bw.out⟩
set_option maxRecDepth 100000 in
set_option maxHeartbeats 8000000 in
theorem has_g7 (n : Nat) (i j c : Int) (a1 a2 av : Option Addr) (m1 m2 mv c1 c2 cv : Nat) (l1 l2 v : List Int) (w : World) (h1 : SL w a1 m1 c1 l1) (h2 : SL w a2 m2 c2 l2) (hv : SL w av mv cv v) (g1 : ¬ 200 < m1) (g2 : ¬ 200 < m2) (g3 : ¬ 8 < mv)  (g5 : mv = n) (g6 : 1 ≤ i ∧ i ≤ n) (z1 : IsZ n l1) (z2 : IsZ n l2) (g7 : j < 0 ∨ n < j) : Calls Try.prog 6 #[.agg #[.int .i64 n, .slice a1 m1 c1], .agg #[.int .i64 n, .slice a2 m2 c2], .slice av mv cv, .int .i64 i, .int .i64 j, .int .i64 c] w (Gives (.bool true) w) := by
  have g3i : ¬ (8 : Int) < (mv : Int) := by omega
  have htwo := Lib.hid (z1.two z2)
  clear z1 z2
  subst g5
  have hvar : Hid ((decide (1 ≤ i) && decide (i ≤ (mv : Int))) = true) := Lib.hid (by simp; omega)
  have hor : Hid ((decide (0 ≤ j) && decide (j ≤ (mv : Int))) = false) := Lib.hid (by simp; omega)
  obtain ⟨W1, hW1⟩ : ∃ W1, W1 = (w.alloc (.cells #[.int .i64 mv, .slice a1 m1 c1] 24)).alloc (.cells #[.int .i64 mv, .slice a2 m2 c2] 24) := ⟨_, rfl⟩
  have Z1 : Hid (Holds W1 (w.heap.size) 24 #[.int .i64 mv, .slice a1 m1 c1]) := Lib.hid (by rw [hW1]; exact (Holds.new w _ _).alloc _)
  have Z2 : Hid (Holds W1 (w.heap.size + 1) 24 #[.int .i64 mv, .slice a2 m2 c2]) := Lib.hid (by rw [hW1]; have := Holds.new (w.alloc (.cells #[.int .i64 mv, .slice a1 m1 c1] 24)) 24 #[.int .i64 mv, .slice a2 m2 c2]; simpa using this)
  have BL := Lib.hid (show Below w.heap.size w W1 by rw [hW1]; exact box2_below _ _ _ _ _)
  have S1 := Lib.hid (h1.below BL.out)
  have S2 := Lib.hid (h2.below BL.out)
  have SV := Lib.hid (hv.below BL.out)
  have hW1' := Lib.hid hW1
  clear hW1
  clear h1 h2 hv
  go_enter Try.func6, Try.ntmps6
  have k1 := Z1.out.cell 0
  have k2 := Z1.out.cell 1
  have q := Lib.hid (by have := large_any a1 m1 c1 S1.out.max W1; rwa [decide_eq_false (show ¬ (200 : Int) < (m1 : Int) by omega)] at this)
  go_wp2_with fail
  rw [← hW1'.out]
  refine q.out.mono ?_
  rintro e u1 ⟨rfl, rfl⟩
  clear hW1'
  clear q
  clear k1 k2
  have k3 := Z2.out.cell 0
  have k4 := Z2.out.cell 1
  have q := Lib.hid (by have := large_any a2 m2 c2 S2.out.max W1; rwa [decide_eq_false (show ¬ (200 : Int) < (m2 : Int) by omega)] at this)
  go_wp2_with fail
  refine q.out.mono ?_
  rintro e u1 ⟨rfl, rfl⟩
  clear q
  clear k3 k4
  have k5 := Z1.out.cell 0
  have k6 := Z1.out.cell 1
  have k7 := Z2.out.cell 0
  have k8 := Z2.out.cell 1
  have q := Lib.hid (by have := rtwo_any mv mv a1 a2 m1 m2 c1 c2 l1 l2 W1 S1.out S2.out; rwa [htwo.out] at this)
  go_wp2_with fail
  refine q.out.mono ?_
  rintro e u2 ⟨rfl, b2⟩
  clear k5 k6 k7 k8
  clear q
  have k9 : u2.cell? ⟨w.heap.size, 0, none⟩ = some (.int .i64 mv) := (Z1.out.below b2 Z1.out.lt).cell 0
  have k10 : u2.cell? ⟨w.heap.size, 1, none⟩ = some (.slice a1 m1 c1) := (Z1.out.below b2 Z1.out.lt).cell 1
  replace Z1 := Lib.hid (Z1.out.below b2 Z1.out.lt)
  replace Z2 := Lib.hid (Z2.out.below b2 Z2.out.lt)
  replace BL := Lib.hid (BL.out.trans (b2.mono BL.out.size))
  replace S1 := Lib.hid (S1.out.below b2)
  replace S2 := Lib.hid (S2.out.below b2)
  replace SV := Lib.hid (SV.out.below b2)
  clear b2
  have q := Lib.hid (by have := rvar_any mv i a1 m1 c1 u2; rwa [hvar.out] at this)
  go_wp2_with fail
  refine q.out.mono ?_
  rintro e u3 ⟨rfl, b3⟩
  clear k9 k10
  clear q
  have k11 : u3.cell? ⟨w.heap.size, 0, none⟩ = some (.int .i64 mv) := (Z1.out.below b3 Z1.out.lt).cell 0
  have k12 : u3.cell? ⟨w.heap.size, 1, none⟩ = some (.slice a1 m1 c1) := (Z1.out.below b3 Z1.out.lt).cell 1
  replace Z1 := Lib.hid (Z1.out.below b3 Z1.out.lt)
  replace Z2 := Lib.hid (Z2.out.below b3 Z2.out.lt)
  replace BL := Lib.hid (BL.out.trans (b3.mono BL.out.size))
  replace S1 := Lib.hid (S1.out.below b3)
  replace S2 := Lib.hid (S2.out.below b3)
  replace SV := Lib.hid (SV.out.below b3)
  clear b3
  have q := Lib.hid (by have := ror0_any mv j a1 m1 c1 u3; rwa [hor.out] at this)
  go_wp2_with fail
  refine q.out.mono ?_
  rintro e u4 ⟨rfl, b4⟩
  clear k11 k12
  clear q
  have k13 : u4.cell? ⟨w.heap.size, 0, none⟩ = some (.int .i64 mv) := (Z1.out.below b4 Z1.out.lt).cell 0
  have k14 : u4.cell? ⟨w.heap.size, 1, none⟩ = some (.slice a1 m1 c1) := (Z1.out.below b4 Z1.out.lt).cell 1
  have k15 : u4.cell? ⟨w.heap.size + 1, 0, none⟩ = some (.int .i64 mv) := (Z2.out.below b4 Z2.out.lt).cell 0
  have k16 : u4.cell? ⟨w.heap.size + 1, 1, none⟩ = some (.slice a2 m2 c2) := (Z2.out.below b4 Z2.out.lt).cell 1
  replace Z1 := Lib.hid (Z1.out.below b4 Z1.out.lt)
  replace Z2 := Lib.hid (Z2.out.below b4 Z2.out.lt)
  replace BL := Lib.hid (BL.out.trans (b4.mono BL.out.size))
  replace S1 := Lib.hid (S1.out.below b4)
  replace S2 := Lib.hid (S2.out.below b4)
  replace SV := Lib.hid (SV.out.below b4)
  clear b4
  have q := Lib.hid (zlivesAt w _ BL.out)
  go_wp2_with fail
  refine q.out.mono ?_
  rintro e w9 ⟨rfl, b9, bw9⟩
  have bw := Lib.hid bw9
  clear b9 bw9 q
  clear k13 k14 k15 k16
  go_wp2
  go_ret
  exact ⟨rfl, bw.out⟩
end Go.Proofs.Ytacbkddkjlnklaa
