import Derived.Test.YtplgmmjppmpnoaaGreatDoorRows
import Derived.LaidSub
import Derived.MakeChecks
import Derived.LaidMore
import Derived.ProofKit
import Derived.HandedShaped
import Derived.SizedLaws
import Derived.Stop.Joined
import Derived.Lib.SmallJoins
import Derived.Test.YtplgmmjppmpnoaaGreatDoorQ12
/- PostRises: the walk of the statement's function. (Written by gen-post-rises.py.) -/
namespace Go.Proofs.YtplgmmjppmpnoaaGreatDoor
open Go.RowKit
set_option linter.unusedVariables false
set_option linter.unusedSimpArgs false

set_option maxRecDepth 100000 in
set_option maxHeartbeats 4000000 in
theorem rises_g1 (n1 n2 : Int) (k x y c d : Int) (a1 a2 : Option Addr) (m1 m2 c1 c2 : Nat) (l1 l2 : List Int) (w : World) (h1 : SL w a1 m1 c1 l1) (h2 : SL w a2 m2 c2 l2) (g1 : 200 < m1) : Calls Tryz.prog 5 #[.agg #[.int .i64 n1, .slice a1 m1 c1], .agg #[.int .i64 n2, .slice a2 m2 c2], .agg #[.int .i64 k, .int .i64 x, .int .i64 y, .int .i64 c, .int .i64 d]] w (Gives (.bool true) w) := by
  obtain ⟨W1, hW1⟩ : ∃ W1, W1 = ((w.alloc (.cells #[.int .i64 n1, .slice a1 m1 c1] 24)).alloc (.cells #[.int .i64 n2, .slice a2 m2 c2] 24)).alloc (.cells #[.int .i64 k, .int .i64 x, .int .i64 y, .int .i64 c, .int .i64 d] 26) := ⟨_, rfl⟩
  have Z1 : Hid (Holds W1 (w.heap.size) 24 #[.int .i64 n1, .slice a1 m1 c1]) := Lib.hid (by rw [hW1]; exact ((Holds.new w _ _).alloc _).alloc _)
  have Z2 : Hid (Holds W1 (w.heap.size + 1) 24 #[.int .i64 n2, .slice a2 m2 c2]) := Lib.hid (by rw [hW1]; have q := (Holds.new (w.alloc (.cells #[.int .i64 n1, .slice a1 m1 c1] 24)) 24 #[.int .i64 n2, .slice a2 m2 c2]).alloc (.cells #[.int .i64 k, .int .i64 x, .int .i64 y, .int .i64 c, .int .i64 d] 26); simpa using q)
  have Zs : Hid (Holds W1 (w.heap.size + 2) 26 #[.int .i64 k, .int .i64 x, .int .i64 y, .int .i64 c, .int .i64 d]) := Lib.hid (by rw [hW1]; have q := Holds.new ((w.alloc (.cells #[.int .i64 n1, .slice a1 m1 c1] 24)).alloc (.cells #[.int .i64 n2, .slice a2 m2 c2] 24)) 26 #[.int .i64 k, .int .i64 x, .int .i64 y, .int .i64 c, .int .i64 d]; simpa using q)
  have BL := Lib.hid (show Below w.heap.size w W1 by rw [hW1]; exact ((box_below _ _ _).alloc (by simp) _).alloc (by simp; omega) _)
  have S1 := Lib.hid (h1.below BL.out)
  have S2 := Lib.hid (h2.below BL.out)
  have hW1' := Lib.hid hW1
  clear hW1
  clear h1 h2
  go_enter Tryz.func5, Tryz.ntmps5
  have k1 := Z1.out.cell 0
  have k2 := Z1.out.cell 1
  have k3 := Z2.out.cell 0
  have k4 := Z2.out.cell 1
  have k5 := Zs.out.cell 0
  have k6 := Zs.out.cell 1
  have k7 := Zs.out.cell 2
  have k8 := Zs.out.cell 3
  have k9 := Zs.out.cell 4
  have q := Lib.hid (by have := large_any a1 m1 c1 S1.out.max W1; rwa [decide_eq_true (show (200 : Int) < (m1 : Int) by omega)] at this)
  go_wp2_with fail
  rw [← hW1'.out]
  with_reducible refine q.out.mono ?_
  rintro e u1 ⟨rfl, rfl⟩
  clear hW1'
  clear q
  go_wp2_with fail
  refine (plives_any _).mono ?_
  rintro e w9 ⟨rfl, b9⟩
  have bw := Lib.hid (BL.out.trans (b9.mono BL.out.size))
  clear b9
  clear k1 k2 k3 k4 k5 k6 k7 k8 k9
  go_wp2
  go_ret
  exact ⟨rfl, bw.out⟩
set_option maxRecDepth 100000 in
set_option maxHeartbeats 4000000 in
theorem rises_g2 (n1 n2 : Int) (k x y c d : Int) (a1 a2 : Option Addr) (m1 m2 c1 c2 : Nat) (l1 l2 : List Int) (w : World) (h1 : SL w a1 m1 c1 l1) (h2 : SL w a2 m2 c2 l2) (g1 : ¬ 200 < m1) (g2 : 200 < m2) : Calls Tryz.prog 5 #[.agg #[.int .i64 n1, .slice a1 m1 c1], .agg #[.int .i64 n2, .slice a2 m2 c2], .agg #[.int .i64 k, .int .i64 x, .int .i64 y, .int .i64 c, .int .i64 d]] w (Gives (.bool true) w) := by
  obtain ⟨W1, hW1⟩ : ∃ W1, W1 = ((w.alloc (.cells #[.int .i64 n1, .slice a1 m1 c1] 24)).alloc (.cells #[.int .i64 n2, .slice a2 m2 c2] 24)).alloc (.cells #[.int .i64 k, .int .i64 x, .int .i64 y, .int .i64 c, .int .i64 d] 26) := ⟨_, rfl⟩
  have Z1 : Hid (Holds W1 (w.heap.size) 24 #[.int .i64 n1, .slice a1 m1 c1]) := Lib.hid (by rw [hW1]; exact ((Holds.new w _ _).alloc _).alloc _)
  have Z2 : Hid (Holds W1 (w.heap.size + 1) 24 #[.int .i64 n2, .slice a2 m2 c2]) := Lib.hid (by rw [hW1]; have q := (Holds.new (w.alloc (.cells #[.int .i64 n1, .slice a1 m1 c1] 24)) 24 #[.int .i64 n2, .slice a2 m2 c2]).alloc (.cells #[.int .i64 k, .int .i64 x, .int .i64 y, .int .i64 c, .int .i64 d] 26); simpa using q)
  have Zs : Hid (Holds W1 (w.heap.size + 2) 26 #[.int .i64 k, .int .i64 x, .int .i64 y, .int .i64 c, .int .i64 d]) := Lib.hid (by rw [hW1]; have q := Holds.new ((w.alloc (.cells #[.int .i64 n1, .slice a1 m1 c1] 24)).alloc (.cells #[.int .i64 n2, .slice a2 m2 c2] 24)) 26 #[.int .i64 k, .int .i64 x, .int .i64 y, .int .i64 c, .int .i64 d]; simpa using q)
  have BL := Lib.hid (show Below w.heap.size w W1 by rw [hW1]; exact ((box_below _ _ _).alloc (by simp) _).alloc (by simp; omega) _)
  have S1 := Lib.hid (h1.below BL.out)
  have S2 := Lib.hid (h2.below BL.out)
  have hW1' := Lib.hid hW1
  clear hW1
  clear h1 h2
  go_enter Tryz.func5, Tryz.ntmps5
  have k1 := Z1.out.cell 0
  have k2 := Z1.out.cell 1
  have k3 := Z2.out.cell 0
  have k4 := Z2.out.cell 1
  have k5 := Zs.out.cell 0
  have k6 := Zs.out.cell 1
  have k7 := Zs.out.cell 2
  have k8 := Zs.out.cell 3
  have k9 := Zs.out.cell 4
  have q := Lib.hid (by have := large_any a1 m1 c1 S1.out.max W1; rwa [decide_eq_false (show ¬ (200 : Int) < (m1 : Int) by omega)] at this)
  go_wp2_with fail
  rw [← hW1'.out]
  with_reducible refine q.out.mono ?_
  rintro e u1 ⟨rfl, rfl⟩
  clear hW1'
  clear q
  have q := Lib.hid (by have := large_any a2 m2 c2 S2.out.max W1; rwa [decide_eq_true (show (200 : Int) < (m2 : Int) by omega)] at this)
  go_wp2_with fail
  with_reducible refine q.out.mono ?_
  rintro e u1 ⟨rfl, rfl⟩
  clear q
  go_wp2_with fail
  refine (plives_any _).mono ?_
  rintro e w9 ⟨rfl, b9⟩
  have bw := Lib.hid (BL.out.trans (b9.mono BL.out.size))
  clear b9
  clear k1 k2 k3 k4 k5 k6 k7 k8 k9
  go_wp2
  go_ret
  exact ⟨rfl, bw.out⟩
set_option maxRecDepth 100000 in
set_option maxHeartbeats 4000000 in
theorem rises_g3 (n1 n2 : Int) (k x y c d : Int) (a1 a2 : Option Addr) (m1 m2 c1 c2 : Nat) (l1 l2 : List Int) (w : World) (h1 : SL w a1 m1 c1 l1) (h2 : SL w a2 m2 c2 l2) (g1 : ¬ 200 < m1) (g2 : ¬ 200 < m2) (g3 : twoE n1 l1 n2 l2 ≠ 0) : Calls Tryz.prog 5 #[.agg #[.int .i64 n1, .slice a1 m1 c1], .agg #[.int .i64 n2, .slice a2 m2 c2], .agg #[.int .i64 k, .int .i64 x, .int .i64 y, .int .i64 c, .int .i64 d]] w (Gives (.bool true) w) := by
  obtain ⟨E, hE⟩ : ∃ E, twoE n1 l1 n2 l2 = E := ⟨_, rfl⟩
  have htw := Lib.hid hE
  rw [hE] at g3
  have gb : (E != 0) = true := by simpa using g3
  clear hE g3
  obtain ⟨W1, hW1⟩ : ∃ W1, W1 = ((w.alloc (.cells #[.int .i64 n1, .slice a1 m1 c1] 24)).alloc (.cells #[.int .i64 n2, .slice a2 m2 c2] 24)).alloc (.cells #[.int .i64 k, .int .i64 x, .int .i64 y, .int .i64 c, .int .i64 d] 26) := ⟨_, rfl⟩
  have Z1 : Hid (Holds W1 (w.heap.size) 24 #[.int .i64 n1, .slice a1 m1 c1]) := Lib.hid (by rw [hW1]; exact ((Holds.new w _ _).alloc _).alloc _)
  have Z2 : Hid (Holds W1 (w.heap.size + 1) 24 #[.int .i64 n2, .slice a2 m2 c2]) := Lib.hid (by rw [hW1]; have q := (Holds.new (w.alloc (.cells #[.int .i64 n1, .slice a1 m1 c1] 24)) 24 #[.int .i64 n2, .slice a2 m2 c2]).alloc (.cells #[.int .i64 k, .int .i64 x, .int .i64 y, .int .i64 c, .int .i64 d] 26); simpa using q)
  have Zs : Hid (Holds W1 (w.heap.size + 2) 26 #[.int .i64 k, .int .i64 x, .int .i64 y, .int .i64 c, .int .i64 d]) := Lib.hid (by rw [hW1]; have q := Holds.new ((w.alloc (.cells #[.int .i64 n1, .slice a1 m1 c1] 24)).alloc (.cells #[.int .i64 n2, .slice a2 m2 c2] 24)) 26 #[.int .i64 k, .int .i64 x, .int .i64 y, .int .i64 c, .int .i64 d]; simpa using q)
  have BL := Lib.hid (show Below w.heap.size w W1 by rw [hW1]; exact ((box_below _ _ _).alloc (by simp) _).alloc (by simp; omega) _)
  have S1 := Lib.hid (h1.below BL.out)
  have S2 := Lib.hid (h2.below BL.out)
  have hW1' := Lib.hid hW1
  clear hW1
  clear h1 h2
  go_enter Tryz.func5, Tryz.ntmps5
  have k1 := Z1.out.cell 0
  have k2 := Z1.out.cell 1
  have k3 := Z2.out.cell 0
  have k4 := Z2.out.cell 1
  have k5 := Zs.out.cell 0
  have k6 := Zs.out.cell 1
  have k7 := Zs.out.cell 2
  have k8 := Zs.out.cell 3
  have k9 := Zs.out.cell 4
  have q := Lib.hid (by have := large_any a1 m1 c1 S1.out.max W1; rwa [decide_eq_false (show ¬ (200 : Int) < (m1 : Int) by omega)] at this)
  go_wp2_with fail
  rw [← hW1'.out]
  with_reducible refine q.out.mono ?_
  rintro e u1 ⟨rfl, rfl⟩
  clear hW1'
  clear q
  have q := Lib.hid (by have := large_any a2 m2 c2 S2.out.max W1; rwa [decide_eq_false (show ¬ (200 : Int) < (m2 : Int) by omega)] at this)
  go_wp2_with fail
  with_reducible refine q.out.mono ?_
  rintro e u1 ⟨rfl, rfl⟩
  clear q
  have q := Lib.hid (by have := rtwo_any n1 n2 a1 a2 m1 m2 c1 c2 l1 l2 W1 S1.out S2.out; rwa [htw.out] at this)
  go_wp2_with fail
  with_reducible refine q.out.mono ?_
  rintro e u2 ⟨rfl, b2⟩
  clear k1 k2 k3 k4 k5 k6 k7 k8 k9
  clear q
  have k10 : u2.cell? ⟨w.heap.size, 0, none⟩ = some (.int .i64 n1) := (Z1.out.below b2 Z1.out.lt).cell 0
  have k11 : u2.cell? ⟨w.heap.size, 1, none⟩ = some (.slice a1 m1 c1) := (Z1.out.below b2 Z1.out.lt).cell 1
  have k12 : u2.cell? ⟨w.heap.size + 1, 0, none⟩ = some (.int .i64 n2) := (Z2.out.below b2 Z2.out.lt).cell 0
  have k13 : u2.cell? ⟨w.heap.size + 1, 1, none⟩ = some (.slice a2 m2 c2) := (Z2.out.below b2 Z2.out.lt).cell 1
  have k14 : u2.cell? ⟨w.heap.size + 2, 0, none⟩ = some (.int .i64 k) := (Zs.out.below b2 Zs.out.lt).cell 0
  have k15 : u2.cell? ⟨w.heap.size + 2, 1, none⟩ = some (.int .i64 x) := (Zs.out.below b2 Zs.out.lt).cell 1
  have k16 : u2.cell? ⟨w.heap.size + 2, 2, none⟩ = some (.int .i64 y) := (Zs.out.below b2 Zs.out.lt).cell 2
  have k17 : u2.cell? ⟨w.heap.size + 2, 3, none⟩ = some (.int .i64 c) := (Zs.out.below b2 Zs.out.lt).cell 3
  have k18 : u2.cell? ⟨w.heap.size + 2, 4, none⟩ = some (.int .i64 d) := (Zs.out.below b2 Zs.out.lt).cell 4
  replace Z1 := Lib.hid (Z1.out.below b2 Z1.out.lt)
  replace Z2 := Lib.hid (Z2.out.below b2 Z2.out.lt)
  replace Zs := Lib.hid (Zs.out.below b2 Zs.out.lt)
  replace BL := Lib.hid (BL.out.trans (b2.mono BL.out.size))
  replace S1 := Lib.hid (S1.out.below b2)
  replace S2 := Lib.hid (S2.out.below b2)
  clear b2
  go_wp2_with fail
  refine (plives_any _).mono ?_
  rintro e w9 ⟨rfl, b9⟩
  have bw := Lib.hid (BL.out.trans (b9.mono BL.out.size))
  clear b9
  clear k10 k11 k12 k13 k14 k15 k16 k17 k18
  go_wp2
  go_ret
  exact ⟨rfl, bw.out⟩
set_option maxRecDepth 100000 in
set_option maxHeartbeats 4000000 in
theorem rises_g4 (n1 n2 : Int) (k x y c d : Int) (a1 a2 : Option Addr) (m1 m2 c1 c2 : Nat) (l1 l2 : List Int) (w : World) (h1 : SL w a1 m1 c1 l1) (h2 : SL w a2 m2 c2 l2) (g1 : ¬ 200 < m1) (g2 : ¬ 200 < m2) (g3 : twoE n1 l1 n2 l2 = 0) (g4 : pchk n1 l1 k x y c d ≠ 0) : Calls Tryz.prog 5 #[.agg #[.int .i64 n1, .slice a1 m1 c1], .agg #[.int .i64 n2, .slice a2 m2 c2], .agg #[.int .i64 k, .int .i64 x, .int .i64 y, .int .i64 c, .int .i64 d]] w (Gives (.bool true) w) := by
  have htw := Lib.hid g3
  obtain ⟨E, hE⟩ : ∃ E, pchk n1 l1 k x y c d = E := ⟨_, rfl⟩
  have hck := Lib.hid hE
  rw [hE] at g4
  have gb : (E != 0) = true := by simpa using g4
  clear hE g3 g4
  obtain ⟨W1, hW1⟩ : ∃ W1, W1 = ((w.alloc (.cells #[.int .i64 n1, .slice a1 m1 c1] 24)).alloc (.cells #[.int .i64 n2, .slice a2 m2 c2] 24)).alloc (.cells #[.int .i64 k, .int .i64 x, .int .i64 y, .int .i64 c, .int .i64 d] 26) := ⟨_, rfl⟩
  have Z1 : Hid (Holds W1 (w.heap.size) 24 #[.int .i64 n1, .slice a1 m1 c1]) := Lib.hid (by rw [hW1]; exact ((Holds.new w _ _).alloc _).alloc _)
  have Z2 : Hid (Holds W1 (w.heap.size + 1) 24 #[.int .i64 n2, .slice a2 m2 c2]) := Lib.hid (by rw [hW1]; have q := (Holds.new (w.alloc (.cells #[.int .i64 n1, .slice a1 m1 c1] 24)) 24 #[.int .i64 n2, .slice a2 m2 c2]).alloc (.cells #[.int .i64 k, .int .i64 x, .int .i64 y, .int .i64 c, .int .i64 d] 26); simpa using q)
  have Zs : Hid (Holds W1 (w.heap.size + 2) 26 #[.int .i64 k, .int .i64 x, .int .i64 y, .int .i64 c, .int .i64 d]) := Lib.hid (by rw [hW1]; have q := Holds.new ((w.alloc (.cells #[.int .i64 n1, .slice a1 m1 c1] 24)).alloc (.cells #[.int .i64 n2, .slice a2 m2 c2] 24)) 26 #[.int .i64 k, .int .i64 x, .int .i64 y, .int .i64 c, .int .i64 d]; simpa using q)
  have BL := Lib.hid (show Below w.heap.size w W1 by rw [hW1]; exact ((box_below _ _ _).alloc (by simp) _).alloc (by simp; omega) _)
  have S1 := Lib.hid (h1.below BL.out)
  have S2 := Lib.hid (h2.below BL.out)
  have hW1' := Lib.hid hW1
  clear hW1
  clear h1 h2
  go_enter Tryz.func5, Tryz.ntmps5
  have k1 := Z1.out.cell 0
  have k2 := Z1.out.cell 1
  have k3 := Z2.out.cell 0
  have k4 := Z2.out.cell 1
  have k5 := Zs.out.cell 0
  have k6 := Zs.out.cell 1
  have k7 := Zs.out.cell 2
  have k8 := Zs.out.cell 3
  have k9 := Zs.out.cell 4
  have q := Lib.hid (by have := large_any a1 m1 c1 S1.out.max W1; rwa [decide_eq_false (show ¬ (200 : Int) < (m1 : Int) by omega)] at this)
  go_wp2_with fail
  rw [← hW1'.out]
  with_reducible refine q.out.mono ?_
  rintro e u1 ⟨rfl, rfl⟩
  clear hW1'
  clear q
  have q := Lib.hid (by have := large_any a2 m2 c2 S2.out.max W1; rwa [decide_eq_false (show ¬ (200 : Int) < (m2 : Int) by omega)] at this)
  go_wp2_with fail
  with_reducible refine q.out.mono ?_
  rintro e u1 ⟨rfl, rfl⟩
  clear q
  have q := Lib.hid (by have := rtwo_any n1 n2 a1 a2 m1 m2 c1 c2 l1 l2 W1 S1.out S2.out; rwa [htw.out] at this)
  go_wp2_with fail
  with_reducible refine q.out.mono ?_
  rintro e u2 ⟨rfl, b2⟩
  clear k1 k2 k3 k4 k5 k6 k7 k8 k9
  clear q
  have k10 : u2.cell? ⟨w.heap.size, 0, none⟩ = some (.int .i64 n1) := (Z1.out.below b2 Z1.out.lt).cell 0
  have k11 : u2.cell? ⟨w.heap.size, 1, none⟩ = some (.slice a1 m1 c1) := (Z1.out.below b2 Z1.out.lt).cell 1
  have k12 : u2.cell? ⟨w.heap.size + 1, 0, none⟩ = some (.int .i64 n2) := (Z2.out.below b2 Z2.out.lt).cell 0
  have k13 : u2.cell? ⟨w.heap.size + 1, 1, none⟩ = some (.slice a2 m2 c2) := (Z2.out.below b2 Z2.out.lt).cell 1
  have k14 : u2.cell? ⟨w.heap.size + 2, 0, none⟩ = some (.int .i64 k) := (Zs.out.below b2 Zs.out.lt).cell 0
  have k15 : u2.cell? ⟨w.heap.size + 2, 1, none⟩ = some (.int .i64 x) := (Zs.out.below b2 Zs.out.lt).cell 1
  have k16 : u2.cell? ⟨w.heap.size + 2, 2, none⟩ = some (.int .i64 y) := (Zs.out.below b2 Zs.out.lt).cell 2
  have k17 : u2.cell? ⟨w.heap.size + 2, 3, none⟩ = some (.int .i64 c) := (Zs.out.below b2 Zs.out.lt).cell 3
  have k18 : u2.cell? ⟨w.heap.size + 2, 4, none⟩ = some (.int .i64 d) := (Zs.out.below b2 Zs.out.lt).cell 4
  replace Z1 := Lib.hid (Z1.out.below b2 Z1.out.lt)
  replace Z2 := Lib.hid (Z2.out.below b2 Z2.out.lt)
  replace Zs := Lib.hid (Zs.out.below b2 Zs.out.lt)
  replace BL := Lib.hid (BL.out.trans (b2.mono BL.out.size))
  replace S1 := Lib.hid (S1.out.below b2)
  replace S2 := Lib.hid (S2.out.below b2)
  clear b2
  have q := Lib.hid (by have := rchk_any n1 k x y c d l1 a1 m1 c1 u2 S1.out; rwa [hck.out] at this)
  go_wp2_with fail
  with_reducible refine q.out.mono ?_
  rintro e u3 ⟨rfl, b3⟩
  clear k10 k11 k12 k13 k14 k15 k16 k17 k18
  clear q
  have k19 : u3.cell? ⟨w.heap.size, 0, none⟩ = some (.int .i64 n1) := (Z1.out.below b3 Z1.out.lt).cell 0
  have k20 : u3.cell? ⟨w.heap.size, 1, none⟩ = some (.slice a1 m1 c1) := (Z1.out.below b3 Z1.out.lt).cell 1
  have k21 : u3.cell? ⟨w.heap.size + 1, 0, none⟩ = some (.int .i64 n2) := (Z2.out.below b3 Z2.out.lt).cell 0
  have k22 : u3.cell? ⟨w.heap.size + 1, 1, none⟩ = some (.slice a2 m2 c2) := (Z2.out.below b3 Z2.out.lt).cell 1
  have k23 : u3.cell? ⟨w.heap.size + 2, 0, none⟩ = some (.int .i64 k) := (Zs.out.below b3 Zs.out.lt).cell 0
  have k24 : u3.cell? ⟨w.heap.size + 2, 1, none⟩ = some (.int .i64 x) := (Zs.out.below b3 Zs.out.lt).cell 1
  have k25 : u3.cell? ⟨w.heap.size + 2, 2, none⟩ = some (.int .i64 y) := (Zs.out.below b3 Zs.out.lt).cell 2
  have k26 : u3.cell? ⟨w.heap.size + 2, 3, none⟩ = some (.int .i64 c) := (Zs.out.below b3 Zs.out.lt).cell 3
  have k27 : u3.cell? ⟨w.heap.size + 2, 4, none⟩ = some (.int .i64 d) := (Zs.out.below b3 Zs.out.lt).cell 4
  replace Z1 := Lib.hid (Z1.out.below b3 Z1.out.lt)
  replace Z2 := Lib.hid (Z2.out.below b3 Z2.out.lt)
  replace Zs := Lib.hid (Zs.out.below b3 Zs.out.lt)
  replace BL := Lib.hid (BL.out.trans (b3.mono BL.out.size))
  replace S1 := Lib.hid (S1.out.below b3)
  replace S2 := Lib.hid (S2.out.below b3)
  clear b3
  go_wp2_with fail
  refine (plives_any _).mono ?_
  rintro e w9 ⟨rfl, b9⟩
  have bw := Lib.hid (BL.out.trans (b9.mono BL.out.size))
  clear b9
  clear k19 k20 k21 k22 k23 k24 k25 k26 k27
  go_wp2
  go_ret
  exact ⟨rfl, bw.out⟩
set_option maxRecDepth 100000 in
set_option maxHeartbeats 4000000 in
theorem rises_g5 (n : Nat) (k x y c d : Int) (a1 a2 : Option Addr) (m1 m2 c1 c2 : Nat) (l1 l2 : List Int) (w : World) (h1 : SL w a1 m1 c1 l1) (h2 : SL w a2 m2 c2 l2) (g1 : ¬ 200 < m1) (g2 : ¬ 200 < m2) (z1 : IsZ n l1) (z2 : IsZ n l2) (hr : rightB k x y c d n = true) : Calls Tryz.prog 5 #[.agg #[.int .i64 n, .slice a1 m1 c1], .agg #[.int .i64 n, .slice a2 m2 c2], .agg #[.int .i64 k, .int .i64 x, .int .i64 y, .int .i64 c, .int .i64 d]] w (Gives (.bool true) w) := by
  have htw : Hid (twoE n l1 n l2 = 0) := Lib.hid (by unfold twoE; rw [z1.check, z2.check, if_neg (by decide), if_pos rfl])
  have hck : Hid (pchk n l1 k x y c d = 0) := Lib.hid (by unfold pchk; rw [z1.check, hr]; simp)
  have qJ := Lib.hid (fun W hs1 hs2 => zjoin_ok a1 a2 m1 m2 c1 c2 l1 l2 n z1 z2 W hs1 hs2)
  have hJ := joinL_isz z1 z2
  have qA := Lib.hid (fun W hs => post_ok n k x y c d l1 z1 hr a1 m1 c1 W hs)
  have qB := Lib.hid (fun W aa cc hs => post_ok n k x y c d (joinL n l1 l2) hJ hr aa (joinL n l1 l2).length cc W hs)
  have qL := Lib.hid (fun W aa cc ab cb hs1 hs2 => zleq_ok aa ab (postL n l1 k x y c d).length (postL n (joinL n l1 l2) k x y c d).length cc cb (postL n l1 k x y c d) (postL n (joinL n l1 l2) k x y c d) n (postL_isz z1 _ _ _ _ _) (postL_isz hJ _ _ _ _ _) W hs1 hs2)
  rw [post_rises z1 z2 hr] at qL
  have sJ := hJ.small
  have sX := (postL_isz z1 k x y c d).small
  have sY := (postL_isz hJ k x y c d).small
  clear z1 z2 hr hJ
  generalize postL n (joinL n l1 l2) k x y c d = Y at *
  generalize postL n l1 k x y c d = X at *
  generalize joinL n l1 l2 = J at *
  obtain ⟨W1, hW1⟩ : ∃ W1, W1 = ((w.alloc (.cells #[.int .i64 n, .slice a1 m1 c1] 24)).alloc (.cells #[.int .i64 n, .slice a2 m2 c2] 24)).alloc (.cells #[.int .i64 k, .int .i64 x, .int .i64 y, .int .i64 c, .int .i64 d] 26) := ⟨_, rfl⟩
  have Z1 : Hid (Holds W1 (w.heap.size) 24 #[.int .i64 n, .slice a1 m1 c1]) := Lib.hid (by rw [hW1]; exact ((Holds.new w _ _).alloc _).alloc _)
  have Z2 : Hid (Holds W1 (w.heap.size + 1) 24 #[.int .i64 n, .slice a2 m2 c2]) := Lib.hid (by rw [hW1]; have q := (Holds.new (w.alloc (.cells #[.int .i64 n, .slice a1 m1 c1] 24)) 24 #[.int .i64 n, .slice a2 m2 c2]).alloc (.cells #[.int .i64 k, .int .i64 x, .int .i64 y, .int .i64 c, .int .i64 d] 26); simpa using q)
  have Zs : Hid (Holds W1 (w.heap.size + 2) 26 #[.int .i64 k, .int .i64 x, .int .i64 y, .int .i64 c, .int .i64 d]) := Lib.hid (by rw [hW1]; have q := Holds.new ((w.alloc (.cells #[.int .i64 n, .slice a1 m1 c1] 24)).alloc (.cells #[.int .i64 n, .slice a2 m2 c2] 24)) 26 #[.int .i64 k, .int .i64 x, .int .i64 y, .int .i64 c, .int .i64 d]; simpa using q)
  have BL := Lib.hid (show Below w.heap.size w W1 by rw [hW1]; exact ((box_below _ _ _).alloc (by simp) _).alloc (by simp; omega) _)
  have S1 := Lib.hid (h1.below BL.out)
  have S2 := Lib.hid (h2.below BL.out)
  have hW1' := Lib.hid hW1
  clear hW1
  clear h1 h2
  go_enter Tryz.func5, Tryz.ntmps5
  have k1 := Z1.out.cell 0
  have k2 := Z1.out.cell 1
  have k3 := Z2.out.cell 0
  have k4 := Z2.out.cell 1
  have k5 := Zs.out.cell 0
  have k6 := Zs.out.cell 1
  have k7 := Zs.out.cell 2
  have k8 := Zs.out.cell 3
  have k9 := Zs.out.cell 4
  have q := Lib.hid (by have := large_any a1 m1 c1 S1.out.max W1; rwa [decide_eq_false (show ¬ (200 : Int) < (m1 : Int) by omega)] at this)
  go_wp2_with fail
  rw [← hW1'.out]
  with_reducible refine q.out.mono ?_
  rintro e u1 ⟨rfl, rfl⟩
  clear hW1'
  clear q
  have q := Lib.hid (by have := large_any a2 m2 c2 S2.out.max W1; rwa [decide_eq_false (show ¬ (200 : Int) < (m2 : Int) by omega)] at this)
  go_wp2_with fail
  with_reducible refine q.out.mono ?_
  rintro e u1 ⟨rfl, rfl⟩
  clear q
  have q := Lib.hid (by have := rtwo_any n n a1 a2 m1 m2 c1 c2 l1 l2 W1 S1.out S2.out; rwa [htw.out] at this)
  go_wp2_with fail
  with_reducible refine q.out.mono ?_
  rintro e u2 ⟨rfl, b2⟩
  clear k1 k2 k3 k4 k5 k6 k7 k8 k9
  clear q
  have k10 : u2.cell? ⟨w.heap.size, 0, none⟩ = some (.int .i64 n) := (Z1.out.below b2 Z1.out.lt).cell 0
  have k11 : u2.cell? ⟨w.heap.size, 1, none⟩ = some (.slice a1 m1 c1) := (Z1.out.below b2 Z1.out.lt).cell 1
  have k12 : u2.cell? ⟨w.heap.size + 1, 0, none⟩ = some (.int .i64 n) := (Z2.out.below b2 Z2.out.lt).cell 0
  have k13 : u2.cell? ⟨w.heap.size + 1, 1, none⟩ = some (.slice a2 m2 c2) := (Z2.out.below b2 Z2.out.lt).cell 1
  have k14 : u2.cell? ⟨w.heap.size + 2, 0, none⟩ = some (.int .i64 k) := (Zs.out.below b2 Zs.out.lt).cell 0
  have k15 : u2.cell? ⟨w.heap.size + 2, 1, none⟩ = some (.int .i64 x) := (Zs.out.below b2 Zs.out.lt).cell 1
  have k16 : u2.cell? ⟨w.heap.size + 2, 2, none⟩ = some (.int .i64 y) := (Zs.out.below b2 Zs.out.lt).cell 2
  have k17 : u2.cell? ⟨w.heap.size + 2, 3, none⟩ = some (.int .i64 c) := (Zs.out.below b2 Zs.out.lt).cell 3
  have k18 : u2.cell? ⟨w.heap.size + 2, 4, none⟩ = some (.int .i64 d) := (Zs.out.below b2 Zs.out.lt).cell 4
  replace Z1 := Lib.hid (Z1.out.below b2 Z1.out.lt)
  replace Z2 := Lib.hid (Z2.out.below b2 Z2.out.lt)
  replace Zs := Lib.hid (Zs.out.below b2 Zs.out.lt)
  replace BL := Lib.hid (BL.out.trans (b2.mono BL.out.size))
  replace S1 := Lib.hid (S1.out.below b2)
  replace S2 := Lib.hid (S2.out.below b2)
  clear b2
  have q := Lib.hid (by have := rchk_any n k x y c d l1 a1 m1 c1 u2 S1.out; rwa [hck.out] at this)
  go_wp2_with fail
  with_reducible refine q.out.mono ?_
  rintro e u3 ⟨rfl, b3⟩
  clear k10 k11 k12 k13 k14 k15 k16 k17 k18
  clear q
  have k19 : u3.cell? ⟨w.heap.size, 0, none⟩ = some (.int .i64 n) := (Z1.out.below b3 Z1.out.lt).cell 0
  have k20 : u3.cell? ⟨w.heap.size, 1, none⟩ = some (.slice a1 m1 c1) := (Z1.out.below b3 Z1.out.lt).cell 1
  have k21 : u3.cell? ⟨w.heap.size + 1, 0, none⟩ = some (.int .i64 n) := (Z2.out.below b3 Z2.out.lt).cell 0
  have k22 : u3.cell? ⟨w.heap.size + 1, 1, none⟩ = some (.slice a2 m2 c2) := (Z2.out.below b3 Z2.out.lt).cell 1
  have k23 : u3.cell? ⟨w.heap.size + 2, 0, none⟩ = some (.int .i64 k) := (Zs.out.below b3 Zs.out.lt).cell 0
  have k24 : u3.cell? ⟨w.heap.size + 2, 1, none⟩ = some (.int .i64 x) := (Zs.out.below b3 Zs.out.lt).cell 1
  have k25 : u3.cell? ⟨w.heap.size + 2, 2, none⟩ = some (.int .i64 y) := (Zs.out.below b3 Zs.out.lt).cell 2
  have k26 : u3.cell? ⟨w.heap.size + 2, 3, none⟩ = some (.int .i64 c) := (Zs.out.below b3 Zs.out.lt).cell 3
  have k27 : u3.cell? ⟨w.heap.size + 2, 4, none⟩ = some (.int .i64 d) := (Zs.out.below b3 Zs.out.lt).cell 4
  replace Z1 := Lib.hid (Z1.out.below b3 Z1.out.lt)
  replace Z2 := Lib.hid (Z2.out.below b3 Z2.out.lt)
  replace Zs := Lib.hid (Zs.out.below b3 Zs.out.lt)
  replace BL := Lib.hid (BL.out.trans (b3.mono BL.out.size))
  replace S1 := Lib.hid (S1.out.below b3)
  replace S2 := Lib.hid (S2.out.below b3)
  clear b3
  have q := Lib.hid (qJ.out u3 S1.out S2.out)
  go_wp2_with fail
  with_reducible refine q.out.mono ?_
  rintro e uj ⟨aj, cj, rfl, hcj, tj, bj, -⟩
  clear k19 k20 k21 k22 k23 k24 k25 k26 k27
  clear q
  have k28 : uj.cell? ⟨w.heap.size, 0, none⟩ = some (.int .i64 n) := (Z1.out.below bj Z1.out.lt).cell 0
  have k29 : uj.cell? ⟨w.heap.size, 1, none⟩ = some (.slice a1 m1 c1) := (Z1.out.below bj Z1.out.lt).cell 1
  have k30 : w.heap.size < uj.heap.size := (Z1.out.below bj Z1.out.lt).lt
  have k31 : uj.cell? ⟨w.heap.size + 1, 0, none⟩ = some (.int .i64 n) := (Z2.out.below bj Z2.out.lt).cell 0
  have k32 : uj.cell? ⟨w.heap.size + 1, 1, none⟩ = some (.slice a2 m2 c2) := (Z2.out.below bj Z2.out.lt).cell 1
  have k33 : w.heap.size + 1 < uj.heap.size := (Z2.out.below bj Z2.out.lt).lt
  have k34 : uj.cell? ⟨w.heap.size + 2, 0, none⟩ = some (.int .i64 k) := (Zs.out.below bj Zs.out.lt).cell 0
  have k35 : uj.cell? ⟨w.heap.size + 2, 1, none⟩ = some (.int .i64 x) := (Zs.out.below bj Zs.out.lt).cell 1
  have k36 : uj.cell? ⟨w.heap.size + 2, 2, none⟩ = some (.int .i64 y) := (Zs.out.below bj Zs.out.lt).cell 2
  have k37 : uj.cell? ⟨w.heap.size + 2, 3, none⟩ = some (.int .i64 c) := (Zs.out.below bj Zs.out.lt).cell 3
  have k38 : uj.cell? ⟨w.heap.size + 2, 4, none⟩ = some (.int .i64 d) := (Zs.out.below bj Zs.out.lt).cell 4
  have k39 : w.heap.size + 2 < uj.heap.size := (Zs.out.below bj Zs.out.lt).lt
  have B0 := box_below uj #[.int .i64 n, .slice aj J.length cj] 24
  have B := bj.trans (B0.mono bj.size)
  replace Z1 := Lib.hid (Z1.out.below B Z1.out.lt)
  replace Z2 := Lib.hid (Z2.out.below B Z2.out.lt)
  replace Zs := Lib.hid (Zs.out.below B Zs.out.lt)
  replace BL := Lib.hid (BL.out.trans (B.mono BL.out.size))
  replace S1 := Lib.hid (S1.out.below B)
  replace S2 := Lib.hid (S2.out.below B)
  have ZJ := Lib.hid (Holds.new uj 24 #[.int .i64 n, .slice aj J.length cj])
  have SJ := Lib.hid ((show SL uj aj J.length cj J from ⟨rfl, hcj, by omega, tj⟩).below B0)
  clear bj B B0 tj hcj sJ
  have q := Lib.hid (qA.out _ S1.out)
  go_wp2_with fail
  with_reducible refine q.out.mono ?_
  rintro e ux ⟨ax, cx, rfl, hcx, tx, bx, -⟩
  clear k28 k29 k30 k31 k32 k33 k34 k35 k36 k37 k38 k39
  clear q
  have k40 : ux.cell? ⟨uj.heap.size, 0, none⟩ = some (.int .i64 n) := (ZJ.out.below bx ZJ.out.lt).cell 0
  have k41 : ux.cell? ⟨uj.heap.size, 1, none⟩ = some (.slice aj J.length cj) := (ZJ.out.below bx ZJ.out.lt).cell 1
  have k42 : uj.heap.size < ux.heap.size := (ZJ.out.below bx ZJ.out.lt).lt
  have k43 : ux.cell? ⟨w.heap.size + 2, 0, none⟩ = some (.int .i64 k) := (Zs.out.below bx Zs.out.lt).cell 0
  have k44 : ux.cell? ⟨w.heap.size + 2, 1, none⟩ = some (.int .i64 x) := (Zs.out.below bx Zs.out.lt).cell 1
  have k45 : ux.cell? ⟨w.heap.size + 2, 2, none⟩ = some (.int .i64 y) := (Zs.out.below bx Zs.out.lt).cell 2
  have k46 : ux.cell? ⟨w.heap.size + 2, 3, none⟩ = some (.int .i64 c) := (Zs.out.below bx Zs.out.lt).cell 3
  have k47 : ux.cell? ⟨w.heap.size + 2, 4, none⟩ = some (.int .i64 d) := (Zs.out.below bx Zs.out.lt).cell 4
  have k48 : w.heap.size + 2 < ux.heap.size := (Zs.out.below bx Zs.out.lt).lt
  have B0 := box_below ux #[.int .i64 n, .slice ax X.length cx] 24
  have B := bx.trans (B0.mono bx.size)
  replace Z1 := Lib.hid (Z1.out.below B Z1.out.lt)
  replace Z2 := Lib.hid (Z2.out.below B Z2.out.lt)
  replace Zs := Lib.hid (Zs.out.below B Zs.out.lt)
  replace ZJ := Lib.hid (ZJ.out.below B ZJ.out.lt)
  replace BL := Lib.hid (BL.out.trans (B.mono BL.out.size))
  replace S1 := Lib.hid (S1.out.below B)
  replace S2 := Lib.hid (S2.out.below B)
  replace SJ := Lib.hid (SJ.out.below B)
  have ZX := Lib.hid (Holds.new ux 24 #[.int .i64 n, .slice ax X.length cx])
  have SX := Lib.hid ((show SL ux ax X.length cx X from ⟨rfl, hcx, by omega, tx⟩).below B0)
  clear bx B B0 tx hcx sX
  have q := Lib.hid (qB.out _ aj cj SJ.out)
  go_wp2_with fail
  with_reducible refine q.out.mono ?_
  rintro e uy ⟨ay, cy, rfl, hcy, ty, bby, -⟩
  clear k40 k41 k42 k43 k44 k45 k46 k47 k48
  clear q
  have k49 : uy.cell? ⟨ux.heap.size, 0, none⟩ = some (.int .i64 n) := (ZX.out.below bby ZX.out.lt).cell 0
  have k50 : uy.cell? ⟨ux.heap.size, 1, none⟩ = some (.slice ax X.length cx) := (ZX.out.below bby ZX.out.lt).cell 1
  have k51 : ux.heap.size < uy.heap.size := (ZX.out.below bby ZX.out.lt).lt
  have B0 := box_below uy #[.int .i64 n, .slice ay Y.length cy] 24
  have B := bby.trans (B0.mono bby.size)
  replace Z1 := Lib.hid (Z1.out.below B Z1.out.lt)
  replace Z2 := Lib.hid (Z2.out.below B Z2.out.lt)
  replace Zs := Lib.hid (Zs.out.below B Zs.out.lt)
  replace ZJ := Lib.hid (ZJ.out.below B ZJ.out.lt)
  replace ZX := Lib.hid (ZX.out.below B ZX.out.lt)
  replace BL := Lib.hid (BL.out.trans (B.mono BL.out.size))
  replace S1 := Lib.hid (S1.out.below B)
  replace S2 := Lib.hid (S2.out.below B)
  replace SJ := Lib.hid (SJ.out.below B)
  replace SX := Lib.hid (SX.out.below B)
  have ZY := Lib.hid (Holds.new uy 24 #[.int .i64 n, .slice ay Y.length cy])
  have SY := Lib.hid ((show SL uy ay Y.length cy Y from ⟨rfl, hcy, by omega, ty⟩).below B0)
  clear bby B B0 ty hcy sY
  have q := Lib.hid (qL.out _ ax cx ay cy SX.out SY.out)
  go_wp2_with fail
  with_reducible refine q.out.mono ?_
  rintro e ul ⟨rfl, bl⟩
  clear k49 k50 k51
  clear q
  replace Z1 := Lib.hid (Z1.out.below bl Z1.out.lt)
  replace Z2 := Lib.hid (Z2.out.below bl Z2.out.lt)
  replace Zs := Lib.hid (Zs.out.below bl Zs.out.lt)
  replace ZJ := Lib.hid (ZJ.out.below bl ZJ.out.lt)
  replace ZX := Lib.hid (ZX.out.below bl ZX.out.lt)
  replace ZY := Lib.hid (ZY.out.below bl ZY.out.lt)
  replace BL := Lib.hid (BL.out.trans (bl.mono BL.out.size))
  replace S1 := Lib.hid (S1.out.below bl)
  replace S2 := Lib.hid (S2.out.below bl)
  replace SJ := Lib.hid (SJ.out.below bl)
  replace SX := Lib.hid (SX.out.below bl)
  replace SY := Lib.hid (SY.out.below bl)
  clear bl
  go_wp2_with fail
  refine (plives_any _).mono ?_
  rintro e w9 ⟨rfl, b9⟩
  have bw := Lib.hid (BL.out.trans (b9.mono BL.out.size))
  clear b9
  go_wp2
  go_ret
  exact ⟨rfl, bw.out⟩
theorem postRises_walk (w : World) (n1 : Int) (hn1 : (Lit.int .i64 n1).wf = true) (a1 : Option Addr) (m1 c1 : Nat) (l1 : List Int) (hl1 : l1.length = m1) (hm1 : m1 ≤ maxLen) (hc1 : m1 ≤ c1) (hw1 : ∀ n ∈ l1, (Lit.int .i64 n).wf = true) (hs1 : Sees .i64 w.heap.size w a1 l1) (n2 : Int) (hn2 : (Lit.int .i64 n2).wf = true) (a2 : Option Addr) (m2 c2 : Nat) (l2 : List Int) (hl2 : l2.length = m2) (hm2 : m2 ≤ maxLen) (hc2 : m2 ≤ c2) (hw2 : ∀ n ∈ l2, (Lit.int .i64 n).wf = true) (hs2 : Sees .i64 w.heap.size w a2 l2) (k : Int) (hk : (Lit.int .i64 k).wf = true) (x : Int) (hx : (Lit.int .i64 x).wf = true) (y : Int) (hy : (Lit.int .i64 y).wf = true) (c : Int) (hc : (Lit.int .i64 c).wf = true) (d : Int) (hd : (Lit.int .i64 d).wf = true) : Calls Tryz.prog 5 #[.agg #[.int .i64 n1, .slice a1 m1 c1], .agg #[.int .i64 n2, .slice a2 m2 c2], .agg #[.int .i64 k, .int .i64 x, .int .i64 y, .int .i64 c, .int .i64 d]] w (Gives (.bool true) w) := by
  have h1 : SL w a1 m1 c1 l1 := ⟨hl1.symm, hc1, hm1, hs1⟩
  have h2 : SL w a2 m2 c2 l2 := ⟨hl2.symm, hc2, hm2, hs2⟩
  by_cases g1 : 200 < m1
  · exact rises_g1 n1 n2 k x y c d a1 a2 m1 m2 c1 c2 l1 l2 w h1 h2 g1
  by_cases g2 : 200 < m2
  · exact rises_g2 n1 n2 k x y c d a1 a2 m1 m2 c1 c2 l1 l2 w h1 h2 g1 g2
  by_cases g3 : twoE n1 l1 n2 l2 = 0
  rotate_left
  · exact rises_g3 n1 n2 k x y c d a1 a2 m1 m2 c1 c2 l1 l2 w h1 h2 g1 g2 g3
  by_cases g4 : pchk n1 l1 k x y c d = 0
  rotate_left
  · exact rises_g4 n1 n2 k x y c d a1 a2 m1 m2 c1 c2 l1 l2 w h1 h2 g1 g2 g3 g4
  obtain ⟨n, rfl, z1, hr⟩ := pchk_ok g4
  have hn : n2 = n ∧ checkB n2 l2 = true := by
    unfold twoE at g3
    split at g3
    · omega
    · rename_i hh
      rw [not_or] at hh
      split at g3
      · rename_i e; exact ⟨e.symm, by simpa using hh.2⟩
      · omega
  obtain ⟨rfl, hk2⟩ := hn
  have z2 : IsZ n l2 := by
    obtain ⟨N, hN, hz, -⟩ := pchk_ok (n := n) (l := l2) (k := k) (x := x) (y := y) (c := c) (d := d) (by unfold pchk; rw [hk2, hr]; simp)
    have : N = n := by omega
    subst this
    exact hz
  exact rises_g5 n k x y c d a1 a2 m1 m2 c1 c2 l1 l2 w h1 h2 g1 g2 z1 z2 hr
end Go.Proofs.YtplgmmjppmpnoaaGreatDoor
/-
  A start that meets the condition on the listed variables. No condition of its own.
-/
namespace Go.Proofs.YtplgmmjppmpnoaaGreatDoor
set_option maxRecDepth 100000
abbrev laidL : List (String × DataW Unit) := [("math/bits.deBruijn32tab", Rows.laid_math_bits_deBruijn32tab), ("math/bits.deBruijn64tab", Rows.laid_math_bits_deBruijn64tab), ("internal/strconv.uint64pow10", Rows.laid_internal_strconv_uint64pow10)]
theorem door_met (os : Os) (args : Array Value) : laidMetH Tryz.prog laidL ((World.doorLaid Tryz.prog 400 os).forCall (fun _ _ => 0) ⟨#[], args, []⟩).memory :=
  laidMetH_of_parts3 (fuel := 8) (laidMet_of_run' 8 (by kernel_rfl) (by kernel_rfl)) (by kernel_rfl) (by kernel_rfl)
end Go.Proofs.YtplgmmjppmpnoaaGreatDoor
/- A row's claim over a condition on the world, the world's shape and the weights handed on; a struct of five one-cell fields, opened. Over any program. -/
namespace Go.Proofs.YtplgmmjppmpnoaaGreatDoor
open Go.ChangeShapes Go.WideShapes Go.ChangeAt Go.RowKit Go.Deep
set_option linter.unusedVariables false

theorem handed_sized {H : Type} {enc : TypeId × Value → H} {a : Assume} {C : Checked} {os : Os} {f : FuncId} {fn : Func} {s : ChangeSpec} {conds : List PathCond} {apart fresh handsOn again : Bool} {X : World → Array Value → Prop}
    (hX : ∀ (w w' : World) (args : Array Value), w.heap = w'.heap → X w args → X w' args)
    (own : ownKnob C.prog.godebug = none) (started : os.Started) (noInit : C.prog.inits.idxOf? f = none) (hfn : C.prog.funcs[f]? = some fn)
    (witness : ∃ (w : World) (tape : Tape) (i : Input), w.os = os ∧ (w.forCall tape i).Shaped C.prog ∧ i.vars = [] ∧ Input.okWide C.prog (w.forCall tape i) .any w.heap.size f i ∧
      ((s.pre enc C.prog fn conds apart (w.forCall tape i).memory i.args ∧ X (w.forCall tape i).memory i.args) ∧ sizedMet enc C.prog fn (OpenSpec.ofChange s) apart (w.forCall tape i).memory i.args) ∧ a.holds C.prog (lone (Frame.enter C.prog f i.args .normal) [] (w.forCall tape i)))
    (contract : ∀ (W : World) (base : Nat) (args : Array Value) (ds gs : List (DataW H)) (before : List MemPlace),
      (∀ (j : Nat) t v, fn.params[j]? = some t → args[j]? = some v → Value.okWide C.prog W .any base t v) →
      DataW.Whole enc C.prog fn.params.toList s.vars apart W args.toList ds gs before → X W args →
      (DataW.weightsEach C.prog (fn.params.toList ++ s.plain.varTypes C.prog) (ds ++ gs)).all (· ≤ reachBytes) = true → W.ShapedOpen C.prog →
      Calls C.prog f args W fun e W' => ∃ v, e = .returned v ∧ s.post enc C.prog fn apart fresh handsOn again W args v W') :
    ReturnsInHanded a C os f .any (fun w args => (s.pre enc C.prog fn conds apart w args ∧ X w args) ∧ sizedMet enc C.prog fn (OpenSpec.ofChange s) apart w args) (s.post enc C.prog fn apart fresh handsOn again) := by
  refine returnsInHanded_of_calls own started noInit witness ?_
  intro w tape i _ hsh _ hok hpre hholds
  obtain ⟨_, _, _, fn', hfn', _, _, _, _, hval⟩ := hok
  have e : fn' = fn := Option.some.inj (hfn'.symm.trans hfn)
  subst e
  obtain ⟨⟨⟨ds, gs, before, hw, hc⟩, hx⟩, hz⟩ := hpre
  have hw' := DataW.Whole.of_heap (w' := w.forCall tape i) (by rfl) hw
  refine (contract (w.forCall tape i) w.heap.size i.args ds gs before hval hw' (hX _ _ _ (by rfl) hx) (hz.weights hw) hsh).mono fun e W' ⟨v, he, hp⟩ => ?_
  subst he
  exact ChangeSpec.post_blind hp

theorem open_agg5 {H : Type} {enc : TypeId × Value → H} {P : Program} {w : World} {base : Nat} {spare : Nat → Bool} {held : Bool} {r : Reach} {b0 : Nat} {t : TypeId} {f0 f1 f2 f3 f4 : Field} {v : Value} {d : DataW H} {p : List MemPlace} (hs : P.underlying t = some (.struct #[f0, f1, f2, f3, f4])) (hone : oneCellFields P #[f0, f1, f2, f3, f4] = true) (hC : P.cellsOf t = 5)
    (hv : Value.okWide P w r b0 t v) (h : DataW.Trod enc P w base spare held t v d p) :
    ∃ (v0 v1 v2 v3 v4 : Value) (y0 y1 y2 y3 y4 : DataW H × List MemPlace) (n : Nat), v = .agg #[v0, v1, v2, v3, v4] ∧ d = .agg [y0.1, y1.1, y2.1, y3.1, y4.1] ∧ p = y0.2 ++ (y1.2 ++ (y2.2 ++ (y3.2 ++ y4.2))) ∧
      DataW.trod enc P w base spare held n f0.type [v0] = some y0 ∧ DataW.trod enc P w base spare held n f1.type [v1] = some y1 ∧ DataW.trod enc P w base spare held n f2.type [v2] = some y2 ∧ DataW.trod enc P w base spare held n f3.type [v3] = some y3 ∧ DataW.trod enc P w base spare held n f4.type [v4] = some y4 := by
  obtain ⟨cs, rfl, hsz⟩ := okWide_struct hs hv
  obtain ⟨l⟩ := cs
  have hl5 : l.length = 5 := by simpa using hsz.trans hC
  match l, hl5 with
  | [c0, c1, c2, c3, c4], _ =>
  obtain ⟨fuel, hf⟩ := h
  obtain ⟨xs, n, _, hx, hl, hlen, hf⟩ := DataW.trod_struct hs hf
  match xs, hlen with
  | [y0, y1, y2, y3, y4], _ =>
  have h0 := hf 0 f0 rfl
  have h1 := hf 1 f1 rfl
  have h2 := hf 2 f2 rfl
  have h3 := hf 3 f3 rfl
  have h4 := hf 4 f4 rfl
  obtain ⟨o0, k0⟩ := hone_of hone 0 f0 rfl
  obtain ⟨o1, k1⟩ := hone_of hone 1 f1 rfl
  obtain ⟨o2, k2⟩ := hone_of hone 2 f2 rfl
  obtain ⟨o3, k3⟩ := hone_of hone 3 f3 rfl
  obtain ⟨o4, k4⟩ := hone_of hone 4 f4 rfl
  simp only [Prod.mk.injEq] at hx
  exact ⟨c0, c1, c2, c3, c4, y0, y1, y2, y3, y4, n, rfl, by simpa using hx.1, by simpa using hx.2, by simpa [Value.cells, o0, k0] using h0, by simpa [Value.cells, o1, k1] using h1, by simpa [Value.cells, o2, k2] using h2, by simpa [Value.cells, o3, k3] using h3, by simpa [Value.cells, o4, k4] using h4⟩
end Go.Proofs.YtplgmmjppmpnoaaGreatDoor
