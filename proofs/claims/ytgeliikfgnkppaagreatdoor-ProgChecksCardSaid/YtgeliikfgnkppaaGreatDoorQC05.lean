/-
  Words and walks under the law's proof.
-/
import Derived.Lib.Hide
import Derived.Test.YtgeliikfgnkppaaGreatDoorRows
import Derived.IntWalk
import Derived.Deep.QuietTactic
import Derived.BigQuiet
import Derived.Laws.Cover1
import Derived.Test.YtgeliikfgnkppaaGreatDoorQC01
import Derived.Test.YtgeliikfgnkppaaGreatDoorQC02
import Derived.Test.YtgeliikfgnkppaaGreatDoorQC04
namespace Go.Proofs.YtgeliikfgnkppaaGreatDoor
open Go.RowKit
set_option linter.unusedVariables false
set_option linter.unusedSimpArgs false
def spotB (s : SpotD) : Bool := nameB s.fn && (fileB s.file && (decide (1 ≤ s.line) && decide (s.line ≤ 1048576)))
def pointB (n : Nat) (x : Int) : Bool := decide (0 ≤ x) && decide (x < (n : Int))
def edgeB (n m : Nat) (e : EdgeD) : Bool := pointB n e.frm && (pointB n e.dst && rightB e.k e.x e.y e.c e.d (m : Int))
set_option maxRecDepth 100000 in
set_option maxHeartbeats 1000000 in
theorem rightSpot_any (s f : ByteArray) (x : Int) (w : World) : Calls Tryz.prog 29 #[.agg #[.string s, .string f, .int .i64 x]] w (Gives (.bool (spotB ⟨s, f, x⟩)) w) := by
  have hR : Hid (spotB ⟨s, f, x⟩ = (nameB s && (fileB f && (decide (1 ≤ x) && decide (x ≤ 1048576))))) := Lib.hid rfl
  have q1 := Lib.hid (fun W => name_any s W)
  have q2 := Lib.hid (fun W => fileName_any f W)
  generalize spotB ⟨s, f, x⟩ = R at *
  cases e1 : nameB s
  · rw [e1] at q1
    have hF : Hid (R = false) := Lib.hid (by rw [hR.out]; rw [e1]; rfl)
    clear hR
    obtain ⟨W1, hW1⟩ : ∃ W1, W1 = w.alloc (.cells #[.string s, .string f, .int .i64 x] 54) := ⟨_, rfl⟩
    have Z : Hid (Holds W1 (w.heap.size) 54 #[.string s, .string f, .int .i64 x]) := Lib.hid (by rw [hW1]; exact Holds.new w _ _)
    have BL := Lib.hid (show Below w.heap.size w W1 by rw [hW1]; exact box_below _ _ _)
    have hW1' := Lib.hid hW1
    clear hW1
    go_enter Tryz.func29, Tryz.ntmps29
    have k1 := Z.out.cell 0
    have k2 := Z.out.cell 1
    have k3 := Z.out.cell 2
    have q := Lib.hid (q1.out W1)
    go_wp2_with fail
    rw [← hW1'.out]
    with_reducible refine q.out.mono ?_
    rintro e u1 ⟨rfl, b1⟩
    clear k1 k2 k3
    clear hW1'
    clear q
    have k4 : u1.cell? ⟨w.heap.size, 0, none⟩ = some (.string s) := (Z.out.below b1 Z.out.lt).cell 0
    have k5 : u1.cell? ⟨w.heap.size, 1, none⟩ = some (.string f) := (Z.out.below b1 Z.out.lt).cell 1
    have k6 : u1.cell? ⟨w.heap.size, 2, none⟩ = some (.int .i64 x) := (Z.out.below b1 Z.out.lt).cell 2
    replace Z := Lib.hid (Z.out.below b1 Z.out.lt)
    replace BL := Lib.hid (BL.out.trans (b1.mono BL.out.size))
    clear b1
    go_wp2
    go_ret
    exact ⟨ret_bool hF.out.symm, BL.out⟩
  rw [e1] at q1
  cases e2 : fileB f
  · rw [e2] at q2
    have hF : Hid (R = false) := Lib.hid (by rw [hR.out]; rw [e1, e2]; rfl)
    clear hR
    obtain ⟨W1, hW1⟩ : ∃ W1, W1 = w.alloc (.cells #[.string s, .string f, .int .i64 x] 54) := ⟨_, rfl⟩
    have Z : Hid (Holds W1 (w.heap.size) 54 #[.string s, .string f, .int .i64 x]) := Lib.hid (by rw [hW1]; exact Holds.new w _ _)
    have BL := Lib.hid (show Below w.heap.size w W1 by rw [hW1]; exact box_below _ _ _)
    have hW1' := Lib.hid hW1
    clear hW1
    go_enter Tryz.func29, Tryz.ntmps29
    have k1 := Z.out.cell 0
    have k2 := Z.out.cell 1
    have k3 := Z.out.cell 2
    have q := Lib.hid (q1.out W1)
    go_wp2_with fail
    rw [← hW1'.out]
    with_reducible refine q.out.mono ?_
    rintro e u1 ⟨rfl, b1⟩
    clear k1 k2 k3
    clear hW1'
    clear q
    have k4 : u1.cell? ⟨w.heap.size, 0, none⟩ = some (.string s) := (Z.out.below b1 Z.out.lt).cell 0
    have k5 : u1.cell? ⟨w.heap.size, 1, none⟩ = some (.string f) := (Z.out.below b1 Z.out.lt).cell 1
    have k6 : u1.cell? ⟨w.heap.size, 2, none⟩ = some (.int .i64 x) := (Z.out.below b1 Z.out.lt).cell 2
    replace Z := Lib.hid (Z.out.below b1 Z.out.lt)
    replace BL := Lib.hid (BL.out.trans (b1.mono BL.out.size))
    clear b1
    have q := Lib.hid (q2.out u1)
    go_wp2_with fail
    with_reducible refine q.out.mono ?_
    rintro e u2 ⟨rfl, b2⟩
    clear k4 k5 k6
    clear q
    have k7 : u2.cell? ⟨w.heap.size, 0, none⟩ = some (.string s) := (Z.out.below b2 Z.out.lt).cell 0
    have k8 : u2.cell? ⟨w.heap.size, 1, none⟩ = some (.string f) := (Z.out.below b2 Z.out.lt).cell 1
    have k9 : u2.cell? ⟨w.heap.size, 2, none⟩ = some (.int .i64 x) := (Z.out.below b2 Z.out.lt).cell 2
    replace Z := Lib.hid (Z.out.below b2 Z.out.lt)
    replace BL := Lib.hid (BL.out.trans (b2.mono BL.out.size))
    clear b2
    go_wp2
    go_ret
    exact ⟨ret_bool hF.out.symm, BL.out⟩
  rw [e2] at q2
  by_cases h1 : 1 ≤ x
  · have hF : Hid (R = decide (x ≤ 1048576)) := Lib.hid (by rw [hR.out]; rw [e1, e2, decide_eq_true h1]; rfl)
    clear hR
    obtain ⟨W1, hW1⟩ : ∃ W1, W1 = w.alloc (.cells #[.string s, .string f, .int .i64 x] 54) := ⟨_, rfl⟩
    have Z : Hid (Holds W1 (w.heap.size) 54 #[.string s, .string f, .int .i64 x]) := Lib.hid (by rw [hW1]; exact Holds.new w _ _)
    have BL := Lib.hid (show Below w.heap.size w W1 by rw [hW1]; exact box_below _ _ _)
    have hW1' := Lib.hid hW1
    clear hW1
    go_enter Tryz.func29, Tryz.ntmps29
    have k1 := Z.out.cell 0
    have k2 := Z.out.cell 1
    have k3 := Z.out.cell 2
    have q := Lib.hid (q1.out W1)
    go_wp2_with fail
    rw [← hW1'.out]
    with_reducible refine q.out.mono ?_
    rintro e u1 ⟨rfl, b1⟩
    clear k1 k2 k3
    clear hW1'
    clear q
    have k4 : u1.cell? ⟨w.heap.size, 0, none⟩ = some (.string s) := (Z.out.below b1 Z.out.lt).cell 0
    have k5 : u1.cell? ⟨w.heap.size, 1, none⟩ = some (.string f) := (Z.out.below b1 Z.out.lt).cell 1
    have k6 : u1.cell? ⟨w.heap.size, 2, none⟩ = some (.int .i64 x) := (Z.out.below b1 Z.out.lt).cell 2
    replace Z := Lib.hid (Z.out.below b1 Z.out.lt)
    replace BL := Lib.hid (BL.out.trans (b1.mono BL.out.size))
    clear b1
    have q := Lib.hid (q2.out u1)
    go_wp2_with fail
    with_reducible refine q.out.mono ?_
    rintro e u2 ⟨rfl, b2⟩
    clear k4 k5 k6
    clear q
    have k7 : u2.cell? ⟨w.heap.size, 0, none⟩ = some (.string s) := (Z.out.below b2 Z.out.lt).cell 0
    have k8 : u2.cell? ⟨w.heap.size, 1, none⟩ = some (.string f) := (Z.out.below b2 Z.out.lt).cell 1
    have k9 : u2.cell? ⟨w.heap.size, 2, none⟩ = some (.int .i64 x) := (Z.out.below b2 Z.out.lt).cell 2
    replace Z := Lib.hid (Z.out.below b2 Z.out.lt)
    replace BL := Lib.hid (BL.out.trans (b2.mono BL.out.size))
    clear b2
    go_wp2
    go_ret
    exact ⟨ret_bool hF.out.symm, BL.out⟩
  · have hF : Hid (R = false) := Lib.hid (by rw [hR.out]; rw [e1, e2, decide_eq_false h1]; rfl)
    clear hR
    obtain ⟨W1, hW1⟩ : ∃ W1, W1 = w.alloc (.cells #[.string s, .string f, .int .i64 x] 54) := ⟨_, rfl⟩
    have Z : Hid (Holds W1 (w.heap.size) 54 #[.string s, .string f, .int .i64 x]) := Lib.hid (by rw [hW1]; exact Holds.new w _ _)
    have BL := Lib.hid (show Below w.heap.size w W1 by rw [hW1]; exact box_below _ _ _)
    have hW1' := Lib.hid hW1
    clear hW1
    go_enter Tryz.func29, Tryz.ntmps29
    have k1 := Z.out.cell 0
    have k2 := Z.out.cell 1
    have k3 := Z.out.cell 2
    have q := Lib.hid (q1.out W1)
    go_wp2_with fail
    rw [← hW1'.out]
    with_reducible refine q.out.mono ?_
    rintro e u1 ⟨rfl, b1⟩
    clear k1 k2 k3
    clear hW1'
    clear q
    have k4 : u1.cell? ⟨w.heap.size, 0, none⟩ = some (.string s) := (Z.out.below b1 Z.out.lt).cell 0
    have k5 : u1.cell? ⟨w.heap.size, 1, none⟩ = some (.string f) := (Z.out.below b1 Z.out.lt).cell 1
    have k6 : u1.cell? ⟨w.heap.size, 2, none⟩ = some (.int .i64 x) := (Z.out.below b1 Z.out.lt).cell 2
    replace Z := Lib.hid (Z.out.below b1 Z.out.lt)
    replace BL := Lib.hid (BL.out.trans (b1.mono BL.out.size))
    clear b1
    have q := Lib.hid (q2.out u1)
    go_wp2_with fail
    with_reducible refine q.out.mono ?_
    rintro e u2 ⟨rfl, b2⟩
    clear k4 k5 k6
    clear q
    have k7 : u2.cell? ⟨w.heap.size, 0, none⟩ = some (.string s) := (Z.out.below b2 Z.out.lt).cell 0
    have k8 : u2.cell? ⟨w.heap.size, 1, none⟩ = some (.string f) := (Z.out.below b2 Z.out.lt).cell 1
    have k9 : u2.cell? ⟨w.heap.size, 2, none⟩ = some (.int .i64 x) := (Z.out.below b2 Z.out.lt).cell 2
    replace Z := Lib.hid (Z.out.below b2 Z.out.lt)
    replace BL := Lib.hid (BL.out.trans (b2.mono BL.out.size))
    clear b2
    go_wp2
    go_ret
    exact ⟨ret_bool hF.out.symm, BL.out⟩
set_option maxRecDepth 100000 in
set_option maxHeartbeats 1000000 in
theorem badSpot_any (s f : ByteArray) (x : Int) (w : World) : Calls Tryz.prog 28 #[.agg #[.string s, .string f, .int .i64 x]] w (Gives (.bool (!spotB ⟨s, f, x⟩)) w) := by
  have q1 := Lib.hid (fun W => rightSpot_any s f x W)
  generalize spotB ⟨s, f, x⟩ = R at *
  obtain ⟨W1, hW1⟩ : ∃ W1, W1 = w.alloc (.cells #[.string s, .string f, .int .i64 x] 54) := ⟨_, rfl⟩
  have Z : Hid (Holds W1 (w.heap.size) 54 #[.string s, .string f, .int .i64 x]) := Lib.hid (by rw [hW1]; exact Holds.new w _ _)
  have BL := Lib.hid (show Below w.heap.size w W1 by rw [hW1]; exact box_below _ _ _)
  have hW1' := Lib.hid hW1
  clear hW1
  go_enter Tryz.func28, Tryz.ntmps28
  have k1 := Z.out.cell 0
  have k2 := Z.out.cell 1
  have k3 := Z.out.cell 2
  have q := Lib.hid (q1.out W1)
  go_wp2_with fail
  rw [← hW1'.out]
  with_reducible refine q.out.mono ?_
  rintro e u1 ⟨rfl, b1⟩
  clear k1 k2 k3
  clear hW1'
  clear q
  replace Z := Lib.hid (Z.out.below b1 Z.out.lt)
  replace BL := Lib.hid (BL.out.trans (b1.mono BL.out.size))
  clear b1
  go_wp2
  go_ret
  exact ⟨rfl, BL.out⟩
set_option maxRecDepth 100000 in
theorem isPoint_any (p : PV) (x : Int) (w : World) : Calls Tryz.prog 58 #[.agg #[.string p.nm, .slice p.a1 p.n1 p.c1, .slice p.a2 p.n2 p.c2, .slice p.a3 p.n3 p.c3], .int .i64 x] w (Gives (.bool (pointB p.n2 x)) w) := by
  have hR : Hid (pointB p.n2 x = (decide (0 ≤ x) && decide (x < (p.n2 : Int)))) := Lib.hid rfl
  have hB := Lib.hid (box_below w #[.string p.nm, .slice p.a1 p.n1 p.c1, .slice p.a2 p.n2 p.c2, .slice p.a3 p.n3 p.c3] 26)
  by_cases h : 0 ≤ x
  · have hF : Hid (pointB p.n2 x = decide (x < (p.n2 : Int))) := Lib.hid (by rw [hR.out, decide_eq_true h]; rfl)
    go_enter Tryz.func58, Tryz.ntmps58
    go_wp2
    go_ret
    exact ⟨ret_bool hF.out.symm, hB.out⟩
  · have hF : Hid (pointB p.n2 x = false) := Lib.hid (by rw [hR.out, decide_eq_false h]; rfl)
    go_enter Tryz.func58, Tryz.ntmps58
    go_wp2
    go_ret
    exact ⟨ret_bool hF.out.symm, hB.out⟩
set_option maxRecDepth 100000 in
set_option maxHeartbeats 1000000 in
theorem rightEdge_any (p : PV) (fr ds k x y c d : Int) (w : World) : Calls Tryz.prog 31 #[.agg #[.string p.nm, .slice p.a1 p.n1 p.c1, .slice p.a2 p.n2 p.c2, .slice p.a3 p.n3 p.c3], .agg #[.int .i64 fr, .int .i64 ds, .int .i64 k, .int .i64 x, .int .i64 y, .int .i64 c, .int .i64 d]] w (Gives (.bool (edgeB p.n2 p.n1 ⟨fr, ds, k, x, y, c, d⟩)) w) := by
  have hR : Hid (edgeB p.n2 p.n1 ⟨fr, ds, k, x, y, c, d⟩ = (pointB p.n2 fr && (pointB p.n2 ds && rightB k x y c d (p.n1 : Int)))) := Lib.hid rfl
  have q1 := Lib.hid (fun W => isPoint_any p fr W)
  have q2 := Lib.hid (fun W => isPoint_any p ds W)
  have q3 := Lib.hid (fun W => right_any k x y c d (p.n1 : Int) W)
  generalize edgeB p.n2 p.n1 ⟨fr, ds, k, x, y, c, d⟩ = R at *
  generalize rightB k x y c d (p.n1 : Int) = b3 at *
  generalize pointB p.n2 fr = b1 at *
  generalize pointB p.n2 ds = b2 at *
  cases b1
  · have hF : Hid (R = false) := Lib.hid (by rw [hR.out]; rfl)
    clear hR
    obtain ⟨W1, hW1⟩ : ∃ W1, W1 = (w.alloc (.cells #[.string p.nm, .slice p.a1 p.n1 p.c1, .slice p.a2 p.n2 p.c2, .slice p.a3 p.n3 p.c3] 26)).alloc (.cells #[.int .i64 fr, .int .i64 ds, .int .i64 k, .int .i64 x, .int .i64 y, .int .i64 c, .int .i64 d] 52) := ⟨_, rfl⟩
    have Z : Hid (Holds W1 (w.heap.size) 26 #[.string p.nm, .slice p.a1 p.n1 p.c1, .slice p.a2 p.n2 p.c2, .slice p.a3 p.n3 p.c3]) := Lib.hid (by rw [hW1]; exact (Holds.new w _ _).alloc _)
    have V : Hid (Holds W1 (w.heap.size + 1) 52 #[.int .i64 fr, .int .i64 ds, .int .i64 k, .int .i64 x, .int .i64 y, .int .i64 c, .int .i64 d]) := Lib.hid (by rw [hW1]; have := Holds.new (w.alloc (.cells #[.string p.nm, .slice p.a1 p.n1 p.c1, .slice p.a2 p.n2 p.c2, .slice p.a3 p.n3 p.c3] 26)) 52 #[.int .i64 fr, .int .i64 ds, .int .i64 k, .int .i64 x, .int .i64 y, .int .i64 c, .int .i64 d]; simpa using this)
    have BL := Lib.hid (show Below w.heap.size w W1 by rw [hW1]; exact box2_below _ _ _ _ _)
    have hW1' := Lib.hid hW1
    clear hW1
    go_enter Tryz.func31, Tryz.ntmps31
    have k1 := Z.out.cell 0
    have k2 := Z.out.cell 1
    have k3 := Z.out.cell 2
    have k4 := Z.out.cell 3
    have k5 := V.out.cell 0
    have k6 := V.out.cell 1
    have k7 := V.out.cell 2
    have k8 := V.out.cell 3
    have k9 := V.out.cell 4
    have k10 := V.out.cell 5
    have k11 := V.out.cell 6
    have q := Lib.hid (q1.out W1)
    go_wp2_with fail
    rw [← hW1'.out]
    with_reducible refine q.out.mono ?_
    rintro e u1 ⟨rfl, b1⟩
    clear k1 k2 k3 k4 k5 k6 k7 k8 k9 k10 k11
    clear hW1'
    clear q
    have k12 : u1.cell? ⟨w.heap.size, 0, none⟩ = some (.string p.nm) := (Z.out.below b1 Z.out.lt).cell 0
    have k13 : u1.cell? ⟨w.heap.size, 1, none⟩ = some (.slice p.a1 p.n1 p.c1) := (Z.out.below b1 Z.out.lt).cell 1
    have k14 : u1.cell? ⟨w.heap.size, 2, none⟩ = some (.slice p.a2 p.n2 p.c2) := (Z.out.below b1 Z.out.lt).cell 2
    have k15 : u1.cell? ⟨w.heap.size, 3, none⟩ = some (.slice p.a3 p.n3 p.c3) := (Z.out.below b1 Z.out.lt).cell 3
    have k16 : u1.cell? ⟨w.heap.size + 1, 0, none⟩ = some (.int .i64 fr) := (V.out.below b1 V.out.lt).cell 0
    have k17 : u1.cell? ⟨w.heap.size + 1, 1, none⟩ = some (.int .i64 ds) := (V.out.below b1 V.out.lt).cell 1
    have k18 : u1.cell? ⟨w.heap.size + 1, 2, none⟩ = some (.int .i64 k) := (V.out.below b1 V.out.lt).cell 2
    have k19 : u1.cell? ⟨w.heap.size + 1, 3, none⟩ = some (.int .i64 x) := (V.out.below b1 V.out.lt).cell 3
    have k20 : u1.cell? ⟨w.heap.size + 1, 4, none⟩ = some (.int .i64 y) := (V.out.below b1 V.out.lt).cell 4
    have k21 : u1.cell? ⟨w.heap.size + 1, 5, none⟩ = some (.int .i64 c) := (V.out.below b1 V.out.lt).cell 5
    have k22 : u1.cell? ⟨w.heap.size + 1, 6, none⟩ = some (.int .i64 d) := (V.out.below b1 V.out.lt).cell 6
    replace Z := Lib.hid (Z.out.below b1 Z.out.lt)
    replace V := Lib.hid (V.out.below b1 V.out.lt)
    replace BL := Lib.hid (BL.out.trans (b1.mono BL.out.size))
    clear b1
    go_wp2
    go_ret
    exact ⟨ret_bool hF.out.symm, BL.out⟩
  cases b2
  · have hF : Hid (R = false) := Lib.hid (by rw [hR.out]; rfl)
    clear hR
    obtain ⟨W1, hW1⟩ : ∃ W1, W1 = (w.alloc (.cells #[.string p.nm, .slice p.a1 p.n1 p.c1, .slice p.a2 p.n2 p.c2, .slice p.a3 p.n3 p.c3] 26)).alloc (.cells #[.int .i64 fr, .int .i64 ds, .int .i64 k, .int .i64 x, .int .i64 y, .int .i64 c, .int .i64 d] 52) := ⟨_, rfl⟩
    have Z : Hid (Holds W1 (w.heap.size) 26 #[.string p.nm, .slice p.a1 p.n1 p.c1, .slice p.a2 p.n2 p.c2, .slice p.a3 p.n3 p.c3]) := Lib.hid (by rw [hW1]; exact (Holds.new w _ _).alloc _)
    have V : Hid (Holds W1 (w.heap.size + 1) 52 #[.int .i64 fr, .int .i64 ds, .int .i64 k, .int .i64 x, .int .i64 y, .int .i64 c, .int .i64 d]) := Lib.hid (by rw [hW1]; have := Holds.new (w.alloc (.cells #[.string p.nm, .slice p.a1 p.n1 p.c1, .slice p.a2 p.n2 p.c2, .slice p.a3 p.n3 p.c3] 26)) 52 #[.int .i64 fr, .int .i64 ds, .int .i64 k, .int .i64 x, .int .i64 y, .int .i64 c, .int .i64 d]; simpa using this)
    have BL := Lib.hid (show Below w.heap.size w W1 by rw [hW1]; exact box2_below _ _ _ _ _)
    have hW1' := Lib.hid hW1
    clear hW1
    go_enter Tryz.func31, Tryz.ntmps31
    have k1 := Z.out.cell 0
    have k2 := Z.out.cell 1
    have k3 := Z.out.cell 2
    have k4 := Z.out.cell 3
    have k5 := V.out.cell 0
    have k6 := V.out.cell 1
    have k7 := V.out.cell 2
    have k8 := V.out.cell 3
    have k9 := V.out.cell 4
    have k10 := V.out.cell 5
    have k11 := V.out.cell 6
    have q := Lib.hid (q1.out W1)
    go_wp2_with fail
    rw [← hW1'.out]
    with_reducible refine q.out.mono ?_
    rintro e u1 ⟨rfl, b1⟩
    clear k1 k2 k3 k4 k5 k6 k7 k8 k9 k10 k11
    clear hW1'
    clear q
    have k12 : u1.cell? ⟨w.heap.size, 0, none⟩ = some (.string p.nm) := (Z.out.below b1 Z.out.lt).cell 0
    have k13 : u1.cell? ⟨w.heap.size, 1, none⟩ = some (.slice p.a1 p.n1 p.c1) := (Z.out.below b1 Z.out.lt).cell 1
    have k14 : u1.cell? ⟨w.heap.size, 2, none⟩ = some (.slice p.a2 p.n2 p.c2) := (Z.out.below b1 Z.out.lt).cell 2
    have k15 : u1.cell? ⟨w.heap.size, 3, none⟩ = some (.slice p.a3 p.n3 p.c3) := (Z.out.below b1 Z.out.lt).cell 3
    have k16 : u1.cell? ⟨w.heap.size + 1, 0, none⟩ = some (.int .i64 fr) := (V.out.below b1 V.out.lt).cell 0
    have k17 : u1.cell? ⟨w.heap.size + 1, 1, none⟩ = some (.int .i64 ds) := (V.out.below b1 V.out.lt).cell 1
    have k18 : u1.cell? ⟨w.heap.size + 1, 2, none⟩ = some (.int .i64 k) := (V.out.below b1 V.out.lt).cell 2
    have k19 : u1.cell? ⟨w.heap.size + 1, 3, none⟩ = some (.int .i64 x) := (V.out.below b1 V.out.lt).cell 3
    have k20 : u1.cell? ⟨w.heap.size + 1, 4, none⟩ = some (.int .i64 y) := (V.out.below b1 V.out.lt).cell 4
    have k21 : u1.cell? ⟨w.heap.size + 1, 5, none⟩ = some (.int .i64 c) := (V.out.below b1 V.out.lt).cell 5
    have k22 : u1.cell? ⟨w.heap.size + 1, 6, none⟩ = some (.int .i64 d) := (V.out.below b1 V.out.lt).cell 6
    replace Z := Lib.hid (Z.out.below b1 Z.out.lt)
    replace V := Lib.hid (V.out.below b1 V.out.lt)
    replace BL := Lib.hid (BL.out.trans (b1.mono BL.out.size))
    clear b1
    have q := Lib.hid (q2.out u1)
    go_wp2_with fail
    with_reducible refine q.out.mono ?_
    rintro e u2 ⟨rfl, b2⟩
    clear k12 k13 k14 k15 k16 k17 k18 k19 k20 k21 k22
    clear q
    have k23 : u2.cell? ⟨w.heap.size, 0, none⟩ = some (.string p.nm) := (Z.out.below b2 Z.out.lt).cell 0
    have k24 : u2.cell? ⟨w.heap.size, 1, none⟩ = some (.slice p.a1 p.n1 p.c1) := (Z.out.below b2 Z.out.lt).cell 1
    have k25 : u2.cell? ⟨w.heap.size, 2, none⟩ = some (.slice p.a2 p.n2 p.c2) := (Z.out.below b2 Z.out.lt).cell 2
    have k26 : u2.cell? ⟨w.heap.size, 3, none⟩ = some (.slice p.a3 p.n3 p.c3) := (Z.out.below b2 Z.out.lt).cell 3
    have k27 : u2.cell? ⟨w.heap.size + 1, 0, none⟩ = some (.int .i64 fr) := (V.out.below b2 V.out.lt).cell 0
    have k28 : u2.cell? ⟨w.heap.size + 1, 1, none⟩ = some (.int .i64 ds) := (V.out.below b2 V.out.lt).cell 1
    have k29 : u2.cell? ⟨w.heap.size + 1, 2, none⟩ = some (.int .i64 k) := (V.out.below b2 V.out.lt).cell 2
    have k30 : u2.cell? ⟨w.heap.size + 1, 3, none⟩ = some (.int .i64 x) := (V.out.below b2 V.out.lt).cell 3
    have k31 : u2.cell? ⟨w.heap.size + 1, 4, none⟩ = some (.int .i64 y) := (V.out.below b2 V.out.lt).cell 4
    have k32 : u2.cell? ⟨w.heap.size + 1, 5, none⟩ = some (.int .i64 c) := (V.out.below b2 V.out.lt).cell 5
    have k33 : u2.cell? ⟨w.heap.size + 1, 6, none⟩ = some (.int .i64 d) := (V.out.below b2 V.out.lt).cell 6
    replace Z := Lib.hid (Z.out.below b2 Z.out.lt)
    replace V := Lib.hid (V.out.below b2 V.out.lt)
    replace BL := Lib.hid (BL.out.trans (b2.mono BL.out.size))
    clear b2
    go_wp2
    go_ret
    exact ⟨ret_bool hF.out.symm, BL.out⟩
  have hF : Hid (R = b3) := Lib.hid (by rw [hR.out]; rfl)
  clear hR
  obtain ⟨W1, hW1⟩ : ∃ W1, W1 = (w.alloc (.cells #[.string p.nm, .slice p.a1 p.n1 p.c1, .slice p.a2 p.n2 p.c2, .slice p.a3 p.n3 p.c3] 26)).alloc (.cells #[.int .i64 fr, .int .i64 ds, .int .i64 k, .int .i64 x, .int .i64 y, .int .i64 c, .int .i64 d] 52) := ⟨_, rfl⟩
  have Z : Hid (Holds W1 (w.heap.size) 26 #[.string p.nm, .slice p.a1 p.n1 p.c1, .slice p.a2 p.n2 p.c2, .slice p.a3 p.n3 p.c3]) := Lib.hid (by rw [hW1]; exact (Holds.new w _ _).alloc _)
  have V : Hid (Holds W1 (w.heap.size + 1) 52 #[.int .i64 fr, .int .i64 ds, .int .i64 k, .int .i64 x, .int .i64 y, .int .i64 c, .int .i64 d]) := Lib.hid (by rw [hW1]; have := Holds.new (w.alloc (.cells #[.string p.nm, .slice p.a1 p.n1 p.c1, .slice p.a2 p.n2 p.c2, .slice p.a3 p.n3 p.c3] 26)) 52 #[.int .i64 fr, .int .i64 ds, .int .i64 k, .int .i64 x, .int .i64 y, .int .i64 c, .int .i64 d]; simpa using this)
  have BL := Lib.hid (show Below w.heap.size w W1 by rw [hW1]; exact box2_below _ _ _ _ _)
  have hW1' := Lib.hid hW1
  clear hW1
  go_enter Tryz.func31, Tryz.ntmps31
  have k1 := Z.out.cell 0
  have k2 := Z.out.cell 1
  have k3 := Z.out.cell 2
  have k4 := Z.out.cell 3
  have k5 := V.out.cell 0
  have k6 := V.out.cell 1
  have k7 := V.out.cell 2
  have k8 := V.out.cell 3
  have k9 := V.out.cell 4
  have k10 := V.out.cell 5
  have k11 := V.out.cell 6
  have q := Lib.hid (q1.out W1)
  go_wp2_with fail
  rw [← hW1'.out]
  with_reducible refine q.out.mono ?_
  rintro e u1 ⟨rfl, b1⟩
  clear k1 k2 k3 k4 k5 k6 k7 k8 k9 k10 k11
  clear hW1'
  clear q
  have k12 : u1.cell? ⟨w.heap.size, 0, none⟩ = some (.string p.nm) := (Z.out.below b1 Z.out.lt).cell 0
  have k13 : u1.cell? ⟨w.heap.size, 1, none⟩ = some (.slice p.a1 p.n1 p.c1) := (Z.out.below b1 Z.out.lt).cell 1
  have k14 : u1.cell? ⟨w.heap.size, 2, none⟩ = some (.slice p.a2 p.n2 p.c2) := (Z.out.below b1 Z.out.lt).cell 2
  have k15 : u1.cell? ⟨w.heap.size, 3, none⟩ = some (.slice p.a3 p.n3 p.c3) := (Z.out.below b1 Z.out.lt).cell 3
  have k16 : u1.cell? ⟨w.heap.size + 1, 0, none⟩ = some (.int .i64 fr) := (V.out.below b1 V.out.lt).cell 0
  have k17 : u1.cell? ⟨w.heap.size + 1, 1, none⟩ = some (.int .i64 ds) := (V.out.below b1 V.out.lt).cell 1
  have k18 : u1.cell? ⟨w.heap.size + 1, 2, none⟩ = some (.int .i64 k) := (V.out.below b1 V.out.lt).cell 2
  have k19 : u1.cell? ⟨w.heap.size + 1, 3, none⟩ = some (.int .i64 x) := (V.out.below b1 V.out.lt).cell 3
  have k20 : u1.cell? ⟨w.heap.size + 1, 4, none⟩ = some (.int .i64 y) := (V.out.below b1 V.out.lt).cell 4
  have k21 : u1.cell? ⟨w.heap.size + 1, 5, none⟩ = some (.int .i64 c) := (V.out.below b1 V.out.lt).cell 5
  have k22 : u1.cell? ⟨w.heap.size + 1, 6, none⟩ = some (.int .i64 d) := (V.out.below b1 V.out.lt).cell 6
  replace Z := Lib.hid (Z.out.below b1 Z.out.lt)
  replace V := Lib.hid (V.out.below b1 V.out.lt)
  replace BL := Lib.hid (BL.out.trans (b1.mono BL.out.size))
  clear b1
  have q := Lib.hid (q2.out u1)
  go_wp2_with fail
  with_reducible refine q.out.mono ?_
  rintro e u2 ⟨rfl, b2⟩
  clear k12 k13 k14 k15 k16 k17 k18 k19 k20 k21 k22
  clear q
  have k23 : u2.cell? ⟨w.heap.size, 0, none⟩ = some (.string p.nm) := (Z.out.below b2 Z.out.lt).cell 0
  have k24 : u2.cell? ⟨w.heap.size, 1, none⟩ = some (.slice p.a1 p.n1 p.c1) := (Z.out.below b2 Z.out.lt).cell 1
  have k25 : u2.cell? ⟨w.heap.size, 2, none⟩ = some (.slice p.a2 p.n2 p.c2) := (Z.out.below b2 Z.out.lt).cell 2
  have k26 : u2.cell? ⟨w.heap.size, 3, none⟩ = some (.slice p.a3 p.n3 p.c3) := (Z.out.below b2 Z.out.lt).cell 3
  have k27 : u2.cell? ⟨w.heap.size + 1, 0, none⟩ = some (.int .i64 fr) := (V.out.below b2 V.out.lt).cell 0
  have k28 : u2.cell? ⟨w.heap.size + 1, 1, none⟩ = some (.int .i64 ds) := (V.out.below b2 V.out.lt).cell 1
  have k29 : u2.cell? ⟨w.heap.size + 1, 2, none⟩ = some (.int .i64 k) := (V.out.below b2 V.out.lt).cell 2
  have k30 : u2.cell? ⟨w.heap.size + 1, 3, none⟩ = some (.int .i64 x) := (V.out.below b2 V.out.lt).cell 3
  have k31 : u2.cell? ⟨w.heap.size + 1, 4, none⟩ = some (.int .i64 y) := (V.out.below b2 V.out.lt).cell 4
  have k32 : u2.cell? ⟨w.heap.size + 1, 5, none⟩ = some (.int .i64 c) := (V.out.below b2 V.out.lt).cell 5
  have k33 : u2.cell? ⟨w.heap.size + 1, 6, none⟩ = some (.int .i64 d) := (V.out.below b2 V.out.lt).cell 6
  replace Z := Lib.hid (Z.out.below b2 Z.out.lt)
  replace V := Lib.hid (V.out.below b2 V.out.lt)
  replace BL := Lib.hid (BL.out.trans (b2.mono BL.out.size))
  clear b2
  have q := Lib.hid (q3.out u2)
  go_wp2_with fail
  with_reducible refine q.out.mono ?_
  rintro e u3 ⟨rfl, b3⟩
  clear k23 k24 k25 k26 k27 k28 k29 k30 k31 k32 k33
  clear q
  replace Z := Lib.hid (Z.out.below b3 Z.out.lt)
  replace V := Lib.hid (V.out.below b3 V.out.lt)
  replace BL := Lib.hid (BL.out.trans (b3.mono BL.out.size))
  clear b3
  go_wp2
  go_ret
  exact ⟨ret_bool hF.out.symm, BL.out⟩
set_option maxRecDepth 100000 in
set_option maxHeartbeats 1000000 in
theorem badEdge_any (p : PV) (g : Nat) (fr ds k x y c d : Int) (w : World) (h : Holds w g 26 p.cells) : Calls Tryz.prog 30 #[.agg #[.int .i64 fr, .int .i64 ds, .int .i64 k, .int .i64 x, .int .i64 y, .int .i64 c, .int .i64 d], .pointer (some ⟨g, 0, none⟩)] w (Gives (.bool (!edgeB p.n2 p.n1 ⟨fr, ds, k, x, y, c, d⟩)) w) := by
  have q1 := Lib.hid (fun W => rightEdge_any p fr ds k x y c d W)
  generalize edgeB p.n2 p.n1 ⟨fr, ds, k, x, y, c, d⟩ = R at *
  have hg := h.lt
  obtain ⟨W1, hW1⟩ : ∃ W1, W1 = w.alloc (.cells #[.int .i64 fr, .int .i64 ds, .int .i64 k, .int .i64 x, .int .i64 y, .int .i64 c, .int .i64 d] 52) := ⟨_, rfl⟩
  have V : Hid (Holds W1 (w.heap.size) 52 #[.int .i64 fr, .int .i64 ds, .int .i64 k, .int .i64 x, .int .i64 y, .int .i64 c, .int .i64 d]) := Lib.hid (by rw [hW1]; exact Holds.new w _ _)
  have Z : Hid (Holds W1 (g) 26 #[.string p.nm, .slice p.a1 p.n1 p.c1, .slice p.a2 p.n2 p.c2, .slice p.a3 p.n3 p.c3]) := Lib.hid (by rw [hW1]; exact h.alloc _)
  have BL := Lib.hid (show Below w.heap.size w W1 by rw [hW1]; exact box_below _ _ _)
  have hW1' := Lib.hid hW1
  clear hW1
  have g0 := h.cell 0
  have g1 := h.cell 1
  have g2 := h.cell 2
  have g3 := h.cell 3
  clear h
  go_enter Tryz.func30, Tryz.ntmps30
  have k1 := V.out.cell 0
  have k2 := V.out.cell 1
  have k3 := V.out.cell 2
  have k4 := V.out.cell 3
  have k5 := V.out.cell 4
  have k6 := V.out.cell 5
  have k7 := V.out.cell 6
  have q := Lib.hid (q1.out W1)
  go_wp2_with fail
  rw [← hW1'.out]
  with_reducible refine q.out.mono ?_
  rintro e u1 ⟨rfl, b1⟩
  clear k1 k2 k3 k4 k5 k6 k7
  clear hW1'
  clear q
  replace V := Lib.hid (V.out.below b1 V.out.lt)
  replace Z := Lib.hid (Z.out.below b1 Z.out.lt)
  replace BL := Lib.hid (BL.out.trans (b1.mono BL.out.size))
  clear b1
  go_wp2
  go_ret
  exact ⟨rfl, BL.out⟩
end Go.Proofs.YtgeliikfgnkppaaGreatDoor
namespace Go.Proofs.YtgeliikfgnkppaaGreatDoor
open Go.RowKit
set_option linter.unusedVariables false
set_option linter.unusedSimpArgs false
def progB (D : PD) : Bool := (decide (1 ≤ D.spots.length) && (decide (D.spots.length ≤ 128) && decide (D.edges.length ≤ 256))) && (nameB D.nm && (varsB D.vars && (D.spots.all spotB && D.edges.all (edgeB D.spots.length D.vars.length))))
def chkP (D : PD) : Int := if progB D = true then 0 else 110
theorem spots_at {w : World} {a : Option Addr} {n c : Nat} {l : List SpotD} (h : RO spotC w a n c l) {i : Nat} (hi : i < n) : ∃ b off, a = some ⟨b, off, none⟩ ∧ b < w.heap.size ∧ w.cell? ⟨b, off + i * 3, none⟩ = some (.string (l.getD i spot0).fn) ∧ w.cell? ⟨b, off + i * 3 + 1, none⟩ = some (.string (l.getD i spot0).file) ∧ w.cell? ⟨b, off + i * 3 + 2, none⟩ = some (.int .i64 (l.getD i spot0).line) := by
  obtain ⟨b, off, h1, h2, hc⟩ := h.at_ spotC_len (by decide) spot0 hi
  exact ⟨b, off, h1, h2, hc 0 (by decide), hc 1 (by decide), hc 2 (by decide)⟩
theorem edges_at {w : World} {a : Option Addr} {n c : Nat} {l : List EdgeD} (h : RO edgeC w a n c l) {i : Nat} (hi : i < n) : ∃ b off, a = some ⟨b, off, none⟩ ∧ b < w.heap.size ∧ w.cell? ⟨b, off + i * 7, none⟩ = some (.int .i64 (l.getD i edge0).frm) ∧ w.cell? ⟨b, off + i * 7 + 1, none⟩ = some (.int .i64 (l.getD i edge0).dst) ∧ w.cell? ⟨b, off + i * 7 + 2, none⟩ = some (.int .i64 (l.getD i edge0).k) ∧ w.cell? ⟨b, off + i * 7 + 3, none⟩ = some (.int .i64 (l.getD i edge0).x) ∧ w.cell? ⟨b, off + i * 7 + 4, none⟩ = some (.int .i64 (l.getD i edge0).y) ∧ w.cell? ⟨b, off + i * 7 + 5, none⟩ = some (.int .i64 (l.getD i edge0).c) ∧ w.cell? ⟨b, off + i * 7 + 6, none⟩ = some (.int .i64 (l.getD i edge0).d) := by
  obtain ⟨b, off, h1, h2, hc⟩ := h.at_ edgeC_len (by decide) edge0 hi
  exact ⟨b, off, h1, h2, hc 0 (by decide), hc 1 (by decide), hc 2 (by decide), hc 3 (by decide), hc 4 (by decide), hc 5 (by decide), hc 6 (by decide)⟩
theorem all_no {α : Type} {q : α → Bool} {l : List α} {d : α} {k : Nat} (hk : k < l.length) (h : q (l.getD k d) = false) : l.all q = false := by
  rw [List.all_eq_false]
  exact ⟨l.getD k d, by simp [List.getD, hk], by rw [h]; simp⟩
theorem all_yes {α : Type} {q : α → Bool} {l : List α} (d : α) (h : ∀ t, t < l.length → q (l.getD t d) = true) : l.all q = true := by
  rw [List.all_eq_true]
  intro x hx
  obtain ⟨t, ht, rfl⟩ := List.getElem_of_mem hx
  have := h t ht
  simpa [List.getD, ht] using this
def IdxE (b : Bool) (w : World) (e : Ending) (w' : World) : Prop := ∃ i : Int, decide (0 ≤ i) = b ∧ e = .returned (.int .i64 i) ∧ Below w.heap.size w w'
set_option maxRecDepth 100000 in
set_option maxHeartbeats 2000000 in
theorem spotsIdx_any (a : Option Addr) (n c : Nat) (l : List SpotD) (w : World) (h : RO spotC w a n c l) : Calls Tryz.prog 63 #[.slice a n c, .func (.func 28) #[] #[]] w (IdxE (!l.all spotB) w) := by
  have hn : n = l.length := h.len
  have hmax := h.max'
  have hmi : (n : Int) ≤ 9223372036854775807 := by omega
  have hlen := Lib.hid hn
  have T := Lib.hid h
  have hno := Lib.hid (fun k hk h => all_no (q := spotB) (l := l) (d := spot0) (k := k) hk h)
  have hyes := Lib.hid (fun h => all_yes (q := spotB) (l := l) spot0 h)
  clear h hn hmax
  generalize l.all spotB = R at *
  go_enter Tryz.func63, Tryz.ntmps63
  go_wp2
  go_loopw [8] (fun y wr => ∃ k : Nat, k ≤ n ∧ y = .int .i64 k ∧ Hid (∀ t, t < k → spotB (l.getD t spot0) = true) ∧ Hid (Below w.heap.size w wr)) (fun y _ => n - (intOf y).toNat)
  case atStart => exact ⟨0, Nat.zero_le _, rfl, Lib.hid (fun t ht => by omega), Lib.hid (Below.refl _ _)⟩
  case round =>
    obtain ⟨k, hk, rfl, hal, hB⟩ := hrel
    by_cases hlt : k < n
    · have hki : (k : Int) < (n : Int) := by omega
      obtain ⟨b, off, rfl, hbl, x0, x1, x2⟩ := spots_at (T.out.below hB.out) hlt
      have hno' := Lib.hid (hno.out k (by rw [← hlen.out]; exact hlt))
      have hyes' : Hid (spotB (l.getD k spot0) = true → ∀ t, t < k + 1 → spotB (l.getD t spot0) = true) := Lib.hid (fun h t ht => by
        by_cases e : t = k
        · rw [e]; exact h
        · exact hal.out t (by omega))
      obtain ⟨s, f, x, hs⟩ : ∃ s f x, l.getD k spot0 = (⟨s, f, x⟩ : SpotD) := ⟨_, _, _, rfl⟩
      rw [hs] at x0 x1 x2
      dsimp only at x0 x1 x2
      rw [hs] at hno' hyes'
      have q1 := Lib.hid (badSpot_any s f x wr)
      clear hal hno hs
      cases e1 : spotB (⟨s, f, x⟩ : SpotD)
      · have hf := Lib.hid (hno'.out e1)
        rw [e1] at q1
        clear hno' hyes' hyes e1
        go_wp2_with fail
        refine q1.out.mono ?_
        rintro e w1 ⟨rfl, b1⟩
        have hB2 := Lib.hid (hB.out.trans (b1.mono hB.out.size))
        go_wp2
        go_ret
        exact ⟨k, by rw [hf.out]; simp, rfl, hB2.out⟩
      · have hg := Lib.hid (hyes'.out e1)
        rw [e1] at q1
        clear hno' hyes' e1
        go_wp2_with fail
        refine q1.out.mono ?_
        rintro e w1 ⟨rfl, b1⟩
        have hB2 := Lib.hid (hB.out.trans (b1.mono hB.out.size))
        go_wp2
        go_roundw
        case rel => exact ⟨k + 1, by omega, by go_num, hg, hB2⟩
        case measure => simp [intOf]; omega
    · have hki : ¬ (k : Int) < (n : Int) := by omega
      have hf := Lib.hid (hyes.out (fun t ht => hal.out t (by rw [← hlen.out] at ht; omega)))
      clear hyes hno hal
      go_wp2
      go_ret
      exact ⟨-1, by rw [hf.out]; rfl, rfl, hB.out⟩
set_option maxRecDepth 100000 in
theorem spotsHas_any (a : Option Addr) (n c : Nat) (l : List SpotD) (w : World) (h : RO spotC w a n c l) : Calls Tryz.prog 34 #[.slice a n c, .func (.func 28) #[] #[]] w (Gives (.bool (!l.all spotB)) w) := by
  have q := Lib.hid (spotsIdx_any a n c l w h)
  generalize (!l.all spotB) = R at *
  clear h
  go_enter Tryz.func34, Tryz.ntmps34
  go_wp2_with fail
  refine q.out.mono ?_
  rintro e w1 ⟨i, hi, rfl, hb⟩
  have hi' := Lib.hid hi
  clear hi q
  go_wp2
  go_ret
  exact ⟨ret_bool hi'.out, hb⟩
set_option maxRecDepth 100000 in
set_option maxHeartbeats 2000000 in
theorem edgesIdx_any (p : PV) (g : Nat) (a : Option Addr) (n c : Nat) (l : List EdgeD) (w : World) (h : RO edgeC w a n c l) (hz : Holds w g 26 p.cells) : Calls Tryz.prog 64 #[.slice a n c, .func (.func 30) #[] #[.pointer (some ⟨g, 0, none⟩)]] w (IdxE (!l.all (edgeB p.n2 p.n1)) w) := by
  have hn : n = l.length := h.len
  have hmax := h.max'
  have hmi : (n : Int) ≤ 9223372036854775807 := by omega
  have hlen := Lib.hid hn
  have T := Lib.hid h
  have HZ := Lib.hid hz
  have hno := Lib.hid (fun k hk h => all_no (q := (edgeB p.n2 p.n1)) (l := l) (d := edge0) (k := k) hk h)
  have hyes := Lib.hid (fun h => all_yes (q := (edgeB p.n2 p.n1)) (l := l) edge0 h)
  clear h hn hmax hz
  generalize l.all (edgeB p.n2 p.n1) = R at *
  go_enter Tryz.func64, Tryz.ntmps64
  go_wp2
  go_loopw [8] (fun y wr => ∃ k : Nat, k ≤ n ∧ y = .int .i64 k ∧ Hid (∀ t, t < k → (edgeB p.n2 p.n1) (l.getD t edge0) = true) ∧ Hid (Below w.heap.size w wr)) (fun y _ => n - (intOf y).toNat)
  case atStart => exact ⟨0, Nat.zero_le _, rfl, Lib.hid (fun t ht => by omega), Lib.hid (Below.refl _ _)⟩
  case round =>
    obtain ⟨k, hk, rfl, hal, hB⟩ := hrel
    by_cases hlt : k < n
    · have hki : (k : Int) < (n : Int) := by omega
      obtain ⟨b, off, rfl, hbl, x0, x1, x2, x3, x4, x5, x6⟩ := edges_at (T.out.below hB.out) hlt
      have hno' := Lib.hid (hno.out k (by rw [← hlen.out]; exact hlt))
      have hyes' : Hid ((edgeB p.n2 p.n1) (l.getD k edge0) = true → ∀ t, t < k + 1 → (edgeB p.n2 p.n1) (l.getD t edge0) = true) := Lib.hid (fun h t ht => by
        by_cases e : t = k
        · rw [e]; exact h
        · exact hal.out t (by omega))
      obtain ⟨fr, ds, ek, ex, ey, ec, ed, hs⟩ : ∃ fr ds ek ex ey ec ed, l.getD k edge0 = (⟨fr, ds, ek, ex, ey, ec, ed⟩ : EdgeD) := ⟨_, _, _, _, _, _, _, rfl⟩
      rw [hs] at x0 x1 x2 x3 x4 x5 x6
      dsimp only at x0 x1 x2 x3 x4 x5 x6
      rw [hs] at hno' hyes'
      have q1 := Lib.hid (badEdge_any p g fr ds ek ex ey ec ed wr (HZ.out.below hB.out HZ.out.lt))
      clear hal hno hs
      cases e1 : (edgeB p.n2 p.n1) (⟨fr, ds, ek, ex, ey, ec, ed⟩ : EdgeD)
      · have hf := Lib.hid (hno'.out e1)
        rw [e1] at q1
        clear hno' hyes' hyes e1
        go_wp2_with fail
        refine q1.out.mono ?_
        rintro e w1 ⟨rfl, b1⟩
        have hB2 := Lib.hid (hB.out.trans (b1.mono hB.out.size))
        go_wp2
        go_ret
        exact ⟨k, by rw [hf.out]; simp, rfl, hB2.out⟩
      · have hg := Lib.hid (hyes'.out e1)
        rw [e1] at q1
        clear hno' hyes' e1
        go_wp2_with fail
        refine q1.out.mono ?_
        rintro e w1 ⟨rfl, b1⟩
        have hB2 := Lib.hid (hB.out.trans (b1.mono hB.out.size))
        go_wp2
        go_roundw
        case rel => exact ⟨k + 1, by omega, by go_num, hg, hB2⟩
        case measure => simp [intOf]; omega
    · have hki : ¬ (k : Int) < (n : Int) := by omega
      have hf := Lib.hid (hyes.out (fun t ht => hal.out t (by rw [← hlen.out] at ht; omega)))
      clear hyes hno hal
      go_wp2
      go_ret
      exact ⟨-1, by rw [hf.out]; rfl, rfl, hB.out⟩
set_option maxRecDepth 100000 in
theorem edgesHas_any (p : PV) (g : Nat) (a : Option Addr) (n c : Nat) (l : List EdgeD) (w : World) (h : RO edgeC w a n c l) (hz : Holds w g 26 p.cells) : Calls Tryz.prog 35 #[.slice a n c, .func (.func 30) #[] #[.pointer (some ⟨g, 0, none⟩)]] w (Gives (.bool (!l.all (edgeB p.n2 p.n1))) w) := by
  have q := Lib.hid (edgesIdx_any p g a n c l w h hz)
  generalize (!l.all (edgeB p.n2 p.n1)) = R at *
  clear h hz
  go_enter Tryz.func35, Tryz.ntmps35
  go_wp2_with fail
  refine q.out.mono ?_
  rintro e w1 ⟨i, hi, rfl, hb⟩
  have hi' := Lib.hid hi
  clear hi q
  go_wp2
  go_ret
  exact ⟨ret_bool hi'.out, hb⟩
set_option maxRecDepth 100000 in
set_option maxHeartbeats 4000000 in
theorem pcheck_any (p : PV) (D : PD) (w : World) (h : PrA w p D) : Calls Tryz.prog 9 #[.agg #[.string p.nm, .slice p.a1 p.n1 p.c1, .slice p.a2 p.n2 p.c2, .slice p.a3 p.n3 p.c3]] w (Gives (.int .i64 (chkP D)) w) := by
  have hmf : ∀ (fn : Fn) (first cap : Array Value) (w : World), (Instr.makeFunc fn first cap).run Tryz.prog w = .ok (.func fn first cap) w := fun _ _ _ _ => rfl
  have hR : Hid (progB D = ((decide (1 ≤ p.n2) && (decide (p.n2 ≤ 128) && decide (p.n3 ≤ 256))) && (nameB p.nm && (varsB D.vars && (D.spots.all spotB && D.edges.all (edgeB p.n2 p.n1)))))) := Lib.hid (by unfold progB; rw [h.nm, h.vars.len, h.spots.len, h.edges.len])
  have hC : Hid (chkP D = if progB D = true then 0 else 110) := Lib.hid rfl
  have q1 := Lib.hid (fun W => name_any p.nm W)
  have q2 := Lib.hid (fun W (hW : TT W p.a1 p.n1 p.c1 D.vars) => rightVars_any p.a1 p.n1 p.c1 D.vars W hW)
  have q3 := Lib.hid (fun W (hW : RO spotC W p.a2 p.n2 p.c2 D.spots) => spotsHas_any p.a2 p.n2 p.c2 D.spots W hW)
  have q4 := Lib.hid (fun W (hW : RO edgeC W p.a3 p.n3 p.c3 D.edges) (hz : Holds W w.heap.size 26 p.cells) => edgesHas_any p w.heap.size p.a3 p.n3 p.c3 D.edges W hW hz)
  generalize chkP D = R at *
  generalize progB D = Q at *
  generalize nameB p.nm = bn at *
  generalize varsB D.vars = bv at *
  generalize D.spots.all spotB = bs at *
  generalize D.edges.all (edgeB p.n2 p.n1) = be at *
  by_cases g1 : 1 ≤ p.n2
  rotate_left
  · have i1 : ¬ (1 : Int) ≤ (p.n2 : Int) := by omega
    have hF : Hid (R = 110) := Lib.hid (by rw [hC.out, hR.out, decide_eq_false g1]; rfl)
    clear hR hC
    obtain ⟨W1, hW1⟩ : ∃ W1, W1 = w.alloc (.cells #[.string p.nm, .slice p.a1 p.n1 p.c1, .slice p.a2 p.n2 p.c2, .slice p.a3 p.n3 p.c3] 26) := ⟨_, rfl⟩
    have Z : Hid (Holds W1 (w.heap.size) 26 #[.string p.nm, .slice p.a1 p.n1 p.c1, .slice p.a2 p.n2 p.c2, .slice p.a3 p.n3 p.c3]) := Lib.hid (by rw [hW1]; exact Holds.new w _ _)
    have BL := Lib.hid (show Below w.heap.size w W1 by rw [hW1]; exact box_below _ _ _)
    have V := Lib.hid (h.vars.below BL.out)
    have SP := Lib.hid (h.spots.below BL.out)
    have ED := Lib.hid (h.edges.below BL.out)
    have hW1' := Lib.hid hW1
    clear hW1
    clear h
    go_enter Tryz.func9, Tryz.ntmps9
    have k1 := Z.out.cell 0
    have k2 := Z.out.cell 1
    have k3 := Z.out.cell 2
    have k4 := Z.out.cell 3
    go_wp2
    go_ret
    rw [← hW1'.out]
    exact ⟨ret_int hF.out.symm, BL.out⟩
  have i1 : (1 : Int) ≤ (p.n2 : Int) := by omega
  by_cases g2 : p.n2 ≤ 128
  rotate_left
  · have i2 : ¬ (p.n2 : Int) ≤ 128 := by omega
    have hF : Hid (R = 110) := Lib.hid (by rw [hC.out, hR.out, decide_eq_true g1, decide_eq_false g2]; rfl)
    clear hR hC
    obtain ⟨W1, hW1⟩ : ∃ W1, W1 = w.alloc (.cells #[.string p.nm, .slice p.a1 p.n1 p.c1, .slice p.a2 p.n2 p.c2, .slice p.a3 p.n3 p.c3] 26) := ⟨_, rfl⟩
    have Z : Hid (Holds W1 (w.heap.size) 26 #[.string p.nm, .slice p.a1 p.n1 p.c1, .slice p.a2 p.n2 p.c2, .slice p.a3 p.n3 p.c3]) := Lib.hid (by rw [hW1]; exact Holds.new w _ _)
    have BL := Lib.hid (show Below w.heap.size w W1 by rw [hW1]; exact box_below _ _ _)
    have V := Lib.hid (h.vars.below BL.out)
    have SP := Lib.hid (h.spots.below BL.out)
    have ED := Lib.hid (h.edges.below BL.out)
    have hW1' := Lib.hid hW1
    clear hW1
    clear h
    go_enter Tryz.func9, Tryz.ntmps9
    have k1 := Z.out.cell 0
    have k2 := Z.out.cell 1
    have k3 := Z.out.cell 2
    have k4 := Z.out.cell 3
    go_wp2
    go_ret
    rw [← hW1'.out]
    exact ⟨ret_int hF.out.symm, BL.out⟩
  have i2 : (p.n2 : Int) ≤ 128 := by omega
  by_cases g3 : p.n3 ≤ 256
  rotate_left
  · have i3 : ¬ (p.n3 : Int) ≤ 256 := by omega
    have hF : Hid (R = 110) := Lib.hid (by rw [hC.out, hR.out, decide_eq_true g1, decide_eq_true g2, decide_eq_false g3]; rfl)
    clear hR hC
    obtain ⟨W1, hW1⟩ : ∃ W1, W1 = w.alloc (.cells #[.string p.nm, .slice p.a1 p.n1 p.c1, .slice p.a2 p.n2 p.c2, .slice p.a3 p.n3 p.c3] 26) := ⟨_, rfl⟩
    have Z : Hid (Holds W1 (w.heap.size) 26 #[.string p.nm, .slice p.a1 p.n1 p.c1, .slice p.a2 p.n2 p.c2, .slice p.a3 p.n3 p.c3]) := Lib.hid (by rw [hW1]; exact Holds.new w _ _)
    have BL := Lib.hid (show Below w.heap.size w W1 by rw [hW1]; exact box_below _ _ _)
    have V := Lib.hid (h.vars.below BL.out)
    have SP := Lib.hid (h.spots.below BL.out)
    have ED := Lib.hid (h.edges.below BL.out)
    have hW1' := Lib.hid hW1
    clear hW1
    clear h
    go_enter Tryz.func9, Tryz.ntmps9
    have k1 := Z.out.cell 0
    have k2 := Z.out.cell 1
    have k3 := Z.out.cell 2
    have k4 := Z.out.cell 3
    go_wp2
    go_ret
    rw [← hW1'.out]
    exact ⟨ret_int hF.out.symm, BL.out⟩
  have i3 : (p.n3 : Int) ≤ 256 := by omega
  cases bn
  · have hF : Hid (R = 110) := Lib.hid (by rw [hC.out, hR.out, decide_eq_true g1, decide_eq_true g2, decide_eq_true g3]; rfl)
    clear hR hC
    obtain ⟨W1, hW1⟩ : ∃ W1, W1 = w.alloc (.cells #[.string p.nm, .slice p.a1 p.n1 p.c1, .slice p.a2 p.n2 p.c2, .slice p.a3 p.n3 p.c3] 26) := ⟨_, rfl⟩
    have Z : Hid (Holds W1 (w.heap.size) 26 #[.string p.nm, .slice p.a1 p.n1 p.c1, .slice p.a2 p.n2 p.c2, .slice p.a3 p.n3 p.c3]) := Lib.hid (by rw [hW1]; exact Holds.new w _ _)
    have BL := Lib.hid (show Below w.heap.size w W1 by rw [hW1]; exact box_below _ _ _)
    have V := Lib.hid (h.vars.below BL.out)
    have SP := Lib.hid (h.spots.below BL.out)
    have ED := Lib.hid (h.edges.below BL.out)
    have hW1' := Lib.hid hW1
    clear hW1
    clear h
    go_enter Tryz.func9, Tryz.ntmps9
    have k1 := Z.out.cell 0
    have k2 := Z.out.cell 1
    have k3 := Z.out.cell 2
    have k4 := Z.out.cell 3
    have q := Lib.hid (q1.out W1)
    go_wp2_with fail
    rw [← hW1'.out]
    with_reducible refine q.out.mono ?_
    rintro e u1 ⟨rfl, b1⟩
    clear k1 k2 k3 k4
    clear hW1'
    clear q
    have k5 : u1.cell? ⟨w.heap.size, 0, none⟩ = some (.string p.nm) := (Z.out.below b1 Z.out.lt).cell 0
    have k6 : u1.cell? ⟨w.heap.size, 1, none⟩ = some (.slice p.a1 p.n1 p.c1) := (Z.out.below b1 Z.out.lt).cell 1
    have k7 : u1.cell? ⟨w.heap.size, 2, none⟩ = some (.slice p.a2 p.n2 p.c2) := (Z.out.below b1 Z.out.lt).cell 2
    have k8 : u1.cell? ⟨w.heap.size, 3, none⟩ = some (.slice p.a3 p.n3 p.c3) := (Z.out.below b1 Z.out.lt).cell 3
    replace Z := Lib.hid (Z.out.below b1 Z.out.lt)
    replace BL := Lib.hid (BL.out.trans (b1.mono BL.out.size))
    replace V := Lib.hid (V.out.below b1)
    replace SP := Lib.hid (SP.out.below b1)
    replace ED := Lib.hid (ED.out.below b1)
    clear b1
    go_wp2
    go_ret
    exact ⟨ret_int hF.out.symm, BL.out⟩
  cases bv
  · have hF : Hid (R = 110) := Lib.hid (by rw [hC.out, hR.out, decide_eq_true g1, decide_eq_true g2, decide_eq_true g3]; rfl)
    clear hR hC
    obtain ⟨W1, hW1⟩ : ∃ W1, W1 = w.alloc (.cells #[.string p.nm, .slice p.a1 p.n1 p.c1, .slice p.a2 p.n2 p.c2, .slice p.a3 p.n3 p.c3] 26) := ⟨_, rfl⟩
    have Z : Hid (Holds W1 (w.heap.size) 26 #[.string p.nm, .slice p.a1 p.n1 p.c1, .slice p.a2 p.n2 p.c2, .slice p.a3 p.n3 p.c3]) := Lib.hid (by rw [hW1]; exact Holds.new w _ _)
    have BL := Lib.hid (show Below w.heap.size w W1 by rw [hW1]; exact box_below _ _ _)
    have V := Lib.hid (h.vars.below BL.out)
    have SP := Lib.hid (h.spots.below BL.out)
    have ED := Lib.hid (h.edges.below BL.out)
    have hW1' := Lib.hid hW1
    clear hW1
    clear h
    go_enter Tryz.func9, Tryz.ntmps9
    have k1 := Z.out.cell 0
    have k2 := Z.out.cell 1
    have k3 := Z.out.cell 2
    have k4 := Z.out.cell 3
    have q := Lib.hid (q1.out W1)
    go_wp2_with fail
    rw [← hW1'.out]
    with_reducible refine q.out.mono ?_
    rintro e u1 ⟨rfl, b1⟩
    clear k1 k2 k3 k4
    clear hW1'
    clear q
    have k5 : u1.cell? ⟨w.heap.size, 0, none⟩ = some (.string p.nm) := (Z.out.below b1 Z.out.lt).cell 0
    have k6 : u1.cell? ⟨w.heap.size, 1, none⟩ = some (.slice p.a1 p.n1 p.c1) := (Z.out.below b1 Z.out.lt).cell 1
    have k7 : u1.cell? ⟨w.heap.size, 2, none⟩ = some (.slice p.a2 p.n2 p.c2) := (Z.out.below b1 Z.out.lt).cell 2
    have k8 : u1.cell? ⟨w.heap.size, 3, none⟩ = some (.slice p.a3 p.n3 p.c3) := (Z.out.below b1 Z.out.lt).cell 3
    replace Z := Lib.hid (Z.out.below b1 Z.out.lt)
    replace BL := Lib.hid (BL.out.trans (b1.mono BL.out.size))
    replace V := Lib.hid (V.out.below b1)
    replace SP := Lib.hid (SP.out.below b1)
    replace ED := Lib.hid (ED.out.below b1)
    clear b1
    have q := Lib.hid (q2.out u1 V.out)
    go_wp2_with fail
    with_reducible refine q.out.mono ?_
    rintro e u2 ⟨rfl, b2⟩
    clear k5 k6 k7 k8
    clear q
    have k9 : u2.cell? ⟨w.heap.size, 0, none⟩ = some (.string p.nm) := (Z.out.below b2 Z.out.lt).cell 0
    have k10 : u2.cell? ⟨w.heap.size, 1, none⟩ = some (.slice p.a1 p.n1 p.c1) := (Z.out.below b2 Z.out.lt).cell 1
    have k11 : u2.cell? ⟨w.heap.size, 2, none⟩ = some (.slice p.a2 p.n2 p.c2) := (Z.out.below b2 Z.out.lt).cell 2
    have k12 : u2.cell? ⟨w.heap.size, 3, none⟩ = some (.slice p.a3 p.n3 p.c3) := (Z.out.below b2 Z.out.lt).cell 3
    replace Z := Lib.hid (Z.out.below b2 Z.out.lt)
    replace BL := Lib.hid (BL.out.trans (b2.mono BL.out.size))
    replace V := Lib.hid (V.out.below b2)
    replace SP := Lib.hid (SP.out.below b2)
    replace ED := Lib.hid (ED.out.below b2)
    clear b2
    go_wp2
    go_ret
    exact ⟨ret_int hF.out.symm, BL.out⟩
  cases bs
  · have hF : Hid (R = 110) := Lib.hid (by rw [hC.out, hR.out, decide_eq_true g1, decide_eq_true g2, decide_eq_true g3]; rfl)
    clear hR hC
    obtain ⟨W1, hW1⟩ : ∃ W1, W1 = w.alloc (.cells #[.string p.nm, .slice p.a1 p.n1 p.c1, .slice p.a2 p.n2 p.c2, .slice p.a3 p.n3 p.c3] 26) := ⟨_, rfl⟩
    have Z : Hid (Holds W1 (w.heap.size) 26 #[.string p.nm, .slice p.a1 p.n1 p.c1, .slice p.a2 p.n2 p.c2, .slice p.a3 p.n3 p.c3]) := Lib.hid (by rw [hW1]; exact Holds.new w _ _)
    have BL := Lib.hid (show Below w.heap.size w W1 by rw [hW1]; exact box_below _ _ _)
    have V := Lib.hid (h.vars.below BL.out)
    have SP := Lib.hid (h.spots.below BL.out)
    have ED := Lib.hid (h.edges.below BL.out)
    have hW1' := Lib.hid hW1
    clear hW1
    clear h
    go_enter Tryz.func9, Tryz.ntmps9
    have k1 := Z.out.cell 0
    have k2 := Z.out.cell 1
    have k3 := Z.out.cell 2
    have k4 := Z.out.cell 3
    have q := Lib.hid (q1.out W1)
    go_wp2_with fail
    rw [← hW1'.out]
    with_reducible refine q.out.mono ?_
    rintro e u1 ⟨rfl, b1⟩
    clear k1 k2 k3 k4
    clear hW1'
    clear q
    have k5 : u1.cell? ⟨w.heap.size, 0, none⟩ = some (.string p.nm) := (Z.out.below b1 Z.out.lt).cell 0
    have k6 : u1.cell? ⟨w.heap.size, 1, none⟩ = some (.slice p.a1 p.n1 p.c1) := (Z.out.below b1 Z.out.lt).cell 1
    have k7 : u1.cell? ⟨w.heap.size, 2, none⟩ = some (.slice p.a2 p.n2 p.c2) := (Z.out.below b1 Z.out.lt).cell 2
    have k8 : u1.cell? ⟨w.heap.size, 3, none⟩ = some (.slice p.a3 p.n3 p.c3) := (Z.out.below b1 Z.out.lt).cell 3
    replace Z := Lib.hid (Z.out.below b1 Z.out.lt)
    replace BL := Lib.hid (BL.out.trans (b1.mono BL.out.size))
    replace V := Lib.hid (V.out.below b1)
    replace SP := Lib.hid (SP.out.below b1)
    replace ED := Lib.hid (ED.out.below b1)
    clear b1
    have q := Lib.hid (q2.out u1 V.out)
    go_wp2_with fail
    with_reducible refine q.out.mono ?_
    rintro e u2 ⟨rfl, b2⟩
    clear k5 k6 k7 k8
    clear q
    have k9 : u2.cell? ⟨w.heap.size, 0, none⟩ = some (.string p.nm) := (Z.out.below b2 Z.out.lt).cell 0
    have k10 : u2.cell? ⟨w.heap.size, 1, none⟩ = some (.slice p.a1 p.n1 p.c1) := (Z.out.below b2 Z.out.lt).cell 1
    have k11 : u2.cell? ⟨w.heap.size, 2, none⟩ = some (.slice p.a2 p.n2 p.c2) := (Z.out.below b2 Z.out.lt).cell 2
    have k12 : u2.cell? ⟨w.heap.size, 3, none⟩ = some (.slice p.a3 p.n3 p.c3) := (Z.out.below b2 Z.out.lt).cell 3
    replace Z := Lib.hid (Z.out.below b2 Z.out.lt)
    replace BL := Lib.hid (BL.out.trans (b2.mono BL.out.size))
    replace V := Lib.hid (V.out.below b2)
    replace SP := Lib.hid (SP.out.below b2)
    replace ED := Lib.hid (ED.out.below b2)
    clear b2
    have q := Lib.hid (q3.out u2 SP.out)
    go_wp2_with fail
    with_reducible refine q.out.mono ?_
    rintro e u3 ⟨rfl, b3⟩
    clear k9 k10 k11 k12
    clear q
    have k13 : u3.cell? ⟨w.heap.size, 0, none⟩ = some (.string p.nm) := (Z.out.below b3 Z.out.lt).cell 0
    have k14 : u3.cell? ⟨w.heap.size, 1, none⟩ = some (.slice p.a1 p.n1 p.c1) := (Z.out.below b3 Z.out.lt).cell 1
    have k15 : u3.cell? ⟨w.heap.size, 2, none⟩ = some (.slice p.a2 p.n2 p.c2) := (Z.out.below b3 Z.out.lt).cell 2
    have k16 : u3.cell? ⟨w.heap.size, 3, none⟩ = some (.slice p.a3 p.n3 p.c3) := (Z.out.below b3 Z.out.lt).cell 3
    replace Z := Lib.hid (Z.out.below b3 Z.out.lt)
    replace BL := Lib.hid (BL.out.trans (b3.mono BL.out.size))
    replace V := Lib.hid (V.out.below b3)
    replace SP := Lib.hid (SP.out.below b3)
    replace ED := Lib.hid (ED.out.below b3)
    clear b3
    go_wp2
    go_ret
    exact ⟨ret_int hF.out.symm, BL.out⟩
  cases be
  · have hF : Hid (R = 110) := Lib.hid (by rw [hC.out, hR.out, decide_eq_true g1, decide_eq_true g2, decide_eq_true g3]; rfl)
    clear hR hC
    obtain ⟨W1, hW1⟩ : ∃ W1, W1 = w.alloc (.cells #[.string p.nm, .slice p.a1 p.n1 p.c1, .slice p.a2 p.n2 p.c2, .slice p.a3 p.n3 p.c3] 26) := ⟨_, rfl⟩
    have Z : Hid (Holds W1 (w.heap.size) 26 #[.string p.nm, .slice p.a1 p.n1 p.c1, .slice p.a2 p.n2 p.c2, .slice p.a3 p.n3 p.c3]) := Lib.hid (by rw [hW1]; exact Holds.new w _ _)
    have BL := Lib.hid (show Below w.heap.size w W1 by rw [hW1]; exact box_below _ _ _)
    have V := Lib.hid (h.vars.below BL.out)
    have SP := Lib.hid (h.spots.below BL.out)
    have ED := Lib.hid (h.edges.below BL.out)
    have hW1' := Lib.hid hW1
    clear hW1
    clear h
    go_enter Tryz.func9, Tryz.ntmps9
    have k1 := Z.out.cell 0
    have k2 := Z.out.cell 1
    have k3 := Z.out.cell 2
    have k4 := Z.out.cell 3
    have q := Lib.hid (q1.out W1)
    go_wp2_with fail
    rw [← hW1'.out]
    with_reducible refine q.out.mono ?_
    rintro e u1 ⟨rfl, b1⟩
    clear k1 k2 k3 k4
    clear hW1'
    clear q
    have k5 : u1.cell? ⟨w.heap.size, 0, none⟩ = some (.string p.nm) := (Z.out.below b1 Z.out.lt).cell 0
    have k6 : u1.cell? ⟨w.heap.size, 1, none⟩ = some (.slice p.a1 p.n1 p.c1) := (Z.out.below b1 Z.out.lt).cell 1
    have k7 : u1.cell? ⟨w.heap.size, 2, none⟩ = some (.slice p.a2 p.n2 p.c2) := (Z.out.below b1 Z.out.lt).cell 2
    have k8 : u1.cell? ⟨w.heap.size, 3, none⟩ = some (.slice p.a3 p.n3 p.c3) := (Z.out.below b1 Z.out.lt).cell 3
    replace Z := Lib.hid (Z.out.below b1 Z.out.lt)
    replace BL := Lib.hid (BL.out.trans (b1.mono BL.out.size))
    replace V := Lib.hid (V.out.below b1)
    replace SP := Lib.hid (SP.out.below b1)
    replace ED := Lib.hid (ED.out.below b1)
    clear b1
    have q := Lib.hid (q2.out u1 V.out)
    go_wp2_with fail
    with_reducible refine q.out.mono ?_
    rintro e u2 ⟨rfl, b2⟩
    clear k5 k6 k7 k8
    clear q
    have k9 : u2.cell? ⟨w.heap.size, 0, none⟩ = some (.string p.nm) := (Z.out.below b2 Z.out.lt).cell 0
    have k10 : u2.cell? ⟨w.heap.size, 1, none⟩ = some (.slice p.a1 p.n1 p.c1) := (Z.out.below b2 Z.out.lt).cell 1
    have k11 : u2.cell? ⟨w.heap.size, 2, none⟩ = some (.slice p.a2 p.n2 p.c2) := (Z.out.below b2 Z.out.lt).cell 2
    have k12 : u2.cell? ⟨w.heap.size, 3, none⟩ = some (.slice p.a3 p.n3 p.c3) := (Z.out.below b2 Z.out.lt).cell 3
    replace Z := Lib.hid (Z.out.below b2 Z.out.lt)
    replace BL := Lib.hid (BL.out.trans (b2.mono BL.out.size))
    replace V := Lib.hid (V.out.below b2)
    replace SP := Lib.hid (SP.out.below b2)
    replace ED := Lib.hid (ED.out.below b2)
    clear b2
    have q := Lib.hid (q3.out u2 SP.out)
    go_wp2_with fail
    with_reducible refine q.out.mono ?_
    rintro e u3 ⟨rfl, b3⟩
    clear k9 k10 k11 k12
    clear q
    have k13 : u3.cell? ⟨w.heap.size, 0, none⟩ = some (.string p.nm) := (Z.out.below b3 Z.out.lt).cell 0
    have k14 : u3.cell? ⟨w.heap.size, 1, none⟩ = some (.slice p.a1 p.n1 p.c1) := (Z.out.below b3 Z.out.lt).cell 1
    have k15 : u3.cell? ⟨w.heap.size, 2, none⟩ = some (.slice p.a2 p.n2 p.c2) := (Z.out.below b3 Z.out.lt).cell 2
    have k16 : u3.cell? ⟨w.heap.size, 3, none⟩ = some (.slice p.a3 p.n3 p.c3) := (Z.out.below b3 Z.out.lt).cell 3
    replace Z := Lib.hid (Z.out.below b3 Z.out.lt)
    replace BL := Lib.hid (BL.out.trans (b3.mono BL.out.size))
    replace V := Lib.hid (V.out.below b3)
    replace SP := Lib.hid (SP.out.below b3)
    replace ED := Lib.hid (ED.out.below b3)
    clear b3
    have q := Lib.hid (q4.out u3 ED.out Z.out)
    go_wp2_with fail
    with_reducible refine q.out.mono ?_
    rintro e u4 ⟨rfl, b4⟩
    clear k13 k14 k15 k16
    clear q
    replace Z := Lib.hid (Z.out.below b4 Z.out.lt)
    replace BL := Lib.hid (BL.out.trans (b4.mono BL.out.size))
    replace V := Lib.hid (V.out.below b4)
    replace SP := Lib.hid (SP.out.below b4)
    replace ED := Lib.hid (ED.out.below b4)
    clear b4
    go_wp2
    go_ret
    exact ⟨ret_int hF.out.symm, BL.out⟩
  have hF : Hid (R = 0) := Lib.hid (by rw [hC.out, hR.out, decide_eq_true g1, decide_eq_true g2, decide_eq_true g3]; rfl)
  clear hR hC
  obtain ⟨W1, hW1⟩ : ∃ W1, W1 = w.alloc (.cells #[.string p.nm, .slice p.a1 p.n1 p.c1, .slice p.a2 p.n2 p.c2, .slice p.a3 p.n3 p.c3] 26) := ⟨_, rfl⟩
  have Z : Hid (Holds W1 (w.heap.size) 26 #[.string p.nm, .slice p.a1 p.n1 p.c1, .slice p.a2 p.n2 p.c2, .slice p.a3 p.n3 p.c3]) := Lib.hid (by rw [hW1]; exact Holds.new w _ _)
  have BL := Lib.hid (show Below w.heap.size w W1 by rw [hW1]; exact box_below _ _ _)
  have V := Lib.hid (h.vars.below BL.out)
  have SP := Lib.hid (h.spots.below BL.out)
  have ED := Lib.hid (h.edges.below BL.out)
  have hW1' := Lib.hid hW1
  clear hW1
  clear h
  go_enter Tryz.func9, Tryz.ntmps9
  have k1 := Z.out.cell 0
  have k2 := Z.out.cell 1
  have k3 := Z.out.cell 2
  have k4 := Z.out.cell 3
  have q := Lib.hid (q1.out W1)
  go_wp2_with fail
  rw [← hW1'.out]
  with_reducible refine q.out.mono ?_
  rintro e u1 ⟨rfl, b1⟩
  clear k1 k2 k3 k4
  clear hW1'
  clear q
  have k5 : u1.cell? ⟨w.heap.size, 0, none⟩ = some (.string p.nm) := (Z.out.below b1 Z.out.lt).cell 0
  have k6 : u1.cell? ⟨w.heap.size, 1, none⟩ = some (.slice p.a1 p.n1 p.c1) := (Z.out.below b1 Z.out.lt).cell 1
  have k7 : u1.cell? ⟨w.heap.size, 2, none⟩ = some (.slice p.a2 p.n2 p.c2) := (Z.out.below b1 Z.out.lt).cell 2
  have k8 : u1.cell? ⟨w.heap.size, 3, none⟩ = some (.slice p.a3 p.n3 p.c3) := (Z.out.below b1 Z.out.lt).cell 3
  replace Z := Lib.hid (Z.out.below b1 Z.out.lt)
  replace BL := Lib.hid (BL.out.trans (b1.mono BL.out.size))
  replace V := Lib.hid (V.out.below b1)
  replace SP := Lib.hid (SP.out.below b1)
  replace ED := Lib.hid (ED.out.below b1)
  clear b1
  have q := Lib.hid (q2.out u1 V.out)
  go_wp2_with fail
  with_reducible refine q.out.mono ?_
  rintro e u2 ⟨rfl, b2⟩
  clear k5 k6 k7 k8
  clear q
  have k9 : u2.cell? ⟨w.heap.size, 0, none⟩ = some (.string p.nm) := (Z.out.below b2 Z.out.lt).cell 0
  have k10 : u2.cell? ⟨w.heap.size, 1, none⟩ = some (.slice p.a1 p.n1 p.c1) := (Z.out.below b2 Z.out.lt).cell 1
  have k11 : u2.cell? ⟨w.heap.size, 2, none⟩ = some (.slice p.a2 p.n2 p.c2) := (Z.out.below b2 Z.out.lt).cell 2
  have k12 : u2.cell? ⟨w.heap.size, 3, none⟩ = some (.slice p.a3 p.n3 p.c3) := (Z.out.below b2 Z.out.lt).cell 3
  replace Z := Lib.hid (Z.out.below b2 Z.out.lt)
  replace BL := Lib.hid (BL.out.trans (b2.mono BL.out.size))
  replace V := Lib.hid (V.out.below b2)
  replace SP := Lib.hid (SP.out.below b2)
  replace ED := Lib.hid (ED.out.below b2)
  clear b2
  have q := Lib.hid (q3.out u2 SP.out)
  go_wp2_with fail
  with_reducible refine q.out.mono ?_
  rintro e u3 ⟨rfl, b3⟩
  clear k9 k10 k11 k12
  clear q
  have k13 : u3.cell? ⟨w.heap.size, 0, none⟩ = some (.string p.nm) := (Z.out.below b3 Z.out.lt).cell 0
  have k14 : u3.cell? ⟨w.heap.size, 1, none⟩ = some (.slice p.a1 p.n1 p.c1) := (Z.out.below b3 Z.out.lt).cell 1
  have k15 : u3.cell? ⟨w.heap.size, 2, none⟩ = some (.slice p.a2 p.n2 p.c2) := (Z.out.below b3 Z.out.lt).cell 2
  have k16 : u3.cell? ⟨w.heap.size, 3, none⟩ = some (.slice p.a3 p.n3 p.c3) := (Z.out.below b3 Z.out.lt).cell 3
  replace Z := Lib.hid (Z.out.below b3 Z.out.lt)
  replace BL := Lib.hid (BL.out.trans (b3.mono BL.out.size))
  replace V := Lib.hid (V.out.below b3)
  replace SP := Lib.hid (SP.out.below b3)
  replace ED := Lib.hid (ED.out.below b3)
  clear b3
  have q := Lib.hid (q4.out u3 ED.out Z.out)
  go_wp2_with fail
  with_reducible refine q.out.mono ?_
  rintro e u4 ⟨rfl, b4⟩
  clear k13 k14 k15 k16
  clear q
  replace Z := Lib.hid (Z.out.below b4 Z.out.lt)
  replace BL := Lib.hid (BL.out.trans (b4.mono BL.out.size))
  replace V := Lib.hid (V.out.below b4)
  replace SP := Lib.hid (SP.out.below b4)
  replace ED := Lib.hid (ED.out.below b4)
  clear b4
  go_wp2
  go_ret
  exact ⟨ret_int hF.out.symm, BL.out⟩
end Go.Proofs.YtgeliikfgnkppaaGreatDoor
namespace Go.Proofs.YtgeliikfgnkppaaGreatDoor
open Go.RowKit
set_option linter.unusedVariables false
set_option linter.unusedSimpArgs false
def bigS (s : SpotD) : Bool := decide (100 < s.fn.size) || decide (100 < s.file.size)
def bigP (D : PD) : Bool := (decide (100 < D.nm.size) || (decide (20 < D.vars.length) || (decide (150 < D.spots.length) || decide (300 < D.edges.length)))) || (D.vars.any (fun s => decide (100 < s.size)) || D.spots.any bigS)
theorem any_yes {α : Type} {q : α → Bool} {l : List α} {d : α} {k : Nat} (hk : k < l.length) (h : q (l.getD k d) = true) : l.any q = true := by
  rw [List.any_eq_true]
  exact ⟨l.getD k d, by simp [List.getD, hk], h⟩
theorem any_no {α : Type} {q : α → Bool} {l : List α} (d : α) (h : ∀ t, t < l.length → q (l.getD t d) = false) : l.any q = false := by
  rw [List.any_eq_false]
  intro x hx
  obtain ⟨t, ht, rfl⟩ := List.getElem_of_mem hx
  have := h t ht
  simpa [List.getD, ht] using this
set_option maxRecDepth 100000 in
set_option maxHeartbeats 8000000 in
theorem plarge_any (p : PV) (D : PD) (hw : PW D) (w : World) (h : PrA w p D) : Calls Tryz.prog 7 #[.agg #[.string p.nm, .slice p.a1 p.n1 p.c1, .slice p.a2 p.n2 p.c2, .slice p.a3 p.n3 p.c3]] w (Gives (.bool (bigP D)) w) := by
  have hR : Hid (bigP D = ((decide (100 < p.nm.size) || (decide (20 < p.n1) || (decide (150 < p.n2) || decide (300 < p.n3)))) || (D.vars.any (fun s => decide (100 < s.size)) || D.spots.any bigS))) := Lib.hid (by unfold bigP; rw [h.nm, h.vars.len, h.spots.len, h.edges.len])
  have hns : p.nm.size ≤ 140737488351232 := by rw [h.nm]; exact hw.nm
  have hvw : Hid (∀ k, k < D.vars.length → (D.vars.getD k e0).size ≤ 140737488351232) := Lib.hid (fun k hk => hw.vars _ (by simp [List.getD, hk]))
  have hsw : Hid (∀ k, k < D.spots.length → spotW (D.spots.getD k spot0)) := Lib.hid (fun k hk => hw.spots _ (by simp [List.getD, hk]))
  obtain ⟨pnm, pa1, pn1, pc1, pa2, pn2, pc2, pa3, pn3, pc3⟩ := p
  have hv := h.vars
  have hs := h.spots
  have he := h.edges
  clear h hw
  dsimp only at hR hv hs he hns ⊢
  obtain ⟨W1, hW1⟩ : ∃ W1, W1 = w.alloc (.cells #[.string pnm, .slice pa1 pn1 pc1, .slice pa2 pn2 pc2, .slice pa3 pn3 pc3] 26) := ⟨_, rfl⟩
  have Z : Hid (Holds W1 w.heap.size 26 #[.string pnm, .slice pa1 pn1 pc1, .slice pa2 pn2 pc2, .slice pa3 pn3 pc3]) := Lib.hid (by rw [hW1]; exact Holds.new w _ _)
  have BL := Lib.hid (show Below w.heap.size w W1 by rw [hW1]; exact box_below _ _ _)
  have V := Lib.hid (hv.below BL.out)
  have S := Lib.hid (hs.below BL.out)
  have lv := Lib.hid hv.len
  have ls := Lib.hid hs.len
  have hm1 : (pn1 : Int) ≤ 9223372036854775807 := by have := hv.cap; have := hv.max; unfold maxLen at this; omega
  have hm2 : (pn2 : Int) ≤ 9223372036854775807 := by have := hs.max'; omega
  have hm3 : (pn3 : Int) ≤ 9223372036854775807 := by have := he.max'; omega
  have hW1' := Lib.hid hW1
  have k0 := Z.out.cell 0
  have k1 := Z.out.cell 1
  have k2 := Z.out.cell 2
  have k3 := Z.out.cell 3
  have yv := Lib.hid (fun k hk h => any_yes (q := fun s : ByteArray => decide (100 < s.size)) (l := D.vars) (d := e0) (k := k) hk h)
  have nv := Lib.hid (fun h => any_no (q := fun s : ByteArray => decide (100 < s.size)) (l := D.vars) e0 h)
  have ys := Lib.hid (fun k hk h => any_yes (q := bigS) (l := D.spots) (d := spot0) (k := k) hk h)
  have ns := Lib.hid (fun h => any_no (q := bigS) (l := D.spots) spot0 h)
  clear hv hs he hW1
  generalize bigP D = R at *
  generalize D.vars.any (fun s => decide (100 < s.size)) = bv at *
  generalize D.spots.any bigS = bs at *
  by_cases g0 : 100 < pnm.size
  · have ig0 : (100 : Int) < (pnm.size : Int) := by omega
    have hf : Hid (R = true) := Lib.hid (by rw [hR.out, decide_eq_true g0]; simp)
    go_enter Tryz.func7, Tryz.ntmps7
    go_wp2
    go_ret
    rw [← hW1'.out]
    exact ⟨ret_bool hf.out.symm, BL.out⟩
  have ig0 : ¬ (100 : Int) < (pnm.size : Int) := by omega
  by_cases g1 : 20 < pn1
  · have ig1 : (20 : Int) < (pn1 : Int) := by omega
    have hf : Hid (R = true) := Lib.hid (by rw [hR.out, decide_eq_true g1]; simp)
    go_enter Tryz.func7, Tryz.ntmps7
    go_wp2
    go_ret
    rw [← hW1'.out]
    exact ⟨ret_bool hf.out.symm, BL.out⟩
  have ig1 : ¬ (20 : Int) < (pn1 : Int) := by omega
  by_cases g2 : 150 < pn2
  · have ig2 : (150 : Int) < (pn2 : Int) := by omega
    have hf : Hid (R = true) := Lib.hid (by rw [hR.out, decide_eq_true g2]; simp)
    go_enter Tryz.func7, Tryz.ntmps7
    go_wp2
    go_ret
    rw [← hW1'.out]
    exact ⟨ret_bool hf.out.symm, BL.out⟩
  have ig2 : ¬ (150 : Int) < (pn2 : Int) := by omega
  by_cases g3 : 300 < pn3
  · have ig3 : (300 : Int) < (pn3 : Int) := by omega
    have hf : Hid (R = true) := Lib.hid (by rw [hR.out, decide_eq_true g3]; simp)
    go_enter Tryz.func7, Tryz.ntmps7
    go_wp2
    go_ret
    rw [← hW1'.out]
    exact ⟨ret_bool hf.out.symm, BL.out⟩
  have ig3 : ¬ (300 : Int) < (pn3 : Int) := by omega
  have hR2 : Hid (R = (bv || bs)) := Lib.hid (by rw [hR.out, decide_eq_false g0, decide_eq_false g1, decide_eq_false g2, decide_eq_false g3]; rfl)
  clear hR
  go_enter Tryz.func7, Tryz.ntmps7
  go_wp2
  rw [← hW1'.out]
  clear hW1'
  go_loop [3] (fun y => ∃ k : Nat, k ≤ pn1 ∧ y = .int .i64 k ∧ Hid (∀ t, t < k → decide (100 < (D.vars.getD t e0).size) = false)) (fun y => pn1 - (intOf y).toNat)
  case atStart => exact ⟨0, Nat.zero_le _, rfl, Lib.hid (fun t ht => by omega)⟩
  case round =>
    obtain ⟨k, hk, rfl, hal⟩ := hrel
    by_cases hlt : k < pn1
    · have hki : (k : Int) < (pn1 : Int) := by omega
      have hkl : k < D.vars.length := by rw [← lv.out]; exact hlt
      obtain ⟨b, off, rfl, -, hc⟩ := V.out.at_ hkl
      have x0 := hc k hkl
      have hz := hvw.out k hkl
      have hy := Lib.hid (yv.out k hkl)
      have hn : Hid (¬ 100 < (D.vars.getD k e0).size → ∀ t, t < k + 1 → decide (100 < (D.vars.getD t e0).size) = false) := Lib.hid (fun h t ht => by
        by_cases e : t = k
        · rw [e]; exact decide_eq_false h
        · exact hal.out t (by omega))
      clear hc hal yv
      generalize D.vars.getD k e0 = s at *
      by_cases hs : 100 < s.size
      · have hsi : (100 : Int) < (s.size : Int) := by omega
        have hf : Hid (R = true) := Lib.hid (by rw [hR2.out, hy.out (decide_eq_true hs)]; rfl)
        clear hy hn
        go_wp2
        go_ret
        exact ⟨ret_bool hf.out.symm, BL.out⟩
      · have hsi : ¬ (100 : Int) < (s.size : Int) := by omega
        have hg := Lib.hid (hn.out hs)
        clear hy hn
        go_wp2
        go_round
        case rel => exact ⟨k + 1, by omega, by go_num, hg⟩
        case measure => simp [intOf]; omega
    · have hki : ¬ (k : Int) < (pn1 : Int) := by omega
      have hb := Lib.hid (nv.out (fun t ht => hal.out t (by rw [← lv.out] at ht; omega)))
      have hR3 : Hid (R = bs) := Lib.hid (by rw [hR2.out, hb.out]; rfl)
      clear hb hR2 yv nv hal
      go_wp2
      clear hki hlt hk
      go_loop [4] (fun y => ∃ k : Nat, k ≤ pn2 ∧ y = .int .i64 k ∧ Hid (∀ t, t < k → bigS (D.spots.getD t spot0) = false)) (fun y => pn2 - (intOf y).toNat)
      case atStart => exact ⟨0, Nat.zero_le _, rfl, Lib.hid (fun t ht => by omega)⟩
      case round =>
        obtain ⟨k, hk, rfl, hal⟩ := hrel
        by_cases hlt : k < pn2
        · have hki : (k : Int) < (pn2 : Int) := by omega
          obtain ⟨b, off, rfl, -, x0, x1, x2⟩ := spots_at S.out hlt
          have hz := hsw.out k (by rw [← ls.out]; exact hlt)
          have hy := Lib.hid (ys.out k (by rw [← ls.out]; exact hlt))
          have hn : Hid (bigS (D.spots.getD k spot0) = false → ∀ t, t < k + 1 → bigS (D.spots.getD t spot0) = false) := Lib.hid (fun h t ht => by
            by_cases e : t = k
            · rw [e]; exact h
            · exact hal.out t (by omega))
          obtain ⟨s, f, x, hd⟩ : ∃ s f x, D.spots.getD k spot0 = (⟨s, f, x⟩ : SpotD) := ⟨_, _, _, rfl⟩
          rw [hd] at x0 x1 hy hn hz
          have hz1 : s.size ≤ 140737488351232 := hz.1
          have hz2 : f.size ≤ 140737488351232 := hz.2.1
          dsimp only at x0 x1
          have hbe : Hid (bigS ⟨s, f, x⟩ = (decide (100 < s.size) || decide (100 < f.size))) := Lib.hid rfl
          clear hd hal ys hz x2
          generalize bigS ⟨s, f, x⟩ = B at *
          by_cases h1 : 100 < s.size
          · have h1i : (100 : Int) < (s.size : Int) := by omega
            have hf : Hid (R = true) := Lib.hid (by rw [hR3.out, hy.out (by rw [hbe.out, decide_eq_true h1]; rfl)])
            clear hy hn hbe
            go_wp2
            go_ret
            exact ⟨ret_bool hf.out.symm, BL.out⟩
          · have h1i : ¬ (100 : Int) < (s.size : Int) := by omega
            by_cases h2 : 100 < f.size
            · have h2i : (100 : Int) < (f.size : Int) := by omega
              have hf : Hid (R = true) := Lib.hid (by rw [hR3.out, hy.out (by rw [hbe.out, decide_eq_false h1, decide_eq_true h2]; rfl)])
              clear hy hn hbe
              go_wp2
              go_ret
              exact ⟨ret_bool hf.out.symm, BL.out⟩
            · have h2i : ¬ (100 : Int) < (f.size : Int) := by omega
              have hg := Lib.hid (hn.out (by rw [hbe.out, decide_eq_false h1, decide_eq_false h2]; rfl))
              clear hy hn hbe
              go_wp2
              go_round
              case rel => exact ⟨k + 1, by omega, by go_num, hg⟩
              case measure => simp [intOf]; omega
        · have hki : ¬ (k : Int) < (pn2 : Int) := by omega
          have hb := Lib.hid (ns.out (fun t ht => hal.out t (by rw [← ls.out] at ht; omega)))
          have hf : Hid (R = false) := Lib.hid (by rw [hR3.out, hb.out])
          clear hb ns ys hR3
          go_wp2
          go_ret
          exact ⟨ret_bool hf.out.symm, BL.out⟩
end Go.Proofs.YtgeliikfgnkppaaGreatDoor
namespace Go.Proofs.YtgeliikfgnkppaaGreatDoor
set_option linter.unusedVariables false
set_option linter.unusedSimpArgs false
def okA (S : List Int) (i : Nat) : Prop := 0 ≤ S.getD i 0 ∧ S.getD i 0 ≤ (S.length : Int) - i ∧ ∀ k, k < i → (i : Int) - k < S.getD k 0 → S.getD i 0 ≤ S.getD k 0 - ((i : Int) - k)
def preA (S : List Int) (i : Nat) : Prop := ∀ j, j < i → okA S j
instance (S : List Int) (i : Nat) : Decidable (okA S i) := by unfold okA; infer_instance
instance (S : List Int) (i : Nat) : Decidable (preA S i) := by unfold preA; infer_instance
def onceP (P : List Int) (m : Nat) : Prop := ∀ i, i < m → 0 ≤ P.getD i 0 ∧ P.getD i 0 ≤ 127 ∧ ∀ k, k < i → P.getD k 0 ≠ P.getD i 0
instance (P : List Int) (m : Nat) : Decidable (onceP P m) := by unfold onceP; infer_instance
end Go.Proofs.YtgeliikfgnkppaaGreatDoor
namespace Go.Proofs.YtgeliikfgnkppaaGreatDoor
open Go.RowKit
set_option linter.unusedVariables false
set_option linter.unusedSimpArgs false
theorem infoInt : (Tryz.prog.info? 3).map (fun i => (i.zero, i.size, i.bytes)) = some (some (.int .i64 0), 1, 8) := by kernel_rfl
structure WA (w : World) (a1 : Option Addr) (n1 c1 : Nat) (P : List Int) (a2 : Option Addr) (n2 c2 : Nat) (S : List Int) : Prop where
  p : SL w a1 n1 c1 P
  s : SL w a2 n2 c2 S
theorem WA.below {w w' : World} {a1 a2 : Option Addr} {n1 c1 n2 c2 : Nat} {P S : List Int} (h : WA w a1 n1 c1 P a2 n2 c2 S) (hb : Below w.heap.size w w') : WA w' a1 n1 c1 P a2 n2 c2 S := ⟨h.p.below hb, h.s.below hb⟩
def sameW (P S P2 S2 : List Int) : Bool := decide (P = P2) && decide (S = S2)
set_option maxRecDepth 100000 in
set_option maxHeartbeats 2000000 in
theorem wrsame_any (a1 a2 a3 a4 : Option Addr) (P S P2 S2 : List Int) (n1 n2 n3 n4 c1 c2 c3 c4 : Nat) (w : World) (h1 : WA w a1 n1 c1 P a2 n2 c2 S) (h2 : WA w a3 n3 c3 P2 a4 n4 c4 S2) :
    Calls Tryz.prog 45 #[.agg #[.slice a1 n1 c1, .slice a2 n2 c2], .agg #[.slice a3 n3 c3, .slice a4 n4 c4]] w (Gives (.bool (sameW P S P2 S2)) w) := by
  obtain ⟨W1, hW1⟩ : ∃ W1, W1 = (w.alloc (.cells #[.slice a1 n1 c1, .slice a2 n2 c2] 70)).alloc (.cells #[.slice a3 n3 c3, .slice a4 n4 c4] 70) := ⟨_, rfl⟩
  have hB : Below w.heap.size w W1 := by rw [hW1]; exact box2_below _ _ _ _ _
  have g1 := Lib.hid (h1.below hB)
  have g2 := Lib.hid (h2.below hB)
  have z1 : Holds W1 w.heap.size 70 #[.slice a1 n1 c1, .slice a2 n2 c2] := by rw [hW1]; exact (Holds.new w _ _).alloc _
  have z2 : Holds W1 (w.heap.size + 1) 70 #[.slice a3 n3 c3, .slice a4 n4 c4] := by
    rw [hW1]
    have := Holds.new (w.alloc (.cells #[.slice a1 n1 c1, .slice a2 n2 c2] 70)) 70 #[.slice a3 n3 c3, .slice a4 n4 c4]
    simpa using this
  have k1 := z1.cell 0
  have k2 := z1.cell 1
  have k3 := z2.cell 0
  have k4 := z2.cell 1
  have l1 := Lib.hid h1.p.len
  have l2 := Lib.hid h1.s.len
  have l3 := Lib.hid h2.p.len
  have l4 := Lib.hid h2.s.len
  have b1 : (n1 : Int) ≤ 9223372036854775807 := by have := h1.p.max; omega
  have b2 : (n2 : Int) ≤ 9223372036854775807 := by have := h1.s.max; omega
  have hW1' := Lib.hid hW1
  have hB' := Lib.hid hB
  clear h1 h2 hB z1 z2
  by_cases hn : n1 = n3
  case neg =>
    have hr : sameW P S P2 S2 = false := by unfold sameW; rw [decide_eq_false (fun e => hn (by rw [l1.out, l3.out, e])), Bool.false_and]
    rw [hr]
    have hi2 : ((n1 : Int) != (n3 : Int)) = true := by simp; omega
    clear hr hn hW1 k1 k2 k3 k4
    go_enter Tryz.func45, Tryz.ntmps45
    go_wp2
    go_ret
    rw [← hW1'.out]
    exact ⟨rfl, hB'.out⟩
  subst hn
  by_cases hm : n2 = n4
  case neg =>
    have hr : sameW P S P2 S2 = false := by unfold sameW; rw [decide_eq_false (fun e => hm (by rw [l2.out, l4.out, e]) : ¬ S = S2), Bool.and_false]
    rw [hr]
    have hi2 : ((n2 : Int) != (n4 : Int)) = true := by simp; omega
    clear hr hm hW1 k1 k2 k3 k4
    go_enter Tryz.func45, Tryz.ntmps45
    go_wp2
    go_ret
    rw [← hW1'.out]
    exact ⟨rfl, hB'.out⟩
  subst hm
  go_enter Tryz.func45, Tryz.ntmps45
  go_wp2
  rw [← hW1]
  clear hW1
  go_loopw [5] (fun x wr => ∃ k m : Nat, k ≤ n1 ∧ x = .int .i64 k ∧ Hid (∀ j, j < k → P.getD j 0 = P2.getD j 0) ∧ wr = W1.drewN m) (fun x _ => n1 - (intOf x).toNat)
  case atStart => exact ⟨0, 0, Nat.zero_le _, rfl, Lib.hid (by intro j hj; omega), rfl⟩
  case round =>
    obtain ⟨k, m, hk, rfl, he, rfl⟩ := hrel
    by_cases hlt : k < n1
    · obtain ⟨b1, o1, rfl, -, e1⟩ := sees_num g1.out.p.sees (i := k) (by rw [← l1.out]; exact hlt)
      obtain ⟨b2, o2, rfl, -, e2⟩ := sees_num g2.out.p.sees (i := k) (by rw [← l3.out]; exact hlt)
      have hki : (k : Int) < (n1 : Int) := by omega
      have hyes : Hid (P.getD k 0 = P2.getD k 0 → ∀ j, j < k + 1 → P.getD j 0 = P2.getD j 0) := Lib.hid (fun hx j hj => by
        by_cases e : j = k
        · subst e; exact hx
        · exact he.out j (by omega))
      have hno : Hid (P.getD k 0 ≠ P2.getD k 0 → sameW P S P2 S2 = false) := Lib.hid (fun hx => by unfold sameW; rw [decide_eq_false (fun e => hx (by rw [e])), Bool.false_and])
      clear he
      generalize P.getD k 0 = x at *
      generalize P2.getD k 0 = y at *
      by_cases hxy : x = y
      · subst hxy
        have hy2 := Lib.hid (hyes.out rfl)
        clear hyes hno
        go_wp2
        go_quiet (fail)
        go_wp2
        go_roundw
        case rel => exact ⟨k + 1, m + nq, by omega, by go_num, hy2, by simp [World.drewN, Nat.add_assoc]⟩
        case measure => simp [intOf]; omega
      · have hr := Lib.hid (hno.out hxy)
        have hxy2 : (x == y) = false := by simpa using hxy
        have hxy3 : (x != y) = true := by simpa using hxy
        clear hyes hno
        go_wp2
        go_quiet (fail)
        go_wp2
        go_ret
        exact ⟨by rw [hr.out]; rfl, Below.drewN (Below.drewN hB'.out m) nq⟩
    · have hP : Hid (P = P2) := Lib.hid (by
        have q1 := l1.out
        have q2 := l3.out
        apply List.ext_getElem (by omega)
        intro j g1 g2
        have := he.out j (by omega)
        simpa [List.getD, g1, g2] using this)
      clear he
      go_wp2
      obtain ⟨wo, hwo⟩ : ∃ wo, wo = W1.drewN m := ⟨_, rfl⟩
      rw [← hwo]
      have hwB : Hid (Below w.heap.size w wo) := Lib.hid (by rw [hwo]; exact Below.drewN hB'.out m)
      have k1 : wo.cell? ⟨w.heap.size, 0, none⟩ = some (.slice a1 n1 c1) := by rw [hwo]; exact k1
      have k2 : wo.cell? ⟨w.heap.size, 1, none⟩ = some (.slice a2 n2 c2) := by rw [hwo]; exact k2
      have k3 : wo.cell? ⟨w.heap.size + 1, 0, none⟩ = some (.slice a3 n1 c3) := by rw [hwo]; exact k3
      have k4 : wo.cell? ⟨w.heap.size + 1, 1, none⟩ = some (.slice a4 n2 c4) := by rw [hwo]; exact k4
      have s2 : Hid (Sees .i64 W1.heap.size wo a2 S) := Lib.hid (by rw [hwo]; exact g1.out.s.sees)
      have s4 : Hid (Sees .i64 W1.heap.size wo a4 S2) := Lib.hid (by rw [hwo]; exact g2.out.s.sees)
      clear hwo
      go_loopw [6] (fun x wr => ∃ k m : Nat, k ≤ n2 ∧ x = .int .i64 k ∧ Hid (∀ j, j < k → S.getD j 0 = S2.getD j 0) ∧ wr = wo.drewN m) (fun x _ => n2 - (intOf x).toNat)
      case atStart => exact ⟨0, 0, Nat.zero_le _, rfl, Lib.hid (by intro j hj; omega), rfl⟩
      case round =>
        obtain ⟨k, m, hk, rfl, he, rfl⟩ := hrel
        by_cases hlt : k < n2
        · obtain ⟨b1, o1, rfl, -, e1⟩ := sees_num s2.out (i := k) (by rw [← l2.out]; exact hlt)
          obtain ⟨b2, o2, rfl, -, e2⟩ := sees_num s4.out (i := k) (by rw [← l4.out]; exact hlt)
          have hki : (k : Int) < (n2 : Int) := by omega
          have hyes : Hid (S.getD k 0 = S2.getD k 0 → ∀ j, j < k + 1 → S.getD j 0 = S2.getD j 0) := Lib.hid (fun hx j hj => by
            by_cases e : j = k
            · subst e; exact hx
            · exact he.out j (by omega))
          have hno : Hid (S.getD k 0 ≠ S2.getD k 0 → sameW P S P2 S2 = false) := Lib.hid (fun hx => by unfold sameW; rw [decide_eq_false (fun e => hx (by rw [e]) : ¬ S = S2), Bool.and_false])
          clear he
          generalize S.getD k 0 = x at *
          generalize S2.getD k 0 = y at *
          by_cases hxy : x = y
          · subst hxy
            have hy2 := Lib.hid (hyes.out rfl)
            clear hyes hno
            go_wp2
            go_quiet (fail)
            go_wp2
            go_roundw
            case rel => exact ⟨k + 1, m + nq, by omega, by go_num, hy2, by simp [World.drewN, Nat.add_assoc]⟩
            case measure => simp [intOf]; omega
          · have hr := Lib.hid (hno.out hxy)
            have hxy2 : (x == y) = false := by simpa using hxy
            have hxy3 : (x != y) = true := by simpa using hxy
            clear hyes hno
            go_wp2
            go_quiet (fail)
            go_wp2
            go_ret
            exact ⟨by rw [hr.out]; rfl, Below.drewN (Below.drewN hwB.out m) nq⟩
        · have hS : Hid (sameW P S P2 S2 = true) := Lib.hid (by
            have q1 := l2.out
            have q2 := l4.out
            have : S = S2 := by
              apply List.ext_getElem (by omega)
              intro j g1 g2
              have := he.out j (by omega)
              simpa [List.getD, g1, g2] using this
            unfold sameW
            rw [decide_eq_true hP.out, decide_eq_true this, Bool.true_and])
          clear he
          go_wp2
          go_ret
          exact ⟨by rw [hS.out]; rfl, Below.drewN hwB.out m⟩
end Go.Proofs.YtgeliikfgnkppaaGreatDoor
namespace Go.Proofs.YtgeliikfgnkppaaGreatDoor
open Go.RowKit
set_option linter.unusedVariables false
set_option linter.unusedSimpArgs false
theorem infoIntP : ∃ i, Tryz.prog.info? 3 = some i ∧ i.zero = some (.int .i64 0) ∧ i.size = 1 ∧ i.bytes = 8 := by
  have h := infoInt
  cases hi : Tryz.prog.info? 3 with
  | none => rw [hi] at h; simp at h
  | some i => rw [hi] at h; simp at h; exact ⟨i, rfl, h.1, h.2.1, h.2.2⟩
def SlP (l : List Int) (w : World) (e : Ending) (w' : World) : Prop := ∃ a n c, e = .returned (.slice a n c) ∧ SL w' a n c l ∧ Below w.heap.size w w'
theorem slp_own {w w' : World} {v : Value} {l : List Int} (h : w'.ownsRow w.heap.size 3 1 v l.length (nums .i64 l)) (hl : l.length ≤ 1000) (hb : Below w.heap.size w w') : SlP l w (.returned v) w' := by
  obtain ⟨a, c, rfl, _, hs⟩ := sees_own h
  exact ⟨a, _, c, rfl, ⟨rfl, own_cap h, by omega, hs⟩, hb⟩
def outQ (pt : Int) (e : EdgeD) : Bool := decide (e.frm = pt)
def intoQ (pt : Int) (e : EdgeD) : Bool := decide (e.dst = pt)
def selL (q : EdgeD → Bool) (l : List EdgeD) (m : Nat) : List Int := ((List.range m).filter fun k => q (l.getD k edge0)).map fun k : Nat => (k : Int)
theorem sel_yes {q : EdgeD → Bool} {l : List EdgeD} {m : Nat} (h : q (l.getD m edge0) = true) : selL q l (m + 1) = selL q l m ++ [(m : Int)] := by
  unfold selL; rw [List.range_succ, List.filter_append, show [m].filter (fun k => q (l.getD k edge0)) = [m] from List.filter_cons_of_pos h, List.map_append]; rfl
theorem sel_no {q : EdgeD → Bool} {l : List EdgeD} {m : Nat} (h : q (l.getD m edge0) = false) : selL q l (m + 1) = selL q l m := by
  unfold selL; rw [List.range_succ, List.filter_append, show [m].filter (fun k => q (l.getD k edge0)) = [] from List.filter_cons_of_neg (by rw [h]; simp), List.append_nil]
theorem sel_len (q : EdgeD → Bool) (l : List EdgeD) (m : Nat) : (selL q l m).length ≤ m := by
  unfold selL; rw [List.length_map]; exact Nat.le_trans (List.length_filter_le _ _) (by simp)
def selP (q : EdgeD → Bool) (D : PD) : List Int := if progB D = true then selL q D.edges D.edges.length else []
theorem pchk_ok {D : PD} (h : progB D = true) : chkP D = 0 := by unfold chkP; rw [if_pos h]
theorem pchk_bad {D : PD} (h : progB D = false) : chkP D = 110 := by unfold chkP; rw [h]; rfl
theorem prog_sizes {D : PD} (h : progB D = true) : 1 ≤ D.spots.length ∧ D.spots.length ≤ 128 ∧ D.edges.length ≤ 256 := by
  unfold progB at h
  simp only [Bool.and_eq_true, decide_eq_true_eq] at h
  exact ⟨h.1.1, h.1.2.1, h.1.2.2⟩
theorem prog_edge {D : PD} (h : progB D = true) {i : Nat} (hi : i < D.edges.length) : edgeB D.spots.length D.vars.length (D.edges.getD i edge0) = true := by
  unfold progB at h
  simp only [Bool.and_eq_true] at h
  have h2 := List.all_eq_true.1 h.2.2.2.2 (D.edges.getD i edge0) (by simp [List.getD, hi])
  exact h2
theorem edge_ends {n m : Nat} {e : EdgeD} (h : edgeB n m e = true) : 0 ≤ e.frm ∧ e.frm < n ∧ 0 ≤ e.dst ∧ e.dst < n := by
  unfold edgeB pointB at h
  simp only [Bool.and_eq_true, decide_eq_true_eq] at h
  exact ⟨h.1.1, h.1.2, h.2.1.1, h.2.1.2⟩
set_option maxRecDepth 100000 in
theorem askOut_any (g : Nat) (pt fr ds ek ex ey ec ed : Int) (w : World) (h : Holds w g 3 #[.int .i64 pt]) : Calls Tryz.prog 42 #[.agg #[.int .i64 fr, .int .i64 ds, .int .i64 ek, .int .i64 ex, .int .i64 ey, .int .i64 ec, .int .i64 ed], .pointer (some ⟨g, 0, none⟩)] w (Gives (.bool (outQ pt (⟨fr, ds, ek, ex, ey, ec, ed⟩ : EdgeD))) w) := by
  have hR : Hid (((fr : Int) == pt) = outQ pt (⟨fr, ds, ek, ex, ey, ec, ed⟩ : EdgeD)) := Lib.hid (by unfold outQ; rw [Bool.eq_iff_iff]; simp)
  have hB := Lib.hid (box_below w #[.int .i64 fr, .int .i64 ds, .int .i64 ek, .int .i64 ex, .int .i64 ey, .int .i64 ec, .int .i64 ed] 52)
  have hg := h.lt
  have g0 := h.cell 0
  clear h
  generalize outQ pt (⟨fr, ds, ek, ex, ey, ec, ed⟩ : EdgeD) = R at *
  go_enter Tryz.func42, Tryz.ntmps42
  go_wp2
  go_ret
  exact ⟨ret_bool hR.out, hB.out⟩
set_option maxRecDepth 100000 in
set_option maxHeartbeats 4000000 in
theorem edgesOut_any (p : PV) (D : PD) (g : Nat) (pt : Int) (w : World) (h : PrA w p D) (hz : Holds w g 3 #[.int .i64 pt]) : Calls Tryz.prog 41 #[.agg #[.string p.nm, .slice p.a1 p.n1 p.c1, .slice p.a2 p.n2 p.c2, .slice p.a3 p.n3 p.c3], .func (.func 42) #[] #[.pointer (some ⟨g, 0, none⟩)]] w (SlP (selP (outQ pt) D) w) := by
  obtain ⟨i0, hi, hz0, hz1, hz2⟩ := infoIntP
  have qc := Lib.hid (fun W hW => pcheck_any p D W hW)
  obtain ⟨W1, hW1⟩ : ∃ W1, W1 = w.alloc (.cells #[.string p.nm, .slice p.a1 p.n1 p.c1, .slice p.a2 p.n2 p.c2, .slice p.a3 p.n3 p.c3] 26) := ⟨_, rfl⟩
  have Z : Hid (Holds W1 w.heap.size 26 #[.string p.nm, .slice p.a1 p.n1 p.c1, .slice p.a2 p.n2 p.c2, .slice p.a3 p.n3 p.c3]) := Lib.hid (by rw [hW1]; exact Holds.new w _ _)
  have BL := Lib.hid (show Below w.heap.size w W1 by rw [hW1]; exact box_below _ _ _)
  have A := Lib.hid (h.below BL.out)
  have G := Lib.hid (hz.below BL.out hz.lt)
  have hW1' := Lib.hid hW1
  have k0 := Z.out.cell 0
  have k1 := Z.out.cell 1
  have k2 := Z.out.cell 2
  have k3 := Z.out.cell 3
  have hz3 := Lib.hid h.edges.len
  clear h hz hW1
  cases hp : progB D
  · have hs : Hid (selP (outQ pt) D = []) := Lib.hid (by unfold selP; rw [hp]; rfl)
    rw [pchk_bad hp] at qc
    clear hp
    generalize selP (outQ pt) D = R at *
    go_enter Tryz.func41, Tryz.ntmps41
    go_wp2_with fail
    rw [← hW1'.out]
    with_reducible refine (qc.out W1 A.out).mono ?_
    rintro e u1 ⟨rfl, b1⟩
    clear k0 k1 k2 k3
    go_wp2
    go_ret
    exact ⟨none, 0, 0, rfl, by rw [hs.out]; exact SL.nil _, BL.out.trans (b1.mono BL.out.size)⟩
  · have hs : Hid (selP (outQ pt) D = selL (outQ pt) D.edges D.edges.length) := Lib.hid (by unfold selP; rw [hp]; rfl)
    rw [pchk_ok hp] at qc
    have hn3 : p.n3 ≤ 256 := by rw [hz3.out]; exact (prog_sizes hp).2.2
    have hy := Lib.hid (fun k h => sel_yes (q := outQ pt) (l := D.edges) (m := k) h)
    have hn := Lib.hid (fun k h => sel_no (q := outQ pt) (l := D.edges) (m := k) h)
    have hle := Lib.hid (fun k => sel_len (outQ pt) D.edges k)
    clear hp
    generalize selP (outQ pt) D = R at *
    go_enter Tryz.func41, Tryz.ntmps41
    go_wp2_with fail
    rw [← hW1'.out]
    with_reducible refine (qc.out W1 A.out).mono ?_
    rintro e u1 ⟨rfl, b1⟩
    clear k0 k1 k2 k3 qc hW1'
    replace Z := Lib.hid (Z.out.below b1 Z.out.lt)
    replace G := Lib.hid (G.out.below b1 G.out.lt)
    replace A := Lib.hid (A.out.below b1)
    replace BL := Lib.hid (BL.out.trans (b1.mono BL.out.size))
    clear b1
    have k3 := Z.out.cell 3
    go_wp2
    clear k3
    go_loopw [5, 14] (fun v x wr => ∃ k : Nat, k ≤ p.n3 ∧ x = .int .i64 k ∧ Hid (wr.ownsRow u1.heap.size 3 1 v (selL (outQ pt) D.edges k).length (nums .i64 (selL (outQ pt) D.edges k))) ∧ Hid (Below u1.heap.size u1 wr)) (fun _ x _ => p.n3 - (intOf x).toNat)
    case atStart => exact ⟨0, Nat.zero_le _, rfl, Lib.hid (World.ownsRow_nil _ _ _ _), Lib.hid (Below.refl _ _)⟩
    case round =>
      obtain ⟨k, hk, rfl, hown, hB⟩ := hrel
      by_cases hlt : k < p.n3
      · have hki : (k : Int) < (p.n3 : Int) := by omega
        obtain ⟨b, off, ha, hbl, x0, x1, x2, x3, x4, x5, x6⟩ := edges_at (A.out.edges.below hB.out) hlt
        have hy' := Lib.hid (hy.out k)
        have hn' := Lib.hid (hn.out k)
        have hl := hle.out k
        obtain ⟨fr, ds, ek, ex, ey, ec, ed, hs2⟩ : ∃ fr ds ek ex ey ec ed, D.edges.getD k edge0 = (⟨fr, ds, ek, ex, ey, ec, ed⟩ : EdgeD) := ⟨_, _, _, _, _, _, _, rfl⟩
        rw [hs2] at x0 x1 x2 x3 x4 x5 x6 hy' hn'
        dsimp only at x0 x1 x2 x3 x4 x5 x6
        have hBe := Lib.hid (box_below wr #[.int .i64 fr, .int .i64 ds, .int .i64 ek, .int .i64 ex, .int .i64 ey, .int .i64 ec, .int .i64 ed] 52)
        have q1 := Lib.hid (askOut_any g pt fr ds ek ex ey ec ed _ ((G.out.below hB.out G.out.lt).below hBe.out (by have := G.out.lt; have := hB.out.size; omega)))
        have hB0 := Lib.hid (BL.out.trans (hB.out.mono BL.out.size))
        have hown0 := Lib.hid (own_below hown.out hBe.out)
        have hB1 := Lib.hid (hB.out.trans (hBe.out.mono hB.out.size))
        clear hs2
        cases hq : outQ pt (⟨fr, ds, ek, ex, ey, ec, ed⟩ : EdgeD)
        · have hs3 := Lib.hid (hn'.out hq)
          rw [hq] at q1
          clear hq hy' hn'
          go_wp2_with fail
          refine q1.out.mono ?_
          rintro e w1 ⟨rfl, b1⟩
          have hB2 := Lib.hid (hB1.out.trans (b1.mono hB1.out.size))
          have hown2 := Lib.hid (own_below hown0.out b1)
          rw [← hs3.out] at hown2
          clear x0 x1 x2 x3 x4 x5 x6 ha b1
          go_wp2
          go_roundw
          case rel => exact ⟨k + 1, by omega, by go_num, hown2, hB2⟩
          case measure => simp [intOf]; omega
        · have hs3 := Lib.hid (hy'.out hq)
          rw [hq] at q1
          clear hq hy' hn'
          go_wp2_with fail
          refine q1.out.mono ?_
          rintro e w1 ⟨rfl, b1⟩
          have hB2 := Lib.hid (hB1.out.trans (b1.mono hB1.out.size))
          have hB3 := Lib.hid (BL.out.trans (hB2.out.mono BL.out.size))
          have hown2 := Lib.hid (own_below hown0.out b1)
          have hsz := hB2.out.size
          clear x0 x1 x2 x3 x4 x5 x6 ha b1
          go_wp2_with (at_builtin; refine wpList_append1 _ rfl _ _ 32 rfl u1 3 i0 (.int .i64 0) 8 Tryz.underlying32 hi hz0 hz1 hz2 rfl .i64 (k : Int) _ _ hown2.out hB2.out rfl rfl (by omega) (by omega) ?_; intro v' w' hown4 hb4; have hown4' := Lib.hid hown4; have hb4' := Lib.hid hb4; clear hown4 hb4)
          rw [← hs3.out] at hown4'
          go_roundw
          case rel => exact ⟨k + 1, by omega, by go_num, hown4', hb4'⟩
          case measure => simp [intOf]; omega
      · have hki : ¬ (k : Int) < (p.n3 : Int) := by omega
        have hke : k = D.edges.length := by have := hz3.out; omega
        rw [hke] at hown
        rw [← hs.out] at hown
        have hfin := Lib.hid (slp_own (own_from hown.out (fun b hb => by have := (hown.out.lt b hb).1; have := BL.out.size; omega)) (by rw [hs.out]; have := hle.out D.edges.length; omega) (BL.out.trans (hB.out.mono BL.out.size)))
        clear hke
        go_wp2
        go_ret
        exact hfin.out
set_option maxRecDepth 100000 in
set_option maxHeartbeats 1000000 in
theorem pOut_any (p : PV) (D : PD) (pt : Int) (w : World) (h : PrA w p D) : Calls Tryz.prog 13 #[.agg #[.string p.nm, .slice p.a1 p.n1 p.c1, .slice p.a2 p.n2 p.c2, .slice p.a3 p.n3 p.c3], .int .i64 pt] w (SlP (selP (outQ pt) D) w) := by
  have hmf : ∀ (fn : Fn) (first cap : Array Value) (w : World), (Instr.makeFunc fn first cap).run Tryz.prog w = .ok (.func fn first cap) w := fun _ _ _ _ => rfl
  obtain ⟨W1, hW1⟩ : ∃ W1, W1 = (w.alloc (.cells #[.string p.nm, .slice p.a1 p.n1 p.c1, .slice p.a2 p.n2 p.c2, .slice p.a3 p.n3 p.c3] 26)).alloc (.cells #[.int .i64 pt] 3) := ⟨_, rfl⟩
  have Z : Holds W1 w.heap.size 26 #[.string p.nm, .slice p.a1 p.n1 p.c1, .slice p.a2 p.n2 p.c2, .slice p.a3 p.n3 p.c3] := by rw [hW1]; exact (Holds.new w _ _).alloc _
  have G : Holds W1 (w.heap.size + 1) 3 #[.int .i64 pt] := by
    rw [hW1]
    have := Holds.new (w.alloc (.cells #[.string p.nm, .slice p.a1 p.n1 p.c1, .slice p.a2 p.n2 p.c2, .slice p.a3 p.n3 p.c3] 26)) 3 #[.int .i64 pt]
    simpa using this
  have BL := Lib.hid (show Below w.heap.size w W1 by rw [hW1]; exact box2_below _ _ _ _ _)
  have q := Lib.hid (edgesOut_any p D (w.heap.size + 1) pt W1 (h.below BL.out) G)
  have hW1' := Lib.hid hW1
  have k0 := Z.cell 0
  have k1 := Z.cell 1
  have k2 := Z.cell 2
  have k3 := Z.cell 3
  clear h hW1 Z G
  generalize selP (outQ pt) D = R at *
  go_enter Tryz.func13, Tryz.ntmps13
  go_wp2_with fail
  rw [← hW1'.out]
  refine q.out.mono ?_
  rintro e u1 ⟨a, n, c, rfl, hs, b1⟩
  have hs' := Lib.hid hs
  have hb := Lib.hid (BL.out.trans (b1.mono BL.out.size))
  clear hs b1
  go_wp2
  go_ret
  exact ⟨a, n, c, rfl, hs'.out, hb.out⟩
set_option maxRecDepth 100000 in
set_option maxHeartbeats 4000000 in
theorem rOut_any (p : PV) (D : PD) (pt : Int) (hn3 : p.n3 ≤ 256) (w : World) (h : PrA w p D) : Calls Tryz.prog 17 #[.agg #[.string p.nm, .slice p.a1 p.n1 p.c1, .slice p.a2 p.n2 p.c2, .slice p.a3 p.n3 p.c3], .int .i64 pt] w (SlP (selL (outQ pt) D.edges D.edges.length) w) := by
  obtain ⟨i0, hi, hz0, hz1, hz2⟩ := infoIntP
  obtain ⟨pnm, pa1, pn1, pc1, pa2, pn2, pc2, pa3, pn3, pc3⟩ := p
  have hed := h.edges
  dsimp only at hed hn3
  obtain ⟨W1, hW1⟩ : ∃ W1, W1 = w.alloc (.cells #[.string pnm, .slice pa1 pn1 pc1, .slice pa2 pn2 pc2, .slice pa3 pn3 pc3] 26) := ⟨_, rfl⟩
  have Z : Hid (Holds W1 w.heap.size 26 #[.string pnm, .slice pa1 pn1 pc1, .slice pa2 pn2 pc2, .slice pa3 pn3 pc3]) := Lib.hid (by rw [hW1]; exact Holds.new w _ _)
  have BL := Lib.hid (show Below w.heap.size w W1 by rw [hW1]; exact box_below _ _ _)
  have A := Lib.hid (hed.below BL.out)
  have hW1' := Lib.hid hW1
  have hz3 := Lib.hid hed.len
  have hy := Lib.hid (fun k h => sel_yes (q := outQ pt) (l := D.edges) (m := k) h)
  have hn := Lib.hid (fun k h => sel_no (q := outQ pt) (l := D.edges) (m := k) h)
  have hle := Lib.hid (fun k => sel_len (outQ pt) D.edges k)
  obtain ⟨R, hR⟩ : ∃ R, R = selL (outQ pt) D.edges D.edges.length := ⟨_, rfl⟩
  rw [← hR]
  have hs := Lib.hid hR
  clear h hed hW1 hR
  go_enter Tryz.func17, Tryz.ntmps17
  go_wp2
  rw [← hW1'.out]
  clear hW1'
  go_loopw [5, 6] (fun v x wr => ∃ k : Nat, k ≤ pn3 ∧ x = .int .i64 k ∧ Hid (wr.ownsRow W1.heap.size 3 1 v (selL (outQ pt) D.edges k).length (nums .i64 (selL (outQ pt) D.edges k))) ∧ Hid (Below W1.heap.size W1 wr)) (fun _ x _ => pn3 - (intOf x).toNat)
  case atStart => exact ⟨0, Nat.zero_le _, rfl, Lib.hid (World.ownsRow_nil _ _ _ _), Lib.hid (Below.refl _ _)⟩
  case round =>
    obtain ⟨k, hk, rfl, hown, hB⟩ := hrel
    have k3 := (Z.out.below hB.out Z.out.lt).cell 3
    by_cases hlt : k < pn3
    · have hki : (k : Int) < (pn3 : Int) := by omega
      obtain ⟨b, off, rfl, hbl, x0, x1, x2, x3, x4, x5, x6⟩ := edges_at (A.out.below hB.out) hlt
      have hy' := Lib.hid (hy.out k)
      have hn' := Lib.hid (hn.out k)
      have hl := hle.out k
      obtain ⟨fr, ds, ek, ex, ey, ec, ed, hs2⟩ : ∃ fr ds ek ex ey ec ed, D.edges.getD k edge0 = (⟨fr, ds, ek, ex, ey, ec, ed⟩ : EdgeD) := ⟨_, _, _, _, _, _, _, rfl⟩
      rw [hs2] at x0 x1 hy' hn'
      dsimp only at x0 x1
      have hqe : Hid (outQ pt (⟨fr, ds, ek, ex, ey, ec, ed⟩ : EdgeD) = ((fr : Int) == pt)) := Lib.hid (by unfold outQ; rw [Bool.eq_iff_iff]; simp)
      clear hs2 x2 x3 x4 x5 x6
      cases hq : ((fr : Int) == pt)
      · have hs3 := Lib.hid (hn'.out (by rw [hqe.out]; exact hq))
        have hown2 := Lib.hid hown.out
        rw [← hs3.out] at hown2
        have hq2 : ¬ ((fr : Int) = pt) := by simpa using hq
        clear hy' hn' hqe
        go_wp2
        go_roundw
        case rel => exact ⟨k + 1, by omega, by go_num, hown2, hB⟩
        case measure => simp [intOf]; omega
      · have hs3 := Lib.hid (hy'.out (by rw [hqe.out]; exact hq))
        have he : fr = pt := by simpa using hq
        clear hy' hn' hqe hq
        subst he
        go_wp2_with (at_builtin; refine wpList_append1 _ rfl _ _ 32 rfl W1 3 i0 (.int .i64 0) 8 Tryz.underlying32 hi hz0 hz1 hz2 rfl .i64 (k : Int) _ _ hown.out hB.out rfl rfl (by omega) (by omega) ?_; intro v' w' hown4 hb4; have hown4' := Lib.hid hown4; have hb4' := Lib.hid hb4; clear hown4 hb4)
        rw [← hs3.out] at hown4'
        go_roundw
        case rel => exact ⟨k + 1, by omega, by go_num, hown4', hb4'⟩
        case measure => simp [intOf]; omega
    · have hki : ¬ (k : Int) < (pn3 : Int) := by omega
      have hke : k = D.edges.length := by have := hz3.out; omega
      rw [hke] at hown
      rw [← hs.out] at hown
      have hfin := Lib.hid (slp_own (own_from hown.out (fun b hb => by have := (hown.out.lt b hb).1; have := BL.out.size; omega)) (by rw [hs.out]; have := hle.out D.edges.length; have := hz3.out; omega) (BL.out.trans (hB.out.mono BL.out.size)))
      clear hke
      go_wp2
      go_ret
      exact hfin.out
set_option maxRecDepth 100000 in
theorem askInto_any (g : Nat) (pt fr ds ek ex ey ec ed : Int) (w : World) (h : Holds w g 3 #[.int .i64 pt]) : Calls Tryz.prog 43 #[.agg #[.int .i64 fr, .int .i64 ds, .int .i64 ek, .int .i64 ex, .int .i64 ey, .int .i64 ec, .int .i64 ed], .pointer (some ⟨g, 0, none⟩)] w (Gives (.bool (intoQ pt (⟨fr, ds, ek, ex, ey, ec, ed⟩ : EdgeD))) w) := by
  have hR : Hid (((ds : Int) == pt) = intoQ pt (⟨fr, ds, ek, ex, ey, ec, ed⟩ : EdgeD)) := Lib.hid (by unfold intoQ; rw [Bool.eq_iff_iff]; simp)
  have hB := Lib.hid (box_below w #[.int .i64 fr, .int .i64 ds, .int .i64 ek, .int .i64 ex, .int .i64 ey, .int .i64 ec, .int .i64 ed] 52)
  have hg := h.lt
  have g0 := h.cell 0
  clear h
  generalize intoQ pt (⟨fr, ds, ek, ex, ey, ec, ed⟩ : EdgeD) = R at *
  go_enter Tryz.func43, Tryz.ntmps43
  go_wp2
  go_ret
  exact ⟨ret_bool hR.out, hB.out⟩
set_option maxRecDepth 100000 in
set_option maxHeartbeats 4000000 in
theorem edgesInto_any (p : PV) (D : PD) (g : Nat) (pt : Int) (w : World) (h : PrA w p D) (hz : Holds w g 3 #[.int .i64 pt]) : Calls Tryz.prog 41 #[.agg #[.string p.nm, .slice p.a1 p.n1 p.c1, .slice p.a2 p.n2 p.c2, .slice p.a3 p.n3 p.c3], .func (.func 43) #[] #[.pointer (some ⟨g, 0, none⟩)]] w (SlP (selP (intoQ pt) D) w) := by
  obtain ⟨i0, hi, hz0, hz1, hz2⟩ := infoIntP
  have qc := Lib.hid (fun W hW => pcheck_any p D W hW)
  obtain ⟨W1, hW1⟩ : ∃ W1, W1 = w.alloc (.cells #[.string p.nm, .slice p.a1 p.n1 p.c1, .slice p.a2 p.n2 p.c2, .slice p.a3 p.n3 p.c3] 26) := ⟨_, rfl⟩
  have Z : Hid (Holds W1 w.heap.size 26 #[.string p.nm, .slice p.a1 p.n1 p.c1, .slice p.a2 p.n2 p.c2, .slice p.a3 p.n3 p.c3]) := Lib.hid (by rw [hW1]; exact Holds.new w _ _)
  have BL := Lib.hid (show Below w.heap.size w W1 by rw [hW1]; exact box_below _ _ _)
  have A := Lib.hid (h.below BL.out)
  have G := Lib.hid (hz.below BL.out hz.lt)
  have hW1' := Lib.hid hW1
  have k0 := Z.out.cell 0
  have k1 := Z.out.cell 1
  have k2 := Z.out.cell 2
  have k3 := Z.out.cell 3
  have hz3 := Lib.hid h.edges.len
  clear h hz hW1
  cases hp : progB D
  · have hs : Hid (selP (intoQ pt) D = []) := Lib.hid (by unfold selP; rw [hp]; rfl)
    rw [pchk_bad hp] at qc
    clear hp
    generalize selP (intoQ pt) D = R at *
    go_enter Tryz.func41, Tryz.ntmps41
    go_wp2_with fail
    rw [← hW1'.out]
    with_reducible refine (qc.out W1 A.out).mono ?_
    rintro e u1 ⟨rfl, b1⟩
    clear k0 k1 k2 k3
    go_wp2
    go_ret
    exact ⟨none, 0, 0, rfl, by rw [hs.out]; exact SL.nil _, BL.out.trans (b1.mono BL.out.size)⟩
  · have hs : Hid (selP (intoQ pt) D = selL (intoQ pt) D.edges D.edges.length) := Lib.hid (by unfold selP; rw [hp]; rfl)
    rw [pchk_ok hp] at qc
    have hn3 : p.n3 ≤ 256 := by rw [hz3.out]; exact (prog_sizes hp).2.2
    have hy := Lib.hid (fun k h => sel_yes (q := intoQ pt) (l := D.edges) (m := k) h)
    have hn := Lib.hid (fun k h => sel_no (q := intoQ pt) (l := D.edges) (m := k) h)
    have hle := Lib.hid (fun k => sel_len (intoQ pt) D.edges k)
    clear hp
    generalize selP (intoQ pt) D = R at *
    go_enter Tryz.func41, Tryz.ntmps41
    go_wp2_with fail
    rw [← hW1'.out]
    with_reducible refine (qc.out W1 A.out).mono ?_
    rintro e u1 ⟨rfl, b1⟩
    clear k0 k1 k2 k3 qc hW1'
    replace Z := Lib.hid (Z.out.below b1 Z.out.lt)
    replace G := Lib.hid (G.out.below b1 G.out.lt)
    replace A := Lib.hid (A.out.below b1)
    replace BL := Lib.hid (BL.out.trans (b1.mono BL.out.size))
    clear b1
    have k3 := Z.out.cell 3
    go_wp2
    clear k3
    go_loopw [5, 14] (fun v x wr => ∃ k : Nat, k ≤ p.n3 ∧ x = .int .i64 k ∧ Hid (wr.ownsRow u1.heap.size 3 1 v (selL (intoQ pt) D.edges k).length (nums .i64 (selL (intoQ pt) D.edges k))) ∧ Hid (Below u1.heap.size u1 wr)) (fun _ x _ => p.n3 - (intOf x).toNat)
    case atStart => exact ⟨0, Nat.zero_le _, rfl, Lib.hid (World.ownsRow_nil _ _ _ _), Lib.hid (Below.refl _ _)⟩
    case round =>
      obtain ⟨k, hk, rfl, hown, hB⟩ := hrel
      by_cases hlt : k < p.n3
      · have hki : (k : Int) < (p.n3 : Int) := by omega
        obtain ⟨b, off, ha, hbl, x0, x1, x2, x3, x4, x5, x6⟩ := edges_at (A.out.edges.below hB.out) hlt
        have hy' := Lib.hid (hy.out k)
        have hn' := Lib.hid (hn.out k)
        have hl := hle.out k
        obtain ⟨fr, ds, ek, ex, ey, ec, ed, hs2⟩ : ∃ fr ds ek ex ey ec ed, D.edges.getD k edge0 = (⟨fr, ds, ek, ex, ey, ec, ed⟩ : EdgeD) := ⟨_, _, _, _, _, _, _, rfl⟩
        rw [hs2] at x0 x1 x2 x3 x4 x5 x6 hy' hn'
        dsimp only at x0 x1 x2 x3 x4 x5 x6
        have hBe := Lib.hid (box_below wr #[.int .i64 fr, .int .i64 ds, .int .i64 ek, .int .i64 ex, .int .i64 ey, .int .i64 ec, .int .i64 ed] 52)
        have q1 := Lib.hid (askInto_any g pt fr ds ek ex ey ec ed _ ((G.out.below hB.out G.out.lt).below hBe.out (by have := G.out.lt; have := hB.out.size; omega)))
        have hB0 := Lib.hid (BL.out.trans (hB.out.mono BL.out.size))
        have hown0 := Lib.hid (own_below hown.out hBe.out)
        have hB1 := Lib.hid (hB.out.trans (hBe.out.mono hB.out.size))
        clear hs2
        cases hq : intoQ pt (⟨fr, ds, ek, ex, ey, ec, ed⟩ : EdgeD)
        · have hs3 := Lib.hid (hn'.out hq)
          rw [hq] at q1
          clear hq hy' hn'
          go_wp2_with fail
          refine q1.out.mono ?_
          rintro e w1 ⟨rfl, b1⟩
          have hB2 := Lib.hid (hB1.out.trans (b1.mono hB1.out.size))
          have hown2 := Lib.hid (own_below hown0.out b1)
          rw [← hs3.out] at hown2
          clear x0 x1 x2 x3 x4 x5 x6 ha b1
          go_wp2
          go_roundw
          case rel => exact ⟨k + 1, by omega, by go_num, hown2, hB2⟩
          case measure => simp [intOf]; omega
        · have hs3 := Lib.hid (hy'.out hq)
          rw [hq] at q1
          clear hq hy' hn'
          go_wp2_with fail
          refine q1.out.mono ?_
          rintro e w1 ⟨rfl, b1⟩
          have hB2 := Lib.hid (hB1.out.trans (b1.mono hB1.out.size))
          have hB3 := Lib.hid (BL.out.trans (hB2.out.mono BL.out.size))
          have hown2 := Lib.hid (own_below hown0.out b1)
          have hsz := hB2.out.size
          clear x0 x1 x2 x3 x4 x5 x6 ha b1
          go_wp2_with (at_builtin; refine wpList_append1 _ rfl _ _ 32 rfl u1 3 i0 (.int .i64 0) 8 Tryz.underlying32 hi hz0 hz1 hz2 rfl .i64 (k : Int) _ _ hown2.out hB2.out rfl rfl (by omega) (by omega) ?_; intro v' w' hown4 hb4; have hown4' := Lib.hid hown4; have hb4' := Lib.hid hb4; clear hown4 hb4)
          rw [← hs3.out] at hown4'
          go_roundw
          case rel => exact ⟨k + 1, by omega, by go_num, hown4', hb4'⟩
          case measure => simp [intOf]; omega
      · have hki : ¬ (k : Int) < (p.n3 : Int) := by omega
        have hke : k = D.edges.length := by have := hz3.out; omega
        rw [hke] at hown
        rw [← hs.out] at hown
        have hfin := Lib.hid (slp_own (own_from hown.out (fun b hb => by have := (hown.out.lt b hb).1; have := BL.out.size; omega)) (by rw [hs.out]; have := hle.out D.edges.length; omega) (BL.out.trans (hB.out.mono BL.out.size)))
        clear hke
        go_wp2
        go_ret
        exact hfin.out
set_option maxRecDepth 100000 in
set_option maxHeartbeats 1000000 in
theorem pInto_any (p : PV) (D : PD) (pt : Int) (w : World) (h : PrA w p D) : Calls Tryz.prog 14 #[.agg #[.string p.nm, .slice p.a1 p.n1 p.c1, .slice p.a2 p.n2 p.c2, .slice p.a3 p.n3 p.c3], .int .i64 pt] w (SlP (selP (intoQ pt) D) w) := by
  have hmf : ∀ (fn : Fn) (first cap : Array Value) (w : World), (Instr.makeFunc fn first cap).run Tryz.prog w = .ok (.func fn first cap) w := fun _ _ _ _ => rfl
  obtain ⟨W1, hW1⟩ : ∃ W1, W1 = (w.alloc (.cells #[.string p.nm, .slice p.a1 p.n1 p.c1, .slice p.a2 p.n2 p.c2, .slice p.a3 p.n3 p.c3] 26)).alloc (.cells #[.int .i64 pt] 3) := ⟨_, rfl⟩
  have Z : Holds W1 w.heap.size 26 #[.string p.nm, .slice p.a1 p.n1 p.c1, .slice p.a2 p.n2 p.c2, .slice p.a3 p.n3 p.c3] := by rw [hW1]; exact (Holds.new w _ _).alloc _
  have G : Holds W1 (w.heap.size + 1) 3 #[.int .i64 pt] := by
    rw [hW1]
    have := Holds.new (w.alloc (.cells #[.string p.nm, .slice p.a1 p.n1 p.c1, .slice p.a2 p.n2 p.c2, .slice p.a3 p.n3 p.c3] 26)) 3 #[.int .i64 pt]
    simpa using this
  have BL := Lib.hid (show Below w.heap.size w W1 by rw [hW1]; exact box2_below _ _ _ _ _)
  have q := Lib.hid (edgesInto_any p D (w.heap.size + 1) pt W1 (h.below BL.out) G)
  have hW1' := Lib.hid hW1
  have k0 := Z.cell 0
  have k1 := Z.cell 1
  have k2 := Z.cell 2
  have k3 := Z.cell 3
  clear h hW1 Z G
  generalize selP (intoQ pt) D = R at *
  go_enter Tryz.func14, Tryz.ntmps14
  go_wp2_with fail
  rw [← hW1'.out]
  refine q.out.mono ?_
  rintro e u1 ⟨a, n, c, rfl, hs, b1⟩
  have hs' := Lib.hid hs
  have hb := Lib.hid (BL.out.trans (b1.mono BL.out.size))
  clear hs b1
  go_wp2
  go_ret
  exact ⟨a, n, c, rfl, hs'.out, hb.out⟩
set_option maxRecDepth 100000 in
set_option maxHeartbeats 4000000 in
theorem rInto_any (p : PV) (D : PD) (pt : Int) (hn3 : p.n3 ≤ 256) (w : World) (h : PrA w p D) : Calls Tryz.prog 18 #[.agg #[.string p.nm, .slice p.a1 p.n1 p.c1, .slice p.a2 p.n2 p.c2, .slice p.a3 p.n3 p.c3], .int .i64 pt] w (SlP (selL (intoQ pt) D.edges D.edges.length) w) := by
  obtain ⟨i0, hi, hz0, hz1, hz2⟩ := infoIntP
  obtain ⟨pnm, pa1, pn1, pc1, pa2, pn2, pc2, pa3, pn3, pc3⟩ := p
  have hed := h.edges
  dsimp only at hed hn3
  obtain ⟨W1, hW1⟩ : ∃ W1, W1 = w.alloc (.cells #[.string pnm, .slice pa1 pn1 pc1, .slice pa2 pn2 pc2, .slice pa3 pn3 pc3] 26) := ⟨_, rfl⟩
  have Z : Hid (Holds W1 w.heap.size 26 #[.string pnm, .slice pa1 pn1 pc1, .slice pa2 pn2 pc2, .slice pa3 pn3 pc3]) := Lib.hid (by rw [hW1]; exact Holds.new w _ _)
  have BL := Lib.hid (show Below w.heap.size w W1 by rw [hW1]; exact box_below _ _ _)
  have A := Lib.hid (hed.below BL.out)
  have hW1' := Lib.hid hW1
  have hz3 := Lib.hid hed.len
  have hy := Lib.hid (fun k h => sel_yes (q := intoQ pt) (l := D.edges) (m := k) h)
  have hn := Lib.hid (fun k h => sel_no (q := intoQ pt) (l := D.edges) (m := k) h)
  have hle := Lib.hid (fun k => sel_len (intoQ pt) D.edges k)
  obtain ⟨R, hR⟩ : ∃ R, R = selL (intoQ pt) D.edges D.edges.length := ⟨_, rfl⟩
  rw [← hR]
  have hs := Lib.hid hR
  clear h hed hW1 hR
  go_enter Tryz.func18, Tryz.ntmps18
  go_wp2
  rw [← hW1'.out]
  clear hW1'
  go_loopw [5, 6] (fun v x wr => ∃ k : Nat, k ≤ pn3 ∧ x = .int .i64 k ∧ Hid (wr.ownsRow W1.heap.size 3 1 v (selL (intoQ pt) D.edges k).length (nums .i64 (selL (intoQ pt) D.edges k))) ∧ Hid (Below W1.heap.size W1 wr)) (fun _ x _ => pn3 - (intOf x).toNat)
  case atStart => exact ⟨0, Nat.zero_le _, rfl, Lib.hid (World.ownsRow_nil _ _ _ _), Lib.hid (Below.refl _ _)⟩
  case round =>
    obtain ⟨k, hk, rfl, hown, hB⟩ := hrel
    have k3 := (Z.out.below hB.out Z.out.lt).cell 3
    by_cases hlt : k < pn3
    · have hki : (k : Int) < (pn3 : Int) := by omega
      obtain ⟨b, off, rfl, hbl, x0, x1, x2, x3, x4, x5, x6⟩ := edges_at (A.out.below hB.out) hlt
      have hy' := Lib.hid (hy.out k)
      have hn' := Lib.hid (hn.out k)
      have hl := hle.out k
      obtain ⟨fr, ds, ek, ex, ey, ec, ed, hs2⟩ : ∃ fr ds ek ex ey ec ed, D.edges.getD k edge0 = (⟨fr, ds, ek, ex, ey, ec, ed⟩ : EdgeD) := ⟨_, _, _, _, _, _, _, rfl⟩
      rw [hs2] at x0 x1 hy' hn'
      dsimp only at x0 x1
      have hqe : Hid (intoQ pt (⟨fr, ds, ek, ex, ey, ec, ed⟩ : EdgeD) = ((ds : Int) == pt)) := Lib.hid (by unfold intoQ; rw [Bool.eq_iff_iff]; simp)
      clear hs2 x2 x3 x4 x5 x6
      cases hq : ((ds : Int) == pt)
      · have hs3 := Lib.hid (hn'.out (by rw [hqe.out]; exact hq))
        have hown2 := Lib.hid hown.out
        rw [← hs3.out] at hown2
        have hq2 : ¬ ((ds : Int) = pt) := by simpa using hq
        clear hy' hn' hqe
        go_wp2
        go_roundw
        case rel => exact ⟨k + 1, by omega, by go_num, hown2, hB⟩
        case measure => simp [intOf]; omega
      · have hs3 := Lib.hid (hy'.out (by rw [hqe.out]; exact hq))
        have he : ds = pt := by simpa using hq
        clear hy' hn' hqe hq
        subst he
        go_wp2_with (at_builtin; refine wpList_append1 _ rfl _ _ 32 rfl W1 3 i0 (.int .i64 0) 8 Tryz.underlying32 hi hz0 hz1 hz2 rfl .i64 (k : Int) _ _ hown.out hB.out rfl rfl (by omega) (by omega) ?_; intro v' w' hown4 hb4; have hown4' := Lib.hid hown4; have hb4' := Lib.hid hb4; clear hown4 hb4)
        rw [← hs3.out] at hown4'
        go_roundw
        case rel => exact ⟨k + 1, by omega, by go_num, hown4', hb4'⟩
        case measure => simp [intOf]; omega
    · have hki : ¬ (k : Int) < (pn3 : Int) := by omega
      have hke : k = D.edges.length := by have := hz3.out; omega
      rw [hke] at hown
      rw [← hs.out] at hown
      have hfin := Lib.hid (slp_own (own_from hown.out (fun b hb => by have := (hown.out.lt b hb).1; have := BL.out.size; omega)) (by rw [hs.out]; have := hle.out D.edges.length; have := hz3.out; omega) (BL.out.trans (hB.out.mono BL.out.size)))
      clear hke
      go_wp2
      go_ret
      exact hfin.out
set_option maxRecDepth 100000 in
theorem pints_any (a1 a3 : Option Addr) (P P2 : List Int) (n1 n3 c1 c3 : Nat) (w : World) (h1 : SL w a1 n1 c1 P) (h2 : SL w a3 n3 c3 P2) :
    Calls Tryz.prog 16 #[.slice a1 n1 c1, .slice a3 n3 c3] w (Gives (.bool (decide (P = P2))) w) := by
  have q := Lib.hid (wrsame_any a1 none a3 none P [] P2 [] n1 0 n3 0 c1 0 c3 0 w ⟨h1, SL.nil w⟩ ⟨h2, SL.nil w⟩)
  rw [show sameW P [] P2 [] = decide (P = P2) by simp [sameW]] at q
  clear h1 h2
  generalize decide (P = P2) = R at *
  go_enter Tryz.func16, Tryz.ntmps16
  go_wp2_with fail
  refine q.out.mono ?_
  rintro e w1 ⟨rfl, hb⟩
  go_wp2
  go_ret
  exact ⟨rfl, hb⟩
end Go.Proofs.YtgeliikfgnkppaaGreatDoor
namespace Go.Proofs.YtgeliikfgnkppaaGreatDoor
open Go.RowKit
set_option linter.unusedVariables false
set_option linter.unusedSimpArgs false
set_option maxRecDepth 100000 in
theorem equal_any (a1 a2 : Option Addr) (n1 n2 c1 c2 : Nat) (l1 l2 : List ByteArray) (h1n : n1 ≤ 9223372036854775807) (h2n : n2 ≤ 9223372036854775807) (w : World) (h1 : TT w a1 n1 c1 l1) (h2 : TT w a2 n2 c2 l2) :
    Calls Tryz.prog 36 #[.slice a1 n1 c1, .slice a2 n2 c2] w (DrawnB (.bool (decide (l1 = l2))) w) := by
  have e1 := h1.len
  have e2 := h2.len
  by_cases hz1 : n1 = 0
  · subst hz1
    obtain rfl : l1 = [] := List.eq_nil_of_length_eq_zero e1.symm
    refine (Tryz.slices_Equal_string_empty a1 a2 c1 n2 c2 w h2n).mono ?_
    rintro e w' ⟨rfl, rfl⟩
    refine ⟨ret_bool ?_, 0, rfl⟩
    rw [decide_eq_decide, e2]
    constructor
    · intro h; exact (List.eq_nil_of_length_eq_zero h).symm
    · intro h; rw [← h]; rfl
  · by_cases hz2 : n1 = n2
    · rcases h1.sees with h | ⟨b1, o1, rfl, -, hc1⟩
      · subst h; exact absurd e1 hz1
      rcases h2.sees with h | ⟨b2, o2, rfl, -, hc2⟩
      · subst h; exact absurd (hz2.trans e2) hz1
      refine (Tryz.slices_Equal_string b1 o1 n1 c1 b2 o2 n2 c2 l1 l2 w (by omega) (by omega) h1n h2n hc1 hc2).mono ?_
      rintro e w' ⟨rfl, q, rfl⟩
      refine ⟨?_, q, rfl⟩
      rw [List.take_of_length_le (by omega), List.take_of_length_le (by omega)]
    · refine (Tryz.slices_Equal_string_lens a1 a2 n1 c1 n2 c2 w hz2).mono ?_
      rintro e w' ⟨rfl, rfl⟩
      refine ⟨ret_bool (decide_eq_false ?_).symm, 0, rfl⟩
      intro h
      rw [h] at e1
      omega
theorem same_no {l1 l2 : List ByteArray} {k : Nat} (h : l1.getD k e0 ≠ l2.getD k e0) : decide (l1 = l2) = false := decide_eq_false (fun e => h (by rw [e]))
theorem same_yes {l1 l2 : List ByteArray} (hl : l1.length = l2.length) (h : ∀ t, t < l1.length → l1.getD t e0 = l2.getD t e0) : decide (l1 = l2) = true := by
  refine decide_eq_true (List.ext_getElem hl fun i h1 h2 => ?_)
  have := h i h1
  simpa [List.getD, h1, h2] using this
end Go.Proofs.YtgeliikfgnkppaaGreatDoor
