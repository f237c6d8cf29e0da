/-
  Words and walks under the law's proof.
-/
import Derived.Test.YtimgocfkogebmaaGreatDoorRows
import Derived.IntWalk
import Derived.Deep.QuietTactic
import Derived.BigQuiet
import Derived.Laws.Cover1
import Derived.Sort.Grow
import Derived.Test.YtimgocfkogebmaaGreatDoorQF01
import Derived.Test.YtimgocfkogebmaaGreatDoorQF02
import Derived.Test.YtimgocfkogebmaaGreatDoorQF08
namespace Go.Proofs.YtimgocfkogebmaaGreatDoor
open Go.RowKit
set_option linter.unusedVariables false
set_option linter.unusedSimpArgs false
def spotB (s : SpotD) : Bool := nameB s.fn && (fileB s.file && (decide (1 ≤ s.line) && decide (s.line ≤ 1048576)))
def pointB (n : Nat) (x : Int) : Bool := decide (0 ≤ x) && decide (x < (n : Int))
def edgeB (n m : Nat) (e : EdgeD) : Bool := pointB n e.frm && (pointB n e.dst && rightB e.k e.x e.y e.c e.d (m : Int))
set_option maxRecDepth 100000 in
set_option maxHeartbeats 1000000 in
theorem rightSpot_any (s f : ByteArray) (x : Int) (w : World) : Calls Tryz.prog 104 #[.agg #[.string s, .string f, .int .i64 x]] w (Gives (.bool (spotB ⟨s, f, x⟩)) w) := by
  have hR : Hid (spotB ⟨s, f, x⟩ = (nameB s && (fileB f && (decide (1 ≤ x) && decide (x ≤ 1048576))))) := Lib.hid rfl
  have q1 := Lib.hid (fun W => name_any s W)
  have q2 := Lib.hid (fun W => fileName_any f W)
  generalize spotB ⟨s, f, x⟩ = R at *
  cases e1 : nameB s
  · rw [e1] at q1
    have hF : Hid (R = false) := Lib.hid (by rw [hR.out]; rw [e1]; rfl)
    clear hR
    obtain ⟨W1, hW1⟩ : ∃ W1, W1 = w.alloc (.cells #[.string s, .string f, .int .i64 x] 80) := ⟨_, rfl⟩
    have Z : Hid (Holds W1 (w.heap.size) 80 #[.string s, .string f, .int .i64 x]) := Lib.hid (by rw [hW1]; exact Holds.new w _ _)
    have BL := Lib.hid (show Below w.heap.size w W1 by rw [hW1]; exact box_below _ _ _)
    have hW1' := Lib.hid hW1
    clear hW1
    go_enter Tryz.func104, Tryz.ntmps104
    have k1 := Z.out.cell 0
    have k2 := Z.out.cell 1
    have k3 := Z.out.cell 2
    have q := Lib.hid (q1.out W1)
    go_wp2_with fail
    rw [← hW1'.out]
    with_reducible refine q.out.mono ?_
    rintro e u1 ⟨rfl, b1⟩
    clear k1 k2 k3
    clear hW1'
    clear q
    have k4 : u1.cell? ⟨w.heap.size, 0, none⟩ = some (.string s) := (Z.out.below b1 Z.out.lt).cell 0
    have k5 : u1.cell? ⟨w.heap.size, 1, none⟩ = some (.string f) := (Z.out.below b1 Z.out.lt).cell 1
    have k6 : u1.cell? ⟨w.heap.size, 2, none⟩ = some (.int .i64 x) := (Z.out.below b1 Z.out.lt).cell 2
    replace Z := Lib.hid (Z.out.below b1 Z.out.lt)
    replace BL := Lib.hid (BL.out.trans (b1.mono BL.out.size))
    clear b1
    go_wp2
    go_ret
    exact ⟨ret_bool hF.out.symm, BL.out⟩
  rw [e1] at q1
  cases e2 : fileB f
  · rw [e2] at q2
    have hF : Hid (R = false) := Lib.hid (by rw [hR.out]; rw [e1, e2]; rfl)
    clear hR
    obtain ⟨W1, hW1⟩ : ∃ W1, W1 = w.alloc (.cells #[.string s, .string f, .int .i64 x] 80) := ⟨_, rfl⟩
    have Z : Hid (Holds W1 (w.heap.size) 80 #[.string s, .string f, .int .i64 x]) := Lib.hid (by rw [hW1]; exact Holds.new w _ _)
    have BL := Lib.hid (show Below w.heap.size w W1 by rw [hW1]; exact box_below _ _ _)
    have hW1' := Lib.hid hW1
    clear hW1
    go_enter Tryz.func104, Tryz.ntmps104
    have k1 := Z.out.cell 0
    have k2 := Z.out.cell 1
    have k3 := Z.out.cell 2
    have q := Lib.hid (q1.out W1)
    go_wp2_with fail
    rw [← hW1'.out]
    with_reducible refine q.out.mono ?_
    rintro e u1 ⟨rfl, b1⟩
    clear k1 k2 k3
    clear hW1'
    clear q
    have k4 : u1.cell? ⟨w.heap.size, 0, none⟩ = some (.string s) := (Z.out.below b1 Z.out.lt).cell 0
    have k5 : u1.cell? ⟨w.heap.size, 1, none⟩ = some (.string f) := (Z.out.below b1 Z.out.lt).cell 1
    have k6 : u1.cell? ⟨w.heap.size, 2, none⟩ = some (.int .i64 x) := (Z.out.below b1 Z.out.lt).cell 2
    replace Z := Lib.hid (Z.out.below b1 Z.out.lt)
    replace BL := Lib.hid (BL.out.trans (b1.mono BL.out.size))
    clear b1
    have q := Lib.hid (q2.out u1)
    go_wp2_with fail
    with_reducible refine q.out.mono ?_
    rintro e u2 ⟨rfl, b2⟩
    clear k4 k5 k6
    clear q
    have k7 : u2.cell? ⟨w.heap.size, 0, none⟩ = some (.string s) := (Z.out.below b2 Z.out.lt).cell 0
    have k8 : u2.cell? ⟨w.heap.size, 1, none⟩ = some (.string f) := (Z.out.below b2 Z.out.lt).cell 1
    have k9 : u2.cell? ⟨w.heap.size, 2, none⟩ = some (.int .i64 x) := (Z.out.below b2 Z.out.lt).cell 2
    replace Z := Lib.hid (Z.out.below b2 Z.out.lt)
    replace BL := Lib.hid (BL.out.trans (b2.mono BL.out.size))
    clear b2
    go_wp2
    go_ret
    exact ⟨ret_bool hF.out.symm, BL.out⟩
  rw [e2] at q2
  by_cases h1 : 1 ≤ x
  · have hF : Hid (R = decide (x ≤ 1048576)) := Lib.hid (by rw [hR.out]; rw [e1, e2, decide_eq_true h1]; rfl)
    clear hR
    obtain ⟨W1, hW1⟩ : ∃ W1, W1 = w.alloc (.cells #[.string s, .string f, .int .i64 x] 80) := ⟨_, rfl⟩
    have Z : Hid (Holds W1 (w.heap.size) 80 #[.string s, .string f, .int .i64 x]) := Lib.hid (by rw [hW1]; exact Holds.new w _ _)
    have BL := Lib.hid (show Below w.heap.size w W1 by rw [hW1]; exact box_below _ _ _)
    have hW1' := Lib.hid hW1
    clear hW1
    go_enter Tryz.func104, Tryz.ntmps104
    have k1 := Z.out.cell 0
    have k2 := Z.out.cell 1
    have k3 := Z.out.cell 2
    have q := Lib.hid (q1.out W1)
    go_wp2_with fail
    rw [← hW1'.out]
    with_reducible refine q.out.mono ?_
    rintro e u1 ⟨rfl, b1⟩
    clear k1 k2 k3
    clear hW1'
    clear q
    have k4 : u1.cell? ⟨w.heap.size, 0, none⟩ = some (.string s) := (Z.out.below b1 Z.out.lt).cell 0
    have k5 : u1.cell? ⟨w.heap.size, 1, none⟩ = some (.string f) := (Z.out.below b1 Z.out.lt).cell 1
    have k6 : u1.cell? ⟨w.heap.size, 2, none⟩ = some (.int .i64 x) := (Z.out.below b1 Z.out.lt).cell 2
    replace Z := Lib.hid (Z.out.below b1 Z.out.lt)
    replace BL := Lib.hid (BL.out.trans (b1.mono BL.out.size))
    clear b1
    have q := Lib.hid (q2.out u1)
    go_wp2_with fail
    with_reducible refine q.out.mono ?_
    rintro e u2 ⟨rfl, b2⟩
    clear k4 k5 k6
    clear q
    have k7 : u2.cell? ⟨w.heap.size, 0, none⟩ = some (.string s) := (Z.out.below b2 Z.out.lt).cell 0
    have k8 : u2.cell? ⟨w.heap.size, 1, none⟩ = some (.string f) := (Z.out.below b2 Z.out.lt).cell 1
    have k9 : u2.cell? ⟨w.heap.size, 2, none⟩ = some (.int .i64 x) := (Z.out.below b2 Z.out.lt).cell 2
    replace Z := Lib.hid (Z.out.below b2 Z.out.lt)
    replace BL := Lib.hid (BL.out.trans (b2.mono BL.out.size))
    clear b2
    go_wp2
    go_ret
    exact ⟨ret_bool hF.out.symm, BL.out⟩
  · have hF : Hid (R = false) := Lib.hid (by rw [hR.out]; rw [e1, e2, decide_eq_false h1]; rfl)
    clear hR
    obtain ⟨W1, hW1⟩ : ∃ W1, W1 = w.alloc (.cells #[.string s, .string f, .int .i64 x] 80) := ⟨_, rfl⟩
    have Z : Hid (Holds W1 (w.heap.size) 80 #[.string s, .string f, .int .i64 x]) := Lib.hid (by rw [hW1]; exact Holds.new w _ _)
    have BL := Lib.hid (show Below w.heap.size w W1 by rw [hW1]; exact box_below _ _ _)
    have hW1' := Lib.hid hW1
    clear hW1
    go_enter Tryz.func104, Tryz.ntmps104
    have k1 := Z.out.cell 0
    have k2 := Z.out.cell 1
    have k3 := Z.out.cell 2
    have q := Lib.hid (q1.out W1)
    go_wp2_with fail
    rw [← hW1'.out]
    with_reducible refine q.out.mono ?_
    rintro e u1 ⟨rfl, b1⟩
    clear k1 k2 k3
    clear hW1'
    clear q
    have k4 : u1.cell? ⟨w.heap.size, 0, none⟩ = some (.string s) := (Z.out.below b1 Z.out.lt).cell 0
    have k5 : u1.cell? ⟨w.heap.size, 1, none⟩ = some (.string f) := (Z.out.below b1 Z.out.lt).cell 1
    have k6 : u1.cell? ⟨w.heap.size, 2, none⟩ = some (.int .i64 x) := (Z.out.below b1 Z.out.lt).cell 2
    replace Z := Lib.hid (Z.out.below b1 Z.out.lt)
    replace BL := Lib.hid (BL.out.trans (b1.mono BL.out.size))
    clear b1
    have q := Lib.hid (q2.out u1)
    go_wp2_with fail
    with_reducible refine q.out.mono ?_
    rintro e u2 ⟨rfl, b2⟩
    clear k4 k5 k6
    clear q
    have k7 : u2.cell? ⟨w.heap.size, 0, none⟩ = some (.string s) := (Z.out.below b2 Z.out.lt).cell 0
    have k8 : u2.cell? ⟨w.heap.size, 1, none⟩ = some (.string f) := (Z.out.below b2 Z.out.lt).cell 1
    have k9 : u2.cell? ⟨w.heap.size, 2, none⟩ = some (.int .i64 x) := (Z.out.below b2 Z.out.lt).cell 2
    replace Z := Lib.hid (Z.out.below b2 Z.out.lt)
    replace BL := Lib.hid (BL.out.trans (b2.mono BL.out.size))
    clear b2
    go_wp2
    go_ret
    exact ⟨ret_bool hF.out.symm, BL.out⟩
set_option maxRecDepth 100000 in
set_option maxHeartbeats 1000000 in
theorem badSpot_any (s f : ByteArray) (x : Int) (w : World) : Calls Tryz.prog 103 #[.agg #[.string s, .string f, .int .i64 x]] w (Gives (.bool (!spotB ⟨s, f, x⟩)) w) := by
  have q1 := Lib.hid (fun W => rightSpot_any s f x W)
  generalize spotB ⟨s, f, x⟩ = R at *
  obtain ⟨W1, hW1⟩ : ∃ W1, W1 = w.alloc (.cells #[.string s, .string f, .int .i64 x] 80) := ⟨_, rfl⟩
  have Z : Hid (Holds W1 (w.heap.size) 80 #[.string s, .string f, .int .i64 x]) := Lib.hid (by rw [hW1]; exact Holds.new w _ _)
  have BL := Lib.hid (show Below w.heap.size w W1 by rw [hW1]; exact box_below _ _ _)
  have hW1' := Lib.hid hW1
  clear hW1
  go_enter Tryz.func103, Tryz.ntmps103
  have k1 := Z.out.cell 0
  have k2 := Z.out.cell 1
  have k3 := Z.out.cell 2
  have q := Lib.hid (q1.out W1)
  go_wp2_with fail
  rw [← hW1'.out]
  with_reducible refine q.out.mono ?_
  rintro e u1 ⟨rfl, b1⟩
  clear k1 k2 k3
  clear hW1'
  clear q
  replace Z := Lib.hid (Z.out.below b1 Z.out.lt)
  replace BL := Lib.hid (BL.out.trans (b1.mono BL.out.size))
  clear b1
  go_wp2
  go_ret
  exact ⟨rfl, BL.out⟩
set_option maxRecDepth 100000 in
theorem isPoint_any (p : PV) (x : Int) (w : World) : Calls Tryz.prog 147 #[.agg #[.string p.nm, .slice p.a1 p.n1 p.c1, .slice p.a2 p.n2 p.c2, .slice p.a3 p.n3 p.c3], .int .i64 x] w (Gives (.bool (pointB p.n2 x)) w) := by
  have hR : Hid (pointB p.n2 x = (decide (0 ≤ x) && decide (x < (p.n2 : Int)))) := Lib.hid rfl
  have hB := Lib.hid (box_below w #[.string p.nm, .slice p.a1 p.n1 p.c1, .slice p.a2 p.n2 p.c2, .slice p.a3 p.n3 p.c3] 38)
  by_cases h : 0 ≤ x
  · have hF : Hid (pointB p.n2 x = decide (x < (p.n2 : Int))) := Lib.hid (by rw [hR.out, decide_eq_true h]; rfl)
    go_enter Tryz.func147, Tryz.ntmps147
    go_wp2
    go_ret
    exact ⟨ret_bool hF.out.symm, hB.out⟩
  · have hF : Hid (pointB p.n2 x = false) := Lib.hid (by rw [hR.out, decide_eq_false h]; rfl)
    go_enter Tryz.func147, Tryz.ntmps147
    go_wp2
    go_ret
    exact ⟨ret_bool hF.out.symm, hB.out⟩
set_option maxRecDepth 100000 in
set_option maxHeartbeats 1000000 in
theorem rightEdge_any (p : PV) (fr ds k x y c d : Int) (w : World) : Calls Tryz.prog 106 #[.agg #[.string p.nm, .slice p.a1 p.n1 p.c1, .slice p.a2 p.n2 p.c2, .slice p.a3 p.n3 p.c3], .agg #[.int .i64 fr, .int .i64 ds, .int .i64 k, .int .i64 x, .int .i64 y, .int .i64 c, .int .i64 d]] w (Gives (.bool (edgeB p.n2 p.n1 ⟨fr, ds, k, x, y, c, d⟩)) w) := by
  have hR : Hid (edgeB p.n2 p.n1 ⟨fr, ds, k, x, y, c, d⟩ = (pointB p.n2 fr && (pointB p.n2 ds && rightB k x y c d (p.n1 : Int)))) := Lib.hid rfl
  have q1 := Lib.hid (fun W => isPoint_any p fr W)
  have q2 := Lib.hid (fun W => isPoint_any p ds W)
  have q3 := Lib.hid (fun W => right_any k x y c d (p.n1 : Int) W)
  generalize edgeB p.n2 p.n1 ⟨fr, ds, k, x, y, c, d⟩ = R at *
  generalize rightB k x y c d (p.n1 : Int) = b3 at *
  generalize pointB p.n2 fr = b1 at *
  generalize pointB p.n2 ds = b2 at *
  cases b1
  · have hF : Hid (R = false) := Lib.hid (by rw [hR.out]; rfl)
    clear hR
    obtain ⟨W1, hW1⟩ : ∃ W1, W1 = (w.alloc (.cells #[.string p.nm, .slice p.a1 p.n1 p.c1, .slice p.a2 p.n2 p.c2, .slice p.a3 p.n3 p.c3] 38)).alloc (.cells #[.int .i64 fr, .int .i64 ds, .int .i64 k, .int .i64 x, .int .i64 y, .int .i64 c, .int .i64 d] 75) := ⟨_, rfl⟩
    have Z : Hid (Holds W1 (w.heap.size) 38 #[.string p.nm, .slice p.a1 p.n1 p.c1, .slice p.a2 p.n2 p.c2, .slice p.a3 p.n3 p.c3]) := Lib.hid (by rw [hW1]; exact (Holds.new w _ _).alloc _)
    have V : Hid (Holds W1 (w.heap.size + 1) 75 #[.int .i64 fr, .int .i64 ds, .int .i64 k, .int .i64 x, .int .i64 y, .int .i64 c, .int .i64 d]) := Lib.hid (by rw [hW1]; have := Holds.new (w.alloc (.cells #[.string p.nm, .slice p.a1 p.n1 p.c1, .slice p.a2 p.n2 p.c2, .slice p.a3 p.n3 p.c3] 38)) 75 #[.int .i64 fr, .int .i64 ds, .int .i64 k, .int .i64 x, .int .i64 y, .int .i64 c, .int .i64 d]; simpa using this)
    have BL := Lib.hid (show Below w.heap.size w W1 by rw [hW1]; exact box2_below _ _ _ _ _)
    have hW1' := Lib.hid hW1
    clear hW1
    go_enter Tryz.func106, Tryz.ntmps106
    have k1 := Z.out.cell 0
    have k2 := Z.out.cell 1
    have k3 := Z.out.cell 2
    have k4 := Z.out.cell 3
    have k5 := V.out.cell 0
    have k6 := V.out.cell 1
    have k7 := V.out.cell 2
    have k8 := V.out.cell 3
    have k9 := V.out.cell 4
    have k10 := V.out.cell 5
    have k11 := V.out.cell 6
    have q := Lib.hid (q1.out W1)
    go_wp2_with fail
    rw [← hW1'.out]
    with_reducible refine q.out.mono ?_
    rintro e u1 ⟨rfl, b1⟩
    clear k1 k2 k3 k4 k5 k6 k7 k8 k9 k10 k11
    clear hW1'
    clear q
    have k12 : u1.cell? ⟨w.heap.size, 0, none⟩ = some (.string p.nm) := (Z.out.below b1 Z.out.lt).cell 0
    have k13 : u1.cell? ⟨w.heap.size, 1, none⟩ = some (.slice p.a1 p.n1 p.c1) := (Z.out.below b1 Z.out.lt).cell 1
    have k14 : u1.cell? ⟨w.heap.size, 2, none⟩ = some (.slice p.a2 p.n2 p.c2) := (Z.out.below b1 Z.out.lt).cell 2
    have k15 : u1.cell? ⟨w.heap.size, 3, none⟩ = some (.slice p.a3 p.n3 p.c3) := (Z.out.below b1 Z.out.lt).cell 3
    have k16 : u1.cell? ⟨w.heap.size + 1, 0, none⟩ = some (.int .i64 fr) := (V.out.below b1 V.out.lt).cell 0
    have k17 : u1.cell? ⟨w.heap.size + 1, 1, none⟩ = some (.int .i64 ds) := (V.out.below b1 V.out.lt).cell 1
    have k18 : u1.cell? ⟨w.heap.size + 1, 2, none⟩ = some (.int .i64 k) := (V.out.below b1 V.out.lt).cell 2
    have k19 : u1.cell? ⟨w.heap.size + 1, 3, none⟩ = some (.int .i64 x) := (V.out.below b1 V.out.lt).cell 3
    have k20 : u1.cell? ⟨w.heap.size + 1, 4, none⟩ = some (.int .i64 y) := (V.out.below b1 V.out.lt).cell 4
    have k21 : u1.cell? ⟨w.heap.size + 1, 5, none⟩ = some (.int .i64 c) := (V.out.below b1 V.out.lt).cell 5
    have k22 : u1.cell? ⟨w.heap.size + 1, 6, none⟩ = some (.int .i64 d) := (V.out.below b1 V.out.lt).cell 6
    replace Z := Lib.hid (Z.out.below b1 Z.out.lt)
    replace V := Lib.hid (V.out.below b1 V.out.lt)
    replace BL := Lib.hid (BL.out.trans (b1.mono BL.out.size))
    clear b1
    go_wp2
    go_ret
    exact ⟨ret_bool hF.out.symm, BL.out⟩
  cases b2
  · have hF : Hid (R = false) := Lib.hid (by rw [hR.out]; rfl)
    clear hR
    obtain ⟨W1, hW1⟩ : ∃ W1, W1 = (w.alloc (.cells #[.string p.nm, .slice p.a1 p.n1 p.c1, .slice p.a2 p.n2 p.c2, .slice p.a3 p.n3 p.c3] 38)).alloc (.cells #[.int .i64 fr, .int .i64 ds, .int .i64 k, .int .i64 x, .int .i64 y, .int .i64 c, .int .i64 d] 75) := ⟨_, rfl⟩
    have Z : Hid (Holds W1 (w.heap.size) 38 #[.string p.nm, .slice p.a1 p.n1 p.c1, .slice p.a2 p.n2 p.c2, .slice p.a3 p.n3 p.c3]) := Lib.hid (by rw [hW1]; exact (Holds.new w _ _).alloc _)
    have V : Hid (Holds W1 (w.heap.size + 1) 75 #[.int .i64 fr, .int .i64 ds, .int .i64 k, .int .i64 x, .int .i64 y, .int .i64 c, .int .i64 d]) := Lib.hid (by rw [hW1]; have := Holds.new (w.alloc (.cells #[.string p.nm, .slice p.a1 p.n1 p.c1, .slice p.a2 p.n2 p.c2, .slice p.a3 p.n3 p.c3] 38)) 75 #[.int .i64 fr, .int .i64 ds, .int .i64 k, .int .i64 x, .int .i64 y, .int .i64 c, .int .i64 d]; simpa using this)
    have BL := Lib.hid (show Below w.heap.size w W1 by rw [hW1]; exact box2_below _ _ _ _ _)
    have hW1' := Lib.hid hW1
    clear hW1
    go_enter Tryz.func106, Tryz.ntmps106
    have k1 := Z.out.cell 0
    have k2 := Z.out.cell 1
    have k3 := Z.out.cell 2
    have k4 := Z.out.cell 3
    have k5 := V.out.cell 0
    have k6 := V.out.cell 1
    have k7 := V.out.cell 2
    have k8 := V.out.cell 3
    have k9 := V.out.cell 4
    have k10 := V.out.cell 5
    have k11 := V.out.cell 6
    have q := Lib.hid (q1.out W1)
    go_wp2_with fail
    rw [← hW1'.out]
    with_reducible refine q.out.mono ?_
    rintro e u1 ⟨rfl, b1⟩
    clear k1 k2 k3 k4 k5 k6 k7 k8 k9 k10 k11
    clear hW1'
    clear q
    have k12 : u1.cell? ⟨w.heap.size, 0, none⟩ = some (.string p.nm) := (Z.out.below b1 Z.out.lt).cell 0
    have k13 : u1.cell? ⟨w.heap.size, 1, none⟩ = some (.slice p.a1 p.n1 p.c1) := (Z.out.below b1 Z.out.lt).cell 1
    have k14 : u1.cell? ⟨w.heap.size, 2, none⟩ = some (.slice p.a2 p.n2 p.c2) := (Z.out.below b1 Z.out.lt).cell 2
    have k15 : u1.cell? ⟨w.heap.size, 3, none⟩ = some (.slice p.a3 p.n3 p.c3) := (Z.out.below b1 Z.out.lt).cell 3
    have k16 : u1.cell? ⟨w.heap.size + 1, 0, none⟩ = some (.int .i64 fr) := (V.out.below b1 V.out.lt).cell 0
    have k17 : u1.cell? ⟨w.heap.size + 1, 1, none⟩ = some (.int .i64 ds) := (V.out.below b1 V.out.lt).cell 1
    have k18 : u1.cell? ⟨w.heap.size + 1, 2, none⟩ = some (.int .i64 k) := (V.out.below b1 V.out.lt).cell 2
    have k19 : u1.cell? ⟨w.heap.size + 1, 3, none⟩ = some (.int .i64 x) := (V.out.below b1 V.out.lt).cell 3
    have k20 : u1.cell? ⟨w.heap.size + 1, 4, none⟩ = some (.int .i64 y) := (V.out.below b1 V.out.lt).cell 4
    have k21 : u1.cell? ⟨w.heap.size + 1, 5, none⟩ = some (.int .i64 c) := (V.out.below b1 V.out.lt).cell 5
    have k22 : u1.cell? ⟨w.heap.size + 1, 6, none⟩ = some (.int .i64 d) := (V.out.below b1 V.out.lt).cell 6
    replace Z := Lib.hid (Z.out.below b1 Z.out.lt)
    replace V := Lib.hid (V.out.below b1 V.out.lt)
    replace BL := Lib.hid (BL.out.trans (b1.mono BL.out.size))
    clear b1
    have q := Lib.hid (q2.out u1)
    go_wp2_with fail
    with_reducible refine q.out.mono ?_
    rintro e u2 ⟨rfl, b2⟩
    clear k12 k13 k14 k15 k16 k17 k18 k19 k20 k21 k22
    clear q
    have k23 : u2.cell? ⟨w.heap.size, 0, none⟩ = some (.string p.nm) := (Z.out.below b2 Z.out.lt).cell 0
    have k24 : u2.cell? ⟨w.heap.size, 1, none⟩ = some (.slice p.a1 p.n1 p.c1) := (Z.out.below b2 Z.out.lt).cell 1
    have k25 : u2.cell? ⟨w.heap.size, 2, none⟩ = some (.slice p.a2 p.n2 p.c2) := (Z.out.below b2 Z.out.lt).cell 2
    have k26 : u2.cell? ⟨w.heap.size, 3, none⟩ = some (.slice p.a3 p.n3 p.c3) := (Z.out.below b2 Z.out.lt).cell 3
    have k27 : u2.cell? ⟨w.heap.size + 1, 0, none⟩ = some (.int .i64 fr) := (V.out.below b2 V.out.lt).cell 0
    have k28 : u2.cell? ⟨w.heap.size + 1, 1, none⟩ = some (.int .i64 ds) := (V.out.below b2 V.out.lt).cell 1
    have k29 : u2.cell? ⟨w.heap.size + 1, 2, none⟩ = some (.int .i64 k) := (V.out.below b2 V.out.lt).cell 2
    have k30 : u2.cell? ⟨w.heap.size + 1, 3, none⟩ = some (.int .i64 x) := (V.out.below b2 V.out.lt).cell 3
    have k31 : u2.cell? ⟨w.heap.size + 1, 4, none⟩ = some (.int .i64 y) := (V.out.below b2 V.out.lt).cell 4
    have k32 : u2.cell? ⟨w.heap.size + 1, 5, none⟩ = some (.int .i64 c) := (V.out.below b2 V.out.lt).cell 5
    have k33 : u2.cell? ⟨w.heap.size + 1, 6, none⟩ = some (.int .i64 d) := (V.out.below b2 V.out.lt).cell 6
    replace Z := Lib.hid (Z.out.below b2 Z.out.lt)
    replace V := Lib.hid (V.out.below b2 V.out.lt)
    replace BL := Lib.hid (BL.out.trans (b2.mono BL.out.size))
    clear b2
    go_wp2
    go_ret
    exact ⟨ret_bool hF.out.symm, BL.out⟩
  have hF : Hid (R = b3) := Lib.hid (by rw [hR.out]; rfl)
  clear hR
  obtain ⟨W1, hW1⟩ : ∃ W1, W1 = (w.alloc (.cells #[.string p.nm, .slice p.a1 p.n1 p.c1, .slice p.a2 p.n2 p.c2, .slice p.a3 p.n3 p.c3] 38)).alloc (.cells #[.int .i64 fr, .int .i64 ds, .int .i64 k, .int .i64 x, .int .i64 y, .int .i64 c, .int .i64 d] 75) := ⟨_, rfl⟩
  have Z : Hid (Holds W1 (w.heap.size) 38 #[.string p.nm, .slice p.a1 p.n1 p.c1, .slice p.a2 p.n2 p.c2, .slice p.a3 p.n3 p.c3]) := Lib.hid (by rw [hW1]; exact (Holds.new w _ _).alloc _)
  have V : Hid (Holds W1 (w.heap.size + 1) 75 #[.int .i64 fr, .int .i64 ds, .int .i64 k, .int .i64 x, .int .i64 y, .int .i64 c, .int .i64 d]) := Lib.hid (by rw [hW1]; have := Holds.new (w.alloc (.cells #[.string p.nm, .slice p.a1 p.n1 p.c1, .slice p.a2 p.n2 p.c2, .slice p.a3 p.n3 p.c3] 38)) 75 #[.int .i64 fr, .int .i64 ds, .int .i64 k, .int .i64 x, .int .i64 y, .int .i64 c, .int .i64 d]; simpa using this)
  have BL := Lib.hid (show Below w.heap.size w W1 by rw [hW1]; exact box2_below _ _ _ _ _)
  have hW1' := Lib.hid hW1
  clear hW1
  go_enter Tryz.func106, Tryz.ntmps106
  have k1 := Z.out.cell 0
  have k2 := Z.out.cell 1
  have k3 := Z.out.cell 2
  have k4 := Z.out.cell 3
  have k5 := V.out.cell 0
  have k6 := V.out.cell 1
  have k7 := V.out.cell 2
  have k8 := V.out.cell 3
  have k9 := V.out.cell 4
  have k10 := V.out.cell 5
  have k11 := V.out.cell 6
  have q := Lib.hid (q1.out W1)
  go_wp2_with fail
  rw [← hW1'.out]
  with_reducible refine q.out.mono ?_
  rintro e u1 ⟨rfl, b1⟩
  clear k1 k2 k3 k4 k5 k6 k7 k8 k9 k10 k11
  clear hW1'
  clear q
  have k12 : u1.cell? ⟨w.heap.size, 0, none⟩ = some (.string p.nm) := (Z.out.below b1 Z.out.lt).cell 0
  have k13 : u1.cell? ⟨w.heap.size, 1, none⟩ = some (.slice p.a1 p.n1 p.c1) := (Z.out.below b1 Z.out.lt).cell 1
  have k14 : u1.cell? ⟨w.heap.size, 2, none⟩ = some (.slice p.a2 p.n2 p.c2) := (Z.out.below b1 Z.out.lt).cell 2
  have k15 : u1.cell? ⟨w.heap.size, 3, none⟩ = some (.slice p.a3 p.n3 p.c3) := (Z.out.below b1 Z.out.lt).cell 3
  have k16 : u1.cell? ⟨w.heap.size + 1, 0, none⟩ = some (.int .i64 fr) := (V.out.below b1 V.out.lt).cell 0
  have k17 : u1.cell? ⟨w.heap.size + 1, 1, none⟩ = some (.int .i64 ds) := (V.out.below b1 V.out.lt).cell 1
  have k18 : u1.cell? ⟨w.heap.size + 1, 2, none⟩ = some (.int .i64 k) := (V.out.below b1 V.out.lt).cell 2
  have k19 : u1.cell? ⟨w.heap.size + 1, 3, none⟩ = some (.int .i64 x) := (V.out.below b1 V.out.lt).cell 3
  have k20 : u1.cell? ⟨w.heap.size + 1, 4, none⟩ = some (.int .i64 y) := (V.out.below b1 V.out.lt).cell 4
  have k21 : u1.cell? ⟨w.heap.size + 1, 5, none⟩ = some (.int .i64 c) := (V.out.below b1 V.out.lt).cell 5
  have k22 : u1.cell? ⟨w.heap.size + 1, 6, none⟩ = some (.int .i64 d) := (V.out.below b1 V.out.lt).cell 6
  replace Z := Lib.hid (Z.out.below b1 Z.out.lt)
  replace V := Lib.hid (V.out.below b1 V.out.lt)
  replace BL := Lib.hid (BL.out.trans (b1.mono BL.out.size))
  clear b1
  have q := Lib.hid (q2.out u1)
  go_wp2_with fail
  with_reducible refine q.out.mono ?_
  rintro e u2 ⟨rfl, b2⟩
  clear k12 k13 k14 k15 k16 k17 k18 k19 k20 k21 k22
  clear q
  have k23 : u2.cell? ⟨w.heap.size, 0, none⟩ = some (.string p.nm) := (Z.out.below b2 Z.out.lt).cell 0
  have k24 : u2.cell? ⟨w.heap.size, 1, none⟩ = some (.slice p.a1 p.n1 p.c1) := (Z.out.below b2 Z.out.lt).cell 1
  have k25 : u2.cell? ⟨w.heap.size, 2, none⟩ = some (.slice p.a2 p.n2 p.c2) := (Z.out.below b2 Z.out.lt).cell 2
  have k26 : u2.cell? ⟨w.heap.size, 3, none⟩ = some (.slice p.a3 p.n3 p.c3) := (Z.out.below b2 Z.out.lt).cell 3
  have k27 : u2.cell? ⟨w.heap.size + 1, 0, none⟩ = some (.int .i64 fr) := (V.out.below b2 V.out.lt).cell 0
  have k28 : u2.cell? ⟨w.heap.size + 1, 1, none⟩ = some (.int .i64 ds) := (V.out.below b2 V.out.lt).cell 1
  have k29 : u2.cell? ⟨w.heap.size + 1, 2, none⟩ = some (.int .i64 k) := (V.out.below b2 V.out.lt).cell 2
  have k30 : u2.cell? ⟨w.heap.size + 1, 3, none⟩ = some (.int .i64 x) := (V.out.below b2 V.out.lt).cell 3
  have k31 : u2.cell? ⟨w.heap.size + 1, 4, none⟩ = some (.int .i64 y) := (V.out.below b2 V.out.lt).cell 4
  have k32 : u2.cell? ⟨w.heap.size + 1, 5, none⟩ = some (.int .i64 c) := (V.out.below b2 V.out.lt).cell 5
  have k33 : u2.cell? ⟨w.heap.size + 1, 6, none⟩ = some (.int .i64 d) := (V.out.below b2 V.out.lt).cell 6
  replace Z := Lib.hid (Z.out.below b2 Z.out.lt)
  replace V := Lib.hid (V.out.below b2 V.out.lt)
  replace BL := Lib.hid (BL.out.trans (b2.mono BL.out.size))
  clear b2
  have q := Lib.hid (q3.out u2)
  go_wp2_with fail
  with_reducible refine q.out.mono ?_
  rintro e u3 ⟨rfl, b3⟩
  clear k23 k24 k25 k26 k27 k28 k29 k30 k31 k32 k33
  clear q
  replace Z := Lib.hid (Z.out.below b3 Z.out.lt)
  replace V := Lib.hid (V.out.below b3 V.out.lt)
  replace BL := Lib.hid (BL.out.trans (b3.mono BL.out.size))
  clear b3
  go_wp2
  go_ret
  exact ⟨ret_bool hF.out.symm, BL.out⟩
set_option maxRecDepth 100000 in
set_option maxHeartbeats 1000000 in
theorem badEdge_any (p : PV) (g : Nat) (fr ds k x y c d : Int) (w : World) (h : Holds w g 38 p.cells) : Calls Tryz.prog 105 #[.agg #[.int .i64 fr, .int .i64 ds, .int .i64 k, .int .i64 x, .int .i64 y, .int .i64 c, .int .i64 d], .pointer (some ⟨g, 0, none⟩)] w (Gives (.bool (!edgeB p.n2 p.n1 ⟨fr, ds, k, x, y, c, d⟩)) w) := by
  have q1 := Lib.hid (fun W => rightEdge_any p fr ds k x y c d W)
  generalize edgeB p.n2 p.n1 ⟨fr, ds, k, x, y, c, d⟩ = R at *
  have hg := h.lt
  obtain ⟨W1, hW1⟩ : ∃ W1, W1 = w.alloc (.cells #[.int .i64 fr, .int .i64 ds, .int .i64 k, .int .i64 x, .int .i64 y, .int .i64 c, .int .i64 d] 75) := ⟨_, rfl⟩
  have V : Hid (Holds W1 (w.heap.size) 75 #[.int .i64 fr, .int .i64 ds, .int .i64 k, .int .i64 x, .int .i64 y, .int .i64 c, .int .i64 d]) := Lib.hid (by rw [hW1]; exact Holds.new w _ _)
  have Z : Hid (Holds W1 (g) 38 #[.string p.nm, .slice p.a1 p.n1 p.c1, .slice p.a2 p.n2 p.c2, .slice p.a3 p.n3 p.c3]) := Lib.hid (by rw [hW1]; exact h.alloc _)
  have BL := Lib.hid (show Below w.heap.size w W1 by rw [hW1]; exact box_below _ _ _)
  have hW1' := Lib.hid hW1
  clear hW1
  have g0 := h.cell 0
  have g1 := h.cell 1
  have g2 := h.cell 2
  have g3 := h.cell 3
  clear h
  go_enter Tryz.func105, Tryz.ntmps105
  have k1 := V.out.cell 0
  have k2 := V.out.cell 1
  have k3 := V.out.cell 2
  have k4 := V.out.cell 3
  have k5 := V.out.cell 4
  have k6 := V.out.cell 5
  have k7 := V.out.cell 6
  have q := Lib.hid (q1.out W1)
  go_wp2_with fail
  rw [← hW1'.out]
  with_reducible refine q.out.mono ?_
  rintro e u1 ⟨rfl, b1⟩
  clear k1 k2 k3 k4 k5 k6 k7
  clear hW1'
  clear q
  replace V := Lib.hid (V.out.below b1 V.out.lt)
  replace Z := Lib.hid (Z.out.below b1 Z.out.lt)
  replace BL := Lib.hid (BL.out.trans (b1.mono BL.out.size))
  clear b1
  go_wp2
  go_ret
  exact ⟨rfl, BL.out⟩
end Go.Proofs.YtimgocfkogebmaaGreatDoor
namespace Go.Proofs.YtimgocfkogebmaaGreatDoor
open Go.RowKit
set_option linter.unusedVariables false
set_option linter.unusedSimpArgs false
def progB (D : PD) : Bool := (decide (1 ≤ D.spots.length) && (decide (D.spots.length ≤ 128) && decide (D.edges.length ≤ 256))) && (nameB D.nm && (varsB D.vars && (D.spots.all spotB && D.edges.all (edgeB D.spots.length D.vars.length))))
def chkP (D : PD) : Int := if progB D = true then 0 else 110
theorem spots_at {w : World} {a : Option Addr} {n c : Nat} {l : List SpotD} (h : RO spotC w a n c l) {i : Nat} (hi : i < n) : ∃ b off, a = some ⟨b, off, none⟩ ∧ b < w.heap.size ∧ w.cell? ⟨b, off + i * 3, none⟩ = some (.string (l.getD i spot0).fn) ∧ w.cell? ⟨b, off + i * 3 + 1, none⟩ = some (.string (l.getD i spot0).file) ∧ w.cell? ⟨b, off + i * 3 + 2, none⟩ = some (.int .i64 (l.getD i spot0).line) := by
  obtain ⟨b, off, h1, h2, hc⟩ := h.at_ spotC_len (by decide) spot0 hi
  exact ⟨b, off, h1, h2, hc 0 (by decide), hc 1 (by decide), hc 2 (by decide)⟩
theorem edges_at {w : World} {a : Option Addr} {n c : Nat} {l : List EdgeD} (h : RO edgeC w a n c l) {i : Nat} (hi : i < n) : ∃ b off, a = some ⟨b, off, none⟩ ∧ b < w.heap.size ∧ w.cell? ⟨b, off + i * 7, none⟩ = some (.int .i64 (l.getD i edge0).frm) ∧ w.cell? ⟨b, off + i * 7 + 1, none⟩ = some (.int .i64 (l.getD i edge0).dst) ∧ w.cell? ⟨b, off + i * 7 + 2, none⟩ = some (.int .i64 (l.getD i edge0).k) ∧ w.cell? ⟨b, off + i * 7 + 3, none⟩ = some (.int .i64 (l.getD i edge0).x) ∧ w.cell? ⟨b, off + i * 7 + 4, none⟩ = some (.int .i64 (l.getD i edge0).y) ∧ w.cell? ⟨b, off + i * 7 + 5, none⟩ = some (.int .i64 (l.getD i edge0).c) ∧ w.cell? ⟨b, off + i * 7 + 6, none⟩ = some (.int .i64 (l.getD i edge0).d) := by
  obtain ⟨b, off, h1, h2, hc⟩ := h.at_ edgeC_len (by decide) edge0 hi
  exact ⟨b, off, h1, h2, hc 0 (by decide), hc 1 (by decide), hc 2 (by decide), hc 3 (by decide), hc 4 (by decide), hc 5 (by decide), hc 6 (by decide)⟩
theorem all_no {α : Type} {q : α → Bool} {l : List α} {d : α} {k : Nat} (hk : k < l.length) (h : q (l.getD k d) = false) : l.all q = false := by
  rw [List.all_eq_false]
  exact ⟨l.getD k d, by simp [List.getD, hk], by rw [h]; simp⟩
theorem all_yes {α : Type} {q : α → Bool} {l : List α} (d : α) (h : ∀ t, t < l.length → q (l.getD t d) = true) : l.all q = true := by
  rw [List.all_eq_true]
  intro x hx
  obtain ⟨t, ht, rfl⟩ := List.getElem_of_mem hx
  have := h t ht
  simpa [List.getD, ht] using this
def IdxE (b : Bool) (w : World) (e : Ending) (w' : World) : Prop := ∃ i : Int, decide (0 ≤ i) = b ∧ e = .returned (.int .i64 i) ∧ Below w.heap.size w w'
set_option maxRecDepth 100000 in
set_option maxHeartbeats 2000000 in
theorem spotsIdx_any (a : Option Addr) (n c : Nat) (l : List SpotD) (w : World) (h : RO spotC w a n c l) : Calls Tryz.prog 152 #[.slice a n c, .func (.func 103) #[] #[]] w (IdxE (!l.all spotB) w) := by
  have hn : n = l.length := h.len
  have hmax := h.max'
  have hmi : (n : Int) ≤ 9223372036854775807 := by omega
  have hlen := Lib.hid hn
  have T := Lib.hid h
  have hno := Lib.hid (fun k hk h => all_no (q := spotB) (l := l) (d := spot0) (k := k) hk h)
  have hyes := Lib.hid (fun h => all_yes (q := spotB) (l := l) spot0 h)
  clear h hn hmax
  generalize l.all spotB = R at *
  go_enter Tryz.func152, Tryz.ntmps152
  go_wp2
  go_loopw [8] (fun y wr => ∃ k : Nat, k ≤ n ∧ y = .int .i64 k ∧ Hid (∀ t, t < k → spotB (l.getD t spot0) = true) ∧ Hid (Below w.heap.size w wr)) (fun y _ => n - (intOf y).toNat)
  case atStart => exact ⟨0, Nat.zero_le _, rfl, Lib.hid (fun t ht => by omega), Lib.hid (Below.refl _ _)⟩
  case round =>
    obtain ⟨k, hk, rfl, hal, hB⟩ := hrel
    by_cases hlt : k < n
    · have hki : (k : Int) < (n : Int) := by omega
      obtain ⟨b, off, rfl, hbl, x0, x1, x2⟩ := spots_at (T.out.below hB.out) hlt
      have hno' := Lib.hid (hno.out k (by rw [← hlen.out]; exact hlt))
      have hyes' : Hid (spotB (l.getD k spot0) = true → ∀ t, t < k + 1 → spotB (l.getD t spot0) = true) := Lib.hid (fun h t ht => by
        by_cases e : t = k
        · rw [e]; exact h
        · exact hal.out t (by omega))
      obtain ⟨s, f, x, hs⟩ : ∃ s f x, l.getD k spot0 = (⟨s, f, x⟩ : SpotD) := ⟨_, _, _, rfl⟩
      rw [hs] at x0 x1 x2
      dsimp only at x0 x1 x2
      rw [hs] at hno' hyes'
      have q1 := Lib.hid (badSpot_any s f x wr)
      clear hal hno hs
      cases e1 : spotB (⟨s, f, x⟩ : SpotD)
      · have hf := Lib.hid (hno'.out e1)
        rw [e1] at q1
        clear hno' hyes' hyes e1
        go_wp2_with fail
        refine q1.out.mono ?_
        rintro e w1 ⟨rfl, b1⟩
        have hB2 := Lib.hid (hB.out.trans (b1.mono hB.out.size))
        go_wp2
        go_ret
        exact ⟨k, by rw [hf.out]; simp, rfl, hB2.out⟩
      · have hg := Lib.hid (hyes'.out e1)
        rw [e1] at q1
        clear hno' hyes' e1
        go_wp2_with fail
        refine q1.out.mono ?_
        rintro e w1 ⟨rfl, b1⟩
        have hB2 := Lib.hid (hB.out.trans (b1.mono hB.out.size))
        go_wp2
        go_roundw
        case rel => exact ⟨k + 1, by omega, by go_num, hg, hB2⟩
        case measure => simp [intOf]; omega
    · have hki : ¬ (k : Int) < (n : Int) := by omega
      have hf := Lib.hid (hyes.out (fun t ht => hal.out t (by rw [← hlen.out] at ht; omega)))
      clear hyes hno hal
      go_wp2
      go_ret
      exact ⟨-1, by rw [hf.out]; rfl, rfl, hB.out⟩
set_option maxRecDepth 100000 in
theorem spotsHas_any (a : Option Addr) (n c : Nat) (l : List SpotD) (w : World) (h : RO spotC w a n c l) : Calls Tryz.prog 109 #[.slice a n c, .func (.func 103) #[] #[]] w (Gives (.bool (!l.all spotB)) w) := by
  have q := Lib.hid (spotsIdx_any a n c l w h)
  generalize (!l.all spotB) = R at *
  clear h
  go_enter Tryz.func109, Tryz.ntmps109
  go_wp2_with fail
  refine q.out.mono ?_
  rintro e w1 ⟨i, hi, rfl, hb⟩
  have hi' := Lib.hid hi
  clear hi q
  go_wp2
  go_ret
  exact ⟨ret_bool hi'.out, hb⟩
set_option maxRecDepth 100000 in
set_option maxHeartbeats 2000000 in
theorem edgesIdx_any (p : PV) (g : Nat) (a : Option Addr) (n c : Nat) (l : List EdgeD) (w : World) (h : RO edgeC w a n c l) (hz : Holds w g 38 p.cells) : Calls Tryz.prog 153 #[.slice a n c, .func (.func 105) #[] #[.pointer (some ⟨g, 0, none⟩)]] w (IdxE (!l.all (edgeB p.n2 p.n1)) w) := by
  have hn : n = l.length := h.len
  have hmax := h.max'
  have hmi : (n : Int) ≤ 9223372036854775807 := by omega
  have hlen := Lib.hid hn
  have T := Lib.hid h
  have HZ := Lib.hid hz
  have hno := Lib.hid (fun k hk h => all_no (q := (edgeB p.n2 p.n1)) (l := l) (d := edge0) (k := k) hk h)
  have hyes := Lib.hid (fun h => all_yes (q := (edgeB p.n2 p.n1)) (l := l) edge0 h)
  clear h hn hmax hz
  generalize l.all (edgeB p.n2 p.n1) = R at *
  go_enter Tryz.func153, Tryz.ntmps153
  go_wp2
  go_loopw [8] (fun y wr => ∃ k : Nat, k ≤ n ∧ y = .int .i64 k ∧ Hid (∀ t, t < k → (edgeB p.n2 p.n1) (l.getD t edge0) = true) ∧ Hid (Below w.heap.size w wr)) (fun y _ => n - (intOf y).toNat)
  case atStart => exact ⟨0, Nat.zero_le _, rfl, Lib.hid (fun t ht => by omega), Lib.hid (Below.refl _ _)⟩
  case round =>
    obtain ⟨k, hk, rfl, hal, hB⟩ := hrel
    by_cases hlt : k < n
    · have hki : (k : Int) < (n : Int) := by omega
      obtain ⟨b, off, rfl, hbl, x0, x1, x2, x3, x4, x5, x6⟩ := edges_at (T.out.below hB.out) hlt
      have hno' := Lib.hid (hno.out k (by rw [← hlen.out]; exact hlt))
      have hyes' : Hid ((edgeB p.n2 p.n1) (l.getD k edge0) = true → ∀ t, t < k + 1 → (edgeB p.n2 p.n1) (l.getD t edge0) = true) := Lib.hid (fun h t ht => by
        by_cases e : t = k
        · rw [e]; exact h
        · exact hal.out t (by omega))
      obtain ⟨fr, ds, ek, ex, ey, ec, ed, hs⟩ : ∃ fr ds ek ex ey ec ed, l.getD k edge0 = (⟨fr, ds, ek, ex, ey, ec, ed⟩ : EdgeD) := ⟨_, _, _, _, _, _, _, rfl⟩
      rw [hs] at x0 x1 x2 x3 x4 x5 x6
      dsimp only at x0 x1 x2 x3 x4 x5 x6
      rw [hs] at hno' hyes'
      have q1 := Lib.hid (badEdge_any p g fr ds ek ex ey ec ed wr (HZ.out.below hB.out HZ.out.lt))
      clear hal hno hs
      cases e1 : (edgeB p.n2 p.n1) (⟨fr, ds, ek, ex, ey, ec, ed⟩ : EdgeD)
      · have hf := Lib.hid (hno'.out e1)
        rw [e1] at q1
        clear hno' hyes' hyes e1
        go_wp2_with fail
        refine q1.out.mono ?_
        rintro e w1 ⟨rfl, b1⟩
        have hB2 := Lib.hid (hB.out.trans (b1.mono hB.out.size))
        go_wp2
        go_ret
        exact ⟨k, by rw [hf.out]; simp, rfl, hB2.out⟩
      · have hg := Lib.hid (hyes'.out e1)
        rw [e1] at q1
        clear hno' hyes' e1
        go_wp2_with fail
        refine q1.out.mono ?_
        rintro e w1 ⟨rfl, b1⟩
        have hB2 := Lib.hid (hB.out.trans (b1.mono hB.out.size))
        go_wp2
        go_roundw
        case rel => exact ⟨k + 1, by omega, by go_num, hg, hB2⟩
        case measure => simp [intOf]; omega
    · have hki : ¬ (k : Int) < (n : Int) := by omega
      have hf := Lib.hid (hyes.out (fun t ht => hal.out t (by rw [← hlen.out] at ht; omega)))
      clear hyes hno hal
      go_wp2
      go_ret
      exact ⟨-1, by rw [hf.out]; rfl, rfl, hB.out⟩
set_option maxRecDepth 100000 in
theorem edgesHas_any (p : PV) (g : Nat) (a : Option Addr) (n c : Nat) (l : List EdgeD) (w : World) (h : RO edgeC w a n c l) (hz : Holds w g 38 p.cells) : Calls Tryz.prog 110 #[.slice a n c, .func (.func 105) #[] #[.pointer (some ⟨g, 0, none⟩)]] w (Gives (.bool (!l.all (edgeB p.n2 p.n1))) w) := by
  have q := Lib.hid (edgesIdx_any p g a n c l w h hz)
  generalize (!l.all (edgeB p.n2 p.n1)) = R at *
  clear h hz
  go_enter Tryz.func110, Tryz.ntmps110
  go_wp2_with fail
  refine q.out.mono ?_
  rintro e w1 ⟨i, hi, rfl, hb⟩
  have hi' := Lib.hid hi
  clear hi q
  go_wp2
  go_ret
  exact ⟨ret_bool hi'.out, hb⟩
set_option maxRecDepth 100000 in
set_option maxHeartbeats 4000000 in
theorem pcheck_any (p : PV) (D : PD) (w : World) (h : PrA w p D) : Calls Tryz.prog 61 #[.agg #[.string p.nm, .slice p.a1 p.n1 p.c1, .slice p.a2 p.n2 p.c2, .slice p.a3 p.n3 p.c3]] w (Gives (.int .i64 (chkP D)) w) := by
  have hmf : ∀ (fn : Fn) (first cap : Array Value) (w : World), (Instr.makeFunc fn first cap).run Tryz.prog w = .ok (.func fn first cap) w := fun _ _ _ _ => rfl
  have hR : Hid (progB D = ((decide (1 ≤ p.n2) && (decide (p.n2 ≤ 128) && decide (p.n3 ≤ 256))) && (nameB p.nm && (varsB D.vars && (D.spots.all spotB && D.edges.all (edgeB p.n2 p.n1)))))) := Lib.hid (by unfold progB; rw [h.nm, h.vars.len, h.spots.len, h.edges.len])
  have hC : Hid (chkP D = if progB D = true then 0 else 110) := Lib.hid rfl
  have q1 := Lib.hid (fun W => name_any p.nm W)
  have q2 := Lib.hid (fun W (hW : TT W p.a1 p.n1 p.c1 D.vars) => rightVars_any p.a1 p.n1 p.c1 D.vars W hW)
  have q3 := Lib.hid (fun W (hW : RO spotC W p.a2 p.n2 p.c2 D.spots) => spotsHas_any p.a2 p.n2 p.c2 D.spots W hW)
  have q4 := Lib.hid (fun W (hW : RO edgeC W p.a3 p.n3 p.c3 D.edges) (hz : Holds W w.heap.size 38 p.cells) => edgesHas_any p w.heap.size p.a3 p.n3 p.c3 D.edges W hW hz)
  generalize chkP D = R at *
  generalize progB D = Q at *
  generalize nameB p.nm = bn at *
  generalize varsB D.vars = bv at *
  generalize D.spots.all spotB = bs at *
  generalize D.edges.all (edgeB p.n2 p.n1) = be at *
  by_cases g1 : 1 ≤ p.n2
  rotate_left
  · have i1 : ¬ (1 : Int) ≤ (p.n2 : Int) := by omega
    have hF : Hid (R = 110) := Lib.hid (by rw [hC.out, hR.out, decide_eq_false g1]; rfl)
    clear hR hC
    obtain ⟨W1, hW1⟩ : ∃ W1, W1 = w.alloc (.cells #[.string p.nm, .slice p.a1 p.n1 p.c1, .slice p.a2 p.n2 p.c2, .slice p.a3 p.n3 p.c3] 38) := ⟨_, rfl⟩
    have Z : Hid (Holds W1 (w.heap.size) 38 #[.string p.nm, .slice p.a1 p.n1 p.c1, .slice p.a2 p.n2 p.c2, .slice p.a3 p.n3 p.c3]) := Lib.hid (by rw [hW1]; exact Holds.new w _ _)
    have BL := Lib.hid (show Below w.heap.size w W1 by rw [hW1]; exact box_below _ _ _)
    have V := Lib.hid (h.vars.below BL.out)
    have SP := Lib.hid (h.spots.below BL.out)
    have ED := Lib.hid (h.edges.below BL.out)
    have hW1' := Lib.hid hW1
    clear hW1
    clear h
    go_enter Tryz.func61, Tryz.ntmps61
    have k1 := Z.out.cell 0
    have k2 := Z.out.cell 1
    have k3 := Z.out.cell 2
    have k4 := Z.out.cell 3
    go_wp2
    go_ret
    rw [← hW1'.out]
    exact ⟨ret_int hF.out.symm, BL.out⟩
  have i1 : (1 : Int) ≤ (p.n2 : Int) := by omega
  by_cases g2 : p.n2 ≤ 128
  rotate_left
  · have i2 : ¬ (p.n2 : Int) ≤ 128 := by omega
    have hF : Hid (R = 110) := Lib.hid (by rw [hC.out, hR.out, decide_eq_true g1, decide_eq_false g2]; rfl)
    clear hR hC
    obtain ⟨W1, hW1⟩ : ∃ W1, W1 = w.alloc (.cells #[.string p.nm, .slice p.a1 p.n1 p.c1, .slice p.a2 p.n2 p.c2, .slice p.a3 p.n3 p.c3] 38) := ⟨_, rfl⟩
    have Z : Hid (Holds W1 (w.heap.size) 38 #[.string p.nm, .slice p.a1 p.n1 p.c1, .slice p.a2 p.n2 p.c2, .slice p.a3 p.n3 p.c3]) := Lib.hid (by rw [hW1]; exact Holds.new w _ _)
    have BL := Lib.hid (show Below w.heap.size w W1 by rw [hW1]; exact box_below _ _ _)
    have V := Lib.hid (h.vars.below BL.out)
    have SP := Lib.hid (h.spots.below BL.out)
    have ED := Lib.hid (h.edges.below BL.out)
    have hW1' := Lib.hid hW1
    clear hW1
    clear h
    go_enter Tryz.func61, Tryz.ntmps61
    have k1 := Z.out.cell 0
    have k2 := Z.out.cell 1
    have k3 := Z.out.cell 2
    have k4 := Z.out.cell 3
    go_wp2
    go_ret
    rw [← hW1'.out]
    exact ⟨ret_int hF.out.symm, BL.out⟩
  have i2 : (p.n2 : Int) ≤ 128 := by omega
  by_cases g3 : p.n3 ≤ 256
  rotate_left
  · have i3 : ¬ (p.n3 : Int) ≤ 256 := by omega
    have hF : Hid (R = 110) := Lib.hid (by rw [hC.out, hR.out, decide_eq_true g1, decide_eq_true g2, decide_eq_false g3]; rfl)
    clear hR hC
    obtain ⟨W1, hW1⟩ : ∃ W1, W1 = w.alloc (.cells #[.string p.nm, .slice p.a1 p.n1 p.c1, .slice p.a2 p.n2 p.c2, .slice p.a3 p.n3 p.c3] 38) := ⟨_, rfl⟩
    have Z : Hid (Holds W1 (w.heap.size) 38 #[.string p.nm, .slice p.a1 p.n1 p.c1, .slice p.a2 p.n2 p.c2, .slice p.a3 p.n3 p.c3]) := Lib.hid (by rw [hW1]; exact Holds.new w _ _)
    have BL := Lib.hid (show Below w.heap.size w W1 by rw [hW1]; exact box_below _ _ _)
    have V := Lib.hid (h.vars.below BL.out)
    have SP := Lib.hid (h.spots.below BL.out)
    have ED := Lib.hid (h.edges.below BL.out)
    have hW1' := Lib.hid hW1
    clear hW1
    clear h
    go_enter Tryz.func61, Tryz.ntmps61
    have k1 := Z.out.cell 0
    have k2 := Z.out.cell 1
    have k3 := Z.out.cell 2
    have k4 := Z.out.cell 3
    go_wp2
    go_ret
    rw [← hW1'.out]
    exact ⟨ret_int hF.out.symm, BL.out⟩
  have i3 : (p.n3 : Int) ≤ 256 := by omega
  cases bn
  · have hF : Hid (R = 110) := Lib.hid (by rw [hC.out, hR.out, decide_eq_true g1, decide_eq_true g2, decide_eq_true g3]; rfl)
    clear hR hC
    obtain ⟨W1, hW1⟩ : ∃ W1, W1 = w.alloc (.cells #[.string p.nm, .slice p.a1 p.n1 p.c1, .slice p.a2 p.n2 p.c2, .slice p.a3 p.n3 p.c3] 38) := ⟨_, rfl⟩
    have Z : Hid (Holds W1 (w.heap.size) 38 #[.string p.nm, .slice p.a1 p.n1 p.c1, .slice p.a2 p.n2 p.c2, .slice p.a3 p.n3 p.c3]) := Lib.hid (by rw [hW1]; exact Holds.new w _ _)
    have BL := Lib.hid (show Below w.heap.size w W1 by rw [hW1]; exact box_below _ _ _)
    have V := Lib.hid (h.vars.below BL.out)
    have SP := Lib.hid (h.spots.below BL.out)
    have ED := Lib.hid (h.edges.below BL.out)
    have hW1' := Lib.hid hW1
    clear hW1
    clear h
    go_enter Tryz.func61, Tryz.ntmps61
    have k1 := Z.out.cell 0
    have k2 := Z.out.cell 1
    have k3 := Z.out.cell 2
    have k4 := Z.out.cell 3
    have q := Lib.hid (q1.out W1)
    go_wp2_with fail
    rw [← hW1'.out]
    with_reducible refine q.out.mono ?_
    rintro e u1 ⟨rfl, b1⟩
    clear k1 k2 k3 k4
    clear hW1'
    clear q
    have k5 : u1.cell? ⟨w.heap.size, 0, none⟩ = some (.string p.nm) := (Z.out.below b1 Z.out.lt).cell 0
    have k6 : u1.cell? ⟨w.heap.size, 1, none⟩ = some (.slice p.a1 p.n1 p.c1) := (Z.out.below b1 Z.out.lt).cell 1
    have k7 : u1.cell? ⟨w.heap.size, 2, none⟩ = some (.slice p.a2 p.n2 p.c2) := (Z.out.below b1 Z.out.lt).cell 2
    have k8 : u1.cell? ⟨w.heap.size, 3, none⟩ = some (.slice p.a3 p.n3 p.c3) := (Z.out.below b1 Z.out.lt).cell 3
    replace Z := Lib.hid (Z.out.below b1 Z.out.lt)
    replace BL := Lib.hid (BL.out.trans (b1.mono BL.out.size))
    replace V := Lib.hid (V.out.below b1)
    replace SP := Lib.hid (SP.out.below b1)
    replace ED := Lib.hid (ED.out.below b1)
    clear b1
    go_wp2
    go_ret
    exact ⟨ret_int hF.out.symm, BL.out⟩
  cases bv
  · have hF : Hid (R = 110) := Lib.hid (by rw [hC.out, hR.out, decide_eq_true g1, decide_eq_true g2, decide_eq_true g3]; rfl)
    clear hR hC
    obtain ⟨W1, hW1⟩ : ∃ W1, W1 = w.alloc (.cells #[.string p.nm, .slice p.a1 p.n1 p.c1, .slice p.a2 p.n2 p.c2, .slice p.a3 p.n3 p.c3] 38) := ⟨_, rfl⟩
    have Z : Hid (Holds W1 (w.heap.size) 38 #[.string p.nm, .slice p.a1 p.n1 p.c1, .slice p.a2 p.n2 p.c2, .slice p.a3 p.n3 p.c3]) := Lib.hid (by rw [hW1]; exact Holds.new w _ _)
    have BL := Lib.hid (show Below w.heap.size w W1 by rw [hW1]; exact box_below _ _ _)
    have V := Lib.hid (h.vars.below BL.out)
    have SP := Lib.hid (h.spots.below BL.out)
    have ED := Lib.hid (h.edges.below BL.out)
    have hW1' := Lib.hid hW1
    clear hW1
    clear h
    go_enter Tryz.func61, Tryz.ntmps61
    have k1 := Z.out.cell 0
    have k2 := Z.out.cell 1
    have k3 := Z.out.cell 2
    have k4 := Z.out.cell 3
    have q := Lib.hid (q1.out W1)
    go_wp2_with fail
    rw [← hW1'.out]
    with_reducible refine q.out.mono ?_
    rintro e u1 ⟨rfl, b1⟩
    clear k1 k2 k3 k4
    clear hW1'
    clear q
    have k5 : u1.cell? ⟨w.heap.size, 0, none⟩ = some (.string p.nm) := (Z.out.below b1 Z.out.lt).cell 0
    have k6 : u1.cell? ⟨w.heap.size, 1, none⟩ = some (.slice p.a1 p.n1 p.c1) := (Z.out.below b1 Z.out.lt).cell 1
    have k7 : u1.cell? ⟨w.heap.size, 2, none⟩ = some (.slice p.a2 p.n2 p.c2) := (Z.out.below b1 Z.out.lt).cell 2
    have k8 : u1.cell? ⟨w.heap.size, 3, none⟩ = some (.slice p.a3 p.n3 p.c3) := (Z.out.below b1 Z.out.lt).cell 3
    replace Z := Lib.hid (Z.out.below b1 Z.out.lt)
    replace BL := Lib.hid (BL.out.trans (b1.mono BL.out.size))
    replace V := Lib.hid (V.out.below b1)
    replace SP := Lib.hid (SP.out.below b1)
    replace ED := Lib.hid (ED.out.below b1)
    clear b1
    have q := Lib.hid (q2.out u1 V.out)
    go_wp2_with fail
    with_reducible refine q.out.mono ?_
    rintro e u2 ⟨rfl, b2⟩
    clear k5 k6 k7 k8
    clear q
    have k9 : u2.cell? ⟨w.heap.size, 0, none⟩ = some (.string p.nm) := (Z.out.below b2 Z.out.lt).cell 0
    have k10 : u2.cell? ⟨w.heap.size, 1, none⟩ = some (.slice p.a1 p.n1 p.c1) := (Z.out.below b2 Z.out.lt).cell 1
    have k11 : u2.cell? ⟨w.heap.size, 2, none⟩ = some (.slice p.a2 p.n2 p.c2) := (Z.out.below b2 Z.out.lt).cell 2
    have k12 : u2.cell? ⟨w.heap.size, 3, none⟩ = some (.slice p.a3 p.n3 p.c3) := (Z.out.below b2 Z.out.lt).cell 3
    replace Z := Lib.hid (Z.out.below b2 Z.out.lt)
    replace BL := Lib.hid (BL.out.trans (b2.mono BL.out.size))
    replace V := Lib.hid (V.out.below b2)
    replace SP := Lib.hid (SP.out.below b2)
    replace ED := Lib.hid (ED.out.below b2)
    clear b2
    go_wp2
    go_ret
    exact ⟨ret_int hF.out.symm, BL.out⟩
  cases bs
  · have hF : Hid (R = 110) := Lib.hid (by rw [hC.out, hR.out, decide_eq_true g1, decide_eq_true g2, decide_eq_true g3]; rfl)
    clear hR hC
    obtain ⟨W1, hW1⟩ : ∃ W1, W1 = w.alloc (.cells #[.string p.nm, .slice p.a1 p.n1 p.c1, .slice p.a2 p.n2 p.c2, .slice p.a3 p.n3 p.c3] 38) := ⟨_, rfl⟩
    have Z : Hid (Holds W1 (w.heap.size) 38 #[.string p.nm, .slice p.a1 p.n1 p.c1, .slice p.a2 p.n2 p.c2, .slice p.a3 p.n3 p.c3]) := Lib.hid (by rw [hW1]; exact Holds.new w _ _)
    have BL := Lib.hid (show Below w.heap.size w W1 by rw [hW1]; exact box_below _ _ _)
    have V := Lib.hid (h.vars.below BL.out)
    have SP := Lib.hid (h.spots.below BL.out)
    have ED := Lib.hid (h.edges.below BL.out)
    have hW1' := Lib.hid hW1
    clear hW1
    clear h
    go_enter Tryz.func61, Tryz.ntmps61
    have k1 := Z.out.cell 0
    have k2 := Z.out.cell 1
    have k3 := Z.out.cell 2
    have k4 := Z.out.cell 3
    have q := Lib.hid (q1.out W1)
    go_wp2_with fail
    rw [← hW1'.out]
    with_reducible refine q.out.mono ?_
    rintro e u1 ⟨rfl, b1⟩
    clear k1 k2 k3 k4
    clear hW1'
    clear q
    have k5 : u1.cell? ⟨w.heap.size, 0, none⟩ = some (.string p.nm) := (Z.out.below b1 Z.out.lt).cell 0
    have k6 : u1.cell? ⟨w.heap.size, 1, none⟩ = some (.slice p.a1 p.n1 p.c1) := (Z.out.below b1 Z.out.lt).cell 1
    have k7 : u1.cell? ⟨w.heap.size, 2, none⟩ = some (.slice p.a2 p.n2 p.c2) := (Z.out.below b1 Z.out.lt).cell 2
    have k8 : u1.cell? ⟨w.heap.size, 3, none⟩ = some (.slice p.a3 p.n3 p.c3) := (Z.out.below b1 Z.out.lt).cell 3
    replace Z := Lib.hid (Z.out.below b1 Z.out.lt)
    replace BL := Lib.hid (BL.out.trans (b1.mono BL.out.size))
    replace V := Lib.hid (V.out.below b1)
    replace SP := Lib.hid (SP.out.below b1)
    replace ED := Lib.hid (ED.out.below b1)
    clear b1
    have q := Lib.hid (q2.out u1 V.out)
    go_wp2_with fail
    with_reducible refine q.out.mono ?_
    rintro e u2 ⟨rfl, b2⟩
    clear k5 k6 k7 k8
    clear q
    have k9 : u2.cell? ⟨w.heap.size, 0, none⟩ = some (.string p.nm) := (Z.out.below b2 Z.out.lt).cell 0
    have k10 : u2.cell? ⟨w.heap.size, 1, none⟩ = some (.slice p.a1 p.n1 p.c1) := (Z.out.below b2 Z.out.lt).cell 1
    have k11 : u2.cell? ⟨w.heap.size, 2, none⟩ = some (.slice p.a2 p.n2 p.c2) := (Z.out.below b2 Z.out.lt).cell 2
    have k12 : u2.cell? ⟨w.heap.size, 3, none⟩ = some (.slice p.a3 p.n3 p.c3) := (Z.out.below b2 Z.out.lt).cell 3
    replace Z := Lib.hid (Z.out.below b2 Z.out.lt)
    replace BL := Lib.hid (BL.out.trans (b2.mono BL.out.size))
    replace V := Lib.hid (V.out.below b2)
    replace SP := Lib.hid (SP.out.below b2)
    replace ED := Lib.hid (ED.out.below b2)
    clear b2
    have q := Lib.hid (q3.out u2 SP.out)
    go_wp2_with fail
    with_reducible refine q.out.mono ?_
    rintro e u3 ⟨rfl, b3⟩
    clear k9 k10 k11 k12
    clear q
    have k13 : u3.cell? ⟨w.heap.size, 0, none⟩ = some (.string p.nm) := (Z.out.below b3 Z.out.lt).cell 0
    have k14 : u3.cell? ⟨w.heap.size, 1, none⟩ = some (.slice p.a1 p.n1 p.c1) := (Z.out.below b3 Z.out.lt).cell 1
    have k15 : u3.cell? ⟨w.heap.size, 2, none⟩ = some (.slice p.a2 p.n2 p.c2) := (Z.out.below b3 Z.out.lt).cell 2
    have k16 : u3.cell? ⟨w.heap.size, 3, none⟩ = some (.slice p.a3 p.n3 p.c3) := (Z.out.below b3 Z.out.lt).cell 3
    replace Z := Lib.hid (Z.out.below b3 Z.out.lt)
    replace BL := Lib.hid (BL.out.trans (b3.mono BL.out.size))
    replace V := Lib.hid (V.out.below b3)
    replace SP := Lib.hid (SP.out.below b3)
    replace ED := Lib.hid (ED.out.below b3)
    clear b3
    go_wp2
    go_ret
    exact ⟨ret_int hF.out.symm, BL.out⟩
  cases be
  · have hF : Hid (R = 110) := Lib.hid (by rw [hC.out, hR.out, decide_eq_true g1, decide_eq_true g2, decide_eq_true g3]; rfl)
    clear hR hC
    obtain ⟨W1, hW1⟩ : ∃ W1, W1 = w.alloc (.cells #[.string p.nm, .slice p.a1 p.n1 p.c1, .slice p.a2 p.n2 p.c2, .slice p.a3 p.n3 p.c3] 38) := ⟨_, rfl⟩
    have Z : Hid (Holds W1 (w.heap.size) 38 #[.string p.nm, .slice p.a1 p.n1 p.c1, .slice p.a2 p.n2 p.c2, .slice p.a3 p.n3 p.c3]) := Lib.hid (by rw [hW1]; exact Holds.new w _ _)
    have BL := Lib.hid (show Below w.heap.size w W1 by rw [hW1]; exact box_below _ _ _)
    have V := Lib.hid (h.vars.below BL.out)
    have SP := Lib.hid (h.spots.below BL.out)
    have ED := Lib.hid (h.edges.below BL.out)
    have hW1' := Lib.hid hW1
    clear hW1
    clear h
    go_enter Tryz.func61, Tryz.ntmps61
    have k1 := Z.out.cell 0
    have k2 := Z.out.cell 1
    have k3 := Z.out.cell 2
    have k4 := Z.out.cell 3
    have q := Lib.hid (q1.out W1)
    go_wp2_with fail
    rw [← hW1'.out]
    with_reducible refine q.out.mono ?_
    rintro e u1 ⟨rfl, b1⟩
    clear k1 k2 k3 k4
    clear hW1'
    clear q
    have k5 : u1.cell? ⟨w.heap.size, 0, none⟩ = some (.string p.nm) := (Z.out.below b1 Z.out.lt).cell 0
    have k6 : u1.cell? ⟨w.heap.size, 1, none⟩ = some (.slice p.a1 p.n1 p.c1) := (Z.out.below b1 Z.out.lt).cell 1
    have k7 : u1.cell? ⟨w.heap.size, 2, none⟩ = some (.slice p.a2 p.n2 p.c2) := (Z.out.below b1 Z.out.lt).cell 2
    have k8 : u1.cell? ⟨w.heap.size, 3, none⟩ = some (.slice p.a3 p.n3 p.c3) := (Z.out.below b1 Z.out.lt).cell 3
    replace Z := Lib.hid (Z.out.below b1 Z.out.lt)
    replace BL := Lib.hid (BL.out.trans (b1.mono BL.out.size))
    replace V := Lib.hid (V.out.below b1)
    replace SP := Lib.hid (SP.out.below b1)
    replace ED := Lib.hid (ED.out.below b1)
    clear b1
    have q := Lib.hid (q2.out u1 V.out)
    go_wp2_with fail
    with_reducible refine q.out.mono ?_
    rintro e u2 ⟨rfl, b2⟩
    clear k5 k6 k7 k8
    clear q
    have k9 : u2.cell? ⟨w.heap.size, 0, none⟩ = some (.string p.nm) := (Z.out.below b2 Z.out.lt).cell 0
    have k10 : u2.cell? ⟨w.heap.size, 1, none⟩ = some (.slice p.a1 p.n1 p.c1) := (Z.out.below b2 Z.out.lt).cell 1
    have k11 : u2.cell? ⟨w.heap.size, 2, none⟩ = some (.slice p.a2 p.n2 p.c2) := (Z.out.below b2 Z.out.lt).cell 2
    have k12 : u2.cell? ⟨w.heap.size, 3, none⟩ = some (.slice p.a3 p.n3 p.c3) := (Z.out.below b2 Z.out.lt).cell 3
    replace Z := Lib.hid (Z.out.below b2 Z.out.lt)
    replace BL := Lib.hid (BL.out.trans (b2.mono BL.out.size))
    replace V := Lib.hid (V.out.below b2)
    replace SP := Lib.hid (SP.out.below b2)
    replace ED := Lib.hid (ED.out.below b2)
    clear b2
    have q := Lib.hid (q3.out u2 SP.out)
    go_wp2_with fail
    with_reducible refine q.out.mono ?_
    rintro e u3 ⟨rfl, b3⟩
    clear k9 k10 k11 k12
    clear q
    have k13 : u3.cell? ⟨w.heap.size, 0, none⟩ = some (.string p.nm) := (Z.out.below b3 Z.out.lt).cell 0
    have k14 : u3.cell? ⟨w.heap.size, 1, none⟩ = some (.slice p.a1 p.n1 p.c1) := (Z.out.below b3 Z.out.lt).cell 1
    have k15 : u3.cell? ⟨w.heap.size, 2, none⟩ = some (.slice p.a2 p.n2 p.c2) := (Z.out.below b3 Z.out.lt).cell 2
    have k16 : u3.cell? ⟨w.heap.size, 3, none⟩ = some (.slice p.a3 p.n3 p.c3) := (Z.out.below b3 Z.out.lt).cell 3
    replace Z := Lib.hid (Z.out.below b3 Z.out.lt)
    replace BL := Lib.hid (BL.out.trans (b3.mono BL.out.size))
    replace V := Lib.hid (V.out.below b3)
    replace SP := Lib.hid (SP.out.below b3)
    replace ED := Lib.hid (ED.out.below b3)
    clear b3
    have q := Lib.hid (q4.out u3 ED.out Z.out)
    go_wp2_with fail
    with_reducible refine q.out.mono ?_
    rintro e u4 ⟨rfl, b4⟩
    clear k13 k14 k15 k16
    clear q
    replace Z := Lib.hid (Z.out.below b4 Z.out.lt)
    replace BL := Lib.hid (BL.out.trans (b4.mono BL.out.size))
    replace V := Lib.hid (V.out.below b4)
    replace SP := Lib.hid (SP.out.below b4)
    replace ED := Lib.hid (ED.out.below b4)
    clear b4
    go_wp2
    go_ret
    exact ⟨ret_int hF.out.symm, BL.out⟩
  have hF : Hid (R = 0) := Lib.hid (by rw [hC.out, hR.out, decide_eq_true g1, decide_eq_true g2, decide_eq_true g3]; rfl)
  clear hR hC
  obtain ⟨W1, hW1⟩ : ∃ W1, W1 = w.alloc (.cells #[.string p.nm, .slice p.a1 p.n1 p.c1, .slice p.a2 p.n2 p.c2, .slice p.a3 p.n3 p.c3] 38) := ⟨_, rfl⟩
  have Z : Hid (Holds W1 (w.heap.size) 38 #[.string p.nm, .slice p.a1 p.n1 p.c1, .slice p.a2 p.n2 p.c2, .slice p.a3 p.n3 p.c3]) := Lib.hid (by rw [hW1]; exact Holds.new w _ _)
  have BL := Lib.hid (show Below w.heap.size w W1 by rw [hW1]; exact box_below _ _ _)
  have V := Lib.hid (h.vars.below BL.out)
  have SP := Lib.hid (h.spots.below BL.out)
  have ED := Lib.hid (h.edges.below BL.out)
  have hW1' := Lib.hid hW1
  clear hW1
  clear h
  go_enter Tryz.func61, Tryz.ntmps61
  have k1 := Z.out.cell 0
  have k2 := Z.out.cell 1
  have k3 := Z.out.cell 2
  have k4 := Z.out.cell 3
  have q := Lib.hid (q1.out W1)
  go_wp2_with fail
  rw [← hW1'.out]
  with_reducible refine q.out.mono ?_
  rintro e u1 ⟨rfl, b1⟩
  clear k1 k2 k3 k4
  clear hW1'
  clear q
  have k5 : u1.cell? ⟨w.heap.size, 0, none⟩ = some (.string p.nm) := (Z.out.below b1 Z.out.lt).cell 0
  have k6 : u1.cell? ⟨w.heap.size, 1, none⟩ = some (.slice p.a1 p.n1 p.c1) := (Z.out.below b1 Z.out.lt).cell 1
  have k7 : u1.cell? ⟨w.heap.size, 2, none⟩ = some (.slice p.a2 p.n2 p.c2) := (Z.out.below b1 Z.out.lt).cell 2
  have k8 : u1.cell? ⟨w.heap.size, 3, none⟩ = some (.slice p.a3 p.n3 p.c3) := (Z.out.below b1 Z.out.lt).cell 3
  replace Z := Lib.hid (Z.out.below b1 Z.out.lt)
  replace BL := Lib.hid (BL.out.trans (b1.mono BL.out.size))
  replace V := Lib.hid (V.out.below b1)
  replace SP := Lib.hid (SP.out.below b1)
  replace ED := Lib.hid (ED.out.below b1)
  clear b1
  have q := Lib.hid (q2.out u1 V.out)
  go_wp2_with fail
  with_reducible refine q.out.mono ?_
  rintro e u2 ⟨rfl, b2⟩
  clear k5 k6 k7 k8
  clear q
  have k9 : u2.cell? ⟨w.heap.size, 0, none⟩ = some (.string p.nm) := (Z.out.below b2 Z.out.lt).cell 0
  have k10 : u2.cell? ⟨w.heap.size, 1, none⟩ = some (.slice p.a1 p.n1 p.c1) := (Z.out.below b2 Z.out.lt).cell 1
  have k11 : u2.cell? ⟨w.heap.size, 2, none⟩ = some (.slice p.a2 p.n2 p.c2) := (Z.out.below b2 Z.out.lt).cell 2
  have k12 : u2.cell? ⟨w.heap.size, 3, none⟩ = some (.slice p.a3 p.n3 p.c3) := (Z.out.below b2 Z.out.lt).cell 3
  replace Z := Lib.hid (Z.out.below b2 Z.out.lt)
  replace BL := Lib.hid (BL.out.trans (b2.mono BL.out.size))
  replace V := Lib.hid (V.out.below b2)
  replace SP := Lib.hid (SP.out.below b2)
  replace ED := Lib.hid (ED.out.below b2)
  clear b2
  have q := Lib.hid (q3.out u2 SP.out)
  go_wp2_with fail
  with_reducible refine q.out.mono ?_
  rintro e u3 ⟨rfl, b3⟩
  clear k9 k10 k11 k12
  clear q
  have k13 : u3.cell? ⟨w.heap.size, 0, none⟩ = some (.string p.nm) := (Z.out.below b3 Z.out.lt).cell 0
  have k14 : u3.cell? ⟨w.heap.size, 1, none⟩ = some (.slice p.a1 p.n1 p.c1) := (Z.out.below b3 Z.out.lt).cell 1
  have k15 : u3.cell? ⟨w.heap.size, 2, none⟩ = some (.slice p.a2 p.n2 p.c2) := (Z.out.below b3 Z.out.lt).cell 2
  have k16 : u3.cell? ⟨w.heap.size, 3, none⟩ = some (.slice p.a3 p.n3 p.c3) := (Z.out.below b3 Z.out.lt).cell 3
  replace Z := Lib.hid (Z.out.below b3 Z.out.lt)
  replace BL := Lib.hid (BL.out.trans (b3.mono BL.out.size))
  replace V := Lib.hid (V.out.below b3)
  replace SP := Lib.hid (SP.out.below b3)
  replace ED := Lib.hid (ED.out.below b3)
  clear b3
  have q := Lib.hid (q4.out u3 ED.out Z.out)
  go_wp2_with fail
  with_reducible refine q.out.mono ?_
  rintro e u4 ⟨rfl, b4⟩
  clear k13 k14 k15 k16
  clear q
  replace Z := Lib.hid (Z.out.below b4 Z.out.lt)
  replace BL := Lib.hid (BL.out.trans (b4.mono BL.out.size))
  replace V := Lib.hid (V.out.below b4)
  replace SP := Lib.hid (SP.out.below b4)
  replace ED := Lib.hid (ED.out.below b4)
  clear b4
  go_wp2
  go_ret
  exact ⟨ret_int hF.out.symm, BL.out⟩
end Go.Proofs.YtimgocfkogebmaaGreatDoor
namespace Go.Proofs.YtimgocfkogebmaaGreatDoor
open Go.RowKit
set_option linter.unusedVariables false
set_option linter.unusedSimpArgs false
def zd0 : Int × List Int := (0, [])
structure ZRow (w : World) (a : Option Addr) (n c : Nat) (L : List (Int × List Int)) : Prop where
  len : n = L.length
  cap : n ≤ c
  max : c ≤ maxLen
  sees : n = 0 ∨ ∃ b off, a = some ⟨b, off, none⟩ ∧ b < w.heap.size ∧ ∀ i, i < n → w.cell? ⟨b, off + i * 2, none⟩ = some (.int .i64 (L.getD i zd0).1) ∧ ∃ a' m' c', w.cell? ⟨b, off + i * 2 + 1, none⟩ = some (.slice a' m' c') ∧ SL w a' m' c' (L.getD i zd0).2
theorem ZRow.below {w w' : World} {a : Option Addr} {n c : Nat} {L : List (Int × List Int)} (h : ZRow w a n c L) (hb : Below w.heap.size w w') : ZRow w' a n c L := by
  refine ⟨h.len, h.cap, h.max, ?_⟩
  rcases h.sees with h0 | ⟨b, off, rfl, hB, hc⟩
  · exact .inl h0
  · refine .inr ⟨b, off, rfl, Nat.lt_of_lt_of_le hB hb.size, fun i hi => ?_⟩
    obtain ⟨h1, a', m', c', h2, h3⟩ := hc i hi
    exact ⟨(hb.cell (p := ⟨b, off + i * 2, none⟩) hB).trans h1, a', m', c', (hb.cell (p := ⟨b, off + i * 2 + 1, none⟩) hB).trans h2, h3.below hb⟩
theorem ZRow.nil (w : World) : ZRow w none 0 0 [] := ⟨rfl, Nat.le_refl _, by simp [maxLen], .inl rfl⟩
theorem ZRow.at_ {w : World} {a : Option Addr} {n c : Nat} {L : List (Int × List Int)} (h : ZRow w a n c L) {i : Nat} (hi : i < n) :
    ∃ b off a' m' c', a = some ⟨b, off, none⟩ ∧ b < w.heap.size ∧ w.cell? ⟨b, off + i * 2, none⟩ = some (.int .i64 (L.getD i zd0).1) ∧ w.cell? ⟨b, off + i * 2 + 1, none⟩ = some (.slice a' m' c') ∧ SL w a' m' c' (L.getD i zd0).2 := by
  rcases h.sees with h0 | ⟨b, off, rfl, hB, hc⟩
  · omega
  · obtain ⟨h1, a', m', c', h2, h3⟩ := hc i hi
    exact ⟨b, off, a', m', c', rfl, hB, h1, h2, h3⟩
theorem ZRow.max' {w : World} {a : Option Addr} {n c : Nat} {L : List (Int × List Int)} (h : ZRow w a n c L) : n ≤ 9223372036854775807 := by
  have h1 := h.cap
  have h2 := h.max
  unfold maxLen at h2
  omega
def zoneB (nv : Nat) (z : Int × List Int) : Bool := decide (z.1 = nv) && checkB z.1 z.2
def chkZ (D : PD) (L : List (Int × List Int)) : Int := if progB D = true then (if decide (L.length = D.spots.length) && L.all (zoneB D.vars.length) then 0 else 80) else 110
set_option maxRecDepth 100000 in
set_option maxHeartbeats 1000000 in
theorem badZone_any (p : PV) (g : Nat) (zn : Int) (za : Option Addr) (zm zc : Nat) (l : List Int) (w : World) (hs : SL w za zm zc l) (hz : Holds w g 38 p.cells) : Calls Tryz.prog 81 #[.agg #[.int .i64 zn, .slice za zm zc], .pointer (some ⟨g, 0, none⟩)] w (Gives (.bool (!zoneB p.n1 (zn, l))) w) := by
  have hR : Hid (zoneB p.n1 (zn, l) = (decide (zn = (p.n1 : Int)) && checkB zn l)) := Lib.hid rfl
  have hch := Lib.hid (chk_or zn l)
  have b0 := box_below w #[.int .i64 zn, .slice za zm zc] 51
  have q := Lib.hid (dcheck_any zn za zm zc l _ (hs.below b0))
  have y1 := (hz.below b0 hz.lt).cell 1
  simp at y1
  have b0' := Lib.hid b0
  clear b0 hs hz
  generalize zoneB p.n1 (zn, l) = R at *
  generalize chk zn l = E at *
  generalize checkB zn l = cb at *
  by_cases h1 : zn = (p.n1 : Int)
  · have e1 : (zn != (p.n1 : Int)) = false := by simpa using h1
    have hF : Hid (R = cb) := Lib.hid (by rw [hR.out, decide_eq_true h1, Bool.true_and])
    clear hR h1
    go_enter Tryz.func81, Tryz.ntmps81
    go_wp2_with fail
    with_reducible refine q.out.mono ?_
    rintro e w1 ⟨rfl, b1⟩
    have B := Lib.hid (b0'.out.trans (b1.mono b0'.out.size))
    clear b1 q y1
    rcases hch.out with ⟨rfl, rfl⟩ | ⟨rfl, rfl⟩
    · clear hch
      go_wp2
      go_ret
      exact ⟨ret_bool (by rw [hF.out]; rfl), B.out⟩
    · clear hch
      go_wp2
      go_ret
      exact ⟨ret_bool (by rw [hF.out]; rfl), B.out⟩
  · have e1 : (zn != (p.n1 : Int)) = true := by simpa using h1
    have hF : Hid (R = false) := Lib.hid (by rw [hR.out, decide_eq_false h1, Bool.false_and])
    clear hR h1 hch
    go_enter Tryz.func81, Tryz.ntmps81
    go_wp2
    go_ret
    exact ⟨ret_bool (by rw [hF.out]; rfl), b0'.out⟩
set_option maxRecDepth 100000 in
set_option maxHeartbeats 2000000 in
theorem zonesIdx_any (p : PV) (g : Nat) (a : Option Addr) (n c : Nat) (L : List (Int × List Int)) (w : World) (h : ZRow w a n c L) (hz : Holds w g 38 p.cells) : Calls Tryz.prog 133 #[.slice a n c, .func (.func 81) #[] #[.pointer (some ⟨g, 0, none⟩)]] w (IdxE (!L.all (zoneB p.n1)) w) := by
  have hn : n = L.length := h.len
  have hmax := h.max'
  have hmi : (n : Int) ≤ 9223372036854775807 := by omega
  have hlen := Lib.hid hn
  have T := Lib.hid h
  have HZ := Lib.hid hz
  have hno := Lib.hid (fun k hk h => all_no (q := zoneB p.n1) (l := L) (d := zd0) (k := k) hk h)
  have hyes := Lib.hid (fun h => all_yes (q := zoneB p.n1) (l := L) zd0 h)
  clear h hn hmax hz
  generalize L.all (zoneB p.n1) = R at *
  go_enter Tryz.func133, Tryz.ntmps133
  go_wp2
  go_loopw [8] (fun y wr => ∃ k : Nat, k ≤ n ∧ y = .int .i64 k ∧ Hid (∀ t, t < k → zoneB p.n1 (L.getD t zd0) = true) ∧ Hid (Below w.heap.size w wr)) (fun y _ => n - (intOf y).toNat)
  case atStart => exact ⟨0, Nat.zero_le _, rfl, Lib.hid (fun t ht => by omega), Lib.hid (Below.refl _ _)⟩
  case round =>
    obtain ⟨k, hk, rfl, hal, hB⟩ := hrel
    by_cases hlt : k < n
    · have hki : (k : Int) < (n : Int) := by omega
      obtain ⟨b, off, za, zm, zc, rfl, hbl, x0, x1, hs⟩ := (T.out.below hB.out).at_ hlt
      have hno' := Lib.hid (hno.out k (by rw [← hlen.out]; exact hlt))
      have hyes' : Hid (zoneB p.n1 (L.getD k zd0) = true → ∀ t, t < k + 1 → zoneB p.n1 (L.getD t zd0) = true) := Lib.hid (fun h t ht => by
        by_cases e : t = k
        · rw [e]; exact h
        · exact hal.out t (by omega))
      obtain ⟨zn, zl, he⟩ : ∃ zn zl, L.getD k zd0 = (zn, zl) := ⟨_, _, rfl⟩
      rw [he] at x0 hs hno' hyes'
      dsimp only at x0 hs
      have q1 := Lib.hid (badZone_any p g zn za zm zc zl wr hs (HZ.out.below hB.out HZ.out.lt))
      clear hal hno hs he
      cases e1 : zoneB p.n1 (zn, zl)
      · have hf := Lib.hid (hno'.out e1)
        rw [e1] at q1
        clear hno' hyes' hyes e1
        go_wp2_with fail
        refine q1.out.mono ?_
        rintro e w1 ⟨rfl, b1⟩
        have hB2 := Lib.hid (hB.out.trans (b1.mono hB.out.size))
        go_wp2
        go_ret
        exact ⟨k, by rw [hf.out]; simp, rfl, hB2.out⟩
      · have hg := Lib.hid (hyes'.out e1)
        rw [e1] at q1
        clear hno' hyes' e1
        go_wp2_with fail
        refine q1.out.mono ?_
        rintro e w1 ⟨rfl, b1⟩
        have hB2 := Lib.hid (hB.out.trans (b1.mono hB.out.size))
        go_wp2
        go_roundw
        case rel => exact ⟨k + 1, by omega, by go_num, hg, hB2⟩
        case measure => simp [intOf]; omega
    · have hki : ¬ (k : Int) < (n : Int) := by omega
      have hf := Lib.hid (hyes.out (fun t ht => hal.out t (by rw [← hlen.out] at ht; omega)))
      clear hyes hno hal
      go_wp2
      go_ret
      exact ⟨-1, by rw [hf.out]; rfl, rfl, hB.out⟩
set_option maxRecDepth 100000 in
theorem zonesHas_any (p : PV) (g : Nat) (a : Option Addr) (n c : Nat) (L : List (Int × List Int)) (w : World) (h : ZRow w a n c L) (hz : Holds w g 38 p.cells) : Calls Tryz.prog 83 #[.slice a n c, .func (.func 81) #[] #[.pointer (some ⟨g, 0, none⟩)]] w (Gives (.bool (!L.all (zoneB p.n1))) w) := by
  have q := Lib.hid (zonesIdx_any p g a n c L w h hz)
  generalize (!L.all (zoneB p.n1)) = R at *
  clear h hz
  go_enter Tryz.func83, Tryz.ntmps83
  go_wp2_with fail
  refine q.out.mono ?_
  rintro e w1 ⟨i, hi, rfl, hb⟩
  have hi' := Lib.hid hi
  clear hi q
  go_wp2
  go_ret
  exact ⟨ret_bool hi'.out, hb⟩
set_option maxRecDepth 100000 in
set_option maxHeartbeats 2000000 in
theorem amay_any (p : PV) (D : PD) (a : Option Addr) (n c : Nat) (L : List (Int × List Int)) (w : World) (h : PrA w p D) (hl : ZRow w a n c L) : Calls Tryz.prog 44 #[.agg #[.string p.nm, .slice p.a1 p.n1 p.c1, .slice p.a2 p.n2 p.c2, .slice p.a3 p.n3 p.c3], .slice a n c] w (Gives (.int .i64 (chkZ D L)) w) := by
  have hmf : ∀ (fn : Fn) (first cap : Array Value) (w : World), (Instr.makeFunc fn first cap).run Tryz.prog w = .ok (.func fn first cap) w := fun _ _ _ _ => rfl
  have hC : Hid (chkZ D L = if progB D = true then (if decide (n = p.n2) && L.all (zoneB p.n1) then 0 else 80) else 110) := Lib.hid (by unfold chkZ; rw [hl.len, h.spots.len, h.vars.len])
  have hP : Hid (chkP D = if progB D = true then 0 else 110) := Lib.hid rfl
  have q1 := Lib.hid (fun W (hW : PrA W p D) => pcheck_any p D W hW)
  have q2 := Lib.hid (fun g W (hW : ZRow W a n c L) (hz : Holds W g 38 p.cells) => zonesHas_any p g a n c L W hW hz)
  obtain ⟨pnm, pa1, pn1, pc1, pa2, pn2, pc2, pa3, pn3, pc3⟩ := p
  dsimp only at hC q1 q2 ⊢
  obtain ⟨W1, hW1⟩ : ∃ W1, W1 = w.alloc (.cells #[.string pnm, .slice pa1 pn1 pc1, .slice pa2 pn2 pc2, .slice pa3 pn3 pc3] 38) := ⟨_, rfl⟩
  have Z0 : Holds W1 w.heap.size 38 #[.string pnm, .slice pa1 pn1 pc1, .slice pa2 pn2 pc2, .slice pa3 pn3 pc3] := by rw [hW1]; exact Holds.new w _ _
  have BL := Lib.hid (show Below w.heap.size w W1 by rw [hW1]; exact box_below _ _ _)
  have P := Lib.hid (h.below BL.out)
  have ZL := Lib.hid (hl.below BL.out)
  have hm2 : (pn2 : Int) ≤ 9223372036854775807 := by have := h.spots.max'; dsimp only at this; omega
  have hmn : (n : Int) ≤ 9223372036854775807 := by have := hl.max'; omega
  have hW1' := Lib.hid hW1
  have k0 := Z0.cell 0
  have k1 := Z0.cell 1
  have k2 := Z0.cell 2
  have k3 := Z0.cell 3
  simp at k0 k1 k2 k3
  have Z := Lib.hid Z0
  clear hW1 Z0 h hl
  generalize chkZ D L = R at *
  generalize chkP D = E at *
  generalize progB D = pb at *
  generalize L.all (zoneB pn1) = zb at *
  go_enter Tryz.func44, Tryz.ntmps44
  go_wp2_with fail
  rw [← hW1'.out]
  with_reducible refine (q1.out _ P.out).mono ?_
  rintro e w1 ⟨rfl, b1⟩
  replace Z := Lib.hid (Z.out.below b1 Z.out.lt)
  replace ZL := Lib.hid (ZL.out.below b1)
  replace BL := Lib.hid (BL.out.trans (b1.mono BL.out.size))
  clear b1 q1 P k0 k1 k2 k3 hW1'
  have k2 := Z.out.cell 2
  simp at k2
  cases pb
  · have hE : E = 110 := by rw [hP.out]; rfl
    have hr : R = 110 := by rw [hC.out]; rfl
    clear hC hP
    subst hE hr
    go_wp2
    go_ret
    exact ⟨rfl, BL.out⟩
  have hE : E = 0 := by rw [hP.out]; rfl
  clear hP
  subst hE
  by_cases hnn : n = pn2
  · have e1 : ((n : Int) != (pn2 : Int)) = false := by simp; omega
    have e2 : (n != pn2) = false := by simpa using hnn
    have hC2 : Hid (R = if zb = true then 0 else 80) := Lib.hid (by rw [hC.out, decide_eq_true hnn]; simp)
    clear hC hnn
    go_wp2_with fail
    with_reducible refine (q2.out _ _ ZL.out Z.out).mono ?_
    rintro e w2 ⟨rfl, b2⟩
    replace BL := Lib.hid (BL.out.trans (b2.mono BL.out.size))
    clear b2 q2 k2 Z ZL
    cases zb
    · have hr : R = 80 := by rw [hC2.out]; rfl
      clear hC2
      subst hr
      go_wp2
      go_ret
      exact ⟨rfl, BL.out⟩
    · have hr : R = 0 := by rw [hC2.out]; rfl
      clear hC2
      subst hr
      go_wp2
      go_ret
      exact ⟨rfl, BL.out⟩
  · have e1 : ((n : Int) != (pn2 : Int)) = true := by simp; omega
    have e2 : (n != pn2) = true := by simpa using hnn
    have hr : R = 80 := by rw [hC.out, decide_eq_false hnn]; rfl
    clear hC hnn
    subst hr
    go_wp2
    go_ret
    exact ⟨rfl, BL.out⟩
end Go.Proofs.YtimgocfkogebmaaGreatDoor
namespace Go.Proofs.YtimgocfkogebmaaGreatDoor
set_option linter.unusedVariables false
set_option linter.unusedSimpArgs false
structure Cm {α : Type} (c : α → α → Int) (E : α → α → Prop) : Prop where
  range : ∀ a b, c a b = -1 ∨ c a b = 0 ∨ c a b = 1
  zero : ∀ a b, c a b = 0 ↔ E a b
  anti : ∀ a b, c b a = -c a b
  trans : ∀ a b d, c a b ≤ 0 → c b d ≤ 0 → c a d ≤ 0
def thenC (x y : Int) : Int := if x = 0 then y else x
theorem Cm.lex {α : Type} {c d : α → α → Int} {E F : α → α → Prop} (hc : Cm c E) (hd : Cm d F) : Cm (fun a b => thenC (c a b) (d a b)) (fun a b => E a b ∧ F a b) := by
  refine ⟨fun a b => ?_, fun a b => ?_, fun a b => ?_, fun a b e h1 h2 => ?_⟩
  · simp only [thenC]
    split
    · exact hd.range a b
    · exact hc.range a b
  · simp only [thenC]
    split
    · next h => rw [hd.zero]; exact ⟨fun x => ⟨(hc.zero a b).1 h, x⟩, fun x => x.2⟩
    · next h => exact ⟨fun x => absurd x h, fun x => absurd ((hc.zero a b).2 x.1) h⟩
  · simp only [thenC]
    rw [hc.anti a b, hd.anti a b]
    by_cases h : c a b = 0
    · rw [if_pos h, if_pos (by omega)]
    · rw [if_neg h, if_neg (by omega)]
  · simp only [thenC] at h1 h2 ⊢
    have k1 : c a b ≤ 0 := by split at h1 <;> omega
    have k2 : c b e ≤ 0 := by split at h2 <;> omega
    have k3 := hc.trans a b e k1 k2
    by_cases h : c a e = 0
    · rw [if_pos h]
      have q1 := hc.anti a e
      have q2 := hc.trans b e a k2 (by omega)
      have q3 := hc.anti a b
      have q4 := hc.trans e a b (by omega) k1
      have q5 := hc.anti b e
      rw [if_pos (by omega)] at h1 h2
      exact hd.trans a b e h1 h2
    · rw [if_neg h]; exact k3
def cmpZ (a b : Int) : Int := if a < b then -1 else if b < a then 1 else 0
def cmpT (a b : ByteArray) : Int := if lt8 (byt a) (byt b) = true then -1 else if lt8 (byt b) (byt a) = true then 1 else 0
theorem cmZ {α : Type} (k : α → Int) : Cm (fun a b => cmpZ (k a) (k b)) (fun a b => k a = k b) := by
  refine ⟨fun a b => ?_, fun a b => ?_, fun a b => ?_, fun a b d h1 h2 => ?_⟩
  all_goals simp only [cmpZ] at *
  all_goals (repeat' split) <;> (try (repeat' split at h1)) <;> (try (repeat' split at h2)) <;> first | omega | (constructor <;> intro <;> omega)
theorem cmT {α : Type} (k : α → ByteArray) : Cm (fun a b => cmpT (k a) (k b)) (fun a b => k a = k b) := by
  refine ⟨fun a b => ?_, fun a b => ?_, fun a b => ?_, fun a b d h1 h2 => ?_⟩
  · simp only [cmpT]
    split
    · exact .inl rfl
    · split
      · exact .inr (.inr rfl)
      · exact .inr (.inl rfl)
  · simp only [cmpT]
    split
    · next h => exact ⟨fun x => by omega, fun x => by rw [x, lt8_irrefl] at h; cases h⟩
    · next h =>
      split
      · next h2 => exact ⟨fun x => by omega, fun x => by rw [x, lt8_irrefl] at h2; cases h2⟩
      · next h2 => exact ⟨fun _ => byt_inj (lt8_tri (by simpa using h) (by simpa using h2)), fun _ => rfl⟩
  · simp only [cmpT]
    by_cases h : lt8 (byt (k a)) (byt (k b)) = true
    · rw [if_pos h, if_neg (by rw [lt8_asymm h]; simp), if_pos h]; rfl
    · rw [if_neg h, if_neg h]
      by_cases h2 : lt8 (byt (k b)) (byt (k a)) = true
      · rw [if_pos h2, if_pos h2]
      · rw [if_neg h2, if_neg h2]; rfl
  · simp only [cmpT] at h1 h2 ⊢
    have g1 : lt8 (byt (k b)) (byt (k a)) = false := by
      cases h : lt8 (byt (k b)) (byt (k a))
      · rfl
      · rw [if_neg (by rw [lt8_asymm h]; simp), if_pos h] at h1; omega
    have g2 : lt8 (byt (k d)) (byt (k b)) = false := by
      cases h : lt8 (byt (k d)) (byt (k b))
      · rfl
      · rw [if_neg (by rw [lt8_asymm h]; simp), if_pos h] at h2; omega
    have g3 : lt8 (byt (k d)) (byt (k a)) = false := by
      rw [lt8_is, decide_eq_false_iff_not] at *
      intro h
      rcases Decidable.em (byt (k a) < byt (k b)) with h5 | h5
      · exact g2 (List.lt_trans h h5)
      · have e := List.le_antisymm (List.not_lt.1 h5) (List.not_lt.1 g1)
        rw [← e] at h
        exact g2 h
    split
    · omega
    · rw [if_neg (by rw [g3]; simp)]; omega
structure AlD where
  kind : Int
  sev : Int
  fn : ByteArray
  file : ByteArray
  line : Int
  expr : ByteArray
def cmpA (a b : AlD) : Int := thenC (cmpT a.file b.file) (thenC (cmpZ a.line b.line) (thenC (cmpT a.fn b.fn) (thenC (cmpZ a.kind b.kind) (thenC (cmpT a.expr b.expr) (cmpZ a.sev b.sev)))))
theorem cmA : Cm cmpA (fun a b => a = b) := by
  have h := (cmT AlD.file).lex ((cmZ AlD.line).lex ((cmT AlD.fn).lex ((cmZ AlD.kind).lex ((cmT AlD.expr).lex (cmZ AlD.sev)))))
  refine ⟨h.range, fun a b => (h.zero a b).trans ⟨fun ⟨h1, h2, h3, h4, h5, h6⟩ => ?_, fun e => by subst e; exact ⟨rfl, rfl, rfl, rfl, rfl, rfl⟩⟩, h.anti, h.trans⟩
  cases a
  cases b
  simp_all
def SortedC {α : Type} (c : α → α → Int) (l : List α) : Prop := l.Pairwise fun a b => c a b ≤ 0
theorem sorted_one {α : Type} {c : α → α → Int} (hc : Cm c (fun a b => a = b)) : ∀ {l m : List α}, SortedC c l → SortedC c m → l.Perm m → l = m
  | [], m, _, _, h => (List.nil_perm.1 h).symm
  | x :: l, [], _, _, h => by have := h.length_eq; simp at this
  | x :: l, y :: m, hl, hm, h => by
    unfold SortedC at hl hm
    rw [List.pairwise_cons] at hl hm
    have hxy : x = y := by
      have hx := h.mem_iff.1 (List.mem_cons_self (a := x) (l := l))
      have hy := h.mem_iff.2 (List.mem_cons_self (a := y) (l := m))
      rcases List.mem_cons.1 hx with e | hx
      · exact e
      · rcases List.mem_cons.1 hy with e | hy
        · exact e.symm
        · have h1 := hm.1 x hx
          have h2 := hl.1 y hy
          have h3 := hc.anti x y
          exact (hc.zero x y).1 (by omega)
    subst hxy
    rw [sorted_one hc hl.2 hm.2 (List.Perm.cons_inv h)]
def insF {α : Type} (c : α → α → Int) (x : α) : List α → List α
  | [] => [x]
  | y :: r => if 0 < c y x then y :: insF c x r else x :: y :: r
theorem insF_perm {α : Type} (c : α → α → Int) (x : α) : ∀ r : List α, (insF c x r).Perm (x :: r)
  | [] => .refl _
  | y :: r => by
    unfold insF
    split
    · exact ((insF_perm c x r).cons y).trans (List.Perm.swap x y r)
    · exact .refl _
theorem insF_sorted {α : Type} {c : α → α → Int} {E : α → α → Prop} (hc : Cm c E) (x : α) : ∀ {r : List α}, r.Pairwise (fun a b => c b a ≤ 0) → (insF c x r).Pairwise (fun a b => c b a ≤ 0)
  | [], _ => by simp [insF]
  | y :: r, h => by
    rw [List.pairwise_cons] at h
    unfold insF
    split
    · next h0 =>
      rw [List.pairwise_cons]
      refine ⟨fun z hz => ?_, insF_sorted hc x h.2⟩
      rcases List.mem_cons.1 ((insF_perm c x r).mem_iff.1 hz) with e | e
      · subst e
        have := hc.anti y z
        omega
      · exact h.1 z e
    · next h0 =>
      rw [List.pairwise_cons]
      refine ⟨fun z hz => ?_, List.pairwise_cons.2 h⟩
      rcases List.mem_cons.1 hz with e | e
      · subst e; omega
      · exact hc.trans z y x (h.1 z e) (by omega)
def backF {α : Type} (c : α → α → Int) (l : List α) : List α := l.foldl (fun r x => insF c x r) []
theorem backF_perm {α : Type} (c : α → α → Int) (l : List α) : (backF c l).Perm l := by
  have h : ∀ (l r : List α), (l.foldl (fun r x => insF c x r) r).Perm (l ++ r) := by
    intro l
    induction l with
    | nil => exact fun r => .refl _
    | cons x l ih => exact fun r => (ih _).trans (((insF_perm c x r).append_left l).trans (List.perm_middle))
  have := h l []
  rw [List.append_nil] at this
  exact this
theorem backF_sorted {α : Type} {c : α → α → Int} {E : α → α → Prop} (hc : Cm c E) (l : List α) : (backF c l).Pairwise (fun a b => c b a ≤ 0) := by
  have h : ∀ (l r : List α), r.Pairwise (fun a b => c b a ≤ 0) → (l.foldl (fun r x => insF c x r) r).Pairwise (fun a b => c b a ≤ 0) := by
    intro l
    induction l with
    | nil => exact fun r hr => hr
    | cons x l ih => exact fun r hr => ih _ (insF_sorted hc x hr)
  exact h l [] .nil
def sortC {α : Type} (c : α → α → Int) (l : List α) : List α := (backF c l).reverse
theorem sortC_perm {α : Type} (c : α → α → Int) (l : List α) : (sortC c l).Perm l := (List.reverse_perm _).trans (backF_perm c l)
theorem sortC_sorted {α : Type} {c : α → α → Int} {E : α → α → Prop} (hc : Cm c E) (l : List α) : SortedC c (sortC c l) := by
  unfold SortedC sortC
  rw [List.pairwise_reverse]
  exact backF_sorted hc l
theorem sortC_is {α : Type} {c : α → α → Int} (hc : Cm c (fun a b => a = b)) {l s : List α} (hp : s.Perm l) (hs : SortedC c s) : s = sortC c l :=
  sorted_one hc hs (sortC_sorted hc l) (hp.trans (sortC_perm c l).symm)
theorem sortC_snoc {α : Type} (c : α → α → Int) (l : List α) (x : α) : sortC c (l ++ [x]) = (insF c x (sortC c l).reverse).reverse := by
  unfold sortC backF
  rw [List.foldl_append, List.reverse_reverse]
  rfl
theorem insF_skip {α : Type} (c : α → α → Int) (x : α) : ∀ (R S : List α), (∀ y ∈ R, 0 < c y x) → insF c x (R ++ S) = R ++ insF c x S
  | [], S, _ => rfl
  | y :: R, S, h => by
    show insF c x (y :: (R ++ S)) = y :: (R ++ insF c x S)
    conv => lhs; unfold insF
    rw [if_pos (h y (by simp)), insF_skip c x R S (fun z hz => h z (by simp [hz]))]
theorem insF_place {α : Type} (c : α → α → Int) (x d : α) (L : List α) (k : Nat) (hk : k ≤ L.length) (h1 : ∀ j, k ≤ j → j < L.length → 0 < c (L.getD j d) x) (h2 : k = 0 ∨ ¬ 0 < c (L.getD (k - 1) d) x) :
    (insF c x L.reverse).reverse = L.take k ++ x :: L.drop k := by
  have e : L.reverse = (L.drop k).reverse ++ (L.take k).reverse := by rw [← List.reverse_append, List.take_append_drop]
  rw [e, insF_skip c x _ _ (fun y hy => by
    rw [List.mem_reverse] at hy
    obtain ⟨j, hj, rfl⟩ := List.getElem_of_mem hy
    rw [List.length_drop] at hj
    have q := h1 (k + j) (by omega) (by omega)
    rw [List.getElem_drop]
    simpa [List.getD, show k + j < L.length by omega] using q)]
  have e2 : insF c x (L.take k).reverse = x :: (L.take k).reverse := by
    rcases Nat.eq_zero_or_pos k with h0 | h0
    · subst h0; rfl
    · have hz : ¬ 0 < c (L.getD (k - 1) d) x := by rcases h2 with h2 | h2; omega; exact h2
      have e3 : L.take k = L.take (k - 1) ++ [L.getD (k - 1) d] := by
        have : L.take (k - 1 + 1) = L.take (k - 1) ++ [L.getD (k - 1) d] := by
          rw [List.take_add_one]
          simp [List.getD, show k - 1 < L.length by omega]
        rw [show k - 1 + 1 = k by omega] at this
        exact this
      rw [e3, List.reverse_append]
      show insF c x (L.getD (k - 1) d :: (L.take (k - 1)).reverse) = _
      unfold insF
      rw [if_neg hz]
      rfl
  rw [e2]
  simp
end Go.Proofs.YtimgocfkogebmaaGreatDoor
namespace Go.Proofs.YtimgocfkogebmaaGreatDoor
open Go.RowKit
set_option linter.unusedVariables false
set_option linter.unusedSimpArgs false
theorem less_is (x y : ByteArray) : Op.bytesLess x.toList y.toList = lt8 (byt x) (byt y) := by
  unfold lt8 byt
  rw [ByteArray.toList_eq, ByteArray.toList_eq]
theorem anumber_any (a b : Int) (w : World) : Calls Tryz.prog 38 #[.int .i64 a, .int .i64 b] w fun e w' => e = .returned (.int .i64 (cmpZ a b)) ∧ w = w' := by
  unfold cmpZ
  by_cases h1 : a < b
  · rw [if_pos h1]
    go_enter Tryz.func38, Tryz.ntmps38
    go_wp2
    go_ret
    exact ⟨rfl, rfl⟩
  · rw [if_neg h1]
    by_cases h2 : b < a
    · rw [if_pos h2]
      go_enter Tryz.func38, Tryz.ntmps38
      go_wp2
      go_ret
      exact ⟨rfl, rfl⟩
    · rw [if_neg h2]
      go_enter Tryz.func38, Tryz.ntmps38
      go_wp2
      go_ret
      exact ⟨rfl, rfl⟩
theorem asign_any (a b : ByteArray) (w : World) : Calls Tryz.prog 37 #[.string a, .string b] w fun e w' => e = .returned (.int .i64 (cmpT a b)) ∧ w = w' := by
  have l1 := less_is a b
  have l2 := less_is b a
  unfold cmpT
  cases h1 : lt8 (byt a) (byt b) with
  | true =>
    rw [h1] at l1
    rw [if_pos rfl]
    go_enter Tryz.func37, Tryz.ntmps37
    go_wp2
    go_ret
    exact ⟨rfl, rfl⟩
  | false =>
    rw [h1] at l1
    rw [if_neg (by simp)]
    cases h2 : lt8 (byt b) (byt a) with
    | true =>
      rw [h2] at l2
      rw [if_pos rfl]
      have n1 : (a.toList == b.toList) = false := by
        rw [beq_eq_false_iff_ne]
        intro e
        rw [ByteArray.toList_eq, ByteArray.toList_eq] at e
        have e' : byt a = byt b := e
        rw [e', lt8_irrefl] at h2
        cases h2
      have n2 : (b.toList == a.toList) = false := by rw [beq_eq_false_iff_ne] at n1 ⊢; exact fun e => n1 e.symm
      go_enter Tryz.func37, Tryz.ntmps37
      go_wp2
      go_ret
      exact ⟨rfl, rfl⟩
    | false =>
      rw [if_neg (by simp)]
      have e := byt_inj (lt8_tri h1 h2)
      subst e
      rw [h2] at l2
      have n1 : (a.toList == a.toList) = true := by simp
      go_enter Tryz.func37, Tryz.ntmps37
      go_wp2
      go_ret
      exact ⟨rfl, rfl⟩
end Go.Proofs.YtimgocfkogebmaaGreatDoor
namespace Go.Proofs.YtimgocfkogebmaaGreatDoor
open Go.RowKit
set_option linter.unusedVariables false
set_option linter.unusedSimpArgs false
def firstN : List Int → Int
  | [] => 0
  | x :: r => thenC x (firstN r)
theorem firstN_skip : ∀ (l : List Int) (k : Nat), (∀ j, j < k → l.getD j 0 = 0) → k ≤ l.length → firstN l = firstN (l.drop k)
  | l, 0, _, _ => rfl
  | [], k + 1, _, h => by simp at h
  | x :: l, k + 1, h, hk => by
    have h0 := h 0 (by omega)
    simp at h0
    subst h0
    show thenC 0 (firstN l) = _
    unfold thenC
    rw [if_pos rfl]
    exact firstN_skip l k (fun j hj => by have := h (j + 1) (by omega); simpa using this) (by simpa using hk)
theorem firstN_at {l : List Int} {k : Nat} (h : ∀ j, j < k → l.getD j 0 = 0) (hk : k < l.length) (h0 : l.getD k 0 ≠ 0) : firstN l = l.getD k 0 := by
  rw [firstN_skip l k h (by omega), List.drop_eq_getElem_cons hk]
  have e : l.getD k 0 = l[k] := by simp [List.getD, hk]
  rw [e] at h0 ⊢
  show thenC l[k] _ = _
  unfold thenC
  rw [if_neg h0]
theorem firstN_none {l : List Int} (h : ∀ j, j < l.length → l.getD j 0 = 0) : firstN l = 0 := by
  rw [firstN_skip l l.length h (Nat.le_refl _), List.drop_length]
  rfl
def keysA (a b : AlD) : List Int := [cmpT a.file b.file, cmpZ a.line b.line, cmpT a.fn b.fn, cmpZ a.kind b.kind, cmpT a.expr b.expr, cmpZ a.sev b.sev]
theorem cmpA_first (a b : AlD) : cmpA a b = firstN (keysA a b) := by
  unfold cmpA keysA firstN firstN firstN firstN firstN firstN firstN
  have : thenC (cmpZ a.sev b.sev) 0 = cmpZ a.sev b.sev := by unfold thenC; split <;> simp_all
  rw [this]
set_option maxRecDepth 100000 in
set_option maxHeartbeats 4000000 in
theorem acmp_any (a b : AlD) (w : World) : Calls Tryz.prog 12 #[.agg #[.int .i64 a.kind, .int .i64 a.sev, .string a.fn, .string a.file, .int .i64 a.line, .string a.expr], .agg #[.int .i64 b.kind, .int .i64 b.sev, .string b.fn, .string b.file, .int .i64 b.line, .string b.expr]] w (Gives (.int .i64 (cmpA a b)) w) := by
  rw [cmpA_first]
  obtain ⟨u0, hu0⟩ : ∃ u0, u0 = (w.alloc (.cells #[.int .i64 a.kind, .int .i64 a.sev, .string a.fn, .string a.file, .int .i64 a.line, .string a.expr] 23)).alloc (.cells #[.int .i64 b.kind, .int .i64 b.sev, .string b.fn, .string b.file, .int .i64 b.line, .string b.expr] 23) := ⟨_, rfl⟩
  have b0 : Hid (Below w.heap.size w u0) := Lib.hid (by rw [hu0]; exact box2_below _ _ _ _ _)
  have Z0 : Hid (Holds u0 w.heap.size 23 #[.int .i64 a.kind, .int .i64 a.sev, .string a.fn, .string a.file, .int .i64 a.line, .string a.expr]) := Lib.hid (by rw [hu0]; exact (Holds.new w _ _).alloc _)
  have Z1 : Hid (Holds u0 (w.heap.size + 1) 23 #[.int .i64 b.kind, .int .i64 b.sev, .string b.fn, .string b.file, .int .i64 b.line, .string b.expr]) := Lib.hid (by rw [hu0]; have q := Holds.new (w.alloc (.cells #[.int .i64 a.kind, .int .i64 a.sev, .string a.fn, .string a.file, .int .i64 a.line, .string a.expr] 23)) 23 #[.int .i64 b.kind, .int .i64 b.sev, .string b.fn, .string b.file, .int .i64 b.line, .string b.expr]; simpa using q)
  have hu0' := Lib.hid hu0
  clear hu0
  have hkl : (keysA a b).length = 6 := rfl
  obtain ⟨kl, hke⟩ : ∃ kl, kl = keysA a b := ⟨_, rfl⟩
  rw [← hke] at hkl ⊢
  have q1 := Lib.hid (fun W => asign_any a.file b.file W)
  have q2 := Lib.hid (fun W => anumber_any a.line b.line W)
  have q3 := Lib.hid (fun W => asign_any a.fn b.fn W)
  have q4 := Lib.hid (fun W => anumber_any a.kind b.kind W)
  have q5 := Lib.hid (fun W => asign_any a.expr b.expr W)
  have q6 := Lib.hid (fun W => anumber_any a.sev b.sev W)
  unfold keysA at hke
  generalize cmpT a.file b.file = k1 at *
  generalize cmpZ a.line b.line = k2 at *
  generalize cmpT a.fn b.fn = k3 at *
  generalize cmpZ a.kind b.kind = k4 at *
  generalize cmpT a.expr b.expr = k5 at *
  generalize cmpZ a.sev b.sev = k6 at *
  obtain ⟨ak, asv, af, afi, al, ax⟩ := a
  obtain ⟨bk, bsv, bf, bfi, bl, bx⟩ := b
  dsimp only at *
  have y0 : ∀ W, Below u0.heap.size u0 W → W.cell? ⟨w.heap.size, 0, none⟩ = some (.int .i64 ak) := fun W hW => (Z0.out.below hW Z0.out.lt).cell 0
  have y1 : ∀ W, Below u0.heap.size u0 W → W.cell? ⟨w.heap.size, 1, none⟩ = some (.int .i64 asv) := fun W hW => (Z0.out.below hW Z0.out.lt).cell 1
  have y2 : ∀ W, Below u0.heap.size u0 W → W.cell? ⟨w.heap.size, 2, none⟩ = some (.string af) := fun W hW => (Z0.out.below hW Z0.out.lt).cell 2
  have y3 : ∀ W, Below u0.heap.size u0 W → W.cell? ⟨w.heap.size, 3, none⟩ = some (.string afi) := fun W hW => (Z0.out.below hW Z0.out.lt).cell 3
  have y4 : ∀ W, Below u0.heap.size u0 W → W.cell? ⟨w.heap.size, 4, none⟩ = some (.int .i64 al) := fun W hW => (Z0.out.below hW Z0.out.lt).cell 4
  have y5 : ∀ W, Below u0.heap.size u0 W → W.cell? ⟨w.heap.size, 5, none⟩ = some (.string ax) := fun W hW => (Z0.out.below hW Z0.out.lt).cell 5
  have z0 : ∀ W, Below u0.heap.size u0 W → W.cell? ⟨w.heap.size + 1, 0, none⟩ = some (.int .i64 bk) := fun W hW => (Z1.out.below hW Z1.out.lt).cell 0
  have z1 : ∀ W, Below u0.heap.size u0 W → W.cell? ⟨w.heap.size + 1, 1, none⟩ = some (.int .i64 bsv) := fun W hW => (Z1.out.below hW Z1.out.lt).cell 1
  have z2 : ∀ W, Below u0.heap.size u0 W → W.cell? ⟨w.heap.size + 1, 2, none⟩ = some (.string bf) := fun W hW => (Z1.out.below hW Z1.out.lt).cell 2
  have z3 : ∀ W, Below u0.heap.size u0 W → W.cell? ⟨w.heap.size + 1, 3, none⟩ = some (.string bfi) := fun W hW => (Z1.out.below hW Z1.out.lt).cell 3
  have z4 : ∀ W, Below u0.heap.size u0 W → W.cell? ⟨w.heap.size + 1, 4, none⟩ = some (.int .i64 bl) := fun W hW => (Z1.out.below hW Z1.out.lt).cell 4
  have z5 : ∀ W, Below u0.heap.size u0 W → W.cell? ⟨w.heap.size + 1, 5, none⟩ = some (.string bx) := fun W hW => (Z1.out.below hW Z1.out.lt).cell 5
  go_enter Tryz.func12, Tryz.ntmps12
  go_wp2
  rw [← hu0'.out]
  clear hu0'
  refine wp_drawn_on (fun W => Below u0.heap.size u0 W) (by kernel_rfl) ((Below.refl _ _).drew) (fun hHeld => ?_)
  refine wT 0 (v := ?v1) rfl (by kernel_rfl) (fun _ _ _ h => h) ?h1 (by assumption) ?r1
  case h1 => (intro w hSw; (try dsimp only at hSw); go_simp; try with_reducible rfl)
  refine wT 1 (v := ?v2) rfl (by kernel_rfl) (fun _ _ _ h => h) ?h2 (by assumption) ?r2
  case h2 => (intro w hSw; (try dsimp only at hSw); go_simp; try with_reducible rfl)
  refine wT 2 (v := ?v3) rfl (by kernel_rfl) (fun _ _ _ h => h) ?h3 (by assumption) ?r3
  case h3 => (intro w hSw; (try dsimp only at hSw); go_simp; try with_reducible rfl)
  refine wT 3 (v := ?v4) rfl (by kernel_rfl) (fun _ _ _ h => h) ?h4 (by assumption) ?r4
  case h4 => (intro w hSw; (try dsimp only at hSw); go_simp; try with_reducible rfl)
  refine wT 5 (v := ?v5) rfl (by kernel_rfl) (fun _ _ _ h => h) ?h5 (by assumption) ?r5
  case h5 => (intro w hSw; (try dsimp only at hSw); go_simp; try with_reducible rfl)
  refine wT 6 (v := ?v6) rfl (by kernel_rfl) (fun _ _ _ h => h) ?h6 (by assumption) ?r6
  case h6 => (intro w hSw; (try dsimp only at hSw); go_simp; try with_reducible rfl)
  refine wT 7 (v := ?v7) rfl (by kernel_rfl) (fun _ _ _ h => h) ?h7 (by assumption) ?r7
  case h7 => (intro w hSw; (try dsimp only at hSw); go_simp; try with_reducible rfl)
  refine wT 8 (v := ?v8) rfl (by kernel_rfl) (fun _ _ _ h => h) ?h8 (by assumption) ?r8
  case h8 => (intro w hSw; (try dsimp only at hSw); go_simp; try with_reducible rfl)
  refine wT 10 (v := ?v9) rfl (by kernel_rfl) (fun _ _ _ h => h) ?h9 (by assumption) ?r9
  case h9 => (intro w hSw; (try dsimp only at hSw); go_simp; try with_reducible rfl)
  refine wT 11 (v := ?v10) rfl (by kernel_rfl) (fun _ _ _ h => h) ?h10 (by assumption) ?r10
  case h10 => (intro w hSw; (try dsimp only at hSw); go_simp; try with_reducible rfl)
  refine wT 12 (v := ?v11) rfl (by kernel_rfl) (fun _ _ _ h => h) ?h11 (by assumption) ?r11
  case h11 => (intro w hSw; (try dsimp only at hSw); go_simp; try with_reducible rfl)
  refine wT 13 (v := ?v12) rfl (by kernel_rfl) (fun _ _ _ h => h) ?h12 (by assumption) ?r12
  case h12 => (intro w hSw; (try dsimp only at hSw); go_simp; try with_reducible rfl)
  refine wT 15 (v := ?v13) rfl (by kernel_rfl) (fun _ _ _ h => h) ?h13 (by assumption) ?r13
  case h13 => (intro w hSw; (try dsimp only at hSw); go_simp; try with_reducible rfl)
  refine wT 16 (v := ?v14) rfl (by kernel_rfl) (fun _ _ _ h => h) ?h14 (by assumption) ?r14
  case h14 => (intro w hSw; (try dsimp only at hSw); go_simp; try with_reducible rfl)
  refine wT 17 (v := ?v15) rfl (by kernel_rfl) (fun _ _ _ h => h) ?h15 (by assumption) ?r15
  case h15 => (intro w hSw; (try dsimp only at hSw); go_simp; try with_reducible rfl)
  refine wT 18 (v := ?v16) rfl (by kernel_rfl) (fun _ _ _ h => h) ?h16 (by assumption) ?r16
  case h16 => (intro w hSw; (try dsimp only at hSw); go_simp; try with_reducible rfl)
  refine wT 20 (v := ?v17) rfl (by kernel_rfl) (fun _ _ _ h => h) ?h17 (by assumption) ?r17
  case h17 => (intro w hSw; (try dsimp only at hSw); go_simp; try with_reducible rfl)
  refine wT 21 (v := ?v18) rfl (by kernel_rfl) (fun _ _ _ h => h) ?h18 (by assumption) ?r18
  case h18 => (intro w hSw; (try dsimp only at hSw); go_simp; try with_reducible rfl)
  refine wT 22 (v := ?v19) rfl (by kernel_rfl) (fun _ _ _ h => h) ?h19 (by assumption) ?r19
  case h19 => (intro w hSw; (try dsimp only at hSw); go_simp; try with_reducible rfl)
  refine wT 23 (v := ?v20) rfl (by kernel_rfl) (fun _ _ _ h => h) ?h20 (by assumption) ?r20
  case h20 => (intro w hSw; (try dsimp only at hSw); go_simp; try with_reducible rfl)
  refine wT 25 (v := ?v21) rfl (by kernel_rfl) (fun _ _ _ h => h) ?h21 (by assumption) ?r21
  case h21 => (intro w hSw; (try dsimp only at hSw); go_simp; try with_reducible rfl)
  refine wT 26 (v := ?v22) rfl (by kernel_rfl) (fun _ _ _ h => h) ?h22 (by assumption) ?r22
  case h22 => (intro w hSw; (try dsimp only at hSw); go_simp; try with_reducible rfl)
  refine wT 27 (v := ?v23) rfl (by kernel_rfl) (fun _ _ _ h => h) ?h23 (by assumption) ?r23
  case h23 => (intro w hSw; (try dsimp only at hSw); go_simp; try with_reducible rfl)
  refine wT 28 (v := ?v24) rfl (by kernel_rfl) (fun _ _ _ h => h) ?h24 (by assumption) ?r24
  case h24 => (intro w hSw; (try dsimp only at hSw); go_simp; try with_reducible rfl)
  try simp only [Act.put, List.setIfInBounds_toArray, List.set_cons_zero, List.set_cons_succ]
  refine wpAnyH_ready (rs := [4]) (by kernel_rfl) (by simp) ?_
  refine AllReadyH.cons (o := ⟨_, _, _, _, _, _⟩) rfl (fun K hK => ?_) AllReadyH.nil
  go_simp
  with_reducible refine (q1.out _).mono ?_
  rintro e x0 ⟨rfl, rfl⟩
  go_simp
  refine hK.out _ _ (hHeld) (fun hHeld => ?_)
  clear hK K
  try simp only [Act.put, List.setIfInBounds_toArray, List.set_cons_zero, List.set_cons_succ]
  refine wpAnyH_ready (rs := [9]) (by kernel_rfl) (by simp) ?_
  refine AllReadyH.cons (o := ⟨_, _, _, _, _, _⟩) rfl (fun K hK => ?_) AllReadyH.nil
  go_simp
  with_reducible refine (q2.out _).mono ?_
  rintro e x1 ⟨rfl, rfl⟩
  go_simp
  refine hK.out _ _ (hHeld) (fun hHeld => ?_)
  clear hK K
  try simp only [Act.put, List.setIfInBounds_toArray, List.set_cons_zero, List.set_cons_succ]
  refine wpAnyH_ready (rs := [14]) (by kernel_rfl) (by simp) ?_
  refine AllReadyH.cons (o := ⟨_, _, _, _, _, _⟩) rfl (fun K hK => ?_) AllReadyH.nil
  go_simp
  with_reducible refine (q3.out _).mono ?_
  rintro e x2 ⟨rfl, rfl⟩
  go_simp
  refine hK.out _ _ (hHeld) (fun hHeld => ?_)
  clear hK K
  try simp only [Act.put, List.setIfInBounds_toArray, List.set_cons_zero, List.set_cons_succ]
  refine wpAnyH_ready (rs := [19]) (by kernel_rfl) (by simp) ?_
  refine AllReadyH.cons (o := ⟨_, _, _, _, _, _⟩) rfl (fun K hK => ?_) AllReadyH.nil
  go_simp
  with_reducible refine (q4.out _).mono ?_
  rintro e x3 ⟨rfl, rfl⟩
  go_simp
  refine hK.out _ _ (hHeld) (fun hHeld => ?_)
  clear hK K
  try simp only [Act.put, List.setIfInBounds_toArray, List.set_cons_zero, List.set_cons_succ]
  refine wpAnyH_ready (rs := [24]) (by kernel_rfl) (by simp) ?_
  refine AllReadyH.cons (o := ⟨_, _, _, _, _, _⟩) rfl (fun K hK => ?_) AllReadyH.nil
  go_simp
  with_reducible refine (q5.out _).mono ?_
  rintro e x4 ⟨rfl, rfl⟩
  go_simp
  refine hK.out _ _ (hHeld) (fun hHeld => ?_)
  clear hK K
  try simp only [Act.put, List.setIfInBounds_toArray, List.set_cons_zero, List.set_cons_succ]
  refine wpAnyH_ready (rs := [29]) (by kernel_rfl) (by simp) ?_
  refine AllReadyH.cons (o := ⟨_, _, _, _, _, _⟩) rfl (fun K hK => ?_) AllReadyH.nil
  go_simp
  with_reducible refine (q6.out _).mono ?_
  rintro e x5 ⟨rfl, rfl⟩
  go_simp
  refine hK.out _ _ (hHeld) (fun hHeld => ?_)
  clear hK K
  try simp only [Act.put, List.setIfInBounds_toArray, List.set_cons_zero, List.set_cons_succ]
  refine wpAnyH_ready (rs := [30]) (by kernel_rfl) (by simp) ?_
  refine AllReadyH.cons (o := ⟨_, _, _, _, _, _⟩) rfl (fun K hK => ?_) AllReadyH.nil
  go_simp
  obtain ⟨v30, hv30⟩ : ∃ v30, v30 = (u0.alloc (.cells #[.int .i64 k1, .int .i64 k2, .int .i64 k3, .int .i64 k4, .int .i64 k5, .int .i64 k6] 3)).drew := ⟨_, rfl⟩
  have hx30 : Below u0.heap.size u0 v30 := (by rw [hv30]; exact (box_below _ _ _).drew)
  have hr : ∀ i, i < kl.length → v30.cell? ⟨u0.heap.size, i, none⟩ = some (.int .i64 (kl.getD i 0)) := (by intro i hi; rw [hv30, hke]; rw [hkl] at hi; have q := (Holds.new u0 3 #[.int .i64 k1, .int .i64 k2, .int .i64 k3, .int .i64 k4, .int .i64 k5, .int .i64 k6]).drew.cell i; rw [q]; rcases (show i = 0 ∨ i = 1 ∨ i = 2 ∨ i = 3 ∨ i = 4 ∨ i = 5 by omega) with rfl | rfl | rfl | rfl | rfl | rfl <;> rfl)
  rw [← hv30]
  have hlt : u0.heap.size < v30.heap.size := (by rw [hv30]; simp)
  clear hv30
  refine hK.out _ _ (hx30) (fun hHeld => ?_)
  clear hK K
  refine wT 31 (v := ?v25) rfl (by kernel_rfl) (fun _ _ _ h => h) ?h25 (by assumption) ?r25
  case h25 => (intro w hSw; (try dsimp only at hSw); go_simp; try with_reducible rfl)
  try simp only [Act.put, List.setIfInBounds_toArray, List.set_cons_zero, List.set_cons_succ]
  refine wpAnyH_done (by kernel_rfl) ?_ _
  have hx := Lib.hid hHeld
  have hr' := Lib.hid hr
  have hk6 : kl.length ≤ 6 := by omega
  clear hHeld hr y0 y1 y2 y3 y4 y5 z0 z1 z2 z3 z4 z5 q1 q2 q3 q4 q5 q6 hke Z0 Z1
  have hsz := b0.out.size
  go_wp2
  go_loop [6] (fun x => ∃ i : Nat, i ≤ 6 ∧ x = .int .i64 i ∧ Hid (∀ j, j < i → kl.getD j 0 = 0)) (fun x => 6 - (intOf x).toNat)
  case atStart => exact ⟨0, by omega, rfl, Lib.hid (fun j hj => by omega)⟩
  case round =>
    obtain ⟨i, hi, rfl, hz⟩ := hrel
    by_cases hlt6 : i < 6
    · have hii : (i : Int) < 6 := by omega
      have hc := hr'.out i (by omega)
      have hat := Lib.hid (fun h0 => firstN_at hz.out (show i < kl.length by omega) h0)
      have hnext : Hid (kl.getD i 0 = 0 → ∀ j, j < i + 1 → kl.getD j 0 = 0) := Lib.hid (fun h j hj => by
        by_cases e : j = i
        · rw [e]; exact h
        · exact hz.out j (by omega))
      generalize kl.getD i 0 = v at hc hat hnext
      by_cases h0 : v = 0
      · have hn := Lib.hid (hnext.out h0)
        subst h0
        clear hat
        go_wp2
        go_round
        case rel => exact ⟨i + 1, by omega, by go_num, hn⟩
        case measure => simp [intOf]; omega
      · have h0' : (v == 0) = false := by rw [beq_eq_false_iff_ne]; exact h0
        have hv := Lib.hid (hat.out h0)
        clear hat hnext
        go_wp2
        go_ret
        exact ⟨by rw [hv.out]; rfl, b0.out.trans (hx.out.mono b0.out.size)⟩
    · have hii : ¬ (i : Int) < 6 := by omega
      have hv := Lib.hid (firstN_none (l := kl) (fun j hj => hz.out j (by omega)))
      go_wp2
      go_ret
      exact ⟨by rw [hv.out]; rfl, b0.out.trans (hx.out.mono b0.out.size)⟩
end Go.Proofs.YtimgocfkogebmaaGreatDoor
namespace Go.Proofs.YtimgocfkogebmaaGreatDoor
open Go.RowKit
set_option linter.unusedVariables false
set_option linter.unusedSimpArgs false
theorem snan_any (x : ByteArray) (w : World) : Calls Tryz.prog 118 #[.string x] w fun e w' => e = .returned (.bool false) ∧ w = w' := by
  have n1 : (x.toList == x.toList) = true := by simp
  go_enter Tryz.func118, Tryz.ntmps118
  go_wp2
  go_ret
  exact ⟨rfl, rfl⟩
theorem inan_any (x : Int) (w : World) : Calls Tryz.prog 119 #[.int .i64 x] w fun e w' => e = .returned (.bool false) ∧ w = w' := by
  go_enter Tryz.func119, Tryz.ntmps119
  go_wp2
  go_ret
  exact ⟨rfl, rfl⟩
theorem scompare_any (a b : ByteArray) (w : World) : Calls Tryz.prog 72 #[.string a, .string b] w fun e w' => e = .returned (.int .i64 (cmpT a b)) ∧ w = w' := by
  have l1 := less_is a b
  have q := Lib.hid (fun x W => snan_any x W)
  unfold cmpT
  cases h1 : lt8 (byt a) (byt b) with
  | true =>
    rw [h1] at l1
    rw [if_pos rfl]
    go_enter Tryz.func72, Tryz.ntmps72
    go_wp2_with fail
    with_reducible refine (q.out _ _).mono ?_
    rintro e w1 ⟨rfl, rfl⟩
    go_wp2_with fail
    with_reducible refine (q.out _ _).mono ?_
    rintro e w2 ⟨rfl, rfl⟩
    go_wp2
    go_ret
    exact ⟨rfl, rfl⟩
  | false =>
    rw [h1] at l1
    rw [if_neg (by simp)]
    cases h2 : lt8 (byt b) (byt a) with
    | true =>
      rw [if_pos rfl]
      have n1 : (a.toList == b.toList) = false := by
        rw [beq_eq_false_iff_ne]
        intro e
        rw [ByteArray.toList_eq, ByteArray.toList_eq] at e
        have e' : byt a = byt b := e
        rw [e', lt8_irrefl] at h2
        cases h2
      clear h1 h2
      go_enter Tryz.func72, Tryz.ntmps72
      go_wp2_with fail
      with_reducible refine (q.out _ _).mono ?_
      rintro e w1 ⟨rfl, rfl⟩
      go_wp2_with fail
      with_reducible refine (q.out _ _).mono ?_
      rintro e w2 ⟨rfl, rfl⟩
      go_wp2
      go_ret
      exact ⟨rfl, rfl⟩
    | false =>
      rw [if_neg (by simp)]
      have e := byt_inj (lt8_tri h1 h2)
      subst e
      have n1 : (a.toList == a.toList) = true := by simp
      clear h1 h2
      go_enter Tryz.func72, Tryz.ntmps72
      go_wp2_with fail
      with_reducible refine (q.out _ _).mono ?_
      rintro e w1 ⟨rfl, rfl⟩
      go_wp2_with fail
      with_reducible refine (q.out _ _).mono ?_
      rintro e w2 ⟨rfl, rfl⟩
      go_wp2
      go_ret
      exact ⟨rfl, rfl⟩
theorem icompare_any (a b : Int) (w : World) : Calls Tryz.prog 74 #[.int .i64 a, .int .i64 b] w fun e w' => e = .returned (.int .i64 (cmpZ a b)) ∧ w = w' := by
  have q := Lib.hid (fun x W => inan_any x W)
  unfold cmpZ
  by_cases h1 : a < b
  · rw [if_pos h1]
    go_enter Tryz.func74, Tryz.ntmps74
    go_wp2_with fail
    with_reducible refine (q.out _ _).mono ?_
    rintro e w1 ⟨rfl, rfl⟩
    go_wp2_with fail
    with_reducible refine (q.out _ _).mono ?_
    rintro e w2 ⟨rfl, rfl⟩
    go_wp2
    go_ret
    exact ⟨rfl, rfl⟩
  · rw [if_neg h1]
    by_cases h2 : b < a
    · rw [if_pos h2]
      go_enter Tryz.func74, Tryz.ntmps74
      go_wp2_with fail
      with_reducible refine (q.out _ _).mono ?_
      rintro e w1 ⟨rfl, rfl⟩
      go_wp2_with fail
      with_reducible refine (q.out _ _).mono ?_
      rintro e w2 ⟨rfl, rfl⟩
      go_wp2
      go_ret
      exact ⟨rfl, rfl⟩
    · rw [if_neg h2]
      go_enter Tryz.func74, Tryz.ntmps74
      go_wp2_with fail
      with_reducible refine (q.out _ _).mono ?_
      rintro e w1 ⟨rfl, rfl⟩
      go_wp2_with fail
      with_reducible refine (q.out _ _).mono ?_
      rintro e w2 ⟨rfl, rfl⟩
      go_wp2
      go_ret
      exact ⟨rfl, rfl⟩
end Go.Proofs.YtimgocfkogebmaaGreatDoor
namespace Go.Proofs.YtimgocfkogebmaaGreatDoor
open Go.RowKit Go.Sort
set_option linter.unusedVariables false
def Grows (w w' : World) : Prop := ∃ (q : Nat) (os : Array Obj), w' = grow (w.drewN q) os
theorem Grows.refl (w : World) : Grows w w := ⟨0, #[], by rw [grow_empty]; rfl⟩
theorem Grows.drewN {w w' : World} (h : Grows w w') (n : Nat) : Grows w (w'.drewN n) := by
  obtain ⟨q, os, rfl⟩ := h
  refine ⟨q + n, os, ?_⟩
  show World.drewN (grow _ _) n = _
  unfold grow World.drewN
  simp [Nat.add_assoc]
theorem Grows.drew {w w' : World} (h : Grows w w') : Grows w w'.drew := h.drewN 1
theorem Grows.trans {a b c : World} (h : Grows a b) (k : Grows b c) : Grows a c := by
  obtain ⟨q, os, rfl⟩ := k
  obtain ⟨q', os', hw⟩ := h.drewN q
  rw [hw]
  exact ⟨q', os' ++ os, grow_grow _ _ _⟩
theorem Grows.alloc {a w : World} (h : Grows a w) (o : Obj) : Grows a (w.alloc o) := h.trans ⟨0, #[o], by rw [alloc_eq_grow]; rfl⟩
theorem Grows.below {w w' : World} (h : Grows w w') : Below w.heap.size w w' := by
  obtain ⟨q, os, rfl⟩ := h
  refine ⟨rfl, rfl, rfl, ?_, fun k hk => ?_⟩
  · rw [size_grow]; exact Nat.le_add_right _ _
  · exact heap_grow_old (w.drewN q) os hk
theorem Grows.size {w w' : World} (h : Grows w w') : w.heap.size ≤ w'.heap.size := h.below.size
def GivesG (v : Value) (w : World) (e : Ending) (w' : World) : Prop := e = .returned v ∧ Grows w w'
theorem GivesG.gives {v : Value} {w w' : World} {e : Ending} (h : GivesG v w e w') : Gives v w e w' := ⟨h.1, h.2.below⟩
end Go.Proofs.YtimgocfkogebmaaGreatDoor
