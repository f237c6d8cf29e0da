import Derived.Test.YtplgmmjppmpnoaaDoorRows
import Derived.LaidSub
import Derived.MakeChecks
import Derived.LaidMore
import Derived.Test.YtplgmmjppmpnoaaDoorQ09
import Derived.Test.YtplgmmjppmpnoaaDoorQ12
import Derived.Test.YtplgmmjppmpnoaaDoorQ13
/- PostTells: the walk of the statement's function. (Written by gen-post-tells.py.) -/
namespace Go.Proofs.YtplgmmjppmpnoaaDoor
open Go.RowKit
set_option linter.unusedVariables false
set_option linter.unusedSimpArgs false

theorem zoneR_len {n : Int} {l : List Int} {w w' : World} {e : Ending} (h : ZoneR n l w e w') : ∃ a c, e = .returned (.agg #[.int .i64 n, .slice a l.length c]) ∧ SL w' a l.length c l ∧ Below w.heap.size w w' := by
  obtain ⟨a, m, c, rfl, hs, hb⟩ := h
  obtain rfl := hs.len
  exact ⟨a, c, rfl, hs, hb⟩
theorem zoneE_len {n E : Int} {l : List Int} {w w' : World} {e : Ending} (hl : l.length ≤ 81) (h : ZoneE n l E w e w') : ∃ a c, e = .returned (.tuple #[.agg #[.int .i64 n, .slice a l.length c], .int .i64 E]) ∧ SL w' a l.length c l ∧ Below w.heap.size w w' := by
  obtain ⟨a, c, rfl, hc, hs, hb, -⟩ := h
  exact ⟨a, c, rfl, ⟨rfl, hc, by omega, hs⟩, hb⟩
theorem zoneE_none {n E : Int} {w w' : World} {e : Ending} (h : ZoneE n [] E w e w') : ∃ a c, e = .returned (.tuple #[.agg #[.int .i64 n, .slice a 0 c], .int .i64 E]) ∧ SL w' a 0 c [] ∧ Below w.heap.size w w' := zoneE_len (by simp) h
theorem post_bad {n k x y c d E : Int} {l : List Int} (h : pchk n l k x y c d = E) (hE : E ≠ 0) (a : Option Addr) (m ca : Nat) (w : World) (hs : SL w a m ca l) : Calls Tryd.prog 7 #[.agg #[.int .i64 n, .slice a m ca], .agg #[.int .i64 k, .int .i64 x, .int .i64 y, .int .i64 c, .int .i64 d]] w (ZoneE 0 [] E w) := by
  unfold pchk at h
  cases hk : checkB n l
  · rw [if_pos hk] at h; subst h; exact post_z n k x y c d l hk a m ca w hs
  · rw [if_neg (by rw [hk]; decide)] at h
    cases hr : rightB k x y c d n
    · rw [if_pos hr] at h; subst h; exact post_s n k x y c d l hk hr a m ca w hs
    · rw [if_neg (by rw [hr]; decide)] at h; omega
theorem fault_bad {n k x y c d E : Int} {l : List Int} (h : pchk n l k x y c d = E) (hE : E ≠ 0) (a : Option Addr) (m ca : Nat) (w : World) (hs : SL w a m ca l) : Calls Tryd.prog 8 #[.agg #[.int .i64 n, .slice a m ca], .agg #[.int .i64 k, .int .i64 x, .int .i64 y, .int .i64 c, .int .i64 d]] w (ZoneE 0 [] E w) := by
  unfold pchk at h
  cases hk : checkB n l
  · rw [if_pos hk] at h; subst h; exact fault_z n k x y c d l hk a m ca w hs
  · rw [if_neg (by rw [hk]; decide)] at h
    cases hr : rightB k x y c d n
    · rw [if_pos hr] at h; subst h; exact fault_s n k x y c d l hk hr a m ca w hs
    · rw [if_neg (by rw [hr]; decide)] at h; omega
set_option maxRecDepth 100000 in
set_option maxHeartbeats 4000000 in
theorem tells_large (n : Int) (k x y c d : Int) (a : Option Addr) (m ca : Nat) (l : List Int) (w : World) (h1 : SL w a m ca l) (g1 : 200 < m) : Calls Tryd.prog 3 #[.agg #[.int .i64 n, .slice a m ca], .agg #[.int .i64 k, .int .i64 x, .int .i64 y, .int .i64 c, .int .i64 d]] w (Gives (.bool true) w) := by
  obtain ⟨W1, hW1⟩ : ∃ W1, W1 = (w.alloc (.cells #[.int .i64 n, .slice a m ca] 24)).alloc (.cells #[.int .i64 k, .int .i64 x, .int .i64 y, .int .i64 c, .int .i64 d] 26) := ⟨_, rfl⟩
  have Z1 : Hid (Holds W1 (w.heap.size) 24 #[.int .i64 n, .slice a m ca]) := Lib.hid (by rw [hW1]; exact (Holds.new w _ _).alloc _)
  have Zs : Hid (Holds W1 (w.heap.size + 1) 26 #[.int .i64 k, .int .i64 x, .int .i64 y, .int .i64 c, .int .i64 d]) := Lib.hid (by rw [hW1]; have q := Holds.new (w.alloc (.cells #[.int .i64 n, .slice a m ca] 24)) 26 #[.int .i64 k, .int .i64 x, .int .i64 y, .int .i64 c, .int .i64 d]; simpa using q)
  have BL := Lib.hid (show Below w.heap.size w W1 by rw [hW1]; exact (box_below _ _ _).alloc (by simp) _)
  have S1 := Lib.hid (h1.below BL.out)
  have hW1' := Lib.hid hW1
  clear hW1
  clear h1
  go_enter Tryd.func3, Tryd.ntmps3
  have k1 := Z1.out.cell 0
  have k2 := Z1.out.cell 1
  have k3 := Zs.out.cell 0
  have k4 := Zs.out.cell 1
  have k5 := Zs.out.cell 2
  have k6 := Zs.out.cell 3
  have k7 := Zs.out.cell 4
  have q := Lib.hid (by have := large_any a m ca S1.out.max W1; rwa [decide_eq_true (show (200 : Int) < (m : Int) by omega)] at this)
  go_wp2_with fail
  rw [← hW1'.out]
  with_reducible refine q.out.mono ?_
  rintro e u1 ⟨rfl, rfl⟩
  clear hW1'
  clear q
  go_wp2_with fail
  refine (plives_any _).mono ?_
  rintro e w9 ⟨rfl, b9⟩
  have bw := Lib.hid (BL.out.trans (b9.mono BL.out.size))
  clear b9
  clear k1 k2 k3 k4 k5 k6 k7
  go_wp2
  go_ret
  exact ⟨rfl, bw.out⟩
set_option maxRecDepth 100000 in
set_option maxHeartbeats 4000000 in
theorem tells_bad (n : Int) (k x y c d : Int) (a : Option Addr) (m ca : Nat) (l : List Int) (w : World) (h1 : SL w a m ca l) (g1 : ¬ 200 < m) (g2 : pchk n l k x y c d ≠ 0) : Calls Tryd.prog 3 #[.agg #[.int .i64 n, .slice a m ca], .agg #[.int .i64 k, .int .i64 x, .int .i64 y, .int .i64 c, .int .i64 d]] w (Gives (.bool true) w) := by
  obtain ⟨E, hE⟩ : ∃ E, pchk n l k x y c d = E := ⟨_, rfl⟩
  rw [hE] at g2
  have qA := Lib.hid (fun W hs => (post_bad hE g2 a m ca W hs).mono (fun e w' h => zoneE_none h))
  have qB := Lib.hid (fun W hs => (fault_bad hE g2 a m ca W hs).mono (fun e w' h => zoneE_none h))
  have qM := Lib.hid (fun W (hs : SL W a m ca l) => may_bad n k x y c d E g2 a m ca W (fun W2 b => fault_bad hE g2 a m ca W2 (hs.below b)))
  have qU := Lib.hid (fun W (hs : SL W a m ca l) => must_bad n k x y c d E g2 a m ca W (fun W2 b => post_bad hE g2 a m ca W2 (hs.below b)))
  have hck := Lib.hid hE
  have gb : (E != 0) = true := by simpa using g2
  have gc : (E != E) = false := by simp
  clear hE g2
  obtain ⟨W1, hW1⟩ : ∃ W1, W1 = (w.alloc (.cells #[.int .i64 n, .slice a m ca] 24)).alloc (.cells #[.int .i64 k, .int .i64 x, .int .i64 y, .int .i64 c, .int .i64 d] 26) := ⟨_, rfl⟩
  have Z1 : Hid (Holds W1 (w.heap.size) 24 #[.int .i64 n, .slice a m ca]) := Lib.hid (by rw [hW1]; exact (Holds.new w _ _).alloc _)
  have Zs : Hid (Holds W1 (w.heap.size + 1) 26 #[.int .i64 k, .int .i64 x, .int .i64 y, .int .i64 c, .int .i64 d]) := Lib.hid (by rw [hW1]; have q := Holds.new (w.alloc (.cells #[.int .i64 n, .slice a m ca] 24)) 26 #[.int .i64 k, .int .i64 x, .int .i64 y, .int .i64 c, .int .i64 d]; simpa using q)
  have BL := Lib.hid (show Below w.heap.size w W1 by rw [hW1]; exact (box_below _ _ _).alloc (by simp) _)
  have S1 := Lib.hid (h1.below BL.out)
  have hW1' := Lib.hid hW1
  clear hW1
  clear h1
  go_enter Tryd.func3, Tryd.ntmps3
  have k1 := Z1.out.cell 0
  have k2 := Z1.out.cell 1
  have k3 := Zs.out.cell 0
  have k4 := Zs.out.cell 1
  have k5 := Zs.out.cell 2
  have k6 := Zs.out.cell 3
  have k7 := Zs.out.cell 4
  have q := Lib.hid (by have := large_any a m ca S1.out.max W1; rwa [decide_eq_false (show ¬ (200 : Int) < (m : Int) by omega)] at this)
  go_wp2_with fail
  rw [← hW1'.out]
  with_reducible refine q.out.mono ?_
  rintro e u1 ⟨rfl, rfl⟩
  clear hW1'
  clear q
  have q := Lib.hid (by have := rchk_any n k x y c d l a m ca W1 S1.out; rwa [hck.out] at this)
  go_wp2_with fail
  with_reducible refine q.out.mono ?_
  rintro e u3 ⟨rfl, b3⟩
  clear k1 k2 k3 k4 k5 k6 k7
  clear q
  have k8 : u3.cell? ⟨w.heap.size, 0, none⟩ = some (.int .i64 n) := (Z1.out.below b3 Z1.out.lt).cell 0
  have k9 : u3.cell? ⟨w.heap.size, 1, none⟩ = some (.slice a m ca) := (Z1.out.below b3 Z1.out.lt).cell 1
  have k10 : u3.cell? ⟨w.heap.size + 1, 0, none⟩ = some (.int .i64 k) := (Zs.out.below b3 Zs.out.lt).cell 0
  have k11 : u3.cell? ⟨w.heap.size + 1, 1, none⟩ = some (.int .i64 x) := (Zs.out.below b3 Zs.out.lt).cell 1
  have k12 : u3.cell? ⟨w.heap.size + 1, 2, none⟩ = some (.int .i64 y) := (Zs.out.below b3 Zs.out.lt).cell 2
  have k13 : u3.cell? ⟨w.heap.size + 1, 3, none⟩ = some (.int .i64 c) := (Zs.out.below b3 Zs.out.lt).cell 3
  have k14 : u3.cell? ⟨w.heap.size + 1, 4, none⟩ = some (.int .i64 d) := (Zs.out.below b3 Zs.out.lt).cell 4
  replace Z1 := Lib.hid (Z1.out.below b3 Z1.out.lt)
  replace Zs := Lib.hid (Zs.out.below b3 Zs.out.lt)
  replace BL := Lib.hid (BL.out.trans (b3.mono BL.out.size))
  replace S1 := Lib.hid (S1.out.below b3)
  clear b3
  have q := Lib.hid (qA.out _ S1.out)
  go_wp2_with fail
  with_reducible refine q.out.mono ?_
  rintro e uA ⟨aA, cA, rfl, sA, bA⟩
  clear k8 k9 k10 k11 k12 k13 k14
  clear q qA
  have k15 : uA.cell? ⟨w.heap.size, 0, none⟩ = some (.int .i64 n) := (Z1.out.below bA Z1.out.lt).cell 0
  have k16 : uA.cell? ⟨w.heap.size, 1, none⟩ = some (.slice a m ca) := (Z1.out.below bA Z1.out.lt).cell 1
  have k17 : w.heap.size < uA.heap.size := (Z1.out.below bA Z1.out.lt).lt
  have k18 : uA.cell? ⟨w.heap.size + 1, 0, none⟩ = some (.int .i64 k) := (Zs.out.below bA Zs.out.lt).cell 0
  have k19 : uA.cell? ⟨w.heap.size + 1, 1, none⟩ = some (.int .i64 x) := (Zs.out.below bA Zs.out.lt).cell 1
  have k20 : uA.cell? ⟨w.heap.size + 1, 2, none⟩ = some (.int .i64 y) := (Zs.out.below bA Zs.out.lt).cell 2
  have k21 : uA.cell? ⟨w.heap.size + 1, 3, none⟩ = some (.int .i64 c) := (Zs.out.below bA Zs.out.lt).cell 3
  have k22 : uA.cell? ⟨w.heap.size + 1, 4, none⟩ = some (.int .i64 d) := (Zs.out.below bA Zs.out.lt).cell 4
  have k23 : w.heap.size + 1 < uA.heap.size := (Zs.out.below bA Zs.out.lt).lt
  have B0 := box_below uA #[.int .i64 0, .slice aA 0 cA] 24
  have B := bA.trans (B0.mono bA.size)
  replace Z1 := Lib.hid (Z1.out.below B Z1.out.lt)
  replace Zs := Lib.hid (Zs.out.below B Zs.out.lt)
  replace BL := Lib.hid (BL.out.trans (B.mono BL.out.size))
  replace S1 := Lib.hid (S1.out.below B)
  have ZA := Lib.hid (Holds.new uA 24 #[.int .i64 0, .slice aA 0 cA])
  have SA := Lib.hid (sA.below B0)
  clear bA B B0 sA
  have q := Lib.hid (qB.out _ S1.out)
  go_wp2_with fail
  with_reducible refine q.out.mono ?_
  rintro e uB ⟨aB, cB, rfl, sB, bB⟩
  clear k15 k16 k17 k18 k19 k20 k21 k22 k23
  clear q qB
  have B0 := box_below uB #[.int .i64 0, .slice aB 0 cB] 24
  have B := bB.trans (B0.mono bB.size)
  replace Z1 := Lib.hid (Z1.out.below B Z1.out.lt)
  replace Zs := Lib.hid (Zs.out.below B Zs.out.lt)
  replace ZA := Lib.hid (ZA.out.below B ZA.out.lt)
  replace BL := Lib.hid (BL.out.trans (B.mono BL.out.size))
  replace S1 := Lib.hid (S1.out.below B)
  replace SA := Lib.hid (SA.out.below B)
  have ZB := Lib.hid (Holds.new uB 24 #[.int .i64 0, .slice aB 0 cB])
  have SB := Lib.hid (sB.below B0)
  clear bB B B0 sB
  have q := Lib.hid (plives_any (uB.alloc (.cells #[.int .i64 0, .slice aB 0 cB] 24)))
  go_wp2_with fail
  with_reducible refine q.out.mono ?_
  rintro e uL ⟨rfl, bL⟩
  clear q
  have k24 : uL.cell? ⟨uA.heap.size, 0, none⟩ = some (.int .i64 0) := (ZA.out.below bL ZA.out.lt).cell 0
  have k25 : uL.cell? ⟨uA.heap.size, 1, none⟩ = some (.slice aA 0 cA) := (ZA.out.below bL ZA.out.lt).cell 1
  replace Z1 := Lib.hid (Z1.out.below bL Z1.out.lt)
  replace Zs := Lib.hid (Zs.out.below bL Zs.out.lt)
  replace ZA := Lib.hid (ZA.out.below bL ZA.out.lt)
  replace ZB := Lib.hid (ZB.out.below bL ZB.out.lt)
  replace BL := Lib.hid (BL.out.trans (bL.mono BL.out.size))
  replace S1 := Lib.hid (S1.out.below bL)
  replace SA := Lib.hid (SA.out.below bL)
  replace SB := Lib.hid (SB.out.below bL)
  clear bL
  have q := Lib.hid (zrnil _ aA cA SA.out)
  go_wp2_with fail
  with_reducible refine q.out.mono ?_
  rintro e uP ⟨rfl, bP⟩
  clear k24 k25
  clear q
  have k26 : uP.cell? ⟨uB.heap.size, 0, none⟩ = some (.int .i64 0) := (ZB.out.below bP ZB.out.lt).cell 0
  have k27 : uP.cell? ⟨uB.heap.size, 1, none⟩ = some (.slice aB 0 cB) := (ZB.out.below bP ZB.out.lt).cell 1
  replace Z1 := Lib.hid (Z1.out.below bP Z1.out.lt)
  replace Zs := Lib.hid (Zs.out.below bP Zs.out.lt)
  replace ZA := Lib.hid (ZA.out.below bP ZA.out.lt)
  replace ZB := Lib.hid (ZB.out.below bP ZB.out.lt)
  replace BL := Lib.hid (BL.out.trans (bP.mono BL.out.size))
  replace S1 := Lib.hid (S1.out.below bP)
  replace SA := Lib.hid (SA.out.below bP)
  replace SB := Lib.hid (SB.out.below bP)
  clear bP
  have q := Lib.hid (zrnil _ aB cB SB.out)
  go_wp2_with fail
  with_reducible refine q.out.mono ?_
  rintro e uQ ⟨rfl, bQ⟩
  clear k26 k27
  clear q
  have k28 : uQ.cell? ⟨w.heap.size, 0, none⟩ = some (.int .i64 n) := (Z1.out.below bQ Z1.out.lt).cell 0
  have k29 : uQ.cell? ⟨w.heap.size, 1, none⟩ = some (.slice a m ca) := (Z1.out.below bQ Z1.out.lt).cell 1
  have k30 : uQ.cell? ⟨w.heap.size + 1, 0, none⟩ = some (.int .i64 k) := (Zs.out.below bQ Zs.out.lt).cell 0
  have k31 : uQ.cell? ⟨w.heap.size + 1, 1, none⟩ = some (.int .i64 x) := (Zs.out.below bQ Zs.out.lt).cell 1
  have k32 : uQ.cell? ⟨w.heap.size + 1, 2, none⟩ = some (.int .i64 y) := (Zs.out.below bQ Zs.out.lt).cell 2
  have k33 : uQ.cell? ⟨w.heap.size + 1, 3, none⟩ = some (.int .i64 c) := (Zs.out.below bQ Zs.out.lt).cell 3
  have k34 : uQ.cell? ⟨w.heap.size + 1, 4, none⟩ = some (.int .i64 d) := (Zs.out.below bQ Zs.out.lt).cell 4
  replace Z1 := Lib.hid (Z1.out.below bQ Z1.out.lt)
  replace Zs := Lib.hid (Zs.out.below bQ Zs.out.lt)
  replace ZA := Lib.hid (ZA.out.below bQ ZA.out.lt)
  replace ZB := Lib.hid (ZB.out.below bQ ZB.out.lt)
  replace BL := Lib.hid (BL.out.trans (bQ.mono BL.out.size))
  replace S1 := Lib.hid (S1.out.below bQ)
  replace SA := Lib.hid (SA.out.below bQ)
  replace SB := Lib.hid (SB.out.below bQ)
  clear bQ
  have q := Lib.hid (qM.out _ S1.out)
  go_wp2_with fail
  with_reducible refine q.out.mono ?_
  rintro e uM ⟨rfl, bM⟩
  clear k28 k29 k30 k31 k32 k33 k34
  clear q
  have k35 : uM.cell? ⟨w.heap.size, 0, none⟩ = some (.int .i64 n) := (Z1.out.below bM Z1.out.lt).cell 0
  have k36 : uM.cell? ⟨w.heap.size, 1, none⟩ = some (.slice a m ca) := (Z1.out.below bM Z1.out.lt).cell 1
  have k37 : uM.cell? ⟨w.heap.size + 1, 0, none⟩ = some (.int .i64 k) := (Zs.out.below bM Zs.out.lt).cell 0
  have k38 : uM.cell? ⟨w.heap.size + 1, 1, none⟩ = some (.int .i64 x) := (Zs.out.below bM Zs.out.lt).cell 1
  have k39 : uM.cell? ⟨w.heap.size + 1, 2, none⟩ = some (.int .i64 y) := (Zs.out.below bM Zs.out.lt).cell 2
  have k40 : uM.cell? ⟨w.heap.size + 1, 3, none⟩ = some (.int .i64 c) := (Zs.out.below bM Zs.out.lt).cell 3
  have k41 : uM.cell? ⟨w.heap.size + 1, 4, none⟩ = some (.int .i64 d) := (Zs.out.below bM Zs.out.lt).cell 4
  replace Z1 := Lib.hid (Z1.out.below bM Z1.out.lt)
  replace Zs := Lib.hid (Zs.out.below bM Zs.out.lt)
  replace ZA := Lib.hid (ZA.out.below bM ZA.out.lt)
  replace ZB := Lib.hid (ZB.out.below bM ZB.out.lt)
  replace BL := Lib.hid (BL.out.trans (bM.mono BL.out.size))
  replace S1 := Lib.hid (S1.out.below bM)
  replace SA := Lib.hid (SA.out.below bM)
  replace SB := Lib.hid (SB.out.below bM)
  clear bM
  have q := Lib.hid (qU.out _ S1.out)
  go_wp2_with fail
  with_reducible refine q.out.mono ?_
  rintro e uU ⟨rfl, bU⟩
  clear k35 k36 k37 k38 k39 k40 k41
  clear q
  replace Z1 := Lib.hid (Z1.out.below bU Z1.out.lt)
  replace Zs := Lib.hid (Zs.out.below bU Zs.out.lt)
  replace ZA := Lib.hid (ZA.out.below bU ZA.out.lt)
  replace ZB := Lib.hid (ZB.out.below bU ZB.out.lt)
  replace BL := Lib.hid (BL.out.trans (bU.mono BL.out.size))
  replace S1 := Lib.hid (S1.out.below bU)
  replace SA := Lib.hid (SA.out.below bU)
  replace SB := Lib.hid (SB.out.below bU)
  clear bU
  go_wp2
  go_ret
  exact ⟨rfl, BL.out⟩
set_option maxRecDepth 100000 in
set_option maxHeartbeats 4000000 in
theorem tells_ok_a (n : Nat) (k x y c d : Int) (a : Option Addr) (m ca : Nat) (l : List Int) (w : World) (h1 : SL w a m ca l) (g1 : ¬ 200 < m) (z1 : IsZ n l) (hr : rightB k x y c d n = true) (he : decide (faultL n l k x y c = []) = true) : Calls Tryd.prog 3 #[.agg #[.int .i64 n, .slice a m ca], .agg #[.int .i64 k, .int .i64 x, .int .i64 y, .int .i64 c, .int .i64 d]] w (Gives (.bool true) w) := by
  have hck : Hid (pchk n l k x y c d = 0) := Lib.hid (by unfold pchk; rw [z1.check, hr]; simp)
  have hXP := postL_isz z1 k x y c d
  have hXF := faultL_isz z1 k x y c
  have qA := Lib.hid (fun W hs => (post_ok n k x y c d l z1 hr a m ca W hs).mono (fun e w' h => zoneE_len hXP.small h))
  have qB := Lib.hid (fun W hs => (fault_ok n k x y c d l z1 hr a m ca W hs).mono (fun e w' h => zoneE_len hXF.small h))
  have qM := Lib.hid (fun W (hs : SL W a m ca l) => may_of n k x y c d _ hXF a m ca W (fun W2 b => fault_ok n k x y c d l z1 hr a m ca W2 (hs.below b)))
  have qU := Lib.hid (fun W (hs : SL W a m ca l) => must_of n k x y c d _ hXP (!decide (faultL n l k x y c = [])) a m ca W (fun W2 b => post_ok n k x y c d l z1 hr a m ca W2 (hs.below b)) (fun W2 b => may_of n k x y c d _ hXF a m ca W2 (fun W3 b3 => fault_ok n k x y c d l z1 hr a m ca W3 ((hs.below b).below b3))))
  have qR := Lib.hid (fun W hs => (rfault_any n k x y c d l z1 hr a m ca W hs).mono (fun e w' h => zoneR_len h))
  have qP := Lib.hid (fun W hs => (rpost_any n k x y c d l z1 hr a m ca W hs).mono (fun e w' h => zoneR_len h))
  rw [must_is z1 hr, he] at qU
  rw [he] at qM
  simp only [Bool.not_true, Bool.not_false, Bool.false_and, Bool.true_and] at qU qM
  have p2 : ¬ (0 : Int) < ((faultL n l k x y c).length : Int) := by rw [of_decide_eq_true he]; simp
  clear z1 hr he hXP hXF
  generalize postL n l k x y c d = P at *
  generalize faultL n l k x y c = R at *
  obtain ⟨W1, hW1⟩ : ∃ W1, W1 = (w.alloc (.cells #[.int .i64 n, .slice a m ca] 24)).alloc (.cells #[.int .i64 k, .int .i64 x, .int .i64 y, .int .i64 c, .int .i64 d] 26) := ⟨_, rfl⟩
  have Z1 : Hid (Holds W1 (w.heap.size) 24 #[.int .i64 n, .slice a m ca]) := Lib.hid (by rw [hW1]; exact (Holds.new w _ _).alloc _)
  have Zs : Hid (Holds W1 (w.heap.size + 1) 26 #[.int .i64 k, .int .i64 x, .int .i64 y, .int .i64 c, .int .i64 d]) := Lib.hid (by rw [hW1]; have q := Holds.new (w.alloc (.cells #[.int .i64 n, .slice a m ca] 24)) 26 #[.int .i64 k, .int .i64 x, .int .i64 y, .int .i64 c, .int .i64 d]; simpa using q)
  have BL := Lib.hid (show Below w.heap.size w W1 by rw [hW1]; exact (box_below _ _ _).alloc (by simp) _)
  have S1 := Lib.hid (h1.below BL.out)
  have hW1' := Lib.hid hW1
  clear hW1
  clear h1
  go_enter Tryd.func3, Tryd.ntmps3
  have k1 := Z1.out.cell 0
  have k2 := Z1.out.cell 1
  have k3 := Zs.out.cell 0
  have k4 := Zs.out.cell 1
  have k5 := Zs.out.cell 2
  have k6 := Zs.out.cell 3
  have k7 := Zs.out.cell 4
  have q := Lib.hid (by have := large_any a m ca S1.out.max W1; rwa [decide_eq_false (show ¬ (200 : Int) < (m : Int) by omega)] at this)
  go_wp2_with fail
  rw [← hW1'.out]
  with_reducible refine q.out.mono ?_
  rintro e u1 ⟨rfl, rfl⟩
  clear hW1'
  clear q
  have q := Lib.hid (by have := rchk_any n k x y c d l a m ca W1 S1.out; rwa [hck.out] at this)
  go_wp2_with fail
  with_reducible refine q.out.mono ?_
  rintro e u3 ⟨rfl, b3⟩
  clear k1 k2 k3 k4 k5 k6 k7
  clear q
  have k8 : u3.cell? ⟨w.heap.size, 0, none⟩ = some (.int .i64 n) := (Z1.out.below b3 Z1.out.lt).cell 0
  have k9 : u3.cell? ⟨w.heap.size, 1, none⟩ = some (.slice a m ca) := (Z1.out.below b3 Z1.out.lt).cell 1
  have k10 : u3.cell? ⟨w.heap.size + 1, 0, none⟩ = some (.int .i64 k) := (Zs.out.below b3 Zs.out.lt).cell 0
  have k11 : u3.cell? ⟨w.heap.size + 1, 1, none⟩ = some (.int .i64 x) := (Zs.out.below b3 Zs.out.lt).cell 1
  have k12 : u3.cell? ⟨w.heap.size + 1, 2, none⟩ = some (.int .i64 y) := (Zs.out.below b3 Zs.out.lt).cell 2
  have k13 : u3.cell? ⟨w.heap.size + 1, 3, none⟩ = some (.int .i64 c) := (Zs.out.below b3 Zs.out.lt).cell 3
  have k14 : u3.cell? ⟨w.heap.size + 1, 4, none⟩ = some (.int .i64 d) := (Zs.out.below b3 Zs.out.lt).cell 4
  replace Z1 := Lib.hid (Z1.out.below b3 Z1.out.lt)
  replace Zs := Lib.hid (Zs.out.below b3 Zs.out.lt)
  replace BL := Lib.hid (BL.out.trans (b3.mono BL.out.size))
  replace S1 := Lib.hid (S1.out.below b3)
  clear b3
  have q := Lib.hid (qA.out _ S1.out)
  go_wp2_with fail
  with_reducible refine q.out.mono ?_
  rintro e uA ⟨aA, cA, rfl, sA, bA⟩
  clear k8 k9 k10 k11 k12 k13 k14
  clear q qA
  have k15 : uA.cell? ⟨w.heap.size, 0, none⟩ = some (.int .i64 n) := (Z1.out.below bA Z1.out.lt).cell 0
  have k16 : uA.cell? ⟨w.heap.size, 1, none⟩ = some (.slice a m ca) := (Z1.out.below bA Z1.out.lt).cell 1
  have k17 : w.heap.size < uA.heap.size := (Z1.out.below bA Z1.out.lt).lt
  have k18 : uA.cell? ⟨w.heap.size + 1, 0, none⟩ = some (.int .i64 k) := (Zs.out.below bA Zs.out.lt).cell 0
  have k19 : uA.cell? ⟨w.heap.size + 1, 1, none⟩ = some (.int .i64 x) := (Zs.out.below bA Zs.out.lt).cell 1
  have k20 : uA.cell? ⟨w.heap.size + 1, 2, none⟩ = some (.int .i64 y) := (Zs.out.below bA Zs.out.lt).cell 2
  have k21 : uA.cell? ⟨w.heap.size + 1, 3, none⟩ = some (.int .i64 c) := (Zs.out.below bA Zs.out.lt).cell 3
  have k22 : uA.cell? ⟨w.heap.size + 1, 4, none⟩ = some (.int .i64 d) := (Zs.out.below bA Zs.out.lt).cell 4
  have k23 : w.heap.size + 1 < uA.heap.size := (Zs.out.below bA Zs.out.lt).lt
  have B0 := box_below uA #[.int .i64 n, .slice aA P.length cA] 24
  have B := bA.trans (B0.mono bA.size)
  replace Z1 := Lib.hid (Z1.out.below B Z1.out.lt)
  replace Zs := Lib.hid (Zs.out.below B Zs.out.lt)
  replace BL := Lib.hid (BL.out.trans (B.mono BL.out.size))
  replace S1 := Lib.hid (S1.out.below B)
  have ZA := Lib.hid (Holds.new uA 24 #[.int .i64 n, .slice aA P.length cA])
  have SA := Lib.hid (sA.below B0)
  clear bA B B0 sA
  have q := Lib.hid (qB.out _ S1.out)
  go_wp2_with fail
  with_reducible refine q.out.mono ?_
  rintro e uB ⟨aB, cB, rfl, sB, bB⟩
  clear k15 k16 k17 k18 k19 k20 k21 k22 k23
  clear q qB
  have B0 := box_below uB #[.int .i64 n, .slice aB R.length cB] 24
  have B := bB.trans (B0.mono bB.size)
  replace Z1 := Lib.hid (Z1.out.below B Z1.out.lt)
  replace Zs := Lib.hid (Zs.out.below B Zs.out.lt)
  replace ZA := Lib.hid (ZA.out.below B ZA.out.lt)
  replace BL := Lib.hid (BL.out.trans (B.mono BL.out.size))
  replace S1 := Lib.hid (S1.out.below B)
  replace SA := Lib.hid (SA.out.below B)
  have ZB := Lib.hid (Holds.new uB 24 #[.int .i64 n, .slice aB R.length cB])
  have SB := Lib.hid (sB.below B0)
  clear bB B B0 sB
  have q := Lib.hid (plives_any (uB.alloc (.cells #[.int .i64 n, .slice aB R.length cB] 24)))
  go_wp2_with fail
  with_reducible refine q.out.mono ?_
  rintro e uL ⟨rfl, bL⟩
  clear q
  have k24 : uL.cell? ⟨w.heap.size, 0, none⟩ = some (.int .i64 n) := (Z1.out.below bL Z1.out.lt).cell 0
  have k25 : uL.cell? ⟨w.heap.size, 1, none⟩ = some (.slice a m ca) := (Z1.out.below bL Z1.out.lt).cell 1
  have k26 : uL.cell? ⟨w.heap.size + 1, 0, none⟩ = some (.int .i64 k) := (Zs.out.below bL Zs.out.lt).cell 0
  have k27 : uL.cell? ⟨w.heap.size + 1, 1, none⟩ = some (.int .i64 x) := (Zs.out.below bL Zs.out.lt).cell 1
  have k28 : uL.cell? ⟨w.heap.size + 1, 2, none⟩ = some (.int .i64 y) := (Zs.out.below bL Zs.out.lt).cell 2
  have k29 : uL.cell? ⟨w.heap.size + 1, 3, none⟩ = some (.int .i64 c) := (Zs.out.below bL Zs.out.lt).cell 3
  have k30 : uL.cell? ⟨w.heap.size + 1, 4, none⟩ = some (.int .i64 d) := (Zs.out.below bL Zs.out.lt).cell 4
  replace Z1 := Lib.hid (Z1.out.below bL Z1.out.lt)
  replace Zs := Lib.hid (Zs.out.below bL Zs.out.lt)
  replace ZA := Lib.hid (ZA.out.below bL ZA.out.lt)
  replace ZB := Lib.hid (ZB.out.below bL ZB.out.lt)
  replace BL := Lib.hid (BL.out.trans (bL.mono BL.out.size))
  replace S1 := Lib.hid (S1.out.below bL)
  replace SA := Lib.hid (SA.out.below bL)
  replace SB := Lib.hid (SB.out.below bL)
  clear bL
  have q := Lib.hid (qR.out _ S1.out)
  go_wp2_with fail
  with_reducible refine q.out.mono ?_
  rintro e uX ⟨aX, cX, rfl, sX, bX⟩
  clear k24 k25 k26 k27 k28 k29 k30
  clear q qR
  have B0 := box_below uX #[.int .i64 n, .slice aX R.length cX] 24
  have B := bX.trans (B0.mono bX.size)
  replace Z1 := Lib.hid (Z1.out.below B Z1.out.lt)
  replace Zs := Lib.hid (Zs.out.below B Zs.out.lt)
  replace ZA := Lib.hid (ZA.out.below B ZA.out.lt)
  replace ZB := Lib.hid (ZB.out.below B ZB.out.lt)
  replace BL := Lib.hid (BL.out.trans (B.mono BL.out.size))
  replace S1 := Lib.hid (S1.out.below B)
  replace SA := Lib.hid (SA.out.below B)
  replace SB := Lib.hid (SB.out.below B)
  have ZX := Lib.hid (Holds.new uX 24 #[.int .i64 n, .slice aX R.length cX])
  have SX := Lib.hid (sX.below B0)
  clear bX B B0 sX
  go_wp2
  generalize (uX.alloc (.cells #[.int .i64 n, .slice aX R.length cX] 24)) = V at *
  have k31 : ∀ W, Below V.heap.size V W → W.cell? ⟨w.heap.size, 0, none⟩ = some (.int .i64 n) := fun W hW => (Z1.out.below hW Z1.out.lt).cell 0
  have k32 : ∀ W, Below V.heap.size V W → W.cell? ⟨w.heap.size, 1, none⟩ = some (.slice a m ca) := fun W hW => (Z1.out.below hW Z1.out.lt).cell 1
  have k33 : ∀ W, Below V.heap.size V W → W.cell? ⟨w.heap.size + 1, 0, none⟩ = some (.int .i64 k) := fun W hW => (Zs.out.below hW Zs.out.lt).cell 0
  have k34 : ∀ W, Below V.heap.size V W → W.cell? ⟨w.heap.size + 1, 1, none⟩ = some (.int .i64 x) := fun W hW => (Zs.out.below hW Zs.out.lt).cell 1
  have k35 : ∀ W, Below V.heap.size V W → W.cell? ⟨w.heap.size + 1, 2, none⟩ = some (.int .i64 y) := fun W hW => (Zs.out.below hW Zs.out.lt).cell 2
  have k36 : ∀ W, Below V.heap.size V W → W.cell? ⟨w.heap.size + 1, 3, none⟩ = some (.int .i64 c) := fun W hW => (Zs.out.below hW Zs.out.lt).cell 3
  have k37 : ∀ W, Below V.heap.size V W → W.cell? ⟨w.heap.size + 1, 4, none⟩ = some (.int .i64 d) := fun W hW => (Zs.out.below hW Zs.out.lt).cell 4
  have k38 : ∀ W, Below V.heap.size V W → W.cell? ⟨uA.heap.size, 0, none⟩ = some (.int .i64 n) := fun W hW => (ZA.out.below hW ZA.out.lt).cell 0
  have k39 : ∀ W, Below V.heap.size V W → W.cell? ⟨uA.heap.size, 1, none⟩ = some (.slice aA P.length cA) := fun W hW => (ZA.out.below hW ZA.out.lt).cell 1
  have k40 : ∀ W, Below V.heap.size V W → W.cell? ⟨uB.heap.size, 0, none⟩ = some (.int .i64 n) := fun W hW => (ZB.out.below hW ZB.out.lt).cell 0
  have k41 : ∀ W, Below V.heap.size V W → W.cell? ⟨uB.heap.size, 1, none⟩ = some (.slice aB R.length cB) := fun W hW => (ZB.out.below hW ZB.out.lt).cell 1
  have k42 : ∀ W, Below V.heap.size V W → W.cell? ⟨uX.heap.size, 0, none⟩ = some (.int .i64 n) := fun W hW => (ZX.out.below hW ZX.out.lt).cell 0
  have k43 : ∀ W, Below V.heap.size V W → W.cell? ⟨uX.heap.size, 1, none⟩ = some (.slice aX R.length cX) := fun W hW => (ZX.out.below hW ZX.out.lt).cell 1
  refine wp_drawn_on (fun W => Below V.heap.size V W) (by kernel_rfl) (below_drew (Below.refl _ _)) (fun hHeld => ?_)
  refine wpAnyH_take (i := 0) (oi := { dst := some 77, op := Go.Op.load 24 (Go.Operand.tmp 6), type := 24, pos := "law.go:42", after := #[], guard := none }) (v := ?v1) rfl (by kernel_rfl) (by kernel_rfl) (by kernel_rfl) (fun _ _ _ h => h) (Or.inl ⟨by kernel_rfl, ?h1⟩) (by assumption) ?r1
  case h1 => (intro w hSw; (try dsimp only at hSw); go_simp; try with_reducible rfl)
  try simp only [Act.put, List.setIfInBounds_toArray, List.set_cons_zero, List.set_cons_succ]
  refine wpAnyH_take (i := 1) (oi := { dst := some 78, op := Go.Op.load 24 (Go.Operand.tmp 2), type := 24, pos := "law.go:42", after := #[], guard := none }) (v := ?v2) rfl (by kernel_rfl) (by kernel_rfl) (by kernel_rfl) (fun _ _ _ h => h) (Or.inl ⟨by kernel_rfl, ?h2⟩) (by assumption) ?r2
  case h2 => (intro w hSw; (try dsimp only at hSw); go_simp; try with_reducible rfl)
  try simp only [Act.put, List.setIfInBounds_toArray, List.set_cons_zero, List.set_cons_succ]
  refine wpAnyH_take (i := 2) (oi := { dst := some 79, op := Go.Op.load 26 (Go.Operand.tmp 3), type := 26, pos := "law.go:42", after := #[], guard := none }) (v := ?v3) rfl (by kernel_rfl) (by kernel_rfl) (by kernel_rfl) (fun _ _ _ h => h) (Or.inl ⟨by kernel_rfl, ?h3⟩) (by assumption) ?r3
  case h3 => (intro w hSw; (try dsimp only at hSw); go_simp; try with_reducible rfl)
  try simp only [Act.put, List.setIfInBounds_toArray, List.set_cons_zero, List.set_cons_succ]
  refine wpAnyH_ready (rs := [3]) (by kernel_rfl) (by simp) ?_
  refine AllReadyH.cons (o := { dst := some 80, op := Go.Op.call { callee := Go.Callee.value (Go.Operand.func 13), args := #[Go.Operand.tmp 78, Go.Operand.tmp 79], argTypes := #[24, 26] }, type := 24, pos := "law.go:42", after := #[{ on := 1, ground := Go.Ground.data }, { on := 2, ground := Go.Ground.data }], guard := none }) rfl (fun K hK => ?_) AllReadyH.nil
  go_simp
  refine (qP.out _ (S1.out.below hHeld)).mono ?_
  rintro e v3 ⟨x3, y3, rfl, s3, b3⟩
  have t3 := Lib.hid (zrself n aA x3 P _ _ cA y3 _ (SA.out.below (hHeld.trans (b3.mono hHeld.size))) s3)
  go_simp
  refine hK.out _ _ (hHeld.trans (b3.mono hHeld.size)) (fun hHeld => ?_)
  clear hK K
  try simp only [Act.put, List.setIfInBounds_toArray, List.set_cons_zero, List.set_cons_succ]
  refine wpAnyH_ready (rs := [4]) (by kernel_rfl) (by simp) ?_
  refine AllReadyH.cons (o := { dst := some 81, op := Go.Op.call { callee := Go.Callee.value (Go.Operand.func 9), args := #[Go.Operand.tmp 77, Go.Operand.tmp 80], argTypes := #[24, 24] }, type := 4, pos := "law.go:42", after := #[{ on := 0, ground := Go.Ground.data }, { on := 3, ground := Go.Ground.data }, { on := 3, ground := Go.Ground.chain }], guard := none }) rfl (fun K hK => ?_) AllReadyH.nil
  go_simp
  refine t3.out.mono ?_
  rintro e v4 ⟨rfl, b4⟩
  go_simp
  refine hK.out _ _ (hHeld.trans (b4.mono hHeld.size)) (fun hHeld => ?_)
  clear hK K
  try simp only [Act.put, List.setIfInBounds_toArray, List.set_cons_zero, List.set_cons_succ]
  refine wpAnyH_take (i := 5) (oi := { dst := some 82, op := Go.Op.move (Go.Operand.tmp 81), type := 4, pos := "law.go:42", after := #[{ on := 4, ground := Go.Ground.data }, { on := 4, ground := Go.Ground.chain }], guard := none }) (v := ?v4) rfl (by kernel_rfl) (by kernel_rfl) (by kernel_rfl) (fun _ _ _ h => h) (Or.inl ⟨by kernel_rfl, ?h4⟩) (by assumption) ?r4
  case h4 => (intro w hSw; (try dsimp only at hSw); go_simp; try with_reducible rfl)
  try simp only [Act.put, List.setIfInBounds_toArray, List.set_cons_zero, List.set_cons_succ]
  refine wpAnyH_take (i := 6) (oi := { dst := some 83, op := Go.Op.load 24 (Go.Operand.tmp 8), type := 24, pos := "law.go:42", after := #[{ on := 5, ground := Go.Ground.guard }], guard := some (5, true) }) (v := ?v5) rfl (by kernel_rfl) (by kernel_rfl) (by kernel_rfl) (fun _ _ _ h => h) (Or.inl ⟨by kernel_rfl, ?h5⟩) (by assumption) ?r5
  case h5 => (intro w hSw; (try dsimp only at hSw); go_simp; try with_reducible rfl)
  try simp only [Act.put, List.setIfInBounds_toArray, List.set_cons_zero, List.set_cons_succ]
  refine wpAnyH_take (i := 7) (oi := { dst := some 84, op := Go.Op.load 24 (Go.Operand.tmp 10), type := 24, pos := "law.go:42", after := #[{ on := 5, ground := Go.Ground.guard }], guard := some (5, true) }) (v := ?v6) rfl (by kernel_rfl) (by kernel_rfl) (by kernel_rfl) (fun _ _ _ h => h) (Or.inl ⟨by kernel_rfl, ?h6⟩) (by assumption) ?r6
  case h6 => (intro w hSw; (try dsimp only at hSw); go_simp; try with_reducible rfl)
  try simp only [Act.put, List.setIfInBounds_toArray, List.set_cons_zero, List.set_cons_succ]
  refine wpAnyH_ready (rs := [8]) (by kernel_rfl) (by simp) ?_
  refine AllReadyH.cons (o := { dst := some 85, op := Go.Op.call { callee := Go.Callee.value (Go.Operand.func 9), args := #[Go.Operand.tmp 83, Go.Operand.tmp 84], argTypes := #[24, 24] }, type := 4, pos := "law.go:42", after := #[{ on := 6, ground := Go.Ground.data }, { on := 7, ground := Go.Ground.data }, { on := 5, ground := Go.Ground.chain }, { on := 5, ground := Go.Ground.guard }], guard := some (5, true) }) rfl (fun K hK => ?_) AllReadyH.nil
  go_simp
  refine (zrself n aB aX R _ _ cB cX _ (SB.out.below hHeld) (SX.out.below hHeld)).mono ?_
  rintro e v8 ⟨rfl, b8⟩
  go_simp
  refine hK.out _ _ (hHeld.trans (b8.mono hHeld.size)) (fun hHeld => ?_)
  clear hK K
  try simp only [Act.put, List.setIfInBounds_toArray, List.set_cons_zero, List.set_cons_succ]
  refine wpAnyH_take (i := 9) (oi := { dst := some 86, op := Go.Op.pick (Go.Operand.tmp 82) (Go.Operand.tmp 85) (Go.Operand.const (Go.Value.bool false)), type := 4, pos := "law.go:42", after := #[{ on := 5, ground := Go.Ground.data }, { on := 8, ground := Go.Ground.data }], guard := none }) (v := ?v7) rfl (by kernel_rfl) (by kernel_rfl) (by kernel_rfl) (fun _ _ _ h => h) (Or.inl ⟨by kernel_rfl, ?h7⟩) (by assumption) ?r7
  case h7 => (intro w hSw; (try dsimp only at hSw); go_simp; try with_reducible rfl)
  try simp only [Act.put, List.setIfInBounds_toArray, List.set_cons_zero, List.set_cons_succ]
  refine wpAnyH_take (i := 10) (oi := { dst := some 87, op := Go.Op.move (Go.Operand.tmp 86), type := 4, pos := "law.go:42", after := #[{ on := 9, ground := Go.Ground.data }, { on := 8, ground := Go.Ground.chain }], guard := none }) (v := ?v8) rfl (by kernel_rfl) (by kernel_rfl) (by kernel_rfl) (fun _ _ _ h => h) (Or.inl ⟨by kernel_rfl, ?h8⟩) (by assumption) ?r8
  case h8 => (intro w hSw; (try dsimp only at hSw); go_simp; try with_reducible rfl)
  try simp only [Act.put, List.setIfInBounds_toArray, List.set_cons_zero, List.set_cons_succ]
  refine wpAnyH_take (i := 11) (oi := { dst := some 88, op := Go.Op.load 24 (Go.Operand.tmp 2), type := 24, pos := "law.go:42", after := #[{ on := 10, ground := Go.Ground.guard }], guard := some (10, true) }) (v := ?v9) rfl (by kernel_rfl) (by kernel_rfl) (by kernel_rfl) (fun _ _ _ h => h) (Or.inl ⟨by kernel_rfl, ?h9⟩) (by assumption) ?r9
  case h9 => (intro w hSw; (try dsimp only at hSw); go_simp; try with_reducible rfl)
  try simp only [Act.put, List.setIfInBounds_toArray, List.set_cons_zero, List.set_cons_succ]
  refine wpAnyH_take (i := 12) (oi := { dst := some 89, op := Go.Op.load 26 (Go.Operand.tmp 3), type := 26, pos := "law.go:42", after := #[{ on := 10, ground := Go.Ground.guard }], guard := some (10, true) }) (v := ?v10) rfl (by kernel_rfl) (by kernel_rfl) (by kernel_rfl) (fun _ _ _ h => h) (Or.inl ⟨by kernel_rfl, ?h10⟩) (by assumption) ?r10
  case h10 => (intro w hSw; (try dsimp only at hSw); go_simp; try with_reducible rfl)
  try simp only [Act.put, List.setIfInBounds_toArray, List.set_cons_zero, List.set_cons_succ]
  refine wpAnyH_take (i := 14) (oi := { dst := some 91, op := Go.Op.fieldAddr 24 (Go.Operand.tmp 10) 1, type := 0, pos := "law.go:42", after := #[{ on := 10, ground := Go.Ground.guard }], guard := some (10, true) }) (v := ?v11) rfl (by kernel_rfl) (by kernel_rfl) (by kernel_rfl) (fun _ _ _ h => h) (Or.inl ⟨by kernel_rfl, ?h11⟩) (by assumption) ?r11
  case h11 => (intro w hSw; (try dsimp only at hSw); go_simp; try with_reducible rfl)
  try simp only [Act.put, List.setIfInBounds_toArray, List.set_cons_zero, List.set_cons_succ]
  refine wpAnyH_take (i := 15) (oi := { dst := some 92, op := Go.Op.load 22 (Go.Operand.tmp 91), type := 22, pos := "law.go:42", after := #[{ on := 14, ground := Go.Ground.data }, { on := 10, ground := Go.Ground.guard }], guard := some (10, true) }) (v := ?v12) rfl (by kernel_rfl) (by kernel_rfl) (by kernel_rfl) (fun _ _ _ h => h) (Or.inl ⟨by kernel_rfl, ?h12⟩) (by assumption) ?r12
  case h12 => (intro w hSw; (try dsimp only at hSw); go_simp; try with_reducible rfl)
  try simp only [Act.put, List.setIfInBounds_toArray, List.set_cons_zero, List.set_cons_succ]
  refine wpAnyH_take (i := 16) (oi := { dst := some 93, op := Go.Op.call { callee := Go.Callee.builtin Go.Builtin.len, args := #[Go.Operand.tmp 92], argTypes := #[22] }, type := 3, pos := "law.go:42", after := #[{ on := 15, ground := Go.Ground.data }, { on := 10, ground := Go.Ground.guard }], guard := some (10, true) }) (v := ?v13) rfl (by kernel_rfl) (by kernel_rfl) (by kernel_rfl) (fun _ _ _ h => h) (Or.inl ⟨by kernel_rfl, ?h13⟩) (by assumption) ?r13
  case h13 => (intro w hSw; (try dsimp only at hSw); go_simp; try with_reducible rfl)
  try simp only [Act.put, List.setIfInBounds_toArray, List.set_cons_zero, List.set_cons_succ]
  refine wpAnyH_take (i := 17) (oi := { dst := some 94, op := Go.Op.binOp Go.BinOp.gtr 3 (Go.Operand.tmp 93) (Go.Operand.const (Go.Value.int Go.IntKind.i64 0)) 3, type := 4, pos := "law.go:42", after := #[{ on := 16, ground := Go.Ground.data }, { on := 10, ground := Go.Ground.guard }], guard := some (10, true) }) (v := ?v14) rfl (by kernel_rfl) (by kernel_rfl) (by kernel_rfl) (fun _ _ _ h => h) (Or.inl ⟨by kernel_rfl, ?h14⟩) (by assumption) ?r14
  case h14 => (intro w hSw; (try dsimp only at hSw); go_simp; try with_reducible rfl)
  try simp only [Act.put, List.setIfInBounds_toArray, List.set_cons_zero, List.set_cons_succ]
  refine wpAnyH_ready (rs := [13]) (by kernel_rfl) (by simp) ?_
  refine AllReadyH.cons (o := { dst := some 90, op := Go.Op.call { callee := Go.Callee.value (Go.Operand.func 10), args := #[Go.Operand.tmp 88, Go.Operand.tmp 89], argTypes := #[24, 26] }, type := 4, pos := "law.go:42", after := #[{ on := 11, ground := Go.Ground.data }, { on := 12, ground := Go.Ground.data }, { on := 10, ground := Go.Ground.chain }, { on := 10, ground := Go.Ground.guard }], guard := some (10, true) }) rfl (fun K hK => ?_) AllReadyH.nil
  go_simp
  refine (qM.out _ (S1.out.below hHeld)).mono ?_
  rintro e v13 ⟨rfl, b13⟩
  go_simp
  refine hK.out _ _ (hHeld.trans (b13.mono hHeld.size)) (fun hHeld => ?_)
  clear hK K
  try simp only [Act.put, List.setIfInBounds_toArray, List.set_cons_zero, List.set_cons_succ]
  refine wpAnyH_take (i := 18) (oi := { dst := some 95, op := Go.Op.binOp Go.BinOp.eql 4 (Go.Operand.tmp 90) (Go.Operand.tmp 94) 4, type := 4, pos := "law.go:42", after := #[{ on := 13, ground := Go.Ground.data }, { on := 17, ground := Go.Ground.data }, { on := 10, ground := Go.Ground.guard }], guard := some (10, true) }) (v := ?v15) rfl (by kernel_rfl) (by kernel_rfl) (by kernel_rfl) (fun _ _ _ h => h) (Or.inl ⟨by kernel_rfl, ?h15⟩) (by assumption) ?r15
  case h15 => (intro w hSw; (try dsimp only at hSw); go_simp; try with_reducible rfl)
  try simp only [Act.put, List.setIfInBounds_toArray, List.set_cons_zero, List.set_cons_succ]
  refine wpAnyH_take (i := 19) (oi := { dst := some 96, op := Go.Op.pick (Go.Operand.tmp 87) (Go.Operand.tmp 95) (Go.Operand.const (Go.Value.bool false)), type := 4, pos := "law.go:42", after := #[{ on := 10, ground := Go.Ground.data }, { on := 18, ground := Go.Ground.data }], guard := none }) (v := ?v16) rfl (by kernel_rfl) (by kernel_rfl) (by kernel_rfl) (fun _ _ _ h => h) (Or.inl ⟨by kernel_rfl, ?h16⟩) (by assumption) ?r16
  case h16 => (intro w hSw; (try dsimp only at hSw); go_simp; try with_reducible rfl)
  try simp only [Act.put, List.setIfInBounds_toArray, List.set_cons_zero, List.set_cons_succ]
  refine wpAnyH_take (i := 20) (oi := { dst := some 97, op := Go.Op.move (Go.Operand.tmp 96), type := 4, pos := "law.go:42", after := #[{ on := 19, ground := Go.Ground.data }, { on := 13, ground := Go.Ground.chain }], guard := none }) (v := ?v17) rfl (by kernel_rfl) (by kernel_rfl) (by kernel_rfl) (fun _ _ _ h => h) (Or.inl ⟨by kernel_rfl, ?h17⟩) (by assumption) ?r17
  case h17 => (intro w hSw; (try dsimp only at hSw); go_simp; try with_reducible rfl)
  try simp only [Act.put, List.setIfInBounds_toArray, List.set_cons_zero, List.set_cons_succ]
  refine wpAnyH_take (i := 21) (oi := { dst := some 98, op := Go.Op.load 24 (Go.Operand.tmp 2), type := 24, pos := "law.go:42", after := #[{ on := 20, ground := Go.Ground.guard }], guard := some (20, true) }) (v := ?v18) rfl (by kernel_rfl) (by kernel_rfl) (by kernel_rfl) (fun _ _ _ h => h) (Or.inl ⟨by kernel_rfl, ?h18⟩) (by assumption) ?r18
  case h18 => (intro w hSw; (try dsimp only at hSw); go_simp; try with_reducible rfl)
  try simp only [Act.put, List.setIfInBounds_toArray, List.set_cons_zero, List.set_cons_succ]
  refine wpAnyH_take (i := 22) (oi := { dst := some 99, op := Go.Op.load 26 (Go.Operand.tmp 3), type := 26, pos := "law.go:42", after := #[{ on := 20, ground := Go.Ground.guard }], guard := some (20, true) }) (v := ?v19) rfl (by kernel_rfl) (by kernel_rfl) (by kernel_rfl) (fun _ _ _ h => h) (Or.inl ⟨by kernel_rfl, ?h19⟩) (by assumption) ?r19
  case h19 => (intro w hSw; (try dsimp only at hSw); go_simp; try with_reducible rfl)
  try simp only [Act.put, List.setIfInBounds_toArray, List.set_cons_zero, List.set_cons_succ]
  refine wpAnyH_take (i := 24) (oi := { dst := some 101, op := Go.Op.move (Go.Operand.tmp 11), type := 4, pos := "law.go:42", after := #[{ on := 20, ground := Go.Ground.guard }], guard := some (20, true) }) (v := ?v20) rfl (by kernel_rfl) (by kernel_rfl) (by kernel_rfl) (fun _ _ _ h => h) (Or.inl ⟨by kernel_rfl, ?h20⟩) (by assumption) ?r20
  case h20 => (intro w hSw; (try dsimp only at hSw); go_simp; try with_reducible rfl)
  try simp only [Act.put, List.setIfInBounds_toArray, List.set_cons_zero, List.set_cons_succ]
  refine wpAnyH_ready (rs := [23]) (by kernel_rfl) (by simp) ?_
  refine AllReadyH.cons (o := { dst := some 100, op := Go.Op.call { callee := Go.Callee.value (Go.Operand.func 11), args := #[Go.Operand.tmp 98, Go.Operand.tmp 99], argTypes := #[24, 26] }, type := 4, pos := "law.go:42", after := #[{ on := 21, ground := Go.Ground.data }, { on := 22, ground := Go.Ground.data }, { on := 20, ground := Go.Ground.chain }, { on := 20, ground := Go.Ground.guard }], guard := some (20, true) }) rfl (fun K hK => ?_) AllReadyH.nil
  go_simp
  refine (qU.out _ (S1.out.below hHeld)).mono ?_
  rintro e v23 ⟨rfl, b23⟩
  go_simp
  refine hK.out _ _ (hHeld.trans (b23.mono hHeld.size)) (fun hHeld => ?_)
  clear hK K
  try simp only [Act.put, List.setIfInBounds_toArray, List.set_cons_zero, List.set_cons_succ]
  refine wpAnyH_take (i := 25) (oi := { dst := some 102, op := Go.Op.binOp Go.BinOp.eql 4 (Go.Operand.tmp 100) (Go.Operand.tmp 101) 4, type := 4, pos := "law.go:42", after := #[{ on := 23, ground := Go.Ground.data }, { on := 24, ground := Go.Ground.data }, { on := 20, ground := Go.Ground.guard }], guard := some (20, true) }) (v := ?v21) rfl (by kernel_rfl) (by kernel_rfl) (by kernel_rfl) (fun _ _ _ h => h) (Or.inl ⟨by kernel_rfl, ?h21⟩) (by assumption) ?r21
  case h21 => (intro w hSw; (try dsimp only at hSw); go_simp; try with_reducible rfl)
  try simp only [Act.put, List.setIfInBounds_toArray, List.set_cons_zero, List.set_cons_succ]
  refine wpAnyH_take (i := 26) (oi := { dst := some 103, op := Go.Op.pick (Go.Operand.tmp 97) (Go.Operand.tmp 102) (Go.Operand.const (Go.Value.bool false)), type := 4, pos := "law.go:42", after := #[{ on := 20, ground := Go.Ground.data }, { on := 25, ground := Go.Ground.data }], guard := none }) (v := ?v22) rfl (by kernel_rfl) (by kernel_rfl) (by kernel_rfl) (fun _ _ _ h => h) (Or.inl ⟨by kernel_rfl, ?h22⟩) (by assumption) ?r22
  case h22 => (intro w hSw; (try dsimp only at hSw); go_simp; try with_reducible rfl)
  try simp only [Act.put, List.setIfInBounds_toArray, List.set_cons_zero, List.set_cons_succ]
  refine wpAnyH_take (i := 27) (oi := { dst := some 4, op := Go.Op.assign (Go.Operand.tmp 103), type := 4, pos := "law.go:42", after := #[{ on := 26, ground := Go.Ground.data }, { on := 23, ground := Go.Ground.chain }, { on := 0, ground := Go.Ground.phase }, { on := 1, ground := Go.Ground.phase }, { on := 2, ground := Go.Ground.phase }, { on := 3, ground := Go.Ground.phase }, { on := 4, ground := Go.Ground.phase }, { on := 5, ground := Go.Ground.phase }, { on := 6, ground := Go.Ground.phase }, { on := 7, ground := Go.Ground.phase }, { on := 8, ground := Go.Ground.phase }, { on := 9, ground := Go.Ground.phase }, { on := 10, ground := Go.Ground.phase }, { on := 11, ground := Go.Ground.phase }, { on := 12, ground := Go.Ground.phase }, { on := 13, ground := Go.Ground.phase }, { on := 14, ground := Go.Ground.phase }, { on := 15, ground := Go.Ground.phase }, { on := 16, ground := Go.Ground.phase }, { on := 17, ground := Go.Ground.phase }, { on := 18, ground := Go.Ground.phase }, { on := 19, ground := Go.Ground.phase }, { on := 20, ground := Go.Ground.phase }, { on := 21, ground := Go.Ground.phase }, { on := 22, ground := Go.Ground.phase }, { on := 23, ground := Go.Ground.phase }, { on := 24, ground := Go.Ground.phase }, { on := 25, ground := Go.Ground.phase }, { on := 26, ground := Go.Ground.phase }], guard := none }) (v := ?v23) rfl (by kernel_rfl) (by kernel_rfl) (by kernel_rfl) (fun _ _ _ h => h) (Or.inl ⟨by kernel_rfl, ?h23⟩) (by assumption) ?r23
  case h23 => (intro w hSw; (try dsimp only at hSw); go_simp; try with_reducible rfl)
  try simp only [Act.put, List.setIfInBounds_toArray, List.set_cons_zero, List.set_cons_succ]
  refine wpAnyH_done (by kernel_rfl) ?_ _
  have bf := Lib.hid (BL.out.trans (hHeld.mono BL.out.size))
  clear k31 k32 k33 k34 k35 k36 k37 k38 k39 k40 k41 k42 k43
  go_wp2
  go_ret
  exact ⟨rfl, bf.out⟩
set_option maxRecDepth 100000 in
set_option maxHeartbeats 4000000 in
theorem tells_ok_b (n : Nat) (k x y c d : Int) (a : Option Addr) (m ca : Nat) (l : List Int) (w : World) (h1 : SL w a m ca l) (g1 : ¬ 200 < m) (z1 : IsZ n l) (hr : rightB k x y c d n = true) (he : decide (faultL n l k x y c = []) = false) (hf : decide (faultL n l k x y c = l) = true) : Calls Tryd.prog 3 #[.agg #[.int .i64 n, .slice a m ca], .agg #[.int .i64 k, .int .i64 x, .int .i64 y, .int .i64 c, .int .i64 d]] w (Gives (.bool true) w) := by
  have hck : Hid (pchk n l k x y c d = 0) := Lib.hid (by unfold pchk; rw [z1.check, hr]; simp)
  have hXP := postL_isz z1 k x y c d
  have hXF := faultL_isz z1 k x y c
  have qA := Lib.hid (fun W hs => (post_ok n k x y c d l z1 hr a m ca W hs).mono (fun e w' h => zoneE_len hXP.small h))
  have qB := Lib.hid (fun W hs => (fault_ok n k x y c d l z1 hr a m ca W hs).mono (fun e w' h => zoneE_len hXF.small h))
  have qM := Lib.hid (fun W (hs : SL W a m ca l) => may_of n k x y c d _ hXF a m ca W (fun W2 b => fault_ok n k x y c d l z1 hr a m ca W2 (hs.below b)))
  have qU := Lib.hid (fun W (hs : SL W a m ca l) => must_of n k x y c d _ hXP (!decide (faultL n l k x y c = [])) a m ca W (fun W2 b => post_ok n k x y c d l z1 hr a m ca W2 (hs.below b)) (fun W2 b => may_of n k x y c d _ hXF a m ca W2 (fun W3 b3 => fault_ok n k x y c d l z1 hr a m ca W3 ((hs.below b).below b3))))
  have qR := Lib.hid (fun W hs => (rfault_any n k x y c d l z1 hr a m ca W hs).mono (fun e w' h => zoneR_len h))
  have qP := Lib.hid (fun W hs => (rpost_any n k x y c d l z1 hr a m ca W hs).mono (fun e w' h => zoneR_len h))
  rw [must_is z1 hr, he] at qU
  rw [he] at qM
  have qS := Lib.hid (fun W a2 m2 c2 (hs2 : SL W a2 m2 c2 (faultL n l k x y c)) (hs : SL W a m ca l) => rsame_any n n a2 a (faultL n l k x y c) l m2 m c2 ca W hs2 hs)
  rw [hf, decide_eq_true (rfl : (n : Int) = n), Bool.true_and] at qS
  rw [hf] at qU
  simp only [Bool.not_true, Bool.not_false, Bool.false_and, Bool.true_and] at qU qM
  have p2 : (0 : Int) < ((faultL n l k x y c).length : Int) := by have := List.length_pos_iff.2 (of_decide_eq_false he); omega
  clear z1 hr he hf hXP hXF
  generalize postL n l k x y c d = P at *
  generalize faultL n l k x y c = R at *
  obtain ⟨W1, hW1⟩ : ∃ W1, W1 = (w.alloc (.cells #[.int .i64 n, .slice a m ca] 24)).alloc (.cells #[.int .i64 k, .int .i64 x, .int .i64 y, .int .i64 c, .int .i64 d] 26) := ⟨_, rfl⟩
  have Z1 : Hid (Holds W1 (w.heap.size) 24 #[.int .i64 n, .slice a m ca]) := Lib.hid (by rw [hW1]; exact (Holds.new w _ _).alloc _)
  have Zs : Hid (Holds W1 (w.heap.size + 1) 26 #[.int .i64 k, .int .i64 x, .int .i64 y, .int .i64 c, .int .i64 d]) := Lib.hid (by rw [hW1]; have q := Holds.new (w.alloc (.cells #[.int .i64 n, .slice a m ca] 24)) 26 #[.int .i64 k, .int .i64 x, .int .i64 y, .int .i64 c, .int .i64 d]; simpa using q)
  have BL := Lib.hid (show Below w.heap.size w W1 by rw [hW1]; exact (box_below _ _ _).alloc (by simp) _)
  have S1 := Lib.hid (h1.below BL.out)
  have hW1' := Lib.hid hW1
  clear hW1
  clear h1
  go_enter Tryd.func3, Tryd.ntmps3
  have k1 := Z1.out.cell 0
  have k2 := Z1.out.cell 1
  have k3 := Zs.out.cell 0
  have k4 := Zs.out.cell 1
  have k5 := Zs.out.cell 2
  have k6 := Zs.out.cell 3
  have k7 := Zs.out.cell 4
  have q := Lib.hid (by have := large_any a m ca S1.out.max W1; rwa [decide_eq_false (show ¬ (200 : Int) < (m : Int) by omega)] at this)
  go_wp2_with fail
  rw [← hW1'.out]
  with_reducible refine q.out.mono ?_
  rintro e u1 ⟨rfl, rfl⟩
  clear hW1'
  clear q
  have q := Lib.hid (by have := rchk_any n k x y c d l a m ca W1 S1.out; rwa [hck.out] at this)
  go_wp2_with fail
  with_reducible refine q.out.mono ?_
  rintro e u3 ⟨rfl, b3⟩
  clear k1 k2 k3 k4 k5 k6 k7
  clear q
  have k8 : u3.cell? ⟨w.heap.size, 0, none⟩ = some (.int .i64 n) := (Z1.out.below b3 Z1.out.lt).cell 0
  have k9 : u3.cell? ⟨w.heap.size, 1, none⟩ = some (.slice a m ca) := (Z1.out.below b3 Z1.out.lt).cell 1
  have k10 : u3.cell? ⟨w.heap.size + 1, 0, none⟩ = some (.int .i64 k) := (Zs.out.below b3 Zs.out.lt).cell 0
  have k11 : u3.cell? ⟨w.heap.size + 1, 1, none⟩ = some (.int .i64 x) := (Zs.out.below b3 Zs.out.lt).cell 1
  have k12 : u3.cell? ⟨w.heap.size + 1, 2, none⟩ = some (.int .i64 y) := (Zs.out.below b3 Zs.out.lt).cell 2
  have k13 : u3.cell? ⟨w.heap.size + 1, 3, none⟩ = some (.int .i64 c) := (Zs.out.below b3 Zs.out.lt).cell 3
  have k14 : u3.cell? ⟨w.heap.size + 1, 4, none⟩ = some (.int .i64 d) := (Zs.out.below b3 Zs.out.lt).cell 4
  replace Z1 := Lib.hid (Z1.out.below b3 Z1.out.lt)
  replace Zs := Lib.hid (Zs.out.below b3 Zs.out.lt)
  replace BL := Lib.hid (BL.out.trans (b3.mono BL.out.size))
  replace S1 := Lib.hid (S1.out.below b3)
  clear b3
  have q := Lib.hid (qA.out _ S1.out)
  go_wp2_with fail
  with_reducible refine q.out.mono ?_
  rintro e uA ⟨aA, cA, rfl, sA, bA⟩
  clear k8 k9 k10 k11 k12 k13 k14
  clear q qA
  have k15 : uA.cell? ⟨w.heap.size, 0, none⟩ = some (.int .i64 n) := (Z1.out.below bA Z1.out.lt).cell 0
  have k16 : uA.cell? ⟨w.heap.size, 1, none⟩ = some (.slice a m ca) := (Z1.out.below bA Z1.out.lt).cell 1
  have k17 : w.heap.size < uA.heap.size := (Z1.out.below bA Z1.out.lt).lt
  have k18 : uA.cell? ⟨w.heap.size + 1, 0, none⟩ = some (.int .i64 k) := (Zs.out.below bA Zs.out.lt).cell 0
  have k19 : uA.cell? ⟨w.heap.size + 1, 1, none⟩ = some (.int .i64 x) := (Zs.out.below bA Zs.out.lt).cell 1
  have k20 : uA.cell? ⟨w.heap.size + 1, 2, none⟩ = some (.int .i64 y) := (Zs.out.below bA Zs.out.lt).cell 2
  have k21 : uA.cell? ⟨w.heap.size + 1, 3, none⟩ = some (.int .i64 c) := (Zs.out.below bA Zs.out.lt).cell 3
  have k22 : uA.cell? ⟨w.heap.size + 1, 4, none⟩ = some (.int .i64 d) := (Zs.out.below bA Zs.out.lt).cell 4
  have k23 : w.heap.size + 1 < uA.heap.size := (Zs.out.below bA Zs.out.lt).lt
  have B0 := box_below uA #[.int .i64 n, .slice aA P.length cA] 24
  have B := bA.trans (B0.mono bA.size)
  replace Z1 := Lib.hid (Z1.out.below B Z1.out.lt)
  replace Zs := Lib.hid (Zs.out.below B Zs.out.lt)
  replace BL := Lib.hid (BL.out.trans (B.mono BL.out.size))
  replace S1 := Lib.hid (S1.out.below B)
  have ZA := Lib.hid (Holds.new uA 24 #[.int .i64 n, .slice aA P.length cA])
  have SA := Lib.hid (sA.below B0)
  clear bA B B0 sA
  have q := Lib.hid (qB.out _ S1.out)
  go_wp2_with fail
  with_reducible refine q.out.mono ?_
  rintro e uB ⟨aB, cB, rfl, sB, bB⟩
  clear k15 k16 k17 k18 k19 k20 k21 k22 k23
  clear q qB
  have B0 := box_below uB #[.int .i64 n, .slice aB R.length cB] 24
  have B := bB.trans (B0.mono bB.size)
  replace Z1 := Lib.hid (Z1.out.below B Z1.out.lt)
  replace Zs := Lib.hid (Zs.out.below B Zs.out.lt)
  replace ZA := Lib.hid (ZA.out.below B ZA.out.lt)
  replace BL := Lib.hid (BL.out.trans (B.mono BL.out.size))
  replace S1 := Lib.hid (S1.out.below B)
  replace SA := Lib.hid (SA.out.below B)
  have ZB := Lib.hid (Holds.new uB 24 #[.int .i64 n, .slice aB R.length cB])
  have SB := Lib.hid (sB.below B0)
  clear bB B B0 sB
  have q := Lib.hid (plives_any (uB.alloc (.cells #[.int .i64 n, .slice aB R.length cB] 24)))
  go_wp2_with fail
  with_reducible refine q.out.mono ?_
  rintro e uL ⟨rfl, bL⟩
  clear q
  have k24 : uL.cell? ⟨w.heap.size, 0, none⟩ = some (.int .i64 n) := (Z1.out.below bL Z1.out.lt).cell 0
  have k25 : uL.cell? ⟨w.heap.size, 1, none⟩ = some (.slice a m ca) := (Z1.out.below bL Z1.out.lt).cell 1
  have k26 : uL.cell? ⟨w.heap.size + 1, 0, none⟩ = some (.int .i64 k) := (Zs.out.below bL Zs.out.lt).cell 0
  have k27 : uL.cell? ⟨w.heap.size + 1, 1, none⟩ = some (.int .i64 x) := (Zs.out.below bL Zs.out.lt).cell 1
  have k28 : uL.cell? ⟨w.heap.size + 1, 2, none⟩ = some (.int .i64 y) := (Zs.out.below bL Zs.out.lt).cell 2
  have k29 : uL.cell? ⟨w.heap.size + 1, 3, none⟩ = some (.int .i64 c) := (Zs.out.below bL Zs.out.lt).cell 3
  have k30 : uL.cell? ⟨w.heap.size + 1, 4, none⟩ = some (.int .i64 d) := (Zs.out.below bL Zs.out.lt).cell 4
  replace Z1 := Lib.hid (Z1.out.below bL Z1.out.lt)
  replace Zs := Lib.hid (Zs.out.below bL Zs.out.lt)
  replace ZA := Lib.hid (ZA.out.below bL ZA.out.lt)
  replace ZB := Lib.hid (ZB.out.below bL ZB.out.lt)
  replace BL := Lib.hid (BL.out.trans (bL.mono BL.out.size))
  replace S1 := Lib.hid (S1.out.below bL)
  replace SA := Lib.hid (SA.out.below bL)
  replace SB := Lib.hid (SB.out.below bL)
  clear bL
  have q := Lib.hid (qR.out _ S1.out)
  go_wp2_with fail
  with_reducible refine q.out.mono ?_
  rintro e uX ⟨aX, cX, rfl, sX, bX⟩
  clear k24 k25 k26 k27 k28 k29 k30
  clear q qR
  have k31 : uX.cell? ⟨w.heap.size, 0, none⟩ = some (.int .i64 n) := (Z1.out.below bX Z1.out.lt).cell 0
  have k32 : uX.cell? ⟨w.heap.size, 1, none⟩ = some (.slice a m ca) := (Z1.out.below bX Z1.out.lt).cell 1
  have k33 : w.heap.size < uX.heap.size := (Z1.out.below bX Z1.out.lt).lt
  have B0 := box_below uX #[.int .i64 n, .slice aX R.length cX] 24
  have B := bX.trans (B0.mono bX.size)
  replace Z1 := Lib.hid (Z1.out.below B Z1.out.lt)
  replace Zs := Lib.hid (Zs.out.below B Zs.out.lt)
  replace ZA := Lib.hid (ZA.out.below B ZA.out.lt)
  replace ZB := Lib.hid (ZB.out.below B ZB.out.lt)
  replace BL := Lib.hid (BL.out.trans (B.mono BL.out.size))
  replace S1 := Lib.hid (S1.out.below B)
  replace SA := Lib.hid (SA.out.below B)
  replace SB := Lib.hid (SB.out.below B)
  have ZX := Lib.hid (Holds.new uX 24 #[.int .i64 n, .slice aX R.length cX])
  have SX := Lib.hid (sX.below B0)
  clear bX B B0 sX
  have q := Lib.hid (qS.out _ aX _ cX SX.out S1.out)
  go_wp2_with fail
  with_reducible refine q.out.mono ?_
  rintro e V ⟨rfl, bV⟩
  clear k31 k32 k33
  clear q qS
  replace Z1 := Lib.hid (Z1.out.below bV Z1.out.lt)
  replace Zs := Lib.hid (Zs.out.below bV Zs.out.lt)
  replace ZA := Lib.hid (ZA.out.below bV ZA.out.lt)
  replace ZB := Lib.hid (ZB.out.below bV ZB.out.lt)
  replace ZX := Lib.hid (ZX.out.below bV ZX.out.lt)
  replace BL := Lib.hid (BL.out.trans (bV.mono BL.out.size))
  replace S1 := Lib.hid (S1.out.below bV)
  replace SA := Lib.hid (SA.out.below bV)
  replace SB := Lib.hid (SB.out.below bV)
  replace SX := Lib.hid (SX.out.below bV)
  clear bV
  go_wp2
  have k34 : ∀ W, Below V.heap.size V W → W.cell? ⟨w.heap.size, 0, none⟩ = some (.int .i64 n) := fun W hW => (Z1.out.below hW Z1.out.lt).cell 0
  have k35 : ∀ W, Below V.heap.size V W → W.cell? ⟨w.heap.size, 1, none⟩ = some (.slice a m ca) := fun W hW => (Z1.out.below hW Z1.out.lt).cell 1
  have k36 : ∀ W, Below V.heap.size V W → W.cell? ⟨w.heap.size + 1, 0, none⟩ = some (.int .i64 k) := fun W hW => (Zs.out.below hW Zs.out.lt).cell 0
  have k37 : ∀ W, Below V.heap.size V W → W.cell? ⟨w.heap.size + 1, 1, none⟩ = some (.int .i64 x) := fun W hW => (Zs.out.below hW Zs.out.lt).cell 1
  have k38 : ∀ W, Below V.heap.size V W → W.cell? ⟨w.heap.size + 1, 2, none⟩ = some (.int .i64 y) := fun W hW => (Zs.out.below hW Zs.out.lt).cell 2
  have k39 : ∀ W, Below V.heap.size V W → W.cell? ⟨w.heap.size + 1, 3, none⟩ = some (.int .i64 c) := fun W hW => (Zs.out.below hW Zs.out.lt).cell 3
  have k40 : ∀ W, Below V.heap.size V W → W.cell? ⟨w.heap.size + 1, 4, none⟩ = some (.int .i64 d) := fun W hW => (Zs.out.below hW Zs.out.lt).cell 4
  have k41 : ∀ W, Below V.heap.size V W → W.cell? ⟨uA.heap.size, 0, none⟩ = some (.int .i64 n) := fun W hW => (ZA.out.below hW ZA.out.lt).cell 0
  have k42 : ∀ W, Below V.heap.size V W → W.cell? ⟨uA.heap.size, 1, none⟩ = some (.slice aA P.length cA) := fun W hW => (ZA.out.below hW ZA.out.lt).cell 1
  have k43 : ∀ W, Below V.heap.size V W → W.cell? ⟨uB.heap.size, 0, none⟩ = some (.int .i64 n) := fun W hW => (ZB.out.below hW ZB.out.lt).cell 0
  have k44 : ∀ W, Below V.heap.size V W → W.cell? ⟨uB.heap.size, 1, none⟩ = some (.slice aB R.length cB) := fun W hW => (ZB.out.below hW ZB.out.lt).cell 1
  have k45 : ∀ W, Below V.heap.size V W → W.cell? ⟨uX.heap.size, 0, none⟩ = some (.int .i64 n) := fun W hW => (ZX.out.below hW ZX.out.lt).cell 0
  have k46 : ∀ W, Below V.heap.size V W → W.cell? ⟨uX.heap.size, 1, none⟩ = some (.slice aX R.length cX) := fun W hW => (ZX.out.below hW ZX.out.lt).cell 1
  refine wp_drawn_on (fun W => Below V.heap.size V W) (by kernel_rfl) (below_drew (Below.refl _ _)) (fun hHeld => ?_)
  refine wpAnyH_take (i := 0) (oi := { dst := some 77, op := Go.Op.load 24 (Go.Operand.tmp 6), type := 24, pos := "law.go:42", after := #[], guard := none }) (v := ?v24) rfl (by kernel_rfl) (by kernel_rfl) (by kernel_rfl) (fun _ _ _ h => h) (Or.inl ⟨by kernel_rfl, ?h24⟩) (by assumption) ?r24
  case h24 => (intro w hSw; (try dsimp only at hSw); go_simp; try with_reducible rfl)
  try simp only [Act.put, List.setIfInBounds_toArray, List.set_cons_zero, List.set_cons_succ]
  refine wpAnyH_take (i := 1) (oi := { dst := some 78, op := Go.Op.load 24 (Go.Operand.tmp 2), type := 24, pos := "law.go:42", after := #[], guard := none }) (v := ?v25) rfl (by kernel_rfl) (by kernel_rfl) (by kernel_rfl) (fun _ _ _ h => h) (Or.inl ⟨by kernel_rfl, ?h25⟩) (by assumption) ?r25
  case h25 => (intro w hSw; (try dsimp only at hSw); go_simp; try with_reducible rfl)
  try simp only [Act.put, List.setIfInBounds_toArray, List.set_cons_zero, List.set_cons_succ]
  refine wpAnyH_take (i := 2) (oi := { dst := some 79, op := Go.Op.load 26 (Go.Operand.tmp 3), type := 26, pos := "law.go:42", after := #[], guard := none }) (v := ?v26) rfl (by kernel_rfl) (by kernel_rfl) (by kernel_rfl) (fun _ _ _ h => h) (Or.inl ⟨by kernel_rfl, ?h26⟩) (by assumption) ?r26
  case h26 => (intro w hSw; (try dsimp only at hSw); go_simp; try with_reducible rfl)
  try simp only [Act.put, List.setIfInBounds_toArray, List.set_cons_zero, List.set_cons_succ]
  refine wpAnyH_ready (rs := [3]) (by kernel_rfl) (by simp) ?_
  refine AllReadyH.cons (o := { dst := some 80, op := Go.Op.call { callee := Go.Callee.value (Go.Operand.func 13), args := #[Go.Operand.tmp 78, Go.Operand.tmp 79], argTypes := #[24, 26] }, type := 24, pos := "law.go:42", after := #[{ on := 1, ground := Go.Ground.data }, { on := 2, ground := Go.Ground.data }], guard := none }) rfl (fun K hK => ?_) AllReadyH.nil
  go_simp
  refine (qP.out _ (S1.out.below hHeld)).mono ?_
  rintro e v3 ⟨x3, y3, rfl, s3, b3⟩
  have t3 := Lib.hid (zrself n aA x3 P _ _ cA y3 _ (SA.out.below (hHeld.trans (b3.mono hHeld.size))) s3)
  go_simp
  refine hK.out _ _ (hHeld.trans (b3.mono hHeld.size)) (fun hHeld => ?_)
  clear hK K
  try simp only [Act.put, List.setIfInBounds_toArray, List.set_cons_zero, List.set_cons_succ]
  refine wpAnyH_ready (rs := [4]) (by kernel_rfl) (by simp) ?_
  refine AllReadyH.cons (o := { dst := some 81, op := Go.Op.call { callee := Go.Callee.value (Go.Operand.func 9), args := #[Go.Operand.tmp 77, Go.Operand.tmp 80], argTypes := #[24, 24] }, type := 4, pos := "law.go:42", after := #[{ on := 0, ground := Go.Ground.data }, { on := 3, ground := Go.Ground.data }, { on := 3, ground := Go.Ground.chain }], guard := none }) rfl (fun K hK => ?_) AllReadyH.nil
  go_simp
  refine t3.out.mono ?_
  rintro e v4 ⟨rfl, b4⟩
  go_simp
  refine hK.out _ _ (hHeld.trans (b4.mono hHeld.size)) (fun hHeld => ?_)
  clear hK K
  try simp only [Act.put, List.setIfInBounds_toArray, List.set_cons_zero, List.set_cons_succ]
  refine wpAnyH_take (i := 5) (oi := { dst := some 82, op := Go.Op.move (Go.Operand.tmp 81), type := 4, pos := "law.go:42", after := #[{ on := 4, ground := Go.Ground.data }, { on := 4, ground := Go.Ground.chain }], guard := none }) (v := ?v27) rfl (by kernel_rfl) (by kernel_rfl) (by kernel_rfl) (fun _ _ _ h => h) (Or.inl ⟨by kernel_rfl, ?h27⟩) (by assumption) ?r27
  case h27 => (intro w hSw; (try dsimp only at hSw); go_simp; try with_reducible rfl)
  try simp only [Act.put, List.setIfInBounds_toArray, List.set_cons_zero, List.set_cons_succ]
  refine wpAnyH_take (i := 6) (oi := { dst := some 83, op := Go.Op.load 24 (Go.Operand.tmp 8), type := 24, pos := "law.go:42", after := #[{ on := 5, ground := Go.Ground.guard }], guard := some (5, true) }) (v := ?v28) rfl (by kernel_rfl) (by kernel_rfl) (by kernel_rfl) (fun _ _ _ h => h) (Or.inl ⟨by kernel_rfl, ?h28⟩) (by assumption) ?r28
  case h28 => (intro w hSw; (try dsimp only at hSw); go_simp; try with_reducible rfl)
  try simp only [Act.put, List.setIfInBounds_toArray, List.set_cons_zero, List.set_cons_succ]
  refine wpAnyH_take (i := 7) (oi := { dst := some 84, op := Go.Op.load 24 (Go.Operand.tmp 10), type := 24, pos := "law.go:42", after := #[{ on := 5, ground := Go.Ground.guard }], guard := some (5, true) }) (v := ?v29) rfl (by kernel_rfl) (by kernel_rfl) (by kernel_rfl) (fun _ _ _ h => h) (Or.inl ⟨by kernel_rfl, ?h29⟩) (by assumption) ?r29
  case h29 => (intro w hSw; (try dsimp only at hSw); go_simp; try with_reducible rfl)
  try simp only [Act.put, List.setIfInBounds_toArray, List.set_cons_zero, List.set_cons_succ]
  refine wpAnyH_ready (rs := [8]) (by kernel_rfl) (by simp) ?_
  refine AllReadyH.cons (o := { dst := some 85, op := Go.Op.call { callee := Go.Callee.value (Go.Operand.func 9), args := #[Go.Operand.tmp 83, Go.Operand.tmp 84], argTypes := #[24, 24] }, type := 4, pos := "law.go:42", after := #[{ on := 6, ground := Go.Ground.data }, { on := 7, ground := Go.Ground.data }, { on := 5, ground := Go.Ground.chain }, { on := 5, ground := Go.Ground.guard }], guard := some (5, true) }) rfl (fun K hK => ?_) AllReadyH.nil
  go_simp
  refine (zrself n aB aX R _ _ cB cX _ (SB.out.below hHeld) (SX.out.below hHeld)).mono ?_
  rintro e v8 ⟨rfl, b8⟩
  go_simp
  refine hK.out _ _ (hHeld.trans (b8.mono hHeld.size)) (fun hHeld => ?_)
  clear hK K
  try simp only [Act.put, List.setIfInBounds_toArray, List.set_cons_zero, List.set_cons_succ]
  refine wpAnyH_take (i := 9) (oi := { dst := some 86, op := Go.Op.pick (Go.Operand.tmp 82) (Go.Operand.tmp 85) (Go.Operand.const (Go.Value.bool false)), type := 4, pos := "law.go:42", after := #[{ on := 5, ground := Go.Ground.data }, { on := 8, ground := Go.Ground.data }], guard := none }) (v := ?v30) rfl (by kernel_rfl) (by kernel_rfl) (by kernel_rfl) (fun _ _ _ h => h) (Or.inl ⟨by kernel_rfl, ?h30⟩) (by assumption) ?r30
  case h30 => (intro w hSw; (try dsimp only at hSw); go_simp; try with_reducible rfl)
  try simp only [Act.put, List.setIfInBounds_toArray, List.set_cons_zero, List.set_cons_succ]
  refine wpAnyH_take (i := 10) (oi := { dst := some 87, op := Go.Op.move (Go.Operand.tmp 86), type := 4, pos := "law.go:42", after := #[{ on := 9, ground := Go.Ground.data }, { on := 8, ground := Go.Ground.chain }], guard := none }) (v := ?v31) rfl (by kernel_rfl) (by kernel_rfl) (by kernel_rfl) (fun _ _ _ h => h) (Or.inl ⟨by kernel_rfl, ?h31⟩) (by assumption) ?r31
  case h31 => (intro w hSw; (try dsimp only at hSw); go_simp; try with_reducible rfl)
  try simp only [Act.put, List.setIfInBounds_toArray, List.set_cons_zero, List.set_cons_succ]
  refine wpAnyH_take (i := 11) (oi := { dst := some 88, op := Go.Op.load 24 (Go.Operand.tmp 2), type := 24, pos := "law.go:42", after := #[{ on := 10, ground := Go.Ground.guard }], guard := some (10, true) }) (v := ?v32) rfl (by kernel_rfl) (by kernel_rfl) (by kernel_rfl) (fun _ _ _ h => h) (Or.inl ⟨by kernel_rfl, ?h32⟩) (by assumption) ?r32
  case h32 => (intro w hSw; (try dsimp only at hSw); go_simp; try with_reducible rfl)
  try simp only [Act.put, List.setIfInBounds_toArray, List.set_cons_zero, List.set_cons_succ]
  refine wpAnyH_take (i := 12) (oi := { dst := some 89, op := Go.Op.load 26 (Go.Operand.tmp 3), type := 26, pos := "law.go:42", after := #[{ on := 10, ground := Go.Ground.guard }], guard := some (10, true) }) (v := ?v33) rfl (by kernel_rfl) (by kernel_rfl) (by kernel_rfl) (fun _ _ _ h => h) (Or.inl ⟨by kernel_rfl, ?h33⟩) (by assumption) ?r33
  case h33 => (intro w hSw; (try dsimp only at hSw); go_simp; try with_reducible rfl)
  try simp only [Act.put, List.setIfInBounds_toArray, List.set_cons_zero, List.set_cons_succ]
  refine wpAnyH_take (i := 14) (oi := { dst := some 91, op := Go.Op.fieldAddr 24 (Go.Operand.tmp 10) 1, type := 0, pos := "law.go:42", after := #[{ on := 10, ground := Go.Ground.guard }], guard := some (10, true) }) (v := ?v34) rfl (by kernel_rfl) (by kernel_rfl) (by kernel_rfl) (fun _ _ _ h => h) (Or.inl ⟨by kernel_rfl, ?h34⟩) (by assumption) ?r34
  case h34 => (intro w hSw; (try dsimp only at hSw); go_simp; try with_reducible rfl)
  try simp only [Act.put, List.setIfInBounds_toArray, List.set_cons_zero, List.set_cons_succ]
  refine wpAnyH_take (i := 15) (oi := { dst := some 92, op := Go.Op.load 22 (Go.Operand.tmp 91), type := 22, pos := "law.go:42", after := #[{ on := 14, ground := Go.Ground.data }, { on := 10, ground := Go.Ground.guard }], guard := some (10, true) }) (v := ?v35) rfl (by kernel_rfl) (by kernel_rfl) (by kernel_rfl) (fun _ _ _ h => h) (Or.inl ⟨by kernel_rfl, ?h35⟩) (by assumption) ?r35
  case h35 => (intro w hSw; (try dsimp only at hSw); go_simp; try with_reducible rfl)
  try simp only [Act.put, List.setIfInBounds_toArray, List.set_cons_zero, List.set_cons_succ]
  refine wpAnyH_take (i := 16) (oi := { dst := some 93, op := Go.Op.call { callee := Go.Callee.builtin Go.Builtin.len, args := #[Go.Operand.tmp 92], argTypes := #[22] }, type := 3, pos := "law.go:42", after := #[{ on := 15, ground := Go.Ground.data }, { on := 10, ground := Go.Ground.guard }], guard := some (10, true) }) (v := ?v36) rfl (by kernel_rfl) (by kernel_rfl) (by kernel_rfl) (fun _ _ _ h => h) (Or.inl ⟨by kernel_rfl, ?h36⟩) (by assumption) ?r36
  case h36 => (intro w hSw; (try dsimp only at hSw); go_simp; try with_reducible rfl)
  try simp only [Act.put, List.setIfInBounds_toArray, List.set_cons_zero, List.set_cons_succ]
  refine wpAnyH_take (i := 17) (oi := { dst := some 94, op := Go.Op.binOp Go.BinOp.gtr 3 (Go.Operand.tmp 93) (Go.Operand.const (Go.Value.int Go.IntKind.i64 0)) 3, type := 4, pos := "law.go:42", after := #[{ on := 16, ground := Go.Ground.data }, { on := 10, ground := Go.Ground.guard }], guard := some (10, true) }) (v := ?v37) rfl (by kernel_rfl) (by kernel_rfl) (by kernel_rfl) (fun _ _ _ h => h) (Or.inl ⟨by kernel_rfl, ?h37⟩) (by assumption) ?r37
  case h37 => (intro w hSw; (try dsimp only at hSw); go_simp; try with_reducible rfl)
  try simp only [Act.put, List.setIfInBounds_toArray, List.set_cons_zero, List.set_cons_succ]
  refine wpAnyH_ready (rs := [13]) (by kernel_rfl) (by simp) ?_
  refine AllReadyH.cons (o := { dst := some 90, op := Go.Op.call { callee := Go.Callee.value (Go.Operand.func 10), args := #[Go.Operand.tmp 88, Go.Operand.tmp 89], argTypes := #[24, 26] }, type := 4, pos := "law.go:42", after := #[{ on := 11, ground := Go.Ground.data }, { on := 12, ground := Go.Ground.data }, { on := 10, ground := Go.Ground.chain }, { on := 10, ground := Go.Ground.guard }], guard := some (10, true) }) rfl (fun K hK => ?_) AllReadyH.nil
  go_simp
  refine (qM.out _ (S1.out.below hHeld)).mono ?_
  rintro e v13 ⟨rfl, b13⟩
  go_simp
  refine hK.out _ _ (hHeld.trans (b13.mono hHeld.size)) (fun hHeld => ?_)
  clear hK K
  try simp only [Act.put, List.setIfInBounds_toArray, List.set_cons_zero, List.set_cons_succ]
  refine wpAnyH_take (i := 18) (oi := { dst := some 95, op := Go.Op.binOp Go.BinOp.eql 4 (Go.Operand.tmp 90) (Go.Operand.tmp 94) 4, type := 4, pos := "law.go:42", after := #[{ on := 13, ground := Go.Ground.data }, { on := 17, ground := Go.Ground.data }, { on := 10, ground := Go.Ground.guard }], guard := some (10, true) }) (v := ?v38) rfl (by kernel_rfl) (by kernel_rfl) (by kernel_rfl) (fun _ _ _ h => h) (Or.inl ⟨by kernel_rfl, ?h38⟩) (by assumption) ?r38
  case h38 => (intro w hSw; (try dsimp only at hSw); go_simp; try with_reducible rfl)
  try simp only [Act.put, List.setIfInBounds_toArray, List.set_cons_zero, List.set_cons_succ]
  refine wpAnyH_take (i := 19) (oi := { dst := some 96, op := Go.Op.pick (Go.Operand.tmp 87) (Go.Operand.tmp 95) (Go.Operand.const (Go.Value.bool false)), type := 4, pos := "law.go:42", after := #[{ on := 10, ground := Go.Ground.data }, { on := 18, ground := Go.Ground.data }], guard := none }) (v := ?v39) rfl (by kernel_rfl) (by kernel_rfl) (by kernel_rfl) (fun _ _ _ h => h) (Or.inl ⟨by kernel_rfl, ?h39⟩) (by assumption) ?r39
  case h39 => (intro w hSw; (try dsimp only at hSw); go_simp; try with_reducible rfl)
  try simp only [Act.put, List.setIfInBounds_toArray, List.set_cons_zero, List.set_cons_succ]
  refine wpAnyH_take (i := 20) (oi := { dst := some 97, op := Go.Op.move (Go.Operand.tmp 96), type := 4, pos := "law.go:42", after := #[{ on := 19, ground := Go.Ground.data }, { on := 13, ground := Go.Ground.chain }], guard := none }) (v := ?v40) rfl (by kernel_rfl) (by kernel_rfl) (by kernel_rfl) (fun _ _ _ h => h) (Or.inl ⟨by kernel_rfl, ?h40⟩) (by assumption) ?r40
  case h40 => (intro w hSw; (try dsimp only at hSw); go_simp; try with_reducible rfl)
  try simp only [Act.put, List.setIfInBounds_toArray, List.set_cons_zero, List.set_cons_succ]
  refine wpAnyH_take (i := 21) (oi := { dst := some 98, op := Go.Op.load 24 (Go.Operand.tmp 2), type := 24, pos := "law.go:42", after := #[{ on := 20, ground := Go.Ground.guard }], guard := some (20, true) }) (v := ?v41) rfl (by kernel_rfl) (by kernel_rfl) (by kernel_rfl) (fun _ _ _ h => h) (Or.inl ⟨by kernel_rfl, ?h41⟩) (by assumption) ?r41
  case h41 => (intro w hSw; (try dsimp only at hSw); go_simp; try with_reducible rfl)
  try simp only [Act.put, List.setIfInBounds_toArray, List.set_cons_zero, List.set_cons_succ]
  refine wpAnyH_take (i := 22) (oi := { dst := some 99, op := Go.Op.load 26 (Go.Operand.tmp 3), type := 26, pos := "law.go:42", after := #[{ on := 20, ground := Go.Ground.guard }], guard := some (20, true) }) (v := ?v42) rfl (by kernel_rfl) (by kernel_rfl) (by kernel_rfl) (fun _ _ _ h => h) (Or.inl ⟨by kernel_rfl, ?h42⟩) (by assumption) ?r42
  case h42 => (intro w hSw; (try dsimp only at hSw); go_simp; try with_reducible rfl)
  try simp only [Act.put, List.setIfInBounds_toArray, List.set_cons_zero, List.set_cons_succ]
  refine wpAnyH_take (i := 24) (oi := { dst := some 101, op := Go.Op.move (Go.Operand.tmp 11), type := 4, pos := "law.go:42", after := #[{ on := 20, ground := Go.Ground.guard }], guard := some (20, true) }) (v := ?v43) rfl (by kernel_rfl) (by kernel_rfl) (by kernel_rfl) (fun _ _ _ h => h) (Or.inl ⟨by kernel_rfl, ?h43⟩) (by assumption) ?r43
  case h43 => (intro w hSw; (try dsimp only at hSw); go_simp; try with_reducible rfl)
  try simp only [Act.put, List.setIfInBounds_toArray, List.set_cons_zero, List.set_cons_succ]
  refine wpAnyH_ready (rs := [23]) (by kernel_rfl) (by simp) ?_
  refine AllReadyH.cons (o := { dst := some 100, op := Go.Op.call { callee := Go.Callee.value (Go.Operand.func 11), args := #[Go.Operand.tmp 98, Go.Operand.tmp 99], argTypes := #[24, 26] }, type := 4, pos := "law.go:42", after := #[{ on := 21, ground := Go.Ground.data }, { on := 22, ground := Go.Ground.data }, { on := 20, ground := Go.Ground.chain }, { on := 20, ground := Go.Ground.guard }], guard := some (20, true) }) rfl (fun K hK => ?_) AllReadyH.nil
  go_simp
  refine (qU.out _ (S1.out.below hHeld)).mono ?_
  rintro e v23 ⟨rfl, b23⟩
  go_simp
  refine hK.out _ _ (hHeld.trans (b23.mono hHeld.size)) (fun hHeld => ?_)
  clear hK K
  try simp only [Act.put, List.setIfInBounds_toArray, List.set_cons_zero, List.set_cons_succ]
  refine wpAnyH_take (i := 25) (oi := { dst := some 102, op := Go.Op.binOp Go.BinOp.eql 4 (Go.Operand.tmp 100) (Go.Operand.tmp 101) 4, type := 4, pos := "law.go:42", after := #[{ on := 23, ground := Go.Ground.data }, { on := 24, ground := Go.Ground.data }, { on := 20, ground := Go.Ground.guard }], guard := some (20, true) }) (v := ?v44) rfl (by kernel_rfl) (by kernel_rfl) (by kernel_rfl) (fun _ _ _ h => h) (Or.inl ⟨by kernel_rfl, ?h44⟩) (by assumption) ?r44
  case h44 => (intro w hSw; (try dsimp only at hSw); go_simp; try with_reducible rfl)
  try simp only [Act.put, List.setIfInBounds_toArray, List.set_cons_zero, List.set_cons_succ]
  refine wpAnyH_take (i := 26) (oi := { dst := some 103, op := Go.Op.pick (Go.Operand.tmp 97) (Go.Operand.tmp 102) (Go.Operand.const (Go.Value.bool false)), type := 4, pos := "law.go:42", after := #[{ on := 20, ground := Go.Ground.data }, { on := 25, ground := Go.Ground.data }], guard := none }) (v := ?v45) rfl (by kernel_rfl) (by kernel_rfl) (by kernel_rfl) (fun _ _ _ h => h) (Or.inl ⟨by kernel_rfl, ?h45⟩) (by assumption) ?r45
  case h45 => (intro w hSw; (try dsimp only at hSw); go_simp; try with_reducible rfl)
  try simp only [Act.put, List.setIfInBounds_toArray, List.set_cons_zero, List.set_cons_succ]
  refine wpAnyH_take (i := 27) (oi := { dst := some 4, op := Go.Op.assign (Go.Operand.tmp 103), type := 4, pos := "law.go:42", after := #[{ on := 26, ground := Go.Ground.data }, { on := 23, ground := Go.Ground.chain }, { on := 0, ground := Go.Ground.phase }, { on := 1, ground := Go.Ground.phase }, { on := 2, ground := Go.Ground.phase }, { on := 3, ground := Go.Ground.phase }, { on := 4, ground := Go.Ground.phase }, { on := 5, ground := Go.Ground.phase }, { on := 6, ground := Go.Ground.phase }, { on := 7, ground := Go.Ground.phase }, { on := 8, ground := Go.Ground.phase }, { on := 9, ground := Go.Ground.phase }, { on := 10, ground := Go.Ground.phase }, { on := 11, ground := Go.Ground.phase }, { on := 12, ground := Go.Ground.phase }, { on := 13, ground := Go.Ground.phase }, { on := 14, ground := Go.Ground.phase }, { on := 15, ground := Go.Ground.phase }, { on := 16, ground := Go.Ground.phase }, { on := 17, ground := Go.Ground.phase }, { on := 18, ground := Go.Ground.phase }, { on := 19, ground := Go.Ground.phase }, { on := 20, ground := Go.Ground.phase }, { on := 21, ground := Go.Ground.phase }, { on := 22, ground := Go.Ground.phase }, { on := 23, ground := Go.Ground.phase }, { on := 24, ground := Go.Ground.phase }, { on := 25, ground := Go.Ground.phase }, { on := 26, ground := Go.Ground.phase }], guard := none }) (v := ?v46) rfl (by kernel_rfl) (by kernel_rfl) (by kernel_rfl) (fun _ _ _ h => h) (Or.inl ⟨by kernel_rfl, ?h46⟩) (by assumption) ?r46
  case h46 => (intro w hSw; (try dsimp only at hSw); go_simp; try with_reducible rfl)
  try simp only [Act.put, List.setIfInBounds_toArray, List.set_cons_zero, List.set_cons_succ]
  refine wpAnyH_done (by kernel_rfl) ?_ _
  have bf := Lib.hid (BL.out.trans (hHeld.mono BL.out.size))
  clear k34 k35 k36 k37 k38 k39 k40 k41 k42 k43 k44 k45 k46
  go_wp2
  go_ret
  exact ⟨rfl, bf.out⟩
set_option maxRecDepth 100000 in
set_option maxHeartbeats 4000000 in
theorem tells_ok_c (n : Nat) (k x y c d : Int) (a : Option Addr) (m ca : Nat) (l : List Int) (w : World) (h1 : SL w a m ca l) (g1 : ¬ 200 < m) (z1 : IsZ n l) (hr : rightB k x y c d n = true) (he : decide (faultL n l k x y c = []) = false) (hf : decide (faultL n l k x y c = l) = false) : Calls Tryd.prog 3 #[.agg #[.int .i64 n, .slice a m ca], .agg #[.int .i64 k, .int .i64 x, .int .i64 y, .int .i64 c, .int .i64 d]] w (Gives (.bool true) w) := by
  have hck : Hid (pchk n l k x y c d = 0) := Lib.hid (by unfold pchk; rw [z1.check, hr]; simp)
  have hXP := postL_isz z1 k x y c d
  have hXF := faultL_isz z1 k x y c
  have qA := Lib.hid (fun W hs => (post_ok n k x y c d l z1 hr a m ca W hs).mono (fun e w' h => zoneE_len hXP.small h))
  have qB := Lib.hid (fun W hs => (fault_ok n k x y c d l z1 hr a m ca W hs).mono (fun e w' h => zoneE_len hXF.small h))
  have qM := Lib.hid (fun W (hs : SL W a m ca l) => may_of n k x y c d _ hXF a m ca W (fun W2 b => fault_ok n k x y c d l z1 hr a m ca W2 (hs.below b)))
  have qU := Lib.hid (fun W (hs : SL W a m ca l) => must_of n k x y c d _ hXP (!decide (faultL n l k x y c = [])) a m ca W (fun W2 b => post_ok n k x y c d l z1 hr a m ca W2 (hs.below b)) (fun W2 b => may_of n k x y c d _ hXF a m ca W2 (fun W3 b3 => fault_ok n k x y c d l z1 hr a m ca W3 ((hs.below b).below b3))))
  have qR := Lib.hid (fun W hs => (rfault_any n k x y c d l z1 hr a m ca W hs).mono (fun e w' h => zoneR_len h))
  have qP := Lib.hid (fun W hs => (rpost_any n k x y c d l z1 hr a m ca W hs).mono (fun e w' h => zoneR_len h))
  rw [must_is z1 hr, he] at qU
  rw [he] at qM
  have qS := Lib.hid (fun W a2 m2 c2 (hs2 : SL W a2 m2 c2 (faultL n l k x y c)) (hs : SL W a m ca l) => rsame_any n n a2 a (faultL n l k x y c) l m2 m c2 ca W hs2 hs)
  rw [hf, decide_eq_true (rfl : (n : Int) = n), Bool.true_and] at qS
  rw [hf] at qU
  simp only [Bool.not_true, Bool.not_false, Bool.false_and, Bool.true_and] at qU qM
  have p2 : (0 : Int) < ((faultL n l k x y c).length : Int) := by have := List.length_pos_iff.2 (of_decide_eq_false he); omega
  clear z1 hr he hf hXP hXF
  generalize postL n l k x y c d = P at *
  generalize faultL n l k x y c = R at *
  obtain ⟨W1, hW1⟩ : ∃ W1, W1 = (w.alloc (.cells #[.int .i64 n, .slice a m ca] 24)).alloc (.cells #[.int .i64 k, .int .i64 x, .int .i64 y, .int .i64 c, .int .i64 d] 26) := ⟨_, rfl⟩
  have Z1 : Hid (Holds W1 (w.heap.size) 24 #[.int .i64 n, .slice a m ca]) := Lib.hid (by rw [hW1]; exact (Holds.new w _ _).alloc _)
  have Zs : Hid (Holds W1 (w.heap.size + 1) 26 #[.int .i64 k, .int .i64 x, .int .i64 y, .int .i64 c, .int .i64 d]) := Lib.hid (by rw [hW1]; have q := Holds.new (w.alloc (.cells #[.int .i64 n, .slice a m ca] 24)) 26 #[.int .i64 k, .int .i64 x, .int .i64 y, .int .i64 c, .int .i64 d]; simpa using q)
  have BL := Lib.hid (show Below w.heap.size w W1 by rw [hW1]; exact (box_below _ _ _).alloc (by simp) _)
  have S1 := Lib.hid (h1.below BL.out)
  have hW1' := Lib.hid hW1
  clear hW1
  clear h1
  go_enter Tryd.func3, Tryd.ntmps3
  have k1 := Z1.out.cell 0
  have k2 := Z1.out.cell 1
  have k3 := Zs.out.cell 0
  have k4 := Zs.out.cell 1
  have k5 := Zs.out.cell 2
  have k6 := Zs.out.cell 3
  have k7 := Zs.out.cell 4
  have q := Lib.hid (by have := large_any a m ca S1.out.max W1; rwa [decide_eq_false (show ¬ (200 : Int) < (m : Int) by omega)] at this)
  go_wp2_with fail
  rw [← hW1'.out]
  with_reducible refine q.out.mono ?_
  rintro e u1 ⟨rfl, rfl⟩
  clear hW1'
  clear q
  have q := Lib.hid (by have := rchk_any n k x y c d l a m ca W1 S1.out; rwa [hck.out] at this)
  go_wp2_with fail
  with_reducible refine q.out.mono ?_
  rintro e u3 ⟨rfl, b3⟩
  clear k1 k2 k3 k4 k5 k6 k7
  clear q
  have k8 : u3.cell? ⟨w.heap.size, 0, none⟩ = some (.int .i64 n) := (Z1.out.below b3 Z1.out.lt).cell 0
  have k9 : u3.cell? ⟨w.heap.size, 1, none⟩ = some (.slice a m ca) := (Z1.out.below b3 Z1.out.lt).cell 1
  have k10 : u3.cell? ⟨w.heap.size + 1, 0, none⟩ = some (.int .i64 k) := (Zs.out.below b3 Zs.out.lt).cell 0
  have k11 : u3.cell? ⟨w.heap.size + 1, 1, none⟩ = some (.int .i64 x) := (Zs.out.below b3 Zs.out.lt).cell 1
  have k12 : u3.cell? ⟨w.heap.size + 1, 2, none⟩ = some (.int .i64 y) := (Zs.out.below b3 Zs.out.lt).cell 2
  have k13 : u3.cell? ⟨w.heap.size + 1, 3, none⟩ = some (.int .i64 c) := (Zs.out.below b3 Zs.out.lt).cell 3
  have k14 : u3.cell? ⟨w.heap.size + 1, 4, none⟩ = some (.int .i64 d) := (Zs.out.below b3 Zs.out.lt).cell 4
  replace Z1 := Lib.hid (Z1.out.below b3 Z1.out.lt)
  replace Zs := Lib.hid (Zs.out.below b3 Zs.out.lt)
  replace BL := Lib.hid (BL.out.trans (b3.mono BL.out.size))
  replace S1 := Lib.hid (S1.out.below b3)
  clear b3
  have q := Lib.hid (qA.out _ S1.out)
  go_wp2_with fail
  with_reducible refine q.out.mono ?_
  rintro e uA ⟨aA, cA, rfl, sA, bA⟩
  clear k8 k9 k10 k11 k12 k13 k14
  clear q qA
  have k15 : uA.cell? ⟨w.heap.size, 0, none⟩ = some (.int .i64 n) := (Z1.out.below bA Z1.out.lt).cell 0
  have k16 : uA.cell? ⟨w.heap.size, 1, none⟩ = some (.slice a m ca) := (Z1.out.below bA Z1.out.lt).cell 1
  have k17 : w.heap.size < uA.heap.size := (Z1.out.below bA Z1.out.lt).lt
  have k18 : uA.cell? ⟨w.heap.size + 1, 0, none⟩ = some (.int .i64 k) := (Zs.out.below bA Zs.out.lt).cell 0
  have k19 : uA.cell? ⟨w.heap.size + 1, 1, none⟩ = some (.int .i64 x) := (Zs.out.below bA Zs.out.lt).cell 1
  have k20 : uA.cell? ⟨w.heap.size + 1, 2, none⟩ = some (.int .i64 y) := (Zs.out.below bA Zs.out.lt).cell 2
  have k21 : uA.cell? ⟨w.heap.size + 1, 3, none⟩ = some (.int .i64 c) := (Zs.out.below bA Zs.out.lt).cell 3
  have k22 : uA.cell? ⟨w.heap.size + 1, 4, none⟩ = some (.int .i64 d) := (Zs.out.below bA Zs.out.lt).cell 4
  have k23 : w.heap.size + 1 < uA.heap.size := (Zs.out.below bA Zs.out.lt).lt
  have B0 := box_below uA #[.int .i64 n, .slice aA P.length cA] 24
  have B := bA.trans (B0.mono bA.size)
  replace Z1 := Lib.hid (Z1.out.below B Z1.out.lt)
  replace Zs := Lib.hid (Zs.out.below B Zs.out.lt)
  replace BL := Lib.hid (BL.out.trans (B.mono BL.out.size))
  replace S1 := Lib.hid (S1.out.below B)
  have ZA := Lib.hid (Holds.new uA 24 #[.int .i64 n, .slice aA P.length cA])
  have SA := Lib.hid (sA.below B0)
  clear bA B B0 sA
  have q := Lib.hid (qB.out _ S1.out)
  go_wp2_with fail
  with_reducible refine q.out.mono ?_
  rintro e uB ⟨aB, cB, rfl, sB, bB⟩
  clear k15 k16 k17 k18 k19 k20 k21 k22 k23
  clear q qB
  have B0 := box_below uB #[.int .i64 n, .slice aB R.length cB] 24
  have B := bB.trans (B0.mono bB.size)
  replace Z1 := Lib.hid (Z1.out.below B Z1.out.lt)
  replace Zs := Lib.hid (Zs.out.below B Zs.out.lt)
  replace ZA := Lib.hid (ZA.out.below B ZA.out.lt)
  replace BL := Lib.hid (BL.out.trans (B.mono BL.out.size))
  replace S1 := Lib.hid (S1.out.below B)
  replace SA := Lib.hid (SA.out.below B)
  have ZB := Lib.hid (Holds.new uB 24 #[.int .i64 n, .slice aB R.length cB])
  have SB := Lib.hid (sB.below B0)
  clear bB B B0 sB
  have q := Lib.hid (plives_any (uB.alloc (.cells #[.int .i64 n, .slice aB R.length cB] 24)))
  go_wp2_with fail
  with_reducible refine q.out.mono ?_
  rintro e uL ⟨rfl, bL⟩
  clear q
  have k24 : uL.cell? ⟨w.heap.size, 0, none⟩ = some (.int .i64 n) := (Z1.out.below bL Z1.out.lt).cell 0
  have k25 : uL.cell? ⟨w.heap.size, 1, none⟩ = some (.slice a m ca) := (Z1.out.below bL Z1.out.lt).cell 1
  have k26 : uL.cell? ⟨w.heap.size + 1, 0, none⟩ = some (.int .i64 k) := (Zs.out.below bL Zs.out.lt).cell 0
  have k27 : uL.cell? ⟨w.heap.size + 1, 1, none⟩ = some (.int .i64 x) := (Zs.out.below bL Zs.out.lt).cell 1
  have k28 : uL.cell? ⟨w.heap.size + 1, 2, none⟩ = some (.int .i64 y) := (Zs.out.below bL Zs.out.lt).cell 2
  have k29 : uL.cell? ⟨w.heap.size + 1, 3, none⟩ = some (.int .i64 c) := (Zs.out.below bL Zs.out.lt).cell 3
  have k30 : uL.cell? ⟨w.heap.size + 1, 4, none⟩ = some (.int .i64 d) := (Zs.out.below bL Zs.out.lt).cell 4
  replace Z1 := Lib.hid (Z1.out.below bL Z1.out.lt)
  replace Zs := Lib.hid (Zs.out.below bL Zs.out.lt)
  replace ZA := Lib.hid (ZA.out.below bL ZA.out.lt)
  replace ZB := Lib.hid (ZB.out.below bL ZB.out.lt)
  replace BL := Lib.hid (BL.out.trans (bL.mono BL.out.size))
  replace S1 := Lib.hid (S1.out.below bL)
  replace SA := Lib.hid (SA.out.below bL)
  replace SB := Lib.hid (SB.out.below bL)
  clear bL
  have q := Lib.hid (qR.out _ S1.out)
  go_wp2_with fail
  with_reducible refine q.out.mono ?_
  rintro e uX ⟨aX, cX, rfl, sX, bX⟩
  clear k24 k25 k26 k27 k28 k29 k30
  clear q qR
  have k31 : uX.cell? ⟨w.heap.size, 0, none⟩ = some (.int .i64 n) := (Z1.out.below bX Z1.out.lt).cell 0
  have k32 : uX.cell? ⟨w.heap.size, 1, none⟩ = some (.slice a m ca) := (Z1.out.below bX Z1.out.lt).cell 1
  have k33 : w.heap.size < uX.heap.size := (Z1.out.below bX Z1.out.lt).lt
  have B0 := box_below uX #[.int .i64 n, .slice aX R.length cX] 24
  have B := bX.trans (B0.mono bX.size)
  replace Z1 := Lib.hid (Z1.out.below B Z1.out.lt)
  replace Zs := Lib.hid (Zs.out.below B Zs.out.lt)
  replace ZA := Lib.hid (ZA.out.below B ZA.out.lt)
  replace ZB := Lib.hid (ZB.out.below B ZB.out.lt)
  replace BL := Lib.hid (BL.out.trans (B.mono BL.out.size))
  replace S1 := Lib.hid (S1.out.below B)
  replace SA := Lib.hid (SA.out.below B)
  replace SB := Lib.hid (SB.out.below B)
  have ZX := Lib.hid (Holds.new uX 24 #[.int .i64 n, .slice aX R.length cX])
  have SX := Lib.hid (sX.below B0)
  clear bX B B0 sX
  have q := Lib.hid (qS.out _ aX _ cX SX.out S1.out)
  go_wp2_with fail
  with_reducible refine q.out.mono ?_
  rintro e V ⟨rfl, bV⟩
  clear k31 k32 k33
  clear q qS
  replace Z1 := Lib.hid (Z1.out.below bV Z1.out.lt)
  replace Zs := Lib.hid (Zs.out.below bV Zs.out.lt)
  replace ZA := Lib.hid (ZA.out.below bV ZA.out.lt)
  replace ZB := Lib.hid (ZB.out.below bV ZB.out.lt)
  replace ZX := Lib.hid (ZX.out.below bV ZX.out.lt)
  replace BL := Lib.hid (BL.out.trans (bV.mono BL.out.size))
  replace S1 := Lib.hid (S1.out.below bV)
  replace SA := Lib.hid (SA.out.below bV)
  replace SB := Lib.hid (SB.out.below bV)
  replace SX := Lib.hid (SX.out.below bV)
  clear bV
  go_wp2
  have k34 : ∀ W, Below V.heap.size V W → W.cell? ⟨w.heap.size, 0, none⟩ = some (.int .i64 n) := fun W hW => (Z1.out.below hW Z1.out.lt).cell 0
  have k35 : ∀ W, Below V.heap.size V W → W.cell? ⟨w.heap.size, 1, none⟩ = some (.slice a m ca) := fun W hW => (Z1.out.below hW Z1.out.lt).cell 1
  have k36 : ∀ W, Below V.heap.size V W → W.cell? ⟨w.heap.size + 1, 0, none⟩ = some (.int .i64 k) := fun W hW => (Zs.out.below hW Zs.out.lt).cell 0
  have k37 : ∀ W, Below V.heap.size V W → W.cell? ⟨w.heap.size + 1, 1, none⟩ = some (.int .i64 x) := fun W hW => (Zs.out.below hW Zs.out.lt).cell 1
  have k38 : ∀ W, Below V.heap.size V W → W.cell? ⟨w.heap.size + 1, 2, none⟩ = some (.int .i64 y) := fun W hW => (Zs.out.below hW Zs.out.lt).cell 2
  have k39 : ∀ W, Below V.heap.size V W → W.cell? ⟨w.heap.size + 1, 3, none⟩ = some (.int .i64 c) := fun W hW => (Zs.out.below hW Zs.out.lt).cell 3
  have k40 : ∀ W, Below V.heap.size V W → W.cell? ⟨w.heap.size + 1, 4, none⟩ = some (.int .i64 d) := fun W hW => (Zs.out.below hW Zs.out.lt).cell 4
  have k41 : ∀ W, Below V.heap.size V W → W.cell? ⟨uA.heap.size, 0, none⟩ = some (.int .i64 n) := fun W hW => (ZA.out.below hW ZA.out.lt).cell 0
  have k42 : ∀ W, Below V.heap.size V W → W.cell? ⟨uA.heap.size, 1, none⟩ = some (.slice aA P.length cA) := fun W hW => (ZA.out.below hW ZA.out.lt).cell 1
  have k43 : ∀ W, Below V.heap.size V W → W.cell? ⟨uB.heap.size, 0, none⟩ = some (.int .i64 n) := fun W hW => (ZB.out.below hW ZB.out.lt).cell 0
  have k44 : ∀ W, Below V.heap.size V W → W.cell? ⟨uB.heap.size, 1, none⟩ = some (.slice aB R.length cB) := fun W hW => (ZB.out.below hW ZB.out.lt).cell 1
  have k45 : ∀ W, Below V.heap.size V W → W.cell? ⟨uX.heap.size, 0, none⟩ = some (.int .i64 n) := fun W hW => (ZX.out.below hW ZX.out.lt).cell 0
  have k46 : ∀ W, Below V.heap.size V W → W.cell? ⟨uX.heap.size, 1, none⟩ = some (.slice aX R.length cX) := fun W hW => (ZX.out.below hW ZX.out.lt).cell 1
  refine wp_drawn_on (fun W => Below V.heap.size V W) (by kernel_rfl) (below_drew (Below.refl _ _)) (fun hHeld => ?_)
  refine wpAnyH_take (i := 0) (oi := { dst := some 77, op := Go.Op.load 24 (Go.Operand.tmp 6), type := 24, pos := "law.go:42", after := #[], guard := none }) (v := ?v47) rfl (by kernel_rfl) (by kernel_rfl) (by kernel_rfl) (fun _ _ _ h => h) (Or.inl ⟨by kernel_rfl, ?h47⟩) (by assumption) ?r47
  case h47 => (intro w hSw; (try dsimp only at hSw); go_simp; try with_reducible rfl)
  try simp only [Act.put, List.setIfInBounds_toArray, List.set_cons_zero, List.set_cons_succ]
  refine wpAnyH_take (i := 1) (oi := { dst := some 78, op := Go.Op.load 24 (Go.Operand.tmp 2), type := 24, pos := "law.go:42", after := #[], guard := none }) (v := ?v48) rfl (by kernel_rfl) (by kernel_rfl) (by kernel_rfl) (fun _ _ _ h => h) (Or.inl ⟨by kernel_rfl, ?h48⟩) (by assumption) ?r48
  case h48 => (intro w hSw; (try dsimp only at hSw); go_simp; try with_reducible rfl)
  try simp only [Act.put, List.setIfInBounds_toArray, List.set_cons_zero, List.set_cons_succ]
  refine wpAnyH_take (i := 2) (oi := { dst := some 79, op := Go.Op.load 26 (Go.Operand.tmp 3), type := 26, pos := "law.go:42", after := #[], guard := none }) (v := ?v49) rfl (by kernel_rfl) (by kernel_rfl) (by kernel_rfl) (fun _ _ _ h => h) (Or.inl ⟨by kernel_rfl, ?h49⟩) (by assumption) ?r49
  case h49 => (intro w hSw; (try dsimp only at hSw); go_simp; try with_reducible rfl)
  try simp only [Act.put, List.setIfInBounds_toArray, List.set_cons_zero, List.set_cons_succ]
  refine wpAnyH_ready (rs := [3]) (by kernel_rfl) (by simp) ?_
  refine AllReadyH.cons (o := { dst := some 80, op := Go.Op.call { callee := Go.Callee.value (Go.Operand.func 13), args := #[Go.Operand.tmp 78, Go.Operand.tmp 79], argTypes := #[24, 26] }, type := 24, pos := "law.go:42", after := #[{ on := 1, ground := Go.Ground.data }, { on := 2, ground := Go.Ground.data }], guard := none }) rfl (fun K hK => ?_) AllReadyH.nil
  go_simp
  refine (qP.out _ (S1.out.below hHeld)).mono ?_
  rintro e v3 ⟨x3, y3, rfl, s3, b3⟩
  have t3 := Lib.hid (zrself n aA x3 P _ _ cA y3 _ (SA.out.below (hHeld.trans (b3.mono hHeld.size))) s3)
  go_simp
  refine hK.out _ _ (hHeld.trans (b3.mono hHeld.size)) (fun hHeld => ?_)
  clear hK K
  try simp only [Act.put, List.setIfInBounds_toArray, List.set_cons_zero, List.set_cons_succ]
  refine wpAnyH_ready (rs := [4]) (by kernel_rfl) (by simp) ?_
  refine AllReadyH.cons (o := { dst := some 81, op := Go.Op.call { callee := Go.Callee.value (Go.Operand.func 9), args := #[Go.Operand.tmp 77, Go.Operand.tmp 80], argTypes := #[24, 24] }, type := 4, pos := "law.go:42", after := #[{ on := 0, ground := Go.Ground.data }, { on := 3, ground := Go.Ground.data }, { on := 3, ground := Go.Ground.chain }], guard := none }) rfl (fun K hK => ?_) AllReadyH.nil
  go_simp
  refine t3.out.mono ?_
  rintro e v4 ⟨rfl, b4⟩
  go_simp
  refine hK.out _ _ (hHeld.trans (b4.mono hHeld.size)) (fun hHeld => ?_)
  clear hK K
  try simp only [Act.put, List.setIfInBounds_toArray, List.set_cons_zero, List.set_cons_succ]
  refine wpAnyH_take (i := 5) (oi := { dst := some 82, op := Go.Op.move (Go.Operand.tmp 81), type := 4, pos := "law.go:42", after := #[{ on := 4, ground := Go.Ground.data }, { on := 4, ground := Go.Ground.chain }], guard := none }) (v := ?v50) rfl (by kernel_rfl) (by kernel_rfl) (by kernel_rfl) (fun _ _ _ h => h) (Or.inl ⟨by kernel_rfl, ?h50⟩) (by assumption) ?r50
  case h50 => (intro w hSw; (try dsimp only at hSw); go_simp; try with_reducible rfl)
  try simp only [Act.put, List.setIfInBounds_toArray, List.set_cons_zero, List.set_cons_succ]
  refine wpAnyH_take (i := 6) (oi := { dst := some 83, op := Go.Op.load 24 (Go.Operand.tmp 8), type := 24, pos := "law.go:42", after := #[{ on := 5, ground := Go.Ground.guard }], guard := some (5, true) }) (v := ?v51) rfl (by kernel_rfl) (by kernel_rfl) (by kernel_rfl) (fun _ _ _ h => h) (Or.inl ⟨by kernel_rfl, ?h51⟩) (by assumption) ?r51
  case h51 => (intro w hSw; (try dsimp only at hSw); go_simp; try with_reducible rfl)
  try simp only [Act.put, List.setIfInBounds_toArray, List.set_cons_zero, List.set_cons_succ]
  refine wpAnyH_take (i := 7) (oi := { dst := some 84, op := Go.Op.load 24 (Go.Operand.tmp 10), type := 24, pos := "law.go:42", after := #[{ on := 5, ground := Go.Ground.guard }], guard := some (5, true) }) (v := ?v52) rfl (by kernel_rfl) (by kernel_rfl) (by kernel_rfl) (fun _ _ _ h => h) (Or.inl ⟨by kernel_rfl, ?h52⟩) (by assumption) ?r52
  case h52 => (intro w hSw; (try dsimp only at hSw); go_simp; try with_reducible rfl)
  try simp only [Act.put, List.setIfInBounds_toArray, List.set_cons_zero, List.set_cons_succ]
  refine wpAnyH_ready (rs := [8]) (by kernel_rfl) (by simp) ?_
  refine AllReadyH.cons (o := { dst := some 85, op := Go.Op.call { callee := Go.Callee.value (Go.Operand.func 9), args := #[Go.Operand.tmp 83, Go.Operand.tmp 84], argTypes := #[24, 24] }, type := 4, pos := "law.go:42", after := #[{ on := 6, ground := Go.Ground.data }, { on := 7, ground := Go.Ground.data }, { on := 5, ground := Go.Ground.chain }, { on := 5, ground := Go.Ground.guard }], guard := some (5, true) }) rfl (fun K hK => ?_) AllReadyH.nil
  go_simp
  refine (zrself n aB aX R _ _ cB cX _ (SB.out.below hHeld) (SX.out.below hHeld)).mono ?_
  rintro e v8 ⟨rfl, b8⟩
  go_simp
  refine hK.out _ _ (hHeld.trans (b8.mono hHeld.size)) (fun hHeld => ?_)
  clear hK K
  try simp only [Act.put, List.setIfInBounds_toArray, List.set_cons_zero, List.set_cons_succ]
  refine wpAnyH_take (i := 9) (oi := { dst := some 86, op := Go.Op.pick (Go.Operand.tmp 82) (Go.Operand.tmp 85) (Go.Operand.const (Go.Value.bool false)), type := 4, pos := "law.go:42", after := #[{ on := 5, ground := Go.Ground.data }, { on := 8, ground := Go.Ground.data }], guard := none }) (v := ?v53) rfl (by kernel_rfl) (by kernel_rfl) (by kernel_rfl) (fun _ _ _ h => h) (Or.inl ⟨by kernel_rfl, ?h53⟩) (by assumption) ?r53
  case h53 => (intro w hSw; (try dsimp only at hSw); go_simp; try with_reducible rfl)
  try simp only [Act.put, List.setIfInBounds_toArray, List.set_cons_zero, List.set_cons_succ]
  refine wpAnyH_take (i := 10) (oi := { dst := some 87, op := Go.Op.move (Go.Operand.tmp 86), type := 4, pos := "law.go:42", after := #[{ on := 9, ground := Go.Ground.data }, { on := 8, ground := Go.Ground.chain }], guard := none }) (v := ?v54) rfl (by kernel_rfl) (by kernel_rfl) (by kernel_rfl) (fun _ _ _ h => h) (Or.inl ⟨by kernel_rfl, ?h54⟩) (by assumption) ?r54
  case h54 => (intro w hSw; (try dsimp only at hSw); go_simp; try with_reducible rfl)
  try simp only [Act.put, List.setIfInBounds_toArray, List.set_cons_zero, List.set_cons_succ]
  refine wpAnyH_take (i := 11) (oi := { dst := some 88, op := Go.Op.load 24 (Go.Operand.tmp 2), type := 24, pos := "law.go:42", after := #[{ on := 10, ground := Go.Ground.guard }], guard := some (10, true) }) (v := ?v55) rfl (by kernel_rfl) (by kernel_rfl) (by kernel_rfl) (fun _ _ _ h => h) (Or.inl ⟨by kernel_rfl, ?h55⟩) (by assumption) ?r55
  case h55 => (intro w hSw; (try dsimp only at hSw); go_simp; try with_reducible rfl)
  try simp only [Act.put, List.setIfInBounds_toArray, List.set_cons_zero, List.set_cons_succ]
  refine wpAnyH_take (i := 12) (oi := { dst := some 89, op := Go.Op.load 26 (Go.Operand.tmp 3), type := 26, pos := "law.go:42", after := #[{ on := 10, ground := Go.Ground.guard }], guard := some (10, true) }) (v := ?v56) rfl (by kernel_rfl) (by kernel_rfl) (by kernel_rfl) (fun _ _ _ h => h) (Or.inl ⟨by kernel_rfl, ?h56⟩) (by assumption) ?r56
  case h56 => (intro w hSw; (try dsimp only at hSw); go_simp; try with_reducible rfl)
  try simp only [Act.put, List.setIfInBounds_toArray, List.set_cons_zero, List.set_cons_succ]
  refine wpAnyH_take (i := 14) (oi := { dst := some 91, op := Go.Op.fieldAddr 24 (Go.Operand.tmp 10) 1, type := 0, pos := "law.go:42", after := #[{ on := 10, ground := Go.Ground.guard }], guard := some (10, true) }) (v := ?v57) rfl (by kernel_rfl) (by kernel_rfl) (by kernel_rfl) (fun _ _ _ h => h) (Or.inl ⟨by kernel_rfl, ?h57⟩) (by assumption) ?r57
  case h57 => (intro w hSw; (try dsimp only at hSw); go_simp; try with_reducible rfl)
  try simp only [Act.put, List.setIfInBounds_toArray, List.set_cons_zero, List.set_cons_succ]
  refine wpAnyH_take (i := 15) (oi := { dst := some 92, op := Go.Op.load 22 (Go.Operand.tmp 91), type := 22, pos := "law.go:42", after := #[{ on := 14, ground := Go.Ground.data }, { on := 10, ground := Go.Ground.guard }], guard := some (10, true) }) (v := ?v58) rfl (by kernel_rfl) (by kernel_rfl) (by kernel_rfl) (fun _ _ _ h => h) (Or.inl ⟨by kernel_rfl, ?h58⟩) (by assumption) ?r58
  case h58 => (intro w hSw; (try dsimp only at hSw); go_simp; try with_reducible rfl)
  try simp only [Act.put, List.setIfInBounds_toArray, List.set_cons_zero, List.set_cons_succ]
  refine wpAnyH_take (i := 16) (oi := { dst := some 93, op := Go.Op.call { callee := Go.Callee.builtin Go.Builtin.len, args := #[Go.Operand.tmp 92], argTypes := #[22] }, type := 3, pos := "law.go:42", after := #[{ on := 15, ground := Go.Ground.data }, { on := 10, ground := Go.Ground.guard }], guard := some (10, true) }) (v := ?v59) rfl (by kernel_rfl) (by kernel_rfl) (by kernel_rfl) (fun _ _ _ h => h) (Or.inl ⟨by kernel_rfl, ?h59⟩) (by assumption) ?r59
  case h59 => (intro w hSw; (try dsimp only at hSw); go_simp; try with_reducible rfl)
  try simp only [Act.put, List.setIfInBounds_toArray, List.set_cons_zero, List.set_cons_succ]
  refine wpAnyH_take (i := 17) (oi := { dst := some 94, op := Go.Op.binOp Go.BinOp.gtr 3 (Go.Operand.tmp 93) (Go.Operand.const (Go.Value.int Go.IntKind.i64 0)) 3, type := 4, pos := "law.go:42", after := #[{ on := 16, ground := Go.Ground.data }, { on := 10, ground := Go.Ground.guard }], guard := some (10, true) }) (v := ?v60) rfl (by kernel_rfl) (by kernel_rfl) (by kernel_rfl) (fun _ _ _ h => h) (Or.inl ⟨by kernel_rfl, ?h60⟩) (by assumption) ?r60
  case h60 => (intro w hSw; (try dsimp only at hSw); go_simp; try with_reducible rfl)
  try simp only [Act.put, List.setIfInBounds_toArray, List.set_cons_zero, List.set_cons_succ]
  refine wpAnyH_ready (rs := [13]) (by kernel_rfl) (by simp) ?_
  refine AllReadyH.cons (o := { dst := some 90, op := Go.Op.call { callee := Go.Callee.value (Go.Operand.func 10), args := #[Go.Operand.tmp 88, Go.Operand.tmp 89], argTypes := #[24, 26] }, type := 4, pos := "law.go:42", after := #[{ on := 11, ground := Go.Ground.data }, { on := 12, ground := Go.Ground.data }, { on := 10, ground := Go.Ground.chain }, { on := 10, ground := Go.Ground.guard }], guard := some (10, true) }) rfl (fun K hK => ?_) AllReadyH.nil
  go_simp
  refine (qM.out _ (S1.out.below hHeld)).mono ?_
  rintro e v13 ⟨rfl, b13⟩
  go_simp
  refine hK.out _ _ (hHeld.trans (b13.mono hHeld.size)) (fun hHeld => ?_)
  clear hK K
  try simp only [Act.put, List.setIfInBounds_toArray, List.set_cons_zero, List.set_cons_succ]
  refine wpAnyH_take (i := 18) (oi := { dst := some 95, op := Go.Op.binOp Go.BinOp.eql 4 (Go.Operand.tmp 90) (Go.Operand.tmp 94) 4, type := 4, pos := "law.go:42", after := #[{ on := 13, ground := Go.Ground.data }, { on := 17, ground := Go.Ground.data }, { on := 10, ground := Go.Ground.guard }], guard := some (10, true) }) (v := ?v61) rfl (by kernel_rfl) (by kernel_rfl) (by kernel_rfl) (fun _ _ _ h => h) (Or.inl ⟨by kernel_rfl, ?h61⟩) (by assumption) ?r61
  case h61 => (intro w hSw; (try dsimp only at hSw); go_simp; try with_reducible rfl)
  try simp only [Act.put, List.setIfInBounds_toArray, List.set_cons_zero, List.set_cons_succ]
  refine wpAnyH_take (i := 19) (oi := { dst := some 96, op := Go.Op.pick (Go.Operand.tmp 87) (Go.Operand.tmp 95) (Go.Operand.const (Go.Value.bool false)), type := 4, pos := "law.go:42", after := #[{ on := 10, ground := Go.Ground.data }, { on := 18, ground := Go.Ground.data }], guard := none }) (v := ?v62) rfl (by kernel_rfl) (by kernel_rfl) (by kernel_rfl) (fun _ _ _ h => h) (Or.inl ⟨by kernel_rfl, ?h62⟩) (by assumption) ?r62
  case h62 => (intro w hSw; (try dsimp only at hSw); go_simp; try with_reducible rfl)
  try simp only [Act.put, List.setIfInBounds_toArray, List.set_cons_zero, List.set_cons_succ]
  refine wpAnyH_take (i := 20) (oi := { dst := some 97, op := Go.Op.move (Go.Operand.tmp 96), type := 4, pos := "law.go:42", after := #[{ on := 19, ground := Go.Ground.data }, { on := 13, ground := Go.Ground.chain }], guard := none }) (v := ?v63) rfl (by kernel_rfl) (by kernel_rfl) (by kernel_rfl) (fun _ _ _ h => h) (Or.inl ⟨by kernel_rfl, ?h63⟩) (by assumption) ?r63
  case h63 => (intro w hSw; (try dsimp only at hSw); go_simp; try with_reducible rfl)
  try simp only [Act.put, List.setIfInBounds_toArray, List.set_cons_zero, List.set_cons_succ]
  refine wpAnyH_take (i := 21) (oi := { dst := some 98, op := Go.Op.load 24 (Go.Operand.tmp 2), type := 24, pos := "law.go:42", after := #[{ on := 20, ground := Go.Ground.guard }], guard := some (20, true) }) (v := ?v64) rfl (by kernel_rfl) (by kernel_rfl) (by kernel_rfl) (fun _ _ _ h => h) (Or.inl ⟨by kernel_rfl, ?h64⟩) (by assumption) ?r64
  case h64 => (intro w hSw; (try dsimp only at hSw); go_simp; try with_reducible rfl)
  try simp only [Act.put, List.setIfInBounds_toArray, List.set_cons_zero, List.set_cons_succ]
  refine wpAnyH_take (i := 22) (oi := { dst := some 99, op := Go.Op.load 26 (Go.Operand.tmp 3), type := 26, pos := "law.go:42", after := #[{ on := 20, ground := Go.Ground.guard }], guard := some (20, true) }) (v := ?v65) rfl (by kernel_rfl) (by kernel_rfl) (by kernel_rfl) (fun _ _ _ h => h) (Or.inl ⟨by kernel_rfl, ?h65⟩) (by assumption) ?r65
  case h65 => (intro w hSw; (try dsimp only at hSw); go_simp; try with_reducible rfl)
  try simp only [Act.put, List.setIfInBounds_toArray, List.set_cons_zero, List.set_cons_succ]
  refine wpAnyH_take (i := 24) (oi := { dst := some 101, op := Go.Op.move (Go.Operand.tmp 11), type := 4, pos := "law.go:42", after := #[{ on := 20, ground := Go.Ground.guard }], guard := some (20, true) }) (v := ?v66) rfl (by kernel_rfl) (by kernel_rfl) (by kernel_rfl) (fun _ _ _ h => h) (Or.inl ⟨by kernel_rfl, ?h66⟩) (by assumption) ?r66
  case h66 => (intro w hSw; (try dsimp only at hSw); go_simp; try with_reducible rfl)
  try simp only [Act.put, List.setIfInBounds_toArray, List.set_cons_zero, List.set_cons_succ]
  refine wpAnyH_ready (rs := [23]) (by kernel_rfl) (by simp) ?_
  refine AllReadyH.cons (o := { dst := some 100, op := Go.Op.call { callee := Go.Callee.value (Go.Operand.func 11), args := #[Go.Operand.tmp 98, Go.Operand.tmp 99], argTypes := #[24, 26] }, type := 4, pos := "law.go:42", after := #[{ on := 21, ground := Go.Ground.data }, { on := 22, ground := Go.Ground.data }, { on := 20, ground := Go.Ground.chain }, { on := 20, ground := Go.Ground.guard }], guard := some (20, true) }) rfl (fun K hK => ?_) AllReadyH.nil
  go_simp
  refine (qU.out _ (S1.out.below hHeld)).mono ?_
  rintro e v23 ⟨rfl, b23⟩
  go_simp
  refine hK.out _ _ (hHeld.trans (b23.mono hHeld.size)) (fun hHeld => ?_)
  clear hK K
  try simp only [Act.put, List.setIfInBounds_toArray, List.set_cons_zero, List.set_cons_succ]
  refine wpAnyH_take (i := 25) (oi := { dst := some 102, op := Go.Op.binOp Go.BinOp.eql 4 (Go.Operand.tmp 100) (Go.Operand.tmp 101) 4, type := 4, pos := "law.go:42", after := #[{ on := 23, ground := Go.Ground.data }, { on := 24, ground := Go.Ground.data }, { on := 20, ground := Go.Ground.guard }], guard := some (20, true) }) (v := ?v67) rfl (by kernel_rfl) (by kernel_rfl) (by kernel_rfl) (fun _ _ _ h => h) (Or.inl ⟨by kernel_rfl, ?h67⟩) (by assumption) ?r67
  case h67 => (intro w hSw; (try dsimp only at hSw); go_simp; try with_reducible rfl)
  try simp only [Act.put, List.setIfInBounds_toArray, List.set_cons_zero, List.set_cons_succ]
  refine wpAnyH_take (i := 26) (oi := { dst := some 103, op := Go.Op.pick (Go.Operand.tmp 97) (Go.Operand.tmp 102) (Go.Operand.const (Go.Value.bool false)), type := 4, pos := "law.go:42", after := #[{ on := 20, ground := Go.Ground.data }, { on := 25, ground := Go.Ground.data }], guard := none }) (v := ?v68) rfl (by kernel_rfl) (by kernel_rfl) (by kernel_rfl) (fun _ _ _ h => h) (Or.inl ⟨by kernel_rfl, ?h68⟩) (by assumption) ?r68
  case h68 => (intro w hSw; (try dsimp only at hSw); go_simp; try with_reducible rfl)
  try simp only [Act.put, List.setIfInBounds_toArray, List.set_cons_zero, List.set_cons_succ]
  refine wpAnyH_take (i := 27) (oi := { dst := some 4, op := Go.Op.assign (Go.Operand.tmp 103), type := 4, pos := "law.go:42", after := #[{ on := 26, ground := Go.Ground.data }, { on := 23, ground := Go.Ground.chain }, { on := 0, ground := Go.Ground.phase }, { on := 1, ground := Go.Ground.phase }, { on := 2, ground := Go.Ground.phase }, { on := 3, ground := Go.Ground.phase }, { on := 4, ground := Go.Ground.phase }, { on := 5, ground := Go.Ground.phase }, { on := 6, ground := Go.Ground.phase }, { on := 7, ground := Go.Ground.phase }, { on := 8, ground := Go.Ground.phase }, { on := 9, ground := Go.Ground.phase }, { on := 10, ground := Go.Ground.phase }, { on := 11, ground := Go.Ground.phase }, { on := 12, ground := Go.Ground.phase }, { on := 13, ground := Go.Ground.phase }, { on := 14, ground := Go.Ground.phase }, { on := 15, ground := Go.Ground.phase }, { on := 16, ground := Go.Ground.phase }, { on := 17, ground := Go.Ground.phase }, { on := 18, ground := Go.Ground.phase }, { on := 19, ground := Go.Ground.phase }, { on := 20, ground := Go.Ground.phase }, { on := 21, ground := Go.Ground.phase }, { on := 22, ground := Go.Ground.phase }, { on := 23, ground := Go.Ground.phase }, { on := 24, ground := Go.Ground.phase }, { on := 25, ground := Go.Ground.phase }, { on := 26, ground := Go.Ground.phase }], guard := none }) (v := ?v69) rfl (by kernel_rfl) (by kernel_rfl) (by kernel_rfl) (fun _ _ _ h => h) (Or.inl ⟨by kernel_rfl, ?h69⟩) (by assumption) ?r69
  case h69 => (intro w hSw; (try dsimp only at hSw); go_simp; try with_reducible rfl)
  try simp only [Act.put, List.setIfInBounds_toArray, List.set_cons_zero, List.set_cons_succ]
  refine wpAnyH_done (by kernel_rfl) ?_ _
  have bf := Lib.hid (BL.out.trans (hHeld.mono BL.out.size))
  clear k34 k35 k36 k37 k38 k39 k40 k41 k42 k43 k44 k45 k46
  go_wp2
  go_ret
  exact ⟨rfl, bf.out⟩
theorem postTells_walk (w : World) (n : Int) (hn : (Lit.int .i64 n).wf = true) (a : Option Addr) (m ca : Nat) (l : List Int) (hl : l.length = m) (hm : m ≤ maxLen) (hc : m ≤ ca) (hw : ∀ n ∈ l, (Lit.int .i64 n).wf = true) (hs : Sees .i64 w.heap.size w a l) (k : Int) (hk : (Lit.int .i64 k).wf = true) (x : Int) (hx : (Lit.int .i64 x).wf = true) (y : Int) (hy : (Lit.int .i64 y).wf = true) (c : Int) (hcc : (Lit.int .i64 c).wf = true) (d : Int) (hd : (Lit.int .i64 d).wf = true) : Calls Tryd.prog 3 #[.agg #[.int .i64 n, .slice a m ca], .agg #[.int .i64 k, .int .i64 x, .int .i64 y, .int .i64 c, .int .i64 d]] w (Gives (.bool true) w) := by
  have h1 : SL w a m ca l := ⟨hl.symm, hc, hm, hs⟩
  by_cases g1 : 200 < m
  · exact tells_large n k x y c d a m ca l w h1 g1
  by_cases g2 : pchk n l k x y c d = 0
  rotate_left
  · exact tells_bad n k x y c d a m ca l w h1 g1 g2
  obtain ⟨n, rfl, z1, hr⟩ := pchk_ok g2
  cases he : decide (faultL n l k x y c = [])
  · cases hf : decide (faultL n l k x y c = l)
    · exact tells_ok_c n k x y c d a m ca l w h1 g1 z1 hr he hf
    · exact tells_ok_b n k x y c d a m ca l w h1 g1 z1 hr he hf
  · exact tells_ok_a n k x y c d a m ca l w h1 g1 z1 hr he
end Go.Proofs.YtplgmmjppmpnoaaDoor
/-
  A start that meets the condition on the listed variables. No condition of its own.
-/
namespace Go.Proofs.YtplgmmjppmpnoaaDoor
set_option maxRecDepth 100000
abbrev laidL : List (String × DataW Unit) := [("math/bits.deBruijn32tab", Rows.laid_math_bits_deBruijn32tab), ("math/bits.deBruijn64tab", Rows.laid_math_bits_deBruijn64tab), ("internal/strconv.uint64pow10", Rows.laid_internal_strconv_uint64pow10)]
theorem door_met (os : Os) (args : Array Value) : laidMetH Tryd.prog laidL ((World.doorLaid Tryd.prog 400 os).forCall (fun _ _ => 0) ⟨#[], args, []⟩).memory :=
  laidMetH_of_parts3 (fuel := 8) (laidMet_of_run' 8 (by kernel_rfl) (by kernel_rfl)) (by kernel_rfl) (by kernel_rfl)
end Go.Proofs.YtplgmmjppmpnoaaDoor
